/- The document's example of a config. -/
import Derived.Test.YtjbkmflbhlnbpaaCfgE
namespace Go.Proofs.Ytjbkmflbhlnbpaa
open Go.RowKit

theorem atF_one (w : World) (x : Nat) (t : TypeId) : AtF (w.alloc (.cells #[.float .f64 x] t)) w.heap.size 0 [x] := fun i hi => by
  simp at hi
  subst hi
  rw [cell_of_row _ w.heap.size (0 + 0) _ t (0, 0) (heap_alloc_new w _)]
  rfl
set_option maxHeartbeats 2000000 in
theorem awake_any (w : World) : Calls Try.prog 9 #[] w fun e w' => e = .returned (.bool true) ∧ Fr (fun _ => False) w w' := by
  go_enter Try.func9, Try.ntmps9
  go_wp2_with fail
  refine (small0 w).mono ?_
  rintro e w1 ⟨g, c, rfl, hg, hA, f1⟩
  unfold cfg
  have fA : Fr (fun _ => False) w1 ((w1.alloc (.cells #[.slice (some ⟨g, 0, none⟩) 2 c, .int .i64 1, .slice (some ⟨w1.heap.size + 1, 0, none⟩) 1 1, .int .i64 128, .int .i64 512, .int .i64 1048576, .int .i64 8, .int .i64 2, .int .i64 4] 25)).alloc (.cells #[.float .f64 0] 34)) := ((Fr.refl _ _).alloc _).alloc _
  have hF : AtF ((w1.alloc (.cells #[.slice (some ⟨g, 0, none⟩) 2 c, .int .i64 1, .slice (some ⟨w1.heap.size + 1, 0, none⟩) 1 1, .int .i64 128, .int .i64 512, .int .i64 1048576, .int .i64 8, .int .i64 2, .int .i64 4] 25)).alloc (.cells #[.float .f64 0] 34)) (w1.heap.size + 1) 0 [0] := by
    have := atF_one (w1.alloc (.cells #[.slice (some ⟨g, 0, none⟩) 2 c, .int .i64 1, .slice (some ⟨w1.heap.size + 1, 0, none⟩) 1 1, .int .i64 128, .int .i64 512, .int .i64 1048576, .int .i64 8, .int .i64 2, .int .i64 4] 25)) 0 34
    simpa using this
  have k1 := cnew_ok g 0 c (w1.heap.size + 1) 0 1 [3, 2] [0] 1 128 512 1048576 8 2 4 ((w1.alloc (.cells #[.slice (some ⟨g, 0, none⟩) 2 c, .int .i64 1, .slice (some ⟨w1.heap.size + 1, 0, none⟩) 1 1, .int .i64 128, .int .i64 512, .int .i64 1048576, .int .i64 8, .int .i64 2, .int .i64 4] 25)).alloc (.cells #[.float .f64 0] 34)) (by omega) (by decide) (by decide) (fun W => rising_short _ 1 1 W (by omega)) (by omega) (by omega) (by omega) (by omega) (by omega) (by omega) (by omega) (by decide) (by decide) (by decide) (hA.1.fr fA (by simp)) (by decide +kernel) hF
  unfold cfg madeAt at k1
  have HK : Hid (Calls _ _ _ _ _) := k1
  clear k1 hF hA hg
  go_upto_region 3 with fail
  go_wp2_with fail
  refine HK.out.mono ?_
  rintro e w2 ⟨p, gf, cf, rfl, hP, _, _, f2⟩
  have f02 : Fr (fun _ => False) w w2 := (f1.trans fA).trans f2
  have hFi : Fine [3, 2] := fine_of [3, 2] (by decide) (by decide) (by decide) (by decide +kernel)
  have j1 := lanes_any hP (by decide) (by decide)
  have j2 := lane_any hP (by decide) (by decide) 1 1
  have j3 := rules_any hP (by decide) (by decide)
  have j4 := label_any hP hFi (by decide) 2
  rw [show (([3, 2] : List Nat).length * ([0].length + 1) + 1 : Nat) = 5 by decide] at j1
  rw [show laneI ([3, 2] : List Nat).length ([0].length + 1) 1 1 = 3 by decide] at j2
  rw [show (([3, 2] : List Nat).length * ([0].length + 1) : Nat) = 4 by decide] at j3
  rw [show labelI ([3, 2] : List Nat).length ([0].length + 1) (((Lat.order [3, 2]).getD 0 0 : Nat) : Int) 2 = 1 by decide +kernel] at j4
  clear HK hP fA f1 f2
  go_wp2_with fail
  refine (j1).mono ?_
  rintro e w9 ⟨rfl, hw⟩
  subst w9
  go_wp2_with fail
  refine (j2).mono ?_
  rintro e w9 ⟨rfl, hw⟩
  subst w9
  go_wp2_with fail
  refine (j3).mono ?_
  rintro e w9 ⟨rfl, hw⟩
  subst w9
  go_wp2_with fail
  refine (j4).mono ?_
  rintro e w9 ⟨rfl, hw⟩
  subst w9
  go_wp2
  go_ret
  exact ⟨rfl, f02⟩
end Go.Proofs.Ytjbkmflbhlnbpaa
