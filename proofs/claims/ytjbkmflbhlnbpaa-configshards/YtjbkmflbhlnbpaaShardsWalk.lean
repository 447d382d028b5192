/- The statement ConfigShards, walked. -/
import Derived.Test.YtjbkmflbhlnbpaaCfgU
import Derived.Test.YtjbkmflbhlnbpaaAwake
import Derived.Test.YtjbkmflbhlnbpaaSmall
namespace Go.Proofs.Ytjbkmflbhlnbpaa
open Go.RowKit

theorem store_f1 (w : World) (x : Nat) : (store ⟨w.heap.size, 1, none⟩ (.float .f64 x)).run Try.prog (w.alloc (.cells #[.int .i64 0, .float .f64 0, .float .f64 0] 47)) = .ok () (w.alloc (.cells #[.int .i64 0, .float .f64 x, .float .f64 0] 47)) := by
  rw [run_store Try.prog _ _ _ _ rfl]
  simp [World.setCell_alloc_new]
theorem store_f2 (w : World) (x y : Nat) : (store ⟨w.heap.size, 2, none⟩ (.float .f64 y)).run Try.prog (w.alloc (.cells #[.int .i64 0, .float .f64 x, .float .f64 0] 47)) = .ok () (w.alloc (.cells #[.int .i64 0, .float .f64 x, .float .f64 y] 47)) := by
  rw [run_store Try.prog _ _ _ _ rfl]
  simp [World.setCell_alloc_new]
set_option maxRecDepth 100000 in
set_option maxHeartbeats 4000000 in
theorem shards_walk (ao : Option Addr) (cl : List Nat) (cap x y : Nat) (w : World) (hf : FRow w ao cl cap) (hnone : ao = none → cap = 0) (hx : x < 18446744073709551616) (hy : y < 18446744073709551616) :
    Calls Try.prog 6 #[.slice ao cl.length cap, .float .f64 x, .float .f64 y] w fun e w' => e = .returned (.bool true) ∧ Fr (fun _ => False) w w' := by
  have HF : Hid (FRow w ao cl cap) := hf
  have HN : Hid (ao = none → cap = 0) := hnone
  have hl1 : cl.length ≤ 9223372036854775807 := by have := hf.1; have := hf.2.1; unfold maxLen at this; omega
  clear hf hnone
  by_cases h7 : 7 < cl.length
  · go_enter Try.func6, Try.ntmps6
    go_wp2_with fail
    refine (awake_any w).mono ?_
    rintro e w1 ⟨rfl, f1⟩
    go_wp2_with fail
    refine (awake_any w1).mono ?_
    rintro e w2 ⟨rfl, f2⟩
    go_wp2
    go_ret
    exact ⟨rfl, f1.trans f2⟩
  · by_cases hr : Rises cl
    · go_enter Try.func6, Try.ntmps6
      go_wp2_with fail
      refine (awake_any w).mono ?_
      rintro e w1 ⟨rfl, f1⟩
      have kr := refrising_any ao cl cap w1 (HF.out.fr f1)
      rw [rises_yes hr] at kr
      have HKR : Hid (Calls _ _ _ _ _) := kr
      clear kr
      go_wp2_with fail
      refine HKR.out.mono ?_
      rintro e w2 ⟨rfl, q, hw2⟩
      have f2 : Fr (fun _ => False) w w2 := by rw [hw2]; exact f1.drewN q
      clear hw2 f1 HKR
      go_wp2_with fail
      refine (small0 w2).mono ?_
      rintro e w3 ⟨g, c, rfl, hg, hA, f3⟩
      unfold cfg
      have f03 := f2.trans f3
      have fA : Fr (fun _ => False) w3 (w3.alloc (.cells #[.slice (some ⟨g, 0, none⟩) 2 c, .int .i64 1, .slice ao cl.length cap, .int .i64 128, .int .i64 512, .int .i64 1048576, .int .i64 8, .int .i64 2, .int .i64 4] 25)) := (Fr.refl _ _).alloc _
      have r4 : (w3.alloc (.cells #[.slice (some ⟨g, 0, none⟩) 2 c, .int .i64 1, .slice ao cl.length cap, .int .i64 128, .int .i64 512, .int .i64 1048576, .int .i64 8, .int .i64 2, .int .i64 4] 25)).rowIs w3.heap.size 25 9 (fun i => (#[.slice (some ⟨g, 0, none⟩) 2 c, .int .i64 1, .slice ao cl.length cap, .int .i64 128, .int .i64 512, .int .i64 1048576, .int .i64 8, .int .i64 2, .int .i64 4] : Array Value).getD i undef) := rowIs_lay w3 #[.slice (some ⟨g, 0, none⟩) 2 c, .int .i64 1, .slice ao cl.length cap, .int .i64 128, .int .i64 512, .int .i64 1048576, .int .i64 8, .int .i64 2, .int .i64 4] 25
      have k1 := cnew_all g c 1 [3, 2] cl ao cap _ (by decide +kernel) (by omega) (hA.1.fr fA (by simp)) ((HF.out.fr f03).fr fA) (by omega) hr HN.out
      unfold cfg madeAt at k1
      obtain ⟨W, HW⟩ : ∃ W, Hid (W = w3.alloc (.cells #[.slice (some ⟨g, 0, none⟩) 2 c, .int .i64 1, .slice ao cl.length cap, .int .i64 128, .int .i64 512, .int .i64 1048576, .int .i64 8, .int .i64 2, .int .i64 4] 25)) := ⟨_, rfl⟩
      rw [← HW.out] at k1 fA r4
      have HK : Hid (Calls _ _ _ _ _) := k1
      have HR4 : Hid (World.rowIs _ _ _ _ _) := r4
      have F4 : Hid (Fr (fun _ => False) w W) := f03.trans fA
      clear k1 r4 fA hA hg f3 f2 f03 hr
      go_upto_region 5 with fail
      rw [← HW.out]
      have b0 : W.cell? ⟨w3.heap.size, 0, none⟩ = some (.slice (some ⟨g, 0, none⟩) 2 c) := HR4.out.cell (i := 0) (by omega)
      have b1 : W.cell? ⟨w3.heap.size, 1, none⟩ = some (.int .i64 1) := HR4.out.cell (i := 1) (by omega)
      have b2 : W.cell? ⟨w3.heap.size, 2, none⟩ = some (.slice ao cl.length cap) := HR4.out.cell (i := 2) (by omega)
      have b3 : W.cell? ⟨w3.heap.size, 3, none⟩ = some (.int .i64 128) := HR4.out.cell (i := 3) (by omega)
      have b4 : W.cell? ⟨w3.heap.size, 4, none⟩ = some (.int .i64 512) := HR4.out.cell (i := 4) (by omega)
      have b5 : W.cell? ⟨w3.heap.size, 5, none⟩ = some (.int .i64 1048576) := HR4.out.cell (i := 5) (by omega)
      have b6 : W.cell? ⟨w3.heap.size, 6, none⟩ = some (.int .i64 8) := HR4.out.cell (i := 6) (by omega)
      have b7 : W.cell? ⟨w3.heap.size, 7, none⟩ = some (.int .i64 2) := HR4.out.cell (i := 7) (by omega)
      have b8 : W.cell? ⟨w3.heap.size, 8, none⟩ = some (.int .i64 4) := HR4.out.cell (i := 8) (by omega)
      go_wp2_with fail
      refine HK.out.mono ?_
      rintro e w5 ⟨p, a2, c2, cp, rfl, hP, hFc, f5⟩
      clear b0 b1 b2 b3 b4 b5 b6 b7 b8 HK
      have fS := f5.alloc (.cells #[.int .i64 0, .float .f64 x, .float .f64 y] 47)
      obtain ⟨V, HV⟩ : ∃ V, Hid (V = w5.alloc (.cells #[.int .i64 0, .float .f64 x, .float .f64 y] 47)) := ⟨_, rfl⟩
      obtain ⟨sb, Hsb⟩ : ∃ sb, Hid (w5.heap.size = sb) := ⟨_, rfl⟩
      have rs : V.rowIs sb 47 3 (fun i => (#[.int .i64 0, .float .f64 x, .float .f64 y] : Array Value).getD i undef) := by
        rw [HV.out, ← Hsb.out]; exact rowIs_lay w5 #[.int .i64 0, .float .f64 x, .float .f64 y] 47
      rw [← HV.out] at fS
      have f5v : Fr (fun _ => False) w5 V := by rw [HV.out]; exact (Fr.refl _ _).alloc _
      have HP : Hid (PlanAt V p [3, 2] 1 (.slice a2 cl.length c2)) := hP.fr f5v
      have HFc : Hid (FRow V a2 cl cp) := hFc.fr f5v
      have HRS : Hid (World.rowIs _ _ _ _ _) := rs
      have HRC : Hid (World.rowIs _ _ _ _ _) := fS.rowIs HR4.out (by simp)
      have F5 : Hid (Fr (fun _ => False) w V) := F4.out.trans fS
      have KX : Hid (∀ W', Fr (fun _ => False) V W' → _) := fun W' f => pshard_any (HP.out.fr f) (HFc.out.fr f) x hx
      have KR : Hid (∀ W', Fr (fun _ => False) V W' → _) := fun W' f => refshard_any ao cl cap x W' hx (HF.out.fr (F5.out.trans f))
      have KS : Hid (∀ W', Fr (fun _ => False) V W' → _) := fun W' f => span_any (HP.out.fr f) (HFc.out.fr f) (by omega) 0 x y hx hy
      have KT : Hid (∀ W', Fr (fun _ => False) V W' → _) := fun W' f => refspan_any W' cl ao cap (HF.out.fr (F5.out.trans f)) (by omega) (.slice (some ⟨g, 0, none⟩) 2 c) 1 128 512 1048576 8 2 4 0 x y hx hy
      generalize shard x cl = sx at *
      generalize (if Fl.rk y < Fl.rk x then 0 else spn sx (shard y cl) 8) = sp at *
      unfold cfg at KT
      have fd : Hid (Fr (fun _ => False) V V.drew) := (Fr.refl _ _).drew
      have b0 : V.cell? ⟨w3.heap.size, 0, none⟩ = some (.slice (some ⟨g, 0, none⟩) 2 c) := HRC.out.cell (i := 0) (by omega)
      have b1 : V.cell? ⟨w3.heap.size, 1, none⟩ = some (.int .i64 1) := HRC.out.cell (i := 1) (by omega)
      have b2 : V.cell? ⟨w3.heap.size, 2, none⟩ = some (.slice ao cl.length cap) := HRC.out.cell (i := 2) (by omega)
      have b3 : V.cell? ⟨w3.heap.size, 3, none⟩ = some (.int .i64 128) := HRC.out.cell (i := 3) (by omega)
      have b4 : V.cell? ⟨w3.heap.size, 4, none⟩ = some (.int .i64 512) := HRC.out.cell (i := 4) (by omega)
      have b5 : V.cell? ⟨w3.heap.size, 5, none⟩ = some (.int .i64 1048576) := HRC.out.cell (i := 5) (by omega)
      have b6 : V.cell? ⟨w3.heap.size, 6, none⟩ = some (.int .i64 8) := HRC.out.cell (i := 6) (by omega)
      have b7 : V.cell? ⟨w3.heap.size, 7, none⟩ = some (.int .i64 2) := HRC.out.cell (i := 7) (by omega)
      have b8 : V.cell? ⟨w3.heap.size, 8, none⟩ = some (.int .i64 4) := HRC.out.cell (i := 8) (by omega)
      have s0 : V.cell? ⟨sb, 0, none⟩ = some (.int .i64 0) := HRS.out.cell (i := 0) (by omega)
      have s1 : V.cell? ⟨sb, 1, none⟩ = some (.float .f64 x) := HRS.out.cell (i := 1) (by omega)
      have s2 : V.cell? ⟨sb, 2, none⟩ = some (.float .f64 y) := HRS.out.cell (i := 2) (by omega)
      clear hP hFc f5 f5v fS rs HR4 F4
      have hst1 := store_f1 w5 x
      have hst2 := store_f2 w5 x y
      go_wp2_with fail
      rw [← HV.out, Hsb.out]
      go_region_held3 (fun w' => w'.cell? ⟨w3.heap.size, 0, none⟩ = some (.slice (some ⟨g, 0, none⟩) 2 c) ∧ w'.cell? ⟨w3.heap.size, 1, none⟩ = some (.int .i64 1) ∧ w'.cell? ⟨w3.heap.size, 2, none⟩ = some (.slice ao cl.length cap) ∧ w'.cell? ⟨w3.heap.size, 3, none⟩ = some (.int .i64 128) ∧ w'.cell? ⟨w3.heap.size, 4, none⟩ = some (.int .i64 512) ∧ w'.cell? ⟨w3.heap.size, 5, none⟩ = some (.int .i64 1048576) ∧ w'.cell? ⟨w3.heap.size, 6, none⟩ = some (.int .i64 8) ∧ w'.cell? ⟨w3.heap.size, 7, none⟩ = some (.int .i64 2) ∧ w'.cell? ⟨w3.heap.size, 8, none⟩ = some (.int .i64 4) ∧ w'.cell? ⟨sb, 0, none⟩ = some (.int .i64 0) ∧ w'.cell? ⟨sb, 1, none⟩ = some (.float .f64 x) ∧ w'.cell? ⟨sb, 2, none⟩ = some (.float .f64 y)) (first | exact ⟨b0, b1, b2, b3, b4, b5, b6, b7, b8, s0, s1, s2⟩ | exact HH6.out | exact HH7.out | go_keep) (first
        | (go_at_call 28; refine (KT.out _ (fd.out.trans f6.out)).mono ?_; rintro e w7 ⟨rfl, f7'⟩; have f7 : Hid (Fr (fun _ => False) V w7) := (fd.out.trans f6.out).trans f7'; have HH7 : Hid (w7.cell? ⟨w3.heap.size, 0, none⟩ = some (.slice (some ⟨g, 0, none⟩) 2 c) ∧ w7.cell? ⟨w3.heap.size, 1, none⟩ = some (.int .i64 1) ∧ w7.cell? ⟨w3.heap.size, 2, none⟩ = some (.slice ao cl.length cap) ∧ w7.cell? ⟨w3.heap.size, 3, none⟩ = some (.int .i64 128) ∧ w7.cell? ⟨w3.heap.size, 4, none⟩ = some (.int .i64 512) ∧ w7.cell? ⟨w3.heap.size, 5, none⟩ = some (.int .i64 1048576) ∧ w7.cell? ⟨w3.heap.size, 6, none⟩ = some (.int .i64 8) ∧ w7.cell? ⟨w3.heap.size, 7, none⟩ = some (.int .i64 2) ∧ w7.cell? ⟨w3.heap.size, 8, none⟩ = some (.int .i64 4) ∧ w7.cell? ⟨sb, 0, none⟩ = some (.int .i64 0) ∧ w7.cell? ⟨sb, 1, none⟩ = some (.float .f64 x) ∧ w7.cell? ⟨sb, 2, none⟩ = some (.float .f64 y)) := ⟨f7.out.cell b0 (by simp), f7.out.cell b1 (by simp), f7.out.cell b2 (by simp), f7.out.cell b3 (by simp), f7.out.cell b4 (by simp), f7.out.cell b5 (by simp), f7.out.cell b6 (by simp), f7.out.cell b7 (by simp), f7.out.cell b8 (by simp), f7.out.cell s0 (by simp), f7.out.cell s1 (by simp), f7.out.cell s2 (by simp)⟩; clear f7')
        | (go_at_call 27; refine (KS.out _ fd.out).mono ?_; rintro e w6 ⟨rfl, f6'⟩; have f6 : Hid (Fr (fun _ => False) V.drew w6) := f6'; have f6v := fd.out.trans f6'; have HH6 : Hid (w6.cell? ⟨w3.heap.size, 0, none⟩ = some (.slice (some ⟨g, 0, none⟩) 2 c) ∧ w6.cell? ⟨w3.heap.size, 1, none⟩ = some (.int .i64 1) ∧ w6.cell? ⟨w3.heap.size, 2, none⟩ = some (.slice ao cl.length cap) ∧ w6.cell? ⟨w3.heap.size, 3, none⟩ = some (.int .i64 128) ∧ w6.cell? ⟨w3.heap.size, 4, none⟩ = some (.int .i64 512) ∧ w6.cell? ⟨w3.heap.size, 5, none⟩ = some (.int .i64 1048576) ∧ w6.cell? ⟨w3.heap.size, 6, none⟩ = some (.int .i64 8) ∧ w6.cell? ⟨w3.heap.size, 7, none⟩ = some (.int .i64 2) ∧ w6.cell? ⟨w3.heap.size, 8, none⟩ = some (.int .i64 4) ∧ w6.cell? ⟨sb, 0, none⟩ = some (.int .i64 0) ∧ w6.cell? ⟨sb, 1, none⟩ = some (.float .f64 x) ∧ w6.cell? ⟨sb, 2, none⟩ = some (.float .f64 y)) := ⟨f6v.cell b0 (by simp), f6v.cell b1 (by simp), f6v.cell b2 (by simp), f6v.cell b3 (by simp), f6v.cell b4 (by simp), f6v.cell b5 (by simp), f6v.cell b6 (by simp), f6v.cell b7 (by simp), f6v.cell b8 (by simp), f6v.cell s0 (by simp), f6v.cell s1 (by simp), f6v.cell s2 (by simp)⟩; clear f6' f6v)
        | (go_at_call 26; refine (KR.out _ fd.out).mono ?_; rintro e w9 ⟨rfl, hw⟩; subst w9)
        | (go_at_call 25; refine (KX.out _ fd.out).mono ?_; rintro e w9 ⟨rfl, hw⟩; subst w9))
      all_goals
        go_wp2
        go_ret
        exact ⟨ret_bool (by simp), F5.out.trans f7.out⟩
    · go_enter Try.func6, Try.ntmps6
      go_wp2_with fail
      refine (awake_any w).mono ?_
      rintro e w1 ⟨rfl, f1⟩
      have kr := refrising_any ao cl cap w1 (HF.out.fr f1)
      rw [rises_no hr] at kr
      have HKR : Hid (Calls _ _ _ _ _) := kr
      clear kr
      go_wp2_with fail
      refine HKR.out.mono ?_
      rintro e w2 ⟨rfl, q, hw2⟩
      have f2 : Fr (fun _ => False) w w2 := by rw [hw2]; exact f1.drewN q
      clear hw2 f1 HKR hr
      go_wp2_with fail
      refine (awake_any w2).mono ?_
      rintro e w3 ⟨rfl, f3⟩
      go_wp2
      go_ret
      exact ⟨rfl, f2.trans f3⟩
end Go.Proofs.Ytjbkmflbhlnbpaa
