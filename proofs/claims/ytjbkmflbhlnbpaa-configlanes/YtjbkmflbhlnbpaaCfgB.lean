/- A config's bounds; cuts that are copied. -/
import Derived.Test.YtjbkmflbhlnbpaaCfgA
namespace Go.Proofs.Ytjbkmflbhlnbpaa
open Go.RowKit

theorem in_yes (n a b : Int) (w : World) (h1 : a ≤ n) (h2 : n ≤ b) : Calls Try.prog 39 #[.int .i64 n, .int .i64 a, .int .i64 b] w fun e w' => e = .returned (.bool true) ∧ w' = w := by
  have := in_any n a b w
  rw [decide_eq_true h1, decide_eq_true h2] at this
  exact this
set_option maxHeartbeats 1000000 in
theorem bounded_ok (up : Value) (ao : Option Addr) (n cap : Nat) (nodes frame depth quota wide beat elect : Int) (w : World) (h1 : 1 ≤ nodes ∧ nodes ≤ 7) (hn : n < 8) (hr : ∀ W, Calls Try.prog 48 #[.slice ao n cap] W fun e w' => e = .returned (.bool true) ∧ w' = W)
    (h2 : 64 ≤ frame ∧ frame ≤ 4096) (h3 : 1 ≤ depth ∧ depth ≤ 65536) (h4 : 1 ≤ quota ∧ quota ≤ 268435456) (h5 : 0 ≤ wide ∧ wide ≤ 256) (h6 : 1 ≤ beat) (h7 : beat < elect) (h8 : elect ≤ 1000) :
    Calls Try.prog 32 #[.agg (cfg up nodes (.slice ao n cap) frame depth quota wide beat elect)] w fun e w' => e = .returned (.bool true) ∧ Fr (fun _ => False) w w' := by
  have k1 := fun w => in_yes nodes 1 7 w h1.1 h1.2
  have k2 := fun w => in_yes frame 64 4096 w h2.1 h2.2
  have k3 := fun w => in_yes depth 1 65536 w h3.1 h3.2
  have k4 := fun w => in_yes quota 1 268435456 w h4.1 h4.2
  have k5 := fun w => in_yes wide 0 256 w h5.1 h5.2
  have H1 : Hid _ := k1
  have H2 : Hid _ := k2
  have H3 : Hid _ := k3
  have H4 : Hid _ := k4
  have H5 : Hid _ := k5
  have HR : Hid _ := hr
  have hn' : (n : Int) < 8 := by omega
  clear k1 k2 k3 k4 k5 hr h1 h2 h3 h4 h5
  unfold cfg
  go_enter Try.func32, Try.ntmps32
  go_wp2_with fail
  refine (H1.out _).mono ?_
  rintro e w2 ⟨rfl, hw⟩
  subst w2
  go_wp2_with fail
  refine (HR.out _).mono ?_
  rintro e w2 ⟨rfl, hw⟩
  subst w2
  go_wp2_with fail
  refine (H2.out _).mono ?_
  rintro e w2 ⟨rfl, hw⟩
  subst w2
  go_wp2_with fail
  refine (H3.out _).mono ?_
  rintro e w2 ⟨rfl, hw⟩
  subst w2
  go_wp2_with fail
  refine (H4.out _).mono ?_
  rintro e w2 ⟨rfl, hw⟩
  subst w2
  go_wp2_with fail
  refine (H5.out _).mono ?_
  rintro e w2 ⟨rfl, hw⟩
  subst w2
  go_wp2
  go_ret
  exact ⟨ret_bool (by simp), (Fr.refl _ _).alloc _⟩

/-- numbers that float, in memory. -/
def AtF (w : World) (b off : Nat) (l : List Nat) : Prop := ∀ i, i < l.length → w.cell? ⟨b, off + i, none⟩ = some (.float .f64 (l.getD i 0))
theorem AtF.fr {S : Nat → Prop} {w w1 : World} {b off : Nat} {l : List Nat} (h : AtF w b off l) (f : Fr S w w1) (hs : ¬ S b) : AtF w1 b off l := fun i hi => f.cell (h i hi) hs
def cellsF (l : List Nat) : List Value := l.map fun x => Value.float .f64 x
theorem cellsF_length (l : List Nat) : (cellsF l).length = l.length := List.length_map ..
theorem cellsF_one (l : List Nat) : ∀ u ∈ cellsF l, u.oneCell' = true := by
  intro u hu; simp [cellsF] at hu; obtain ⟨x, _, rfl⟩ := hu; rfl
theorem cellsF_get (l : List Nat) (j : Nat) (hj : j < l.length) : (cellsF l)[j]? = some (.float .f64 (l.getD j 0)) := by
  simp [cellsF, hj]
theorem Try.info34 : (Try.prog.info? 34).map (fun i => (i.zero, i.size, i.bytes)) = some (some (.float .f64 0), 1, 8) := by kernel_rfl
set_option maxHeartbeats 400000 in
theorem cloneF_nil (w : World) (n cap : Nat) : Calls Try.prog 35 #[.slice none n cap] w fun e w' => e = .returned (.slice none 0 0) ∧ w' = w := by
  have q := fun (w : World) (a : Option Addr) (n c n' c' : Nat) => Lib.run_eql_slice_nil (P := Try.prog) w 23 _ a n c n' c' Try.underlying23
  go_enter Try.func35, Try.ntmps35
  go_wp2
  go_ret
  exact ⟨rfl, rfl⟩
set_option maxHeartbeats 400000 in
theorem cloneF_any (b off cap : Nat) (l : List Nat) (w : World) (hl : l.length ≤ 64) (hl0 : 0 < l.length) (hc : AtF w b off l) :
    Calls Try.prog 35 #[.slice (some ⟨b, off, none⟩) l.length cap] w fun e w' => ∃ g c, e = .returned (.slice (some ⟨g, 0, none⟩) l.length c) ∧ w.heap.size ≤ g ∧ AtF w' g 0 l ∧ Fr (fun _ => False) w w' := by
  have q := fun (w : World) (a : Option Addr) (n c n' c' : Nat) => Lib.run_eql_slice_nil (P := Try.prog) w 23 _ a n c n' c' Try.underlying23
  obtain ⟨i, hi, hz0, hz1, hz2⟩ := info_parts Try.info34
  have hO : (w.alloc (.cells #[] 34)).ownsRow w.heap.size 34 1 (.slice (some ⟨w.heap.size, 0, none⟩) 0 0) 0 [] := World.ownsRow_made w #[] 0 (Nat.le_refl _) (Nat.zero_le _) (by simp)
  have hA : AtF (w.alloc (.cells #[] 34)) b off l := hc.fr ((Fr.refl (fun _ => False) w).alloc _) (by simp)
  have hnews : ∀ j u, (cellsF l)[j]? = some u → (w.alloc (.cells #[] 34)).cell? ((⟨b, off, none⟩ : Addr).add j) = some u := by
    intro j u hu
    have hj : j < l.length := by
      have := (List.getElem?_eq_some_iff.1 hu).1
      rwa [cellsF_length] at this
    rw [cellsF_get l j hj] at hu
    cases hu
    rw [show (⟨b, off, none⟩ : Addr).add j = ⟨b, off + j, none⟩ from by unfold Addr.add; split <;> simp_all]
    exact hA j hj
  have HN : Hid _ := hnews
  clear hc hA hnews
  go_enter Try.func35, Try.ntmps35
  go_wp2_with (refine wpList_append_own _ rfl _ _ 23 rfl w.heap.size 34 i (.float .f64 0) 1 8 Try.underlying23 hi hz0 hz1 hz2 rfl (by decide) _ _ _ rfl hO ⟨b, off, none⟩ l.length cap (cellsF l) rfl (by simp [cellsF_length]) HN.out (cellsF_one l) (by unfold maxLen; omega) (by omega) (by simp) ?_)
  intro v' w' ho hg hnil
  have f1 : Fr (fun _ => False) w w' := ((Fr.refl (fun _ => False) w).alloc _).grown hg (fun j hj => by simp [Value.ownBlock] at hj; omega)
  rcases ho with ⟨_, ⟨rfl, h0⟩ | ⟨g, cp, cur, rfl, hbg, hgg, hn, hm, hs, ht⟩⟩
  · omega
  · have hA2 : AtF w' g 0 l := fun i hi => by
      have h1 := cellsF_get l i hi
      have ht' : cur.toList.take (1 * l.length) = cellsF l := by simpa using ht
      rw [← ht', List.getElem?_take, if_pos (by omega)] at h1
      rw [Nat.zero_add, cell_of_row w' g i cur 34 (0, 0) hgg]
      simpa using h1
    go_wp2
    go_ret
    exact ⟨g, cp, by simp, hbg, hA2, f1⟩
end Go.Proofs.Ytjbkmflbhlnbpaa
