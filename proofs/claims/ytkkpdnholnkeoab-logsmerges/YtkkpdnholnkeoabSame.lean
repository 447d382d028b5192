/- The document's SameEntries, of lists that are one. -/
import Derived.Test.YtkkpdnholnkeoabEnt
import Derived.Test.YtkkpdnholnkeoabMake
import Derived.Test.YtkkpdnholnkeoabStr
import Derived.Deep.QuietTactic
import Derived.BigQuiet
namespace Go.Proofs.Ytkkpdnholnkeoab
open Go.RowKit

theorem p_get {es ys : List En} (h : ys.map En.p = es.map En.p) (k : Nat) (hk : k < es.length) : (ys.getD k default).p = (es.getD k default).p := by
  have hl : ys.length = es.length := by simpa using congrArg List.length h
  have := congrArg (fun l => l[k]?) h
  simp [hk, hl] at this
  simp [List.getD_eq_getElem?_getD, hk, hl]
  exact this
set_option maxRecDepth 100000 in
set_option maxHeartbeats 2000000 in
theorem same_yes (a1 a2 : Option Addr) (xs ys : List En) (c1 c2 : Nat) (w : World) (R1 D1 R2 D2 : Nat → Prop) (h1 : ERow w R1 D1 a1 xs c1) (h2 : ERow w R2 D2 a2 ys c2) (hp : ys.map En.p = xs.map En.p) :
    Calls Try.prog 31 #[.slice a1 xs.length c1, .slice a2 ys.length c2] w fun e w' => e = .returned (.bool true) ∧ ∃ n, w' = w.drewN n := by
  have hl : ys.length = xs.length := by simpa using congrArg List.length hp
  have l1 := h1.len
  rw [hl]
  have H1 : Hid (ERow w R1 D1 a1 xs c1) := h1
  have H2 : Hid (ERow w R2 D2 a2 ys c2) := h2
  have HP : Hid (ys.map En.p = xs.map En.p) := hp
  have HL : Hid (ys.length = xs.length) := hl
  clear h1 h2 hp hl
  go_enter Try.func31, Try.ntmps31
  go_wp2
  go_loopw [5] (fun i wr => ∃ k n : Nat, k ≤ xs.length ∧ i = .int .i64 (k : Int) ∧ wr = w.drewN n) (fun i _ => xs.length - (intOf i).toNat)
  case atStart => exact ⟨0, 0, Nat.zero_le _, rfl, rfl⟩
  case round =>
    obtain ⟨k, n, hk, rfl, rfl⟩ := hrel
    by_cases hlt : k < xs.length
    · have f := (Fr.refl (fun _ => False) w).drewN n
      have r1 := H1.out.fr f (by simp) (by simp)
      have r2 := H2.out.fr f (by simp) (by simp)
      obtain ⟨b1, o1, x, rfl, _, x0, x1, x2, x3, gx, Hx⟩ := r1.at hlt
      obtain ⟨b2, o2, y, rfl, _, y0, y1, y2, y3, gy, Hy⟩ := r2.at (k := k) (by have := HL.out; omega)
      have hpy : y.p = x.p := by rw [Hx.out, Hy.out]; exact p_get HP.out k hlt
      obtain ⟨e1, e2, e3, e4⟩ : y.i = x.i ∧ y.t = x.t ∧ y.k = x.k ∧ y.d = x.d := by simp [En.p] at hpy; exact hpy
      have gxr := gx.row
      have gyr := gy.row
      rw [e1] at y0
      rw [e2] at y1
      rw [e3] at y2
      rw [e4] at y3 gyr
      obtain ⟨W, HW⟩ : ∃ W, Hid (W = w.drewN n) := ⟨_, rfl⟩
      rw [← HW.out] at x0 x1 x2 x3 y0 y1 y2 y3 gxr gyr ⊢
      have s1 := fun m => run_str (W.drewN m) x.a x.d x.c gxr
      have s2 := fun m => run_str (W.drewN m) y.a x.d y.c gyr
      have k1 : (0 : Int) ≤ (k : Int) := by omega
      have k2 : (k : Int) < (xs.length : Int) := by omega
      clear r1 r2 gx gy e1 e2 e3 e4 hpy f gxr gyr
      go_wp2_with fail
      go_quiet (fail)
      go_wp2
      exact ⟨⟨k + 1, n + nq, by omega, by go_num, by rw [HW.out]; simp⟩, by simp [intOf]; omega⟩
    · have hkn : k = xs.length := by omega
      have k2 : ¬ (k : Int) < (xs.length : Int) := by omega
      clear hkn
      go_wp2
      go_ret
      exact ⟨rfl, n, rfl⟩
end Go.Proofs.Ytkkpdnholnkeoab
