/- The document's SameEntries, of lists that are one. -/
import Derived.Test.YtlcakglmheleeaaDoorScan
import Derived.Test.YtlcakglmheleeaaDoorStr
import Derived.Deep.QuietTactic
import Derived.BigQuiet
namespace Go.Proofs.YtlcakglmheleeaaDoor
open Go.RowKit

theorem p_get {es ys : List En} (h : ys.map En.p = es.map En.p) (k : Nat) (hk : k < es.length) : (ys.getD k default).p = (es.getD k default).p := by
  have hl : ys.length = es.length := by simpa using congrArg List.length h
  have := congrArg (fun l => l[k]?) h
  simp [hk, hl] at this
  simp [List.getD_eq_getElem?_getD, hk, hl]
  exact this
set_option maxRecDepth 100000 in
set_option maxHeartbeats 2000000 in
theorem sameE_yes (a1 a2 : Option Addr) (xs ys : List En) (c1 c2 : Nat) (w : World) (R1 D1 R2 D2 : Nat → Prop) (h1 : ERow w R1 D1 a1 xs c1) (h2 : ERow w R2 D2 a2 ys c2) (hp : ys.map En.p = xs.map En.p) :
    Calls Tryd.prog 34 #[.slice a1 xs.length c1, .slice a2 ys.length c2] w fun e w' => e = .returned (.bool true) ∧ ∃ n, w' = w.drewN n := by
  have hl : ys.length = xs.length := by simpa using congrArg List.length hp
  have l1 := h1.len
  rw [hl]
  have H1 : Hid (ERow w R1 D1 a1 xs c1) := h1
  have H2 : Hid (ERow w R2 D2 a2 ys c2) := h2
  have HP : Hid (ys.map En.p = xs.map En.p) := hp
  have HL : Hid (ys.length = xs.length) := hl
  clear h1 h2 hp hl
  go_enter Tryd.func34, Tryd.ntmps34
  go_wp2
  go_loopw [5] (fun i wr => ∃ k n : Nat, k ≤ xs.length ∧ i = .int .i64 (k : Int) ∧ wr = w.drewN n) (fun i _ => xs.length - (intOf i).toNat)
  case atStart => exact ⟨0, 0, Nat.zero_le _, rfl, rfl⟩
  case round =>
    obtain ⟨k, n, hk, rfl, rfl⟩ := hrel
    by_cases hlt : k < xs.length
    · have f := (Fr.refl (fun _ => False) w).drewN n
      have r1 := H1.out.fr f (by simp) (by simp)
      have r2 := H2.out.fr f (by simp) (by simp)
      obtain ⟨b1, o1, x, rfl, _, x0, x1, x2, x3, gx, Hx⟩ := r1.at hlt
      obtain ⟨b2, o2, y, rfl, _, y0, y1, y2, y3, gy, Hy⟩ := r2.at (k := k) (by have := HL.out; omega)
      have hpy : y.p = x.p := by rw [Hx.out, Hy.out]; exact p_get HP.out k hlt
      obtain ⟨e1, e2, e3, e4⟩ : y.i = x.i ∧ y.t = x.t ∧ y.k = x.k ∧ y.d = x.d := by simp [En.p] at hpy; exact hpy
      have gxr := gx.row
      have gyr := gy.row
      rw [e1] at y0
      rw [e2] at y1
      rw [e3] at y2
      rw [e4] at y3 gyr
      obtain ⟨W, HW⟩ : ∃ W, Hid (W = w.drewN n) := ⟨_, rfl⟩
      rw [← HW.out] at x0 x1 x2 x3 y0 y1 y2 y3 gxr gyr ⊢
      have s1 := fun m => run_str (W.drewN m) x.a x.d x.c gxr
      have s2 := fun m => run_str (W.drewN m) y.a x.d y.c gyr
      have k1 : (0 : Int) ≤ (k : Int) := by omega
      have k2 : (k : Int) < (xs.length : Int) := by omega
      clear r1 r2 gx gy e1 e2 e3 e4 hpy f gxr gyr
      go_wp2_with fail
      go_quiet (fail)
      go_wp2
      exact ⟨⟨k + 1, n + nq, by omega, by go_num, by rw [HW.out]; simp⟩, by simp [intOf]; omega⟩
    · have hkn : k = xs.length := by omega
      have k2 : ¬ (k : Int) < (xs.length : Int) := by omega
      clear hkn
      go_wp2
      go_ret
      exact ⟨rfl, n, rfl⟩
set_option maxHeartbeats 400000 in
theorem image_any (t i st sv : Int) (vo : Int) (sa ea : Option Addr) (n sc en c : Nat) (w : World) :
    Calls Tryd.prog 14 #[.agg #[.int .u64 t, .int .i64 vo, .int .u64 i, .int .u64 st, .int .u64 sv, .slice sa n sc, .slice ea en c]] w fun e w' => e = .returned (.agg #[.int .u64 t, .int .i64 vo, .int .u64 i, .int .u64 st, .int .u64 sv, .slice sa n sc, .slice ea en c]) ∧ Fr (fun _ => False) w w' := by
  have f := ((Fr.refl (fun _ => False) w).alloc (.cells #[.int .u64 t, .int .i64 vo, .int .u64 i, .int .u64 st, .int .u64 sv, .slice sa n sc, .slice ea en c] 42)).alloc (.cells #[.int .u64 t, .int .i64 vo, .int .u64 i, .int .u64 st, .int .u64 sv, .slice sa n sc, .slice ea en c] 34)
  have F : Hid (Fr _ _ _) := f
  clear f
  go_enter Tryd.func14, Tryd.ntmps14
  go_wp2
  exact bodyPost_ret (v := .agg #[.int .u64 t, .int .i64 vo, .int .u64 i, .int .u64 st, .int .u64 sv, .slice sa n sc, .slice ea en c]) (by simp [results, Tryd.results14, go_sem]) rfl ⟨rfl, F.out⟩
set_option maxRecDepth 100000 in
set_option maxHeartbeats 1600000 in
theorem same_yes (t i st sv : Nat) (vo : Int) (sa sa2 ea ea2 : Option Addr) (sd : List Nat) (sc sc2 : Nat) (es es2 : List En) (c c2 : Nat) (w : World) (R1 D1 R2 D2 : Nat → Prop) (h1 : ERow w R1 D1 ea es c) (h2 : ERow w R2 D2 ea2 es2 c2) (hp : es2.map En.p = es.map En.p) (hs1 : Row w sa sd sc) (hs2 : Row w sa2 sd sc2) :
    Calls Tryd.prog 13 #[.agg #[.int .u64 (t : Int), .int .i64 vo, .int .u64 (i : Int), .int .u64 (st : Int), .int .u64 (sv : Int), .slice sa sd.length sc, .slice ea es.length c], .agg #[.int .u64 (t : Int), .int .i64 vo, .int .u64 (i : Int), .int .u64 (st : Int), .int .u64 (sv : Int), .slice sa2 sd.length sc2, .slice ea2 es2.length c2]] w fun e w' => e = .returned (.bool true) ∧ Fr (fun _ => False) w w' := by
  have fa := ((Fr.refl (fun _ => False) w).alloc (.cells #[.int .u64 (t : Int), .int .i64 vo, .int .u64 (i : Int), .int .u64 (st : Int), .int .u64 (sv : Int), .slice sa sd.length sc, .slice ea es.length c] 34)).alloc (.cells #[.int .u64 (t : Int), .int .i64 vo, .int .u64 (i : Int), .int .u64 (st : Int), .int .u64 (sv : Int), .slice sa2 sd.length sc2, .slice ea2 es2.length c2] 34)
  have FA : Hid (Fr _ _ _) := fa
  obtain ⟨W, HW⟩ : ∃ W, Hid (W = (w.alloc (.cells #[.int .u64 (t : Int), .int .i64 vo, .int .u64 (i : Int), .int .u64 (st : Int), .int .u64 (sv : Int), .slice sa sd.length sc, .slice ea es.length c] 34)).alloc (.cells #[.int .u64 (t : Int), .int .i64 vo, .int .u64 (i : Int), .int .u64 (st : Int), .int .u64 (sv : Int), .slice sa2 sd.length sc2, .slice ea2 es2.length c2] 34)) := ⟨_, rfl⟩
  have FW : Hid (Fr (fun _ => False) w W) := by show Fr _ _ _; rw [HW.out]; exact FA.out
  have g1 := run_str _ sa sd sc (fa.row hs1 (by simp))
  have g2 := run_str _ sa2 sd sc2 (fa.row hs2 (by simp))
  have K : Hid (Calls _ _ _ _ _) := sameE_yes ea ea2 es es2 c c2 W R1 D1 R2 D2 (h1.fr FW.out (by simp) (by simp)) (h2.fr FW.out (by simp) (by simp)) hp
  clear h1 h2 hp hs1 hs2 fa FA
  go_enter Tryd.func13, Tryd.ntmps13
  go_wp2_with fail
  rw [← HW.out]
  refine K.out.mono ?_
  rintro e w1 ⟨rfl, n, rfl⟩
  go_wp2
  go_ret
  exact ⟨rfl, FW.out.drewN n⟩
end Go.Proofs.YtlcakglmheleeaaDoor
