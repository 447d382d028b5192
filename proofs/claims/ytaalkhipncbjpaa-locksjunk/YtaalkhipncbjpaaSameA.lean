/- Are two holds one: the program's Same, for any two; is a hold short. -/
import Derived.Test.YtaalkhipncbjpaaMeetH
import Derived.Test.YtaalkhipncbjpaaMeetD
import Derived.Test.YtaalkhipncbjpaaLocE
namespace Go.Proofs.Ytaalkhipncbjpaa
open Go.RowKit
theorem toList_data (b : ByteArray) : b.toList = b.data.toList := by
  have loop : ∀ (n i : Nat) (r : List UInt8), b.size - i = n → ByteArray.toList.loop b i r = r.reverse ++ b.data.toList.drop i := by
    intro n
    induction n with
    | zero =>
      intro i r h
      unfold ByteArray.toList.loop
      rw [if_neg (by omega), List.drop_eq_nil_of_le (by simp; show b.size ≤ i; omega)]
      simp
    | succ n ih =>
      intro i r h
      have hi : i < b.size := by omega
      unfold ByteArray.toList.loop
      rw [if_pos hi, ih (i + 1) _ (by omega)]
      have hl : i < b.data.toList.length := by simpa using hi
      rw [List.drop_eq_getElem_cons hl]
      have : b.get! i = b.data.toList[i] := by
        show b.data[i]! = _
        rw [getElem!_pos b.data i hi]
        simp
      simp [this]
  unfold ByteArray.toList
  rw [loop _ 0 [] rfl]
  simp
theorem toList_inj {a b : ByteArray} (h : a.toList = b.toList) : a = b := by
  rw [toList_data, toList_data] at h
  exact ByteArray.ext (Array.toList_inj.1 h)
set_option maxRecDepth 100000 in
theorem eqB_any (ao bo : Option Addr) (l m : List Nat) (ac bc : Nat) (w : World) (hl : Row w ao l ac) (hm : Row w bo m bc) :
    Calls Try.prog 43 #[.slice ao l.length ac, .slice bo m.length bc] w fun e w' => e = .returned (.bool (decide (l = m))) ∧ w' = w := by
  have hs1 := run_str' w ao l l.length ac rfl hl
  have hs2 := run_str' w bo m m.length bc rfl hm
  have hd : ((strOf l).toList == (strOf m).toList) = decide (l = m) := by
    by_cases h : l = m
    · subst h; simp
    · have h2 : ¬ (strOf l).toList = (strOf m).toList := fun e => h (strOf_inj l m hl.2.2.1 hm.2.2.1 (toList_inj e))
      simp [h, h2]
  go_enter Try.func43, Try.ntmps43
  go_wp2
  go_ret
  exact ⟨rfl, rfl⟩
def Hd.short (a : Hd) : Bool := decide (a.g.length ≤ 32) && decide (a.s.length ≤ 32) && decide (a.p.length ≤ 32) && decide (a.dl.length ≤ 257)
set_option maxRecDepth 100000 in
theorem short_any (a : Hd) (w : World) : Calls Try.prog 10 #[.agg #[.int .u64 (a.a0 : Int), .int .u64 (a.a1 : Int), .int .u64 (a.a2 : Int), .slice a.ga a.g.length a.gc, .slice a.sa a.s.length a.sc, .slice a.pa a.p.length a.pc, .slice a.da a.dl.length a.dc]] w fun e w' => e = .returned (.bool a.short) ∧ Fr (fun _ => False) w w' := by
  have F0 : Hid (Fr (fun _ => False) w (w.alloc (.cells #[.int .u64 (a.a0 : Int), .int .u64 (a.a1 : Int), .int .u64 (a.a2 : Int), .slice a.ga a.g.length a.gc, .slice a.sa a.s.length a.sc, .slice a.pa a.p.length a.pc, .slice a.da a.dl.length a.dc] 29))) := (Fr.refl (fun _ => False) w).alloc _
  have h1 : decide ((a.g.length : Int) ≤ 32) = decide (a.g.length ≤ 32) := decide_eq_decide.2 (by omega)
  have h2 : decide ((a.s.length : Int) ≤ 32) = decide (a.s.length ≤ 32) := decide_eq_decide.2 (by omega)
  have h3 : decide ((a.p.length : Int) ≤ 32) = decide (a.p.length ≤ 32) := decide_eq_decide.2 (by omega)
  have h4 : decide ((a.dl.length : Int) ≤ 257) = decide (a.dl.length ≤ 257) := decide_eq_decide.2 (by omega)
  unfold Hd.short
  cases e1 : decide (a.g.length ≤ 32) <;> rw [e1] at h1
  · go_enter Try.func10, Try.ntmps10
    go_wp2
    go_ret
    exact ⟨rfl, F0.out⟩
  cases e2 : decide (a.s.length ≤ 32) <;> rw [e2] at h2
  · go_enter Try.func10, Try.ntmps10
    go_wp2
    go_ret
    exact ⟨rfl, F0.out⟩
  cases e3 : decide (a.p.length ≤ 32) <;> rw [e3] at h3
  · go_enter Try.func10, Try.ntmps10
    go_wp2
    go_ret
    exact ⟨rfl, F0.out⟩
  cases e4 : decide (a.dl.length ≤ 257) <;> rw [e4] at h4
  · go_enter Try.func10, Try.ntmps10
    go_wp2
    go_ret
    exact ⟨rfl, F0.out⟩
  · go_enter Try.func10, Try.ntmps10
    go_wp2
    go_ret
    exact ⟨rfl, F0.out⟩
def Hd.id (a b : Hd) : Bool := decide (a.a0 = b.a0 ∧ a.a1 = b.a1)
def Hd.same (a b : Hd) : Bool := a.id b && decide (a.a2 = b.a2) && decide (a.g.map Fl.rk = b.g.map Fl.rk) && decide (a.s.map rkp = b.s.map rkp) && decide (a.p.map Fl.rk = b.p.map Fl.rk) && decide (a.dl = b.dl)
set_option maxRecDepth 100000 in
set_option maxHeartbeats 8000000 in
theorem locsame_any (a b : Hd) (w : World) (ha : a.ok w) (hb : b.ok w) : Calls Try.prog 12 #[.agg #[.int .u64 (a.a0 : Int), .int .u64 (a.a1 : Int), .int .u64 (a.a2 : Int), .slice a.ga a.g.length a.gc, .slice a.sa a.s.length a.sc, .slice a.pa a.p.length a.pc, .slice a.da a.dl.length a.dc], .agg #[.int .u64 (b.a0 : Int), .int .u64 (b.a1 : Int), .int .u64 (b.a2 : Int), .slice b.ga b.g.length b.gc, .slice b.sa b.s.length b.sc, .slice b.pa b.p.length b.pc, .slice b.da b.dl.length b.dc]] w fun e w' => e = .returned (.bool (a.same b)) ∧ Fr (fun _ => False) w w' := by
  obtain ⟨W, HW⟩ : ∃ W, Hid (W = (w.alloc (.cells #[.int .u64 (a.a0 : Int), .int .u64 (a.a1 : Int), .int .u64 (a.a2 : Int), .slice a.ga a.g.length a.gc, .slice a.sa a.s.length a.sc, .slice a.pa a.p.length a.pc, .slice a.da a.dl.length a.dc] 29)).alloc (.cells #[.int .u64 (b.a0 : Int), .int .u64 (b.a1 : Int), .int .u64 (b.a2 : Int), .slice b.ga b.g.length b.gc, .slice b.sa b.s.length b.sc, .slice b.pa b.p.length b.pc, .slice b.da b.dl.length b.dc] 29)) := ⟨_, rfl⟩
  have F0 : Hid (Fr (fun _ => False) w W) := (show Fr _ _ _ by rw [HW.out]; exact ((Fr.refl (fun _ => False) w).alloc _).alloc _)
  have HB1 : Hid (C7 W w.heap.size (.int .u64 (a.a0 : Int)) (.int .u64 (a.a1 : Int)) (.int .u64 (a.a2 : Int)) (.slice a.ga a.g.length a.gc) (.slice a.sa a.s.length a.sc) (.slice a.pa a.p.length a.pc) (.slice a.da a.dl.length a.dc)) := (show C7 _ _ _ _ _ _ _ _ _ by rw [HW.out]; exact (C7.new w 29 _ _ _ _ _ _ _).fr ((Fr.refl (fun _ => False) _).alloc (.cells #[.int .u64 (b.a0 : Int), .int .u64 (b.a1 : Int), .int .u64 (b.a2 : Int), .slice b.ga b.g.length b.gc, .slice b.sa b.s.length b.sc, .slice b.pa b.p.length b.pc, .slice b.da b.dl.length b.dc] 29)) (by simp))
  have HB2 : Hid (C7 W (w.heap.size + 1) (.int .u64 (b.a0 : Int)) (.int .u64 (b.a1 : Int)) (.int .u64 (b.a2 : Int)) (.slice b.ga b.g.length b.gc) (.slice b.sa b.s.length b.sc) (.slice b.pa b.p.length b.pc) (.slice b.da b.dl.length b.dc)) := (show C7 _ _ _ _ _ _ _ _ _ by rw [HW.out]; have := C7.new (w.alloc (.cells #[.int .u64 (a.a0 : Int), .int .u64 (a.a1 : Int), .int .u64 (a.a2 : Int), .slice a.ga a.g.length a.gc, .slice a.sa a.s.length a.sc, .slice a.pa a.p.length a.pc, .slice a.da a.dl.length a.dc] 29)) 29 (.int .u64 (b.a0 : Int)) (.int .u64 (b.a1 : Int)) (.int .u64 (b.a2 : Int)) (.slice b.ga b.g.length b.gc) (.slice b.sa b.s.length b.sc) (.slice b.pa b.p.length b.pc) (.slice b.da b.dl.length b.dc); simpa using this)
  have Oa : Hid (a.ok W) := ha.fr F0.out
  have Ob : Hid (b.ok W) := hb.fr F0.out
  obtain ⟨b1, Hb1⟩ : ∃ b1, Hid (w.heap.size = b1) := ⟨_, rfl⟩
  obtain ⟨b2, Hb2⟩ : ∃ b2, Hid (w.heap.size + 1 = b2) := ⟨_, rfl⟩
  rw [Hb1.out] at HB1
  rw [Hb2.out] at HB2
  clear ha hb
  unfold Hd.same Hd.id
  have hi0 : ((a.a0 : Int) == (b.a0 : Int)) = decide (a.a0 = b.a0) := by rw [Bool.eq_iff_iff]; simp; omega
  have hi1 : ((a.a1 : Int) == (b.a1 : Int)) = decide (a.a1 = b.a1) := by rw [Bool.eq_iff_iff]; simp; omega
  have hi2 : ((a.a2 : Int) == (b.a2 : Int)) = decide (a.a2 = b.a2) := by rw [Bool.eq_iff_iff]; simp; omega
  have hi3 : decide (a.a0 = b.a0 ∧ a.a1 = b.a1) = (decide (a.a0 = b.a0) && decide (a.a1 = b.a1)) := by rw [Bool.eq_iff_iff]; simp
  rw [hi3]
  clear hi3
  generalize decide (a.a0 = b.a0) = p0 at *
  generalize decide (a.a1 = b.a1) = p1 at *
  generalize decide (a.a2 = b.a2) = p2 at *
  have K1 := fun (W1 : World) (f : Fr (fun _ => False) W W1) => eqF_any a.ga b.ga a.g b.g a.gc b.gc W1 (Oa.out.fr f).1 (Ob.out.fr f).1
  have K2 := fun (W1 : World) (f : Fr (fun _ => False) W W1) => eqG_any a.sa b.sa a.s b.s a.sc b.sc W1 (Oa.out.fr f).2.1 (Ob.out.fr f).2.1
  have K3 := fun (W1 : World) (f : Fr (fun _ => False) W W1) => eqF_any a.pa b.pa a.p b.p a.pc b.pc W1 (Oa.out.fr f).2.2.1 (Ob.out.fr f).2.2.1
  have K4 := fun (W1 : World) (f : Fr (fun _ => False) W W1) => eqB_any a.da b.da a.dl b.dl a.dc b.dc W1 (Oa.out.fr f).2.2.2 (Ob.out.fr f).2.2.2
  generalize decide (a.g.map Fl.rk = b.g.map Fl.rk) = q1 at *
  generalize decide (a.s.map rkp = b.s.map rkp) = q2 at *
  generalize decide (a.p.map Fl.rk = b.p.map Fl.rk) = q3 at *
  generalize decide (a.dl = b.dl) = q4 at *
  have HK1 : Hid (∀ W1, Fr (fun _ => False) W W1 → Calls _ _ _ W1 _) := K1
  have HK2 : Hid (∀ W1, Fr (fun _ => False) W W1 → Calls _ _ _ W1 _) := K2
  have HK3 : Hid (∀ W1, Fr (fun _ => False) W W1 → Calls _ _ _ W1 _) := K3
  have HK4 : Hid (∀ W1, Fr (fun _ => False) W W1 → Calls _ _ _ W1 _) := K4
  clear K1 K2 K3 K4
  obtain ⟨d0, d1, d2, d3, d4, d5, d6⟩ := HB1.out
  obtain ⟨f0, f1, f2, f3, f4, f5, f6⟩ := HB2.out
  rw [HW.out] at d0 d1 d2 d3 d4 d5 d6 f0 f1 f2 f3 f4 f5 f6
  rw [← Hb1.out] at d0 d1 d2 d3 d4 d5 d6
  rw [← Hb2.out] at f0 f1 f2 f3 f4 f5 f6
  have e00 : (p0 && p1 && p2) = true ∨ (p0 && p1 && p2) = false := by cases (p0 && p1 && p2) <;> simp
  rcases e00 with e00 | e00
  · simp only [Bool.and_eq_true] at e00
    obtain ⟨⟨rfl, rfl⟩, rfl⟩ := e00
    go_enter Try.func12, Try.ntmps12
    go_wp2_with fail
    rw [← HW.out]
    refine (HK1.out _ (Fr.refl _ _)).mono ?_
    rintro e w1 ⟨rfl, hw1⟩
    subst hw1
    rw [← HW.out] at d0 d1 d2 d3 d4 d5 d6 f0 f1 f2 f3 f4 f5 f6
    clear HK1 HW
    cases q1
    · go_wp2
      go_ret
      exact ⟨rfl, F0.out⟩
    go_wp2_with fail
    refine (HK2.out _ (Fr.refl _ _)).mono ?_
    rintro e w2 ⟨rfl, g2⟩
    have G2 : Hid (Fr (fun _ => False) _ w2) := g2
    clear HK2 g2
    cases q2
    · go_wp2
      go_ret
      exact ⟨rfl, F0.out.trans G2.out⟩
    replace d0 := G2.out.cell d0 (by simp)
    replace d1 := G2.out.cell d1 (by simp)
    replace d2 := G2.out.cell d2 (by simp)
    replace d3 := G2.out.cell d3 (by simp)
    replace d4 := G2.out.cell d4 (by simp)
    replace d5 := G2.out.cell d5 (by simp)
    replace d6 := G2.out.cell d6 (by simp)
    replace f0 := G2.out.cell f0 (by simp)
    replace f1 := G2.out.cell f1 (by simp)
    replace f2 := G2.out.cell f2 (by simp)
    replace f3 := G2.out.cell f3 (by simp)
    replace f4 := G2.out.cell f4 (by simp)
    replace f5 := G2.out.cell f5 (by simp)
    replace f6 := G2.out.cell f6 (by simp)
    go_wp2_with fail
    refine (HK3.out _ G2.out).mono ?_
    rintro e w3 ⟨rfl, hw3⟩
    subst hw3
    cases q3
    · go_wp2
      go_ret
      exact ⟨rfl, F0.out.trans G2.out⟩
    go_wp2_with fail
    refine (HK4.out _ G2.out).mono ?_
    rintro e w4 ⟨rfl, hw4⟩
    subst hw4
    go_wp2
    go_ret
    exact ⟨rfl, F0.out.trans G2.out⟩
  · cases p0
    · go_enter Try.func12, Try.ntmps12
      go_wp2
      go_ret
      exact ⟨rfl, by rw [← HW.out]; exact F0.out⟩
    cases p1
    · go_enter Try.func12, Try.ntmps12
      go_wp2
      go_ret
      exact ⟨rfl, by rw [← HW.out]; exact F0.out⟩
    cases p2
    · go_enter Try.func12, Try.ntmps12
      go_wp2
      go_ret
      exact ⟨rfl, by rw [← HW.out]; exact F0.out⟩
    · simp at e00
end Go.Proofs.Ytaalkhipncbjpaa
