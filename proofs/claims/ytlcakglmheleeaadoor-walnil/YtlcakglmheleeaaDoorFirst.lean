/- The record at the front. -/
import Derived.Test.YtlcakglmheleeaaDoorGen
import Derived.Deep.QuietTactic
import Derived.BigQuiet
namespace Go.Proofs.YtlcakglmheleeaaDoor
open Go.RowKit

theorem Row.takeC {w : World} {ao : Option Addr} {l : List Nat} {cap : Nat} (h : Row w ao l cap) (n : Nat) : Row w ao (l.take n) cap := by
  obtain ⟨h1, h2, h3, h4, h5⟩ := h
  refine ⟨by simp; omega, h2, fun x hx => h3 x (List.mem_of_mem_take hx), h4, fun hl => ?_⟩
  obtain ⟨b, off, rfl, hc⟩ := h5 (fun e => hl (by rw [e]; simp))
  refine ⟨b, off, rfl, fun i hi => ?_⟩
  have hi' : i < n ∧ i < l.length := by simp at hi; omega
  rw [hc i hi'.2]
  simp [List.getD_eq_getElem?_getD, hi'.1]
theorem Fr.drewN {S : Nat → Prop} {w w1 : World} (h : Fr S w w1) (n : Nat) : Fr S w (w1.drewN n) := ⟨h.os, h.tape, h.output, h.size, h.block⟩
/-- what 'first' answers. -/
def FirstPost (w : World) (l : List Nat) (e : Ending) (w' : World) : Prop :=
  ∃ k n ab q cb, e = .returned (.tuple #[.int .u8 ((k : Nat) : Int), .slice ab (q : List Nat).length cb, .int .i64 ((n : Nat) : Int)]) ∧ Row w' ab q cb ∧ Hid (k = firstK l) ∧ Hid (q = firstB l) ∧ Hid (n = firstN l) ∧ (∀ a, ab = some a → w.heap.size ≤ a.block) ∧ k < 256 ∧ Fr (fun _ => False) w w'
theorem firstPost_no {w w' : World} {l : List Nat} (h : ¬ okRec l) (f : Fr (fun _ => False) w w') : FirstPost w l (.returned (.tuple #[.int .u8 0, .slice none 0 0, .int .i64 0])) w' :=
  ⟨0, 0, none, [], 0, rfl, row_nil _, by show _ = _; unfold firstK; rw [if_neg h], by show _ = _; unfold firstB; rw [if_neg h], (first_no h).symm, fun a e => (by cases e), by omega, f⟩
set_option maxRecDepth 100000 in
set_option maxHeartbeats 800000 in
theorem first_any (ao : Option Addr) (l : List Nat) (cap : Nat) (w : World) (ht : Tab w) (hr : Row w ao l cap) (hlen : l.length ≤ 1000000000) :
    Calls Tryd.prog 32 #[.slice ao l.length cap] w fun e w' => FirstPost w l e w' := by
  have K0 : Hid (Calls _ _ _ _ _) := read_gen w ao l cap hr
  have HR : Hid (Row w ao l cap) := hr
  have HT : Hid (Tab w) := ht
  clear hr ht
  by_cases hc : (⟨l, false⟩ : Rs).cnt maxRec
  · have HV : Hid (cntV ⟨l, false⟩ maxRec = Crc.num (l.take 4)) := by show _ = _; unfold cntV; rw [if_pos hc]
    have HS : Hid (cntS ⟨l, false⟩ maxRec = ⟨l.drop 4, false⟩) := by show _ = _; unfold cntS; rw [if_pos hc]
    have h4 : 4 ≤ l.length := hc.1.2
    obtain ⟨q, Hq⟩ : ∃ q, Hid (Crc.num (l.take 4) = q) := ⟨_, rfl⟩
    have hq : q ≤ 1048576 := by rw [← Hq.out]; exact hc.2
    have HC : Hid ((⟨l, false⟩ : Rs).cnt maxRec) := hc
    clear hc
    by_cases hlong : 9 + q ≤ l.length
    · obtain ⟨b, off, hao, _⟩ := HR.out.2.2.2.2 (fun e => by rw [e] at h4; simp at h4)
      subst hao
      obtain ⟨m, Hm⟩ : ∃ m, Hid (5 + q = m) := ⟨_, rfl⟩
      obtain ⟨z, Hz⟩ : ∃ z, Hid (m + 4 = z) := ⟨_, rfl⟩
      have e1 : (5 : Int) + (q : Int) = (m : Int) := by rw [← Hm.out]; omega
      have e2 : (m : Int) + 4 = (z : Int) := by rw [← Hz.out]; omega
      have hz : z ≤ l.length := by rw [← Hz.out, ← Hm.out]; omega
      have hcap : l.length ≤ cap := HR.out.1
      have hz0 : (0 : Int) ≤ (z : Int) := by omega
      have hzc : (z : Int) ≤ (cap : Int) := by omega
      have hm5 : 5 ≤ m := by rw [← Hm.out]; omega
      have HL9 : Hid ((l.take z).length = m + 4) := by show _ = _; rw [List.length_take, Nat.min_eq_left hz, Hz.out]
      have HTT : Hid ((l.take z).take m = l.take m) := by show _ = _; rw [List.take_take]; congr 1; have := Hz.out; omega
      have KO : Hid (∀ w2, Fr (fun _ => False) w w2 → Calls Tryd.prog 48 #[.slice (some ⟨b, off, none⟩) z cap] w2 fun e w' => Fr (fun _ => False) w2 w' ∧
          ((¬ okRec l ∧ e = .returned (.tuple #[.slice none 0 0, .int .i64 4])) ∨
           (okRec l ∧ ∃ a1, e = .returned (.tuple #[.slice a1 m m, .int .i64 0]) ∧ Fresh w2 w' a1 (l.take m)))) := by
        intro w2 f
        have := open_long b off (l.take z) m cap w2 (f.tab HT.out (by simp)) ((f.row HR.out (by simp)).takeC z) HL9.out (by rw [HL9.out, Hz.out]; omega)
        rw [Hz.out, HTT.out] at this
        refine this.mono ?_
        have hiff : okRec l ↔ Crc.num ((l.take z).drop m) = Crc.sum (l.take m) := by
          have e5 : 5 + Crc.num (l.take 4) = m := by rw [Hq.out, Hm.out]
          have e9 : 9 + Crc.num (l.take 4) = z := by rw [Hq.out]; have := Hm.out; have := Hz.out; omega
          constructor
          · intro h
            have := h.2.2
            rwa [e5, e9] at this
          · intro h
            exact ⟨HC.out, by rw [Hq.out]; exact hlong, by rw [e5, e9]; exact h⟩
        rintro e w' ⟨f', ⟨h1, h2⟩ | ⟨h1, h2⟩⟩
        · exact ⟨f', .inl ⟨fun h => h1 (hiff.1 h), h2⟩⟩
        · exact ⟨f', .inr ⟨hiff.2 h1, h2⟩⟩
      go_enter Tryd.func32, Tryd.ntmps32
      go_wp2_with fail
      refine K0.out.mono ?_
      rintro e w1 ⟨rfl, h1, f1⟩
      go_wp2_with fail
      refine (count_gen (s := ⟨l, false⟩) maxRec h1 (by decide)).mono ?_
      rintro e w2 ⟨v, s1, a1, c1, rfl, EV, ES, hv, h2, f2⟩
      have F2 : Hid (Fr (fun _ => False) w w2) := f1.trans' f2 (fun i hi e => by omega)
      have hs1 : s1 = ⟨l.drop 4, false⟩ := by rw [ES.out, HS.out]
      have hvq : v = q := by rw [EV.out, HV.out, Hq.out]
      subst hs1
      subst hvq
      simp only at h2
      have b0 := h2.c0
      have b1 := h2.c1
      have hdl : ¬ ((l.drop 4).length : Int) < 1 + (v : Int) + 4 := by rw [List.length_drop]; omega
      obtain ⟨dl, Hdl⟩ : ∃ dl, Hid ((l.drop 4).length = dl) := ⟨_, rfl⟩
      rw [Hdl.out] at hdl b0
      clear h1 f1 h2 f2
      go_wp2_with fail
      refine (bad_any w2 _ false b1).mono ?_
      rintro e w3 ⟨rfl, hw3⟩
      subst w3
      go_wp2_with fail
      refine (left_any w2 _ _ _ dl _ b0 rfl).mono ?_
      rintro e w3 ⟨rfl, hw3⟩
      subst w3
      go_wp2_with fail
      refine (KO.out w2 F2.out).mono ?_
      rintro e w4 ⟨f4, ⟨hno, rfl⟩ | ⟨hok, a4, rfl, hf4⟩⟩
      · have F4 : Hid (Fr (fun _ => False) w w4) := F2.out.trans f4
        have HNO : Hid (¬ okRec l) := hno
        clear f4 hno b0 b1
        go_wp2
        exact bodyPost_ret (v := .tuple #[.int .u8 0, .slice none 0 0, .int .i64 0]) (by simp [results, Tryd.results32, go_sem]) rfl (firstPost_no HNO.out F4.out)
      · have F4 : Hid (Fr (fun _ => False) w w4) := F2.out.trans f4
        have HOK : Hid (okRec l) := hok
        have HF4 : Hid (Fresh w2 w4 a4 (l.take m)) := hf4
        have hlm : (l.take m).length = m := by rw [List.length_take]; apply Nat.min_eq_left; have := Hz.out; omega
        have HLM : Hid _ := hlm
        obtain ⟨bb, bo, hab, hcells⟩ := hf4.1.2.2.2.2 (fun e => by rw [e] at hlm; simp at hlm; omega)
        subst hab
        have c4 := hcells 4 (by omega)
        obtain ⟨x, Hx⟩ : ∃ x, Hid ((l.take m).getD 4 0 = x) := ⟨_, rfl⟩
        rw [Hx.out] at c4
        have hx8 : x < 256 := by
          rw [← Hx.out, List.getD_eq_getElem?_getD, List.getElem?_eq_getElem (by omega)]
          exact hf4.1.2.2.1 _ (List.getElem_mem _)
        have HXK : Hid (x = firstK l) := by
          show _ = _
          unfold firstK
          rw [if_pos HOK.out, ← Hx.out]
          simp [List.getD_eq_getElem?_getD, show 4 < m by omega]
        have HBB : Hid ((l.take m).drop 5 = firstB l) := by
          show _ = _
          unfold firstB
          rw [if_pos HOK.out, Hq.out, Hm.out]
        have HNN : Hid (z = firstN l) := by
          show _ = _
          unfold firstN
          rw [if_pos HOK.out, Hq.out]
          have := Hm.out
          have := Hz.out
          omega
        have hnew := (hf4.2 _ rfl).1
        clear f4 hok hf4 hcells b0 b1
        by_cases h5 : m = 5
        · subst h5
          have hq0 : (l.take 5).drop 5 = [] := List.drop_eq_nil_of_le (by rw [HLM.out]; exact Nat.le_refl _)
          clear hlm
          go_wp2_with fail
          go_quiet (fail)
          go_wp2
          exact bodyPost_ret (v := .tuple #[.int .u8 (x : Int), .slice (some ⟨bb, bo, none⟩) 0 0, .int .i64 (z : Int)]) (by simp [results, Tryd.results32, go_sem]) rfl ⟨x, z, some ⟨bb, bo, none⟩, [], 0, rfl, ⟨Nat.le_refl _, Nat.zero_le _, by simp, fun e => (by cases e), fun e => absurd rfl e⟩, HXK.out, by show _ = _; rw [← HBB.out, hq0], HNN.out, fun a ha => by cases ha; exact Nat.le_trans F2.out.size hnew, hx8, F4.out.drewN nq⟩
        · have g5 : ¬ (m : Int) = 5 := by omega
          have k5 : (5 : Int) ≤ (m : Int) := by omega
          have hd5 : ((l.take m).drop 5).length = m - 5 := by rw [List.length_drop, HLM.out]
          clear hlm
          go_wp2_with fail
          go_quiet (fail)
          go_wp2
          have hrow : Row (w4.drewN nq) (some ⟨bb, bo + 5, none⟩) ((l.take m).drop 5) (m - 5) := ((Fr.refl (fun _ => False) w4).drewN nq).row (by
            have := HF4.out.1.drop (n := 5) (by rw [HLM.out]; exact hm5) ⟨bb, bo + 5, none⟩ (fun _ => by unfold Addr.add; split <;> simp_all)
            rw [HLM.out] at this
            exact this) (by simp)
          exact bodyPost_ret (v := .tuple #[.int .u8 (x : Int), .slice (some ⟨bb, bo + 5, none⟩) (m - 5) (m - 5), .int .i64 (z : Int)]) (by simp [results, Tryd.results32, go_sem]) rfl ⟨x, z, _, (l.take m).drop 5, m - 5, by rw [hd5], hrow, HXK.out, HBB.out, HNN.out, fun a ha => by cases ha; exact Nat.le_trans F2.out.size hnew, hx8, F4.out.drewN nq⟩
    · have HNO : Hid (¬ okRec l) := fun h => hlong (by have := h.2.1; rw [Hq.out] at this; exact this)
      go_enter Tryd.func32, Tryd.ntmps32
      go_wp2_with fail
      refine K0.out.mono ?_
      rintro e w1 ⟨rfl, h1, f1⟩
      go_wp2_with fail
      refine (count_gen (s := ⟨l, false⟩) maxRec h1 (by decide)).mono ?_
      rintro e w2 ⟨v, s1, a1, c1, rfl, EV, ES, hv, h2, f2⟩
      have F2 : Hid (Fr (fun _ => False) w w2) := f1.trans' f2 (fun i hi e => by omega)
      have hs1 : s1 = ⟨l.drop 4, false⟩ := by rw [ES.out, HS.out]
      have hvq : v = q := by rw [EV.out, HV.out, Hq.out]
      subst hs1
      subst hvq
      simp only at h2
      have b0 := h2.c0
      have b1 := h2.c1
      have hdl : ((l.drop 4).length : Int) < (v : Int) + 1 + 4 := by rw [List.length_drop]; omega
      obtain ⟨dl, Hdl⟩ : ∃ dl, Hid ((l.drop 4).length = dl) := ⟨_, rfl⟩
      rw [Hdl.out] at hdl b0
      clear h1 f1 h2 f2
      go_wp2_with fail
      refine (bad_any w2 _ false b1).mono ?_
      rintro e w3 ⟨rfl, hw3⟩
      subst w3
      go_wp2_with fail
      refine (left_any w2 _ _ _ dl _ b0 rfl).mono ?_
      rintro e w3 ⟨rfl, hw3⟩
      subst w3
      have g1 : (dl : Int) < 1 + (v : Int) + 4 := by omega
      go_wp2
      exact bodyPost_ret (v := .tuple #[.int .u8 0, .slice none 0 0, .int .i64 0]) (by simp [results, Tryd.results32, go_sem]) rfl (firstPost_no HNO.out F2.out)
  · have HS : Hid (cntS ⟨l, false⟩ maxRec = ⟨[], true⟩) := by show _ = _; unfold cntS; rw [if_neg hc]
    have HNO : Hid (¬ okRec l) := fun h => hc h.1
    clear hc
    go_enter Tryd.func32, Tryd.ntmps32
    go_wp2_with fail
    refine K0.out.mono ?_
    rintro e w1 ⟨rfl, h1, f1⟩
    go_wp2_with fail
    refine (count_gen (s := ⟨l, false⟩) maxRec h1 (by decide)).mono ?_
    rintro e w2 ⟨v, s1, a1, c1, rfl, EV, ES, hv, h2, f2⟩
    have F2 : Hid (Fr (fun _ => False) w w2) := f1.trans' f2 (fun i hi e => by omega)
    have hs1 : s1 = ⟨[], true⟩ := by rw [ES.out, HS.out]
    subst hs1
    simp only at h2
    have b1 := h2.c1
    clear h1 f1 h2 f2
    go_wp2_with fail
    refine (bad_any w2 _ true b1).mono ?_
    rintro e w3 ⟨rfl, hw3⟩
    subst w3
    go_wp2
    exact bodyPost_ret (v := .tuple #[.int .u8 0, .slice none 0 0, .int .i64 0]) (by simp [results, Tryd.results32, go_sem]) rfl (firstPost_no HNO.out F2.out)
end Go.Proofs.YtlcakglmheleeaaDoor
