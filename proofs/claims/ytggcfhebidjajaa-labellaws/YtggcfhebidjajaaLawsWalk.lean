/- The statement LabelLaws, walked. -/
import Derived.Test.YtggcfhebidjajaaOrdersWalk
import Derived.Test.YtggcfhebidjajaaLat3
namespace Go.Proofs.Ytggcfhebidjajaa
open Go.RowKit

theorem rem_nat (x n : Nat) (hx : x < 256) : (wrap64 (x : Int)).tmod (n : Int) = ((x % n : Nat) : Int) := by
  have h : wrap64 (x : Int) = (x : Int) := by simp [wrap64]; omega
  rw [h, Int.tmod_eq_emod_of_nonneg (by omega)]
  simp
theorem leq_nat (l : List Nat) (a b : Nat) (ha : a < l.length) (hb : b < l.length) : Lat.leq l (a : Int) (b : Int) = Lat.rel l a b := leq_in l a b ha hb
set_option maxHeartbeats 40000000 in
set_option maxRecDepth 100000 in
theorem laws_walk (n x y z : Int) (hn : (Lit.int .u8 n).wf = true) (hx : (Lit.int .u8 x).wf = true) (hy : (Lit.int .u8 y).wf = true) (hz : (Lit.int .u8 z).wf = true) (ao : Option Addr) (cap : Nat) (l : List Nat) (w : World) (hb : ∀ x ∈ l, x < 256) (h : Came .u8 w ao l) :
    Calls Try.prog 6 #[.int .u8 n, .slice ao l.length cap, .int .u8 x, .int .u8 y, .int .u8 z] w fun e w' => e = .returned (.bool true) ∧ Fr (fun _ => False) w w' := by
  obtain ⟨n, rfl, hn'⟩ := byte_of hn
  obtain ⟨x, rfl, hx'⟩ := byte_of hx
  obtain ⟨y, rfl, hy'⟩ := byte_of hy
  obtain ⟨z, rfl, hz'⟩ := byte_of hz
  clear hn hx hy hz
  go_enter Try.func6, Try.ntmps6
  go_wp2_with fail
  refine (awake_any w).mono ?_
  rintro e w1 ⟨rfl, f1⟩
  have h1 := order_all n hn' ao cap l w1 hb ⟨h.1, fun hne => by obtain ⟨b, off, rfl, hA⟩ := h.2 hne; exact ⟨b, off, rfl, hA.fr f1 (by simp)⟩⟩
  clear h hb
  go_wp2_with fail
  refine h1.mono ?_
  rintro e w2 ⟨g, L, rfl, hL1, hL2, hL3, hA, f2⟩
  clear h1
  cases hok : Lat.ok L with
  | false =>
    have h2 := new_bad g 0 L.length L w2 (by omega) hL1 hL3 hA hok
    unfold nilErr at h2
    clear hok
    go_wp2_with fail
    refine h2.mono ?_
    rintro e w3 ⟨rfl, f3⟩
    go_wp2
    go_ret
    exact ⟨rfl, (f1.trans f2).trans f3⟩
  | true =>
    have hF := fine_of L (by omega) hL1 hL3 hok
    have h2 := new_ok g 0 L.length L w2 (by omega) hL1 hL3 hA hok
    unfold madeAt at h2
    go_wp2_with fail
    refine h2.mono ?_
    rintro e w3 ⟨p, bu, cu, bd, bo, rfl, hL, _, _, _, _, f3⟩
    have f03 := (f1.trans f2).trans f3
    have kl := len_any w3 p bu cu L hL.c0
    obtain ⟨a, ea, ha⟩ : ∃ a : Nat, (wrap64 (x : Int)).tmod (L.length : Int) = (a : Int) ∧ a < L.length := ⟨x % L.length, rem_nat x L.length (by omega), Nat.mod_lt _ hL1⟩
    obtain ⟨b, eb, hb⟩ : ∃ b : Nat, (wrap64 (y : Int)).tmod (L.length : Int) = (b : Int) ∧ b < L.length := ⟨y % L.length, rem_nat y L.length (by omega), Nat.mod_lt _ hL1⟩
    obtain ⟨c, ec, hc⟩ : ∃ c : Nat, (wrap64 (z : Int)).tmod (L.length : Int) = (c : Int) ∧ c < L.length := ⟨z % L.length, rem_nat z L.length (by omega), Nat.mod_lt _ hL1⟩
    obtain ⟨j, hj, ej⟩ := Lat.join_get hok ha hb
    obtain ⟨m, hm, em⟩ := Lat.meet_get hok ha hb
    obtain ⟨jc, hjc, e5⟩ := Lat.join_get hok hj.1 hc
    obtain ⟨bc, hbc, e6⟩ := Lat.join_get hok hb hc
    obtain ⟨mc, hmc, e8⟩ := Lat.meet_get hok hm.1 hc
    obtain ⟨bm, hbm, e9⟩ := Lat.meet_get hok hb hc
    have e3 := Lat.join_of hok hb ha hj.comm
    have e4 := Lat.meet_of hok hb ha hm.comm
    have e7 := Lat.join_of hok ha hbc.1 (Lat.IsJoin.assoc hok ha hb hc hj hjc hbc)
    have e10 := Lat.meet_of hok ha hbm.1 (Lat.IsMeet.assoc hok ha hb hc hm hmc hbm)
    have e11 := Lat.join_of hok ha hm.1 (hm.absorb hok ha)
    have e12 := Lat.meet_of hok ha hj.1 (hj.absorb hok ha)
    have hjl := hj.1
    have hml := hm.1
    have hjcl := hjc.1
    have hbcl := hbc.1
    have hmcl := hmc.1
    have hbml := hbm.1
    have hle := hj.leq hok hb
    have e14 := Lat.bottom_le hok ha
    have e15 := Lat.top_ge hok ha
    have hrk := rank_mono hok ha hb
    have hbt := (Lat.order_get (l := L) (i := 0) hL1).2
    have htp := (Lat.order_get (l := L) (i := L.length - 1) (by omega)).2
    have kB := fun q => bottom_any (w3.drewN q) p bu cu bd bo L hF (hL.drewN q)
    have kT := fun q => top_any (w3.drewN q) p bu cu bd bo L hF (hL.drewN q)
    obtain ⟨bt, Hbt⟩ : ∃ v, Hid ((Lat.order L).getD 0 0 = v) := ⟨_, rfl⟩
    obtain ⟨tp, Htp⟩ : ∃ v, Hid ((Lat.order L).getD (L.length - 1) 0 = v) := ⟨_, rfl⟩
    rw [Hbt.out] at e14 hbt kB
    rw [Htp.out] at e15 htp kT
    have kJ : ∀ (q u v r : Nat), u < L.length → v < L.length → Lat.join L u v = (r : Int) → Calls Try.prog 16 #[.pointer (some ⟨p, 0, none⟩), .int .i64 (u : Int), .int .i64 (v : Int)] (w3.drewN q) fun e w' => e = .returned (.int .i64 (r : Int)) ∧ ∃ q', w' = (w3.drewN q).drewN q' := fun q u v r hu hv e => by
      have := join_any (w3.drewN q) p bu cu bd bo L u v hF (hL.drewN q)
      rw [show joinI L u v = (r : Int) by unfold joinI; rw [isI_in L u hu, isI_in L v hv]; exact e] at this
      exact this
    have kM : ∀ (q u v r : Nat), u < L.length → v < L.length → Lat.meet L u v = (r : Int) → Calls Try.prog 17 #[.pointer (some ⟨p, 0, none⟩), .int .i64 (u : Int), .int .i64 (v : Int)] (w3.drewN q) fun e w' => e = .returned (.int .i64 (r : Int)) ∧ ∃ q', w' = (w3.drewN q).drewN q' := fun q u v r hu hv e => by
      have := meet_any (w3.drewN q) p bu cu bd bo L u v hF (hL.drewN q)
      rw [show meetI L u v = (r : Int) by unfold meetI; rw [isI_in L u hu, isI_in L v hv]; exact e] at this
      exact this
    have kL : ∀ (q u v : Nat) (t : Bool), u < L.length → v < L.length → Lat.rel L u v = t → Calls Try.prog 18 #[.pointer (some ⟨p, 0, none⟩), .int .i64 (u : Int), .int .i64 (v : Int)] (w3.drewN q) fun e w' => e = .returned (.bool t) ∧ w' = w3.drewN q := fun q u v t hu hv e => by
      have := leq_any (w3.drewN q) p bu cu bd bo L u v hF (hL.drewN q)
      rw [leq_nat L u v hu hv, e] at this
      exact this
    have kR : ∀ (q u : Nat) (r : Int), u < L.length → rankI L (u : Int) = r → Calls Try.prog 21 #[.pointer (some ⟨p, 0, none⟩), .int .i64 (u : Int)] (w3.drewN q) fun e w' => e = .returned (.int .i64 r) ∧ w' = w3.drewN q := fun q u r hu e => by
      have := rank_any (w3.drewN q) p bu cu bd bo L u hF (hL.drewN q)
      rw [e] at this
      exact this
    have j0 := join_any w3 p bu cu bd bo L a b hF hL
    rw [show joinI L a b = (j : Int) by unfold joinI; rw [isI_in L a ha, isI_in L b hb]; exact ej] at j0
    have hn0 : ¬ L.length = 0 := by omega
    have hn0' : ((L.length : Int) == 0) = false := beq_eq_false_iff_ne.2 (by omega)
    have e2 := em
    clear h2 hok hF hL hj hm hjc hbc hmc hbm ej em hL3 hA hn' hx' hy' hz'
    have HB : Hid (∀ q, Calls _ _ _ _ _) := kB
    have HT : Hid (∀ q, Calls _ _ _ _ _) := kT
    have HJ : Hid (∀ (q u v r : Nat), u < L.length → v < L.length → Lat.join L u v = (r : Int) → Calls _ _ _ _ _) := kJ
    have HM : Hid (∀ (q u v r : Nat), u < L.length → v < L.length → Lat.meet L u v = (r : Int) → Calls _ _ _ _ _) := kM
    have HL : Hid (∀ (q u v : Nat) (t : Bool), u < L.length → v < L.length → Lat.rel L u v = t → Calls _ _ _ _ _) := kL
    have HR : Hid (∀ (q u : Nat) (r : Int), u < L.length → rankI L (u : Int) = r → Calls _ _ _ _ _) := kR
    have H0 : Hid (Calls _ _ _ _ _) := j0
    have HN : Hid (Calls _ _ _ _ _) := kl
    have E : Hid (Lat.meet L a b = (m : Int) ∧ Lat.join L b a = (j : Int) ∧ Lat.meet L b a = (m : Int) ∧ Lat.join L j c = (jc : Int) ∧ Lat.join L b c = (bc : Int) ∧ Lat.join L a bc = (jc : Int) ∧ Lat.meet L m c = (mc : Int) ∧ Lat.meet L b c = (bm : Int) ∧ Lat.meet L a bm = (mc : Int) ∧ Lat.join L a m = (a : Int) ∧ Lat.meet L a j = (a : Int) ∧ Lat.rel L bt a = true ∧ Lat.rel L a tp = true) := ⟨e2, e3, e4, e5, e6, e7, e8, e9, e10, e11, e12, e14, e15⟩
    have D : Hid (a < L.length ∧ b < L.length ∧ c < L.length ∧ j < L.length ∧ m < L.length ∧ jc < L.length ∧ bc < L.length ∧ mc < L.length ∧ bm < L.length ∧ bt < L.length ∧ tp < L.length) := ⟨ha, hb, hc, hjl, hml, hjcl, hbcl, hmcl, hbml, hbt, htp⟩
    clear kB kT kJ kM kL kR j0 kl e2 e3 e4 e5 e6 e7 e8 e9 e10 e11 e12 e14 e15 ha hb hc hjl hml hjcl hbcl hmcl hbml hbt htp
    cases e13' : Lat.rel L a b with
    | true =>
      have hjb := hle.1 e13'
      have hrr := hrk e13'
      obtain ⟨ra, e16⟩ : ∃ r, Hid (rankI L (a : Int) = r) := ⟨_, rfl⟩
      obtain ⟨rb, e17⟩ : ∃ r, Hid (rankI L (b : Int) = r) := ⟨_, rfl⟩
      rw [e16.out, e17.out] at hrr
      have e13 : Hid _ := e13'
      have hjb' : ((j : Int) == (b : Int)) = true := by rw [hjb]; simp
      clear hle hrk e13' hjb
      go_wp2_with fail
      refine (HN.out).mono ?_
      rintro e w9 ⟨rfl, hw⟩
      subst w9
      go_wp2_with fail
      refine (HN.out).mono ?_
      rintro e w9 ⟨rfl, hw⟩
      subst w9
      go_wp2_with fail
      refine (HN.out).mono ?_
      rintro e w9 ⟨rfl, hw⟩
      subst w9
      go_wp2_with fail
      refine (H0.out).mono ?_
      rintro e w9 ⟨rfl, q, hw⟩
      subst w9
      go_wp2_with fail
      refine (HM.out _ a b m D.out.1 D.out.2.1 E.out.1).mono ?_
      rintro e w9 ⟨rfl, q, hw⟩
      subst w9
      go_wp2_with fail
      refine (HJ.out _ b a j D.out.2.1 D.out.1 E.out.2.1).mono ?_
      rintro e w9 ⟨rfl, q, hw⟩
      subst w9
      go_wp2_with fail
      refine (HM.out _ b a m D.out.2.1 D.out.1 E.out.2.2.1).mono ?_
      rintro e w9 ⟨rfl, q, hw⟩
      subst w9
      go_wp2_with fail
      refine (HJ.out _ j c jc D.out.2.2.2.1 D.out.2.2.1 E.out.2.2.2.1).mono ?_
      rintro e w9 ⟨rfl, q, hw⟩
      subst w9
      go_wp2_with fail
      refine (HJ.out _ b c bc D.out.2.1 D.out.2.2.1 E.out.2.2.2.2.1).mono ?_
      rintro e w9 ⟨rfl, q, hw⟩
      subst w9
      go_wp2_with fail
      refine (HJ.out _ a bc jc D.out.1 D.out.2.2.2.2.2.2.1 E.out.2.2.2.2.2.1).mono ?_
      rintro e w9 ⟨rfl, q, hw⟩
      subst w9
      go_wp2_with fail
      refine (HM.out _ m c mc D.out.2.2.2.2.1 D.out.2.2.1 E.out.2.2.2.2.2.2.1).mono ?_
      rintro e w9 ⟨rfl, q, hw⟩
      subst w9
      go_wp2_with fail
      refine (HM.out _ b c bm D.out.2.1 D.out.2.2.1 E.out.2.2.2.2.2.2.2.1).mono ?_
      rintro e w9 ⟨rfl, q, hw⟩
      subst w9
      go_wp2_with fail
      refine (HM.out _ a bm mc D.out.1 D.out.2.2.2.2.2.2.2.2.1 E.out.2.2.2.2.2.2.2.2.1).mono ?_
      rintro e w9 ⟨rfl, q, hw⟩
      subst w9
      go_wp2_with fail
      refine (HJ.out _ a m a D.out.1 D.out.2.2.2.2.1 E.out.2.2.2.2.2.2.2.2.2.1).mono ?_
      rintro e w9 ⟨rfl, q, hw⟩
      subst w9
      go_wp2_with fail
      refine (HM.out _ a j a D.out.1 D.out.2.2.2.1 E.out.2.2.2.2.2.2.2.2.2.2.1).mono ?_
      rintro e w9 ⟨rfl, q, hw⟩
      subst w9
      go_wp2_with fail
      refine (HL.out _ a b true D.out.1 D.out.2.1 e13.out).mono ?_
      rintro e w9 ⟨rfl, hw⟩
      subst w9
      go_wp2_with fail
      refine (HB.out _).mono ?_
      rintro e w9 ⟨rfl, hw⟩
      subst w9
      go_wp2_with fail
      refine (HL.out _ bt a true D.out.2.2.2.2.2.2.2.2.2.1 D.out.1 E.out.2.2.2.2.2.2.2.2.2.2.2.1).mono ?_
      rintro e w9 ⟨rfl, hw⟩
      subst w9
      go_wp2_with fail
      refine (HT.out _).mono ?_
      rintro e w9 ⟨rfl, q, hw⟩
      subst w9
      go_wp2_with fail
      refine (HL.out _ a tp true D.out.1 D.out.2.2.2.2.2.2.2.2.2.2 E.out.2.2.2.2.2.2.2.2.2.2.2.2).mono ?_
      rintro e w9 ⟨rfl, hw⟩
      subst w9
      go_wp2_with fail
      refine (HL.out _ a b true D.out.1 D.out.2.1 e13.out).mono ?_
      rintro e w9 ⟨rfl, hw⟩
      subst w9
      go_wp2_with fail
      refine (HR.out _ a ra D.out.1 e16.out).mono ?_
      rintro e w9 ⟨rfl, hw⟩
      subst w9
      go_wp2_with fail
      refine (HR.out _ b rb D.out.2.1 e17.out).mono ?_
      rintro e w9 ⟨rfl, hw⟩
      subst w9
      go_wp2
      go_ret
      exact ⟨rfl, f03.drewN _⟩
    | false =>
      have hjb : ¬ (j : Int) = (b : Int) := fun e => by
        have := hle.2 (by omega)
        rw [e13'] at this
        cases this
      have e13 : Hid _ := e13'
      clear hle hrk e13'
      go_wp2_with fail
      refine (HN.out).mono ?_
      rintro e w9 ⟨rfl, hw⟩
      subst w9
      go_wp2_with fail
      refine (HN.out).mono ?_
      rintro e w9 ⟨rfl, hw⟩
      subst w9
      go_wp2_with fail
      refine (HN.out).mono ?_
      rintro e w9 ⟨rfl, hw⟩
      subst w9
      go_wp2_with fail
      refine (H0.out).mono ?_
      rintro e w9 ⟨rfl, q, hw⟩
      subst w9
      go_wp2_with fail
      refine (HM.out _ a b m D.out.1 D.out.2.1 E.out.1).mono ?_
      rintro e w9 ⟨rfl, q, hw⟩
      subst w9
      go_wp2_with fail
      refine (HJ.out _ b a j D.out.2.1 D.out.1 E.out.2.1).mono ?_
      rintro e w9 ⟨rfl, q, hw⟩
      subst w9
      go_wp2_with fail
      refine (HM.out _ b a m D.out.2.1 D.out.1 E.out.2.2.1).mono ?_
      rintro e w9 ⟨rfl, q, hw⟩
      subst w9
      go_wp2_with fail
      refine (HJ.out _ j c jc D.out.2.2.2.1 D.out.2.2.1 E.out.2.2.2.1).mono ?_
      rintro e w9 ⟨rfl, q, hw⟩
      subst w9
      go_wp2_with fail
      refine (HJ.out _ b c bc D.out.2.1 D.out.2.2.1 E.out.2.2.2.2.1).mono ?_
      rintro e w9 ⟨rfl, q, hw⟩
      subst w9
      go_wp2_with fail
      refine (HJ.out _ a bc jc D.out.1 D.out.2.2.2.2.2.2.1 E.out.2.2.2.2.2.1).mono ?_
      rintro e w9 ⟨rfl, q, hw⟩
      subst w9
      go_wp2_with fail
      refine (HM.out _ m c mc D.out.2.2.2.2.1 D.out.2.2.1 E.out.2.2.2.2.2.2.1).mono ?_
      rintro e w9 ⟨rfl, q, hw⟩
      subst w9
      go_wp2_with fail
      refine (HM.out _ b c bm D.out.2.1 D.out.2.2.1 E.out.2.2.2.2.2.2.2.1).mono ?_
      rintro e w9 ⟨rfl, q, hw⟩
      subst w9
      go_wp2_with fail
      refine (HM.out _ a bm mc D.out.1 D.out.2.2.2.2.2.2.2.2.1 E.out.2.2.2.2.2.2.2.2.1).mono ?_
      rintro e w9 ⟨rfl, q, hw⟩
      subst w9
      go_wp2_with fail
      refine (HJ.out _ a m a D.out.1 D.out.2.2.2.2.1 E.out.2.2.2.2.2.2.2.2.2.1).mono ?_
      rintro e w9 ⟨rfl, q, hw⟩
      subst w9
      go_wp2_with fail
      refine (HM.out _ a j a D.out.1 D.out.2.2.2.1 E.out.2.2.2.2.2.2.2.2.2.2.1).mono ?_
      rintro e w9 ⟨rfl, q, hw⟩
      subst w9
      go_wp2_with fail
      refine (HL.out _ a b false D.out.1 D.out.2.1 e13.out).mono ?_
      rintro e w9 ⟨rfl, hw⟩
      subst w9
      go_wp2_with fail
      refine (HB.out _).mono ?_
      rintro e w9 ⟨rfl, hw⟩
      subst w9
      go_wp2_with fail
      refine (HL.out _ bt a true D.out.2.2.2.2.2.2.2.2.2.1 D.out.1 E.out.2.2.2.2.2.2.2.2.2.2.2.1).mono ?_
      rintro e w9 ⟨rfl, hw⟩
      subst w9
      go_wp2_with fail
      refine (HT.out _).mono ?_
      rintro e w9 ⟨rfl, q, hw⟩
      subst w9
      go_wp2_with fail
      refine (HL.out _ a tp true D.out.1 D.out.2.2.2.2.2.2.2.2.2.2 E.out.2.2.2.2.2.2.2.2.2.2.2.2).mono ?_
      rintro e w9 ⟨rfl, hw⟩
      subst w9
      go_wp2_with fail
      refine (HL.out _ a b false D.out.1 D.out.2.1 e13.out).mono ?_
      rintro e w9 ⟨rfl, hw⟩
      subst w9
      go_wp2
      go_ret
      exact ⟨ret_bool (by rw [beq_eq_false_iff_ne.2 hjb]; rfl), f03.drewN _⟩
end Go.Proofs.Ytggcfhebidjajaa
