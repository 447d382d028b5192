/- The statement PolicyBytes, walked. -/
import Derived.Test.YtlneneacbjkheaaBytesB
import Derived.Deep.RegionHeld3
namespace Go.Proofs.Ytlneneacbjkheaa
open Go.RowKit
attribute [local go_sem] run_store_float
set_option maxRecDepth 100000 in
set_option maxHeartbeats 16000000 in
theorem bytes_any (ao : Option Addr) (l : List Nat) (cap : Nat) (po : Option Addr) (p : List Nat) (pcap : Nat) (at_ turn : Nat) (w : World) (hr : Row w ao l cap) (hp : Row w po p pcap) (hat : at_ < 65536) (hturn : turn < 256) (hlong : l.length ≤ 300) (hplong : p.length ≤ 1000) : Calls Try.prog 6 #[.slice ao l.length cap, .slice po p.length pcap, .int .u16 (at_ : Int), .int .u8 (turn : Int)] w fun e w' => e = .returned (.bool true) ∧ Fr (fun _ => False) w w' := by
  have HR : Hid (Row w ao l cap) := hr
  have HP : Hid (Row w po p pcap) := hp
  have hl1 := hr.1
  have hl2 := hr.2.1
  have hp1 := hp.1
  have hp2 := hp.2.1
  unfold maxLen at hl2 hp2
  have hlong' : ¬ 300 < l.length := by omega
  have hplong' : ¬ 1000 < p.length := by omega
  clear hr hp
  go_enter Try.func6, Try.ntmps6
  go_wp2_with fail
  refine (awake_any w).mono ?_
  rintro e w1 ⟨rfl, f1⟩
  have F1 : Hid (Fr (fun _ => False) w w1) := f1
  have FA : Hid (Fr (fun _ => False) w1 (w1.alloc (.cells #[.slice ao l.length cap, .int .i64 0] 26))) := (Fr.refl _ _).alloc _
  have HT1 : Hid (Tp (w1.alloc (.cells #[.slice ao l.length cap, .int .i64 0] 26)) w1.heap.size ao l cap 0) := by
    refine ⟨by simp, by simp, by simp, FA.out.row (F1.out.row HR.out (by simp)) (by simp), Nat.zero_le _, fun hl a ha e => ?_⟩
    have := row_blk HR.out hl a ha
    have := F1.out.size
    omega
  clear f1
  go_wp2_with fail
  refine (new_any _ _ (Nat.le_refl _)).mono ?_
  rintro e w2 ⟨rfl, hb2, f2⟩
  obtain ⟨tb, Htb⟩ : ∃ tb, Hid (w1.heap.size = tb) := ⟨_, rfl⟩
  have hs2 : (w1.alloc (.cells #[.slice ao l.length cap, .int .i64 0] 26)).heap.size = tb + 1 := by rw [← Htb.out]; simp
  rw [hs2] at hb2 ⊢
  rw [Htb.out] at HT1 ⊢
  have HW : Hid (w.heap.size ≤ tb) := by show _ ≤ _; rw [← Htb.out]; exact F1.out.size
  have HT2 : Hid (Tp w2 tb ao l cap 0) := HT1.out.fr f2 (by simp) (by simp)
  have HS2 : Hid (St w w2 (tb + 1) tb [] (.slice none 0 0) none 0) := ⟨hb2, OwnF.nil _ _ _, oneOpen_nil, fun j hj => (by simp [Value.ownBlock] at hj), fun j hj => (by simp [Value.ownBlock] at hj), by omega⟩
  have F2 : Hid (Fr (fun _ => False) w w2) := (F1.out.trans FA.out).trans f2
  obtain ⟨bb, Hbb⟩ : ∃ bb, Hid (tb + 1 = bb) := ⟨_, rfl⟩
  rw [Hbb.out] at HS2 ⊢
  clear hb2 f2 hs2 HT1 FA
  go_wp2
  go_loopw [11, 12] (fun mv iv wr => ∃ (k : Nat) (gs : List Gr) (v : Value) (ma : Option Addr) (mc j : Nat), k ≤ 8 ∧ iv = .int .i64 (k : Int) ∧ mv = .slice ma gs.length mc ∧ Hid (gs.length = k) ∧ Hid (St w wr bb tb gs v ma mc) ∧ Hid (Tp wr tb ao l cap j) ∧ Hid (Lastly gs) ∧ Hid (∀ x ∈ gs, x.Sm) ∧ Fr (fun _ => False) w wr) (fun _ iv _ => 8 - (intOf iv).toNat)
  case atStart => exact ⟨0, [], _, none, 0, 0, by omega, rfl, rfl, rfl, HS2.out, HT2.out, lastly_nil, (show ∀ x ∈ ([] : List Gr), x.Sm by simp), F2.out⟩
  case round =>
    obtain ⟨k, gs, v, ma, mc, j, hk, rfl, rfl, HGK, HS, HT, HLY, HSM, hfr⟩ := hrel
    have HF : Hid (Fr (fun _ => False) w wr) := hfr
    have hml := HS.out.lens
    clear hfr
    by_cases hlt : k < 8
    · have k1 : (k : Int) < 8 := by omega
      have HTW : Hid (l ≠ [] → ∀ a, ao = some a → a.block < w.heap.size) := row_blk HR.out
      have K2 : Hid (Calls _ _ _ _ _) := ofrule_s HT.out (fun hl a ha => Nat.lt_of_lt_of_le (HTW.out hl a ha) HF.out.size)
      go_wp2_with fail
      refine K2.out.mono ?_
      rintro e w4 ⟨x, rfl, hx, ⟨j4, ht4⟩, f4⟩
      have HX : Hid x.Sm := hx
      have G4 : Hid (Fr (fun k => k = tb) wr (w4.alloc (.cells #[.int .u64 (x.id : Int), .int .i64 x.fr, .int .i64 x.tt, .float .f64 x.lo, .float .f64 x.hi, .int .u64 (x.au : Int), .int .i64 x.qu] 34))) := f4.alloc _
      have HS4 : Hid (St w (w4.alloc (.cells #[.int .u64 (x.id : Int), .int .i64 x.fr, .int .i64 x.tt, .float .f64 x.lo, .float .f64 x.hi, .int .u64 (x.au : Int), .int .i64 x.qu] 34)) bb tb gs v ma mc) := HS.out.fr G4.out (fun k _ e => e)
      have HF4 : Hid (Fr (fun _ => False) w (w4.alloc (.cells #[.int .u64 (x.id : Int), .int .i64 x.fr, .int .i64 x.tt, .float .f64 x.lo, .float .f64 x.hi, .int .u64 (x.au : Int), .int .i64 x.qu] 34))) := HF.out.trans' G4.out (fun i hi e => by have := HW.out; omega)
      have HT4 : Hid (Tp (w4.alloc (.cells #[.int .u64 (x.id : Int), .int .i64 x.fr, .int .i64 x.tt, .float .f64 x.lo, .float .f64 x.hi, .int .u64 (x.au : Int), .int .i64 x.qu] 34)) tb ao l cap j4) := ht4.fr ((Fr.refl (fun _ => False) _).alloc _) (by simp) (by simp)
      have HBX : Hid (Bx (w4.alloc (.cells #[.int .u64 (x.id : Int), .int .i64 x.fr, .int .i64 x.tt, .float .f64 x.lo, .float .f64 x.hi, .int .u64 (x.au : Int), .int .i64 x.qu] 34)) w4.heap.size x) := Bx.new w4 x
      have HTX : Hid (tb < w4.heap.size) := ht4.lt
      obtain ⟨xb, Hxb⟩ : ∃ xb, Hid (w4.heap.size = xb) := ⟨_, rfl⟩
      have K3 : Hid (Calls _ _ _ _ _) := next_any HT4.out 6 (by omega) (by omega)
      rw [Hxb.out] at HBX HTX
      clear hx ht4 f4 K2 G4
      go_wp2_with fail
      rw [Hxb.out]
      refine K3.out.mono ?_
      rintro e w5 ⟨r3, rfl, hr3, ⟨j5, ht5⟩, f5⟩
      have HS5 : Hid (St w w5 bb tb gs v ma mc) := HS4.out.fr f5 (fun k _ e => e)
      have HT5 : Hid (Tp w5 tb ao l cap j5) := ht5
      have HF5 : Hid (Fr (fun _ => False) w w5) := HF4.out.trans' f5 (fun i hi e => by have := HW.out; omega)
      have HB5 : Hid (Bx w5 xb x) := HBX.out.fr f5 (by have := HTX.out; omega)
      have c50 := HB5.out.c0
      have p1 : (0 : Int) ≤ (r3 : Int) := by omega
      have p2 : (r3 : Int) < 6 := by omega
      have K4 : Hid (Calls _ _ _ _ _) := refrev_any ma gs mc x.id r3 w5 HS5.out.row (by have := HGK.out; omega)
      obtain ⟨ln, lok, hL⟩ := lastAt_ex gs (fun y => decide (y.r.id = x.id) && y.open)
      obtain ⟨hE, hE2⟩ := end_rev r3 HS5.out.one hL
      obtain ⟨g2, Hg2⟩ : ∃ g2, Hid (gs.map (revX x.id (max r3 1)) = g2) := ⟨_, rfl⟩
      have HL : Hid (LastAt gs (fun y => decide (y.r.id = x.id) && y.open) ln lok) := hL
      have HE : Hid (endG gs ln lok r3 = g2) := hE.trans Hg2.out
      have HGL : Hid (g2.length = gs.length) := by show _ = _; rw [← Hg2.out, List.length_map]
      rw [Hg2.out, ← hE2] at K4
      clear ht5 f5 K3 hL hE hE2
      go_wp2_with fail
      refine K4.out.mono ?_
      rintro e w6 ⟨v6, rfl, ho6, f6⟩
      obtain ⟨a6, c6, hv6, _, _⟩ := ho6.row
      subst hv6
      have h6l := ho6.form
      obtain ⟨_, _, he6, hf6⟩ := h6l
      cases he6
      have HO6 : Hid (OwnF w6 w5.heap.size 40 (.slice a6 g2.length c6) g2) := ho6
      have HS6 : Hid (St w w6 bb tb gs v ma mc) := HS5.out.fr f6 (fun k _ e => e.elim)
      have HF6 : Hid (Fr (fun _ => False) w w6) := HF5.out.trans f6
      have HT6 : Hid (Tp w6 tb ao l cap j5) := HT5.out.fr f6 (by simp) (by simp)
      have HB6 : Hid (Bx w6 xb x) := HB5.out.fr f6 (by simp)
      have HZ6 : Hid (w5.heap.size ≤ w6.heap.size) := f6.size
      obtain ⟨d0, d1, d2, d3, d4, d5, d6, _⟩ := HB6.out
      have FL : Hid (Fr (fun _ => False) w6 (w6.alloc (.cells #[.int .u64 (x.id : Int), .int .i64 x.fr, .int .i64 x.tt, .float .f64 x.lo, .float .f64 x.hi, .int .u64 (x.au : Int), .int .i64 x.qu, .int .u64 (r3 : Int), .int .u64 0] 40))) := (Fr.refl _ _).alloc _
      have HOA : Hid (OwnF (w6.alloc (.cells #[.int .u64 (x.id : Int), .int .i64 x.fr, .int .i64 x.tt, .float .f64 x.lo, .float .f64 x.hi, .int .u64 (x.au : Int), .int .i64 x.qu, .int .u64 (r3 : Int), .int .u64 0] 40)) w5.heap.size 40 (.slice a6 g2.length c6) g2) := HO6.out.fr FL.out (by simp)
      have HONE : Hid (∀ j u, (flat [(⟨x, r3, 0⟩ : Gr)])[j]? = some u → (w6.alloc (.cells #[.int .u64 (x.id : Int), .int .i64 x.fr, .int .i64 x.tt, .float .f64 x.lo, .float .f64 x.hi, .int .u64 (x.au : Int), .int .i64 x.qu, .int .u64 (r3 : Int), .int .u64 0] 40)).cell? ((⟨w6.heap.size, 0, none⟩ : Addr).add j) = some u) := one_f w6 (⟨x, r3, 0⟩ : Gr) 40 _ rfl
      have HBS : Hid (w5.heap.size ≤ (w6.alloc (.cells #[.int .u64 (x.id : Int), .int .i64 x.fr, .int .i64 x.tt, .float .f64 x.lo, .float .f64 x.hi, .int .u64 (x.au : Int), .int .i64 x.qu, .int .u64 (r3 : Int), .int .u64 0] 40)).heap.size) := Nat.le_trans HZ6.out FL.out.size
      clear ho6 f6 K4 c50
      go_wp2_with (at_builtin; refine wpList_append_f (α := Gr) rfl (.tmp 57) (.tmp 61) 29 40 rfl Try.underlying29 _ 72 Try.info40 rfl (by decide) w5.heap.size _ _ rfl HOA.out ⟨w6.heap.size, 0, none⟩ [(⟨x, r3, 0⟩ : Gr)] 1 rfl HONE.out HBS.out (by have := HGL.out; have := HGK.out; simp; omega) ?_)
      intro v7 w7 ho7 hg7 hat7
      have HGL7 : Hid ((g2 ++ [(⟨x, r3, 0⟩ : Gr)]).length = gs.length + 1) := by show _ = _; rw [List.length_append, HGL.out]; rfl
      obtain ⟨g7, Hg7⟩ : ∃ g7, Hid (g2 ++ [(⟨x, r3, 0⟩ : Gr)] = g7) := ⟨_, rfl⟩
      rw [Hg7.out] at ho7 HGL7
      obtain ⟨a7, c7, hv7, _, _⟩ := ho7.row
      subst hv7
      have HO7 : Hid (OwnF w7 w5.heap.size 40 (.slice a7 g7.length c7) g7) := ho7
      have HG6 : Hid (Fr (fun k => w5.heap.size ≤ k) w6 w7) := (FL.out.mono (fun _ _ h => h.elim)).grown hg7 (fun k hk => .inl ((HO6.out.lt k hk).1))
      have h7l : g7.length ≤ 9223372036854775807 ∧ c7 ≤ 9223372036854775807 ∧ g7.length ≤ c7 := by
        obtain ⟨_, _, he, h⟩ := ho7.form
        cases he
        exact h
      have HBL : Hid (bb < w5.heap.size ∧ tb < w5.heap.size ∧ xb < w5.heap.size) := ⟨HS5.out.b.lt, HT5.out.lt, HB5.out.lt⟩
      have HV : Hid (∀ j, v.ownBlock = some j → bb ≤ j ∧ j < w5.heap.size) := fun j hj => HS5.out.b.own.lt j hj
      have HF7 : Hid (Fr (fun _ => False) w w7) := HF6.out.trans' HG6.out (fun i hi e => by have := HF5.out.size; omega)
      have HT7 : Hid (Tp w7 tb ao l cap j5) := HT6.out.fr HG6.out (by have := HBL.out; omega) (fun hl a ha e => by have := HTW.out hl a ha; have := HF5.out.size; omega)
      have HBK7 : Hid (Bk w7 bb bb gs v) := HS6.out.b.fr HG6.out (by have := HBL.out; omega) (fun k hk e => by have := (HV.out k hk).2; omega)
      have HB7 : Hid (Bx w7 xb x) := HB6.out.fr HG6.out (by have := HBL.out; omega)
      have K5 : Hid (Calls _ _ _ _ _) := grant_any HBK7.out x HX.out.ok r3 (by omega) (by have := HGK.out; omega) ln lok HL.out
      rw [HE.out, Hg7.out] at K5
      obtain ⟨q0, q1, q2, q3, q4, q5, q6, _⟩ := HB7.out
      clear ho7 hg7 hat7 d0 d1 d2 d3 d4 d5 d6 HOA HONE HBS FL
      go_wp2_with fail
      refine K5.out.mono ?_
      rintro e w8 ⟨rfl, ⟨v8, hb8, hv8⟩, f8⟩
      have hsep : ∀ k, (Value.slice a7 g7.length c7).ownBlock = some k → ¬ (v.ownBlock = some k ∨ k = bb) := fun k hk e => by
        have h1 := (HO7.out.lt k hk).1
        rcases e with e | e
        · have := (HV.out k e).2; omega
        · have := HBL.out; omega
      have HO8 : Hid (OwnF w8 w5.heap.size 40 (.slice a7 g7.length c7) g7) := HO7.out.fr f8 hsep
      have HS8 : Hid (St w w8 bb tb g7 v8 a7 c7) := ⟨hb8, HO8.out.rebase HF5.out.size, by rw [← Hg7.out, ← Hg2.out]; exact oneOpen_snoc HS5.out.one (by omega), fun j hj => by
        have h1 := (HO7.out.lt j hj).1
        have h1b := (HO7.out.lt j hj).2
        have h2 := HBL.out
        refine ⟨by omega, fun e => ?_, by omega⟩
        rcases hv8 j e with h | h
        · have := (HV.out j h).2; omega
        · omega, fun j hj e => by
        rcases hv8 j hj with h | h
        · exact HS5.out.vb j h e
        · have := HT7.out.lt; omega, HS5.out.ne⟩
      have HF8 : Hid (Fr (fun _ => False) w w8) := HF7.out.trans' f8 (fun i hi e => by
        have := HW.out
        have := Hbb.out
        rcases e with e | e
        · have := (HV.out i e).1; omega
        · omega)
      have HT8 : Hid (Tp w8 tb ao l cap j5) := HT7.out.fr f8 (fun e => by
        rcases e with e | e
        · exact HS5.out.vb tb e rfl
        · exact HS5.out.ne e.symm) (fun hl a ha e => by
        have := HTW.out hl a ha
        have := HW.out
        have := Hbb.out
        rcases e with e | e
        · have := (HV.out _ e).1; omega
        · omega)
      have HLY8 : Hid (Lastly g7) := by show Lastly g7; rw [← Hg7.out, ← Hg2.out]; exact lastly_snoc HLY.out (by omega)
      have HSM8 : Hid (∀ x ∈ g7, x.Sm) := by show ∀ x ∈ g7, x.Sm; rw [← Hg7.out, ← Hg2.out]; exact sm_snoc HSM.out HX.out (by omega) (by omega)
      clear hb8 hv8 f8 K5 q0 q1 q2 q3 q4 q5 q6 hsep
      go_wp2
      go_roundw
      case rel => exact ⟨k + 1, g7, v8, a7, c7, j5, by omega, by go_num, rfl, (show g7.length = k + 1 by have := HGL7.out; have := HGK.out; omega), HS8.out, HT8.out, HLY8.out, HSM8.out, HF8.out⟩
      case measure => simp [intOf]; omega
    · obtain rfl : k = 8 := by omega
      have HPW : Hid (Row wr po p pcap) := HF.out.row HP.out (by simp)
      have KE : Hid (∀ W, Fr (fun _ => False) wr W → Calls Try.prog 21 #[.pointer (some ⟨bb, 0, none⟩)] W fun e w' => ∃ a1, e = .returned (.slice a1 (encB gs).length (encB gs).length) ∧ Fresh W w' a1 (encB gs) ∧ Fr (fun _ => False) W w') := fun W f => enc_any (HS.out.b.fr f (by simp) (by simp)) (fun x hx => (HSM.out x hx).in) (by have := HGK.out; omega)
      have HEL : Hid ((encB gs).length = 436) := by show _ = _; rw [encB_length, HGK.out]
      have HGL : Hid (gs.length ≤ 1000) := by have h := HGK.out; show gs.length ≤ 1000; omega
      go_wp2_with fail
      refine (KE.out _ (Fr.refl _ _)).mono ?_
      rintro e w3 ⟨a3, rfl, hf3, f3⟩
      have F3 : Hid (Fr (fun _ => False) wr w3) := f3
      have KD : Hid (Calls _ _ _ _ _) := dec_yes a3 gs (encB gs).length w3 hf3.1 HSM.out HLY.out HGL.out
      clear hf3 f3
      go_wp2_with fail
      refine KD.out.mono ?_
      rintro e w4 ⟨f4, cb, cv, rfl, hcb, hcb2⟩
      have F4 : Hid (Fr (fun _ => False) wr w4) := F3.out.trans f4
      have HCB : Hid (Bk w4 cb cb gs cv) := hcb
      have KC : Hid (∀ W, Fr (fun _ => False) w4 W → Calls Try.prog 21 #[.pointer (some ⟨cb, 0, none⟩)] W fun e w' => ∃ a1, e = .returned (.slice a1 (encB gs).length (encB gs).length) ∧ Fresh W w' a1 (encB gs) ∧ Fr (fun _ => False) W w') := fun W f => enc_any (HCB.out.fr f (by simp) (by simp)) (fun x hx => (HSM.out x hx).in) (by have := HGL.out; omega)
      have KB : Hid (∀ W, Fr (fun _ => False) w4 W → Calls Try.prog 21 #[.pointer (some ⟨bb, 0, none⟩)] W fun e w' => ∃ a1, e = .returned (.slice a1 (encB gs).length (encB gs).length) ∧ Fresh W w' a1 (encB gs) ∧ Fr (fun _ => False) W w') := fun W f => KE.out W (F4.out.trans f)
      have KT : Hid (∀ W, Fr (fun _ => False) w4 W → Calls Try.prog 15 #[.pointer (some ⟨cb, 0, none⟩), .slice ma gs.length mc] W fun e w' => e = .returned (.bool true) ∧ Fr (fun _ => False) W w') := fun W f => told_any (HCB.out.fr f (by simp) (by simp)) ma mc (HS.out.row.fr (F4.out.trans f) (by simp)) (by have := HGL.out; omega)
      clear f4 hcb hcb2 KD
      go_wp2_with fail
      have HD : Hid (Fr (fun _ => False) w4 w4.drew) := (Fr.refl _ w4).drewN 1
      go_region_held (fun _ => True) (first | trivial) (first | (go_at_call 21; refine (KB.out _ f66.out).mono ?_; rintro e w7 ⟨a7, rfl, hf7, f7⟩; have f77 : Hid (Fr (fun _ => False) w4 w7) := f66.out.trans f7; have hs7 := run_str _ _ _ _ hf7.1; have hs6b := run_str _ _ _ _ (f7.row H6.out (by simp)); clear hf7 f7) | (go_at_call 21; refine (KC.out _ f55.out).mono ?_; rintro e w6 ⟨a6, rfl, hf6, f6⟩; have f66 : Hid (Fr (fun _ => False) w4 w6) := f55.out.trans f6; have H6 : Hid (Row w6 a6 (encB gs) (encB gs).length) := hf6.1; have hs6 := run_str _ _ _ _ hf6.1; clear hf6 f6) | (go_at_call 15; refine (KT.out _ HD.out).mono ?_; rintro e w5 ⟨rfl, f5⟩; have f55 : Hid (Fr (fun _ => False) w4 w5) := HD.out.trans f5; clear f5))
      all_goals (clear hs7 hs6 hs6b H6 f66 f55)
      all_goals (
        have F7 : Hid (Fr (fun _ => False) wr w7) := F4.out.trans f77.out
        have HPW7 : Hid (Row w7 po p pcap) := F7.out.row HPW.out (by simp)
        have KP : Hid (Calls _ _ _ _ _) := dec_back po p pcap w7 HPW7.out (by omega)
        clear f77
        go_wp2_with fail
        refine KP.out.mono ?_
        rintro e w8 ⟨f8, ⟨ds, db, dv, rfl, hdb, _, hdl, hde, hdi⟩ | rfl⟩
        · subst hde
          have F8 : Hid (Fr (fun _ => False) wr w8) := F7.out.trans f8
          have HD8 : Hid (Fr (fun _ => False) w8 w8.drew) := (Fr.refl _ w8).drewN 1
          have HPD : Hid (Row w8.drew po (encB ds) pcap) := (F8.out.trans HD8.out).row HPW.out (by simp)
          have KQ : Hid (Calls _ _ _ _ _) := enc_any (hdb.fr HD8.out (by simp) (by simp)) hdi (by omega)
          clear f8 hdb hdi KP
          go_wp2_with fail
          refine wp_region_held_drew (S := (fun W => Row W po (encB ds) pcap)) (by kernel_rfl) HPD.out (fun hHeld => ?_)
          refine wpAnyH_take (i := 0) (oi := _) (v := ?_) (by rw [List.getElem?_toArray]; rfl) (by kernel_rfl) (by kernel_rfl) (by kernel_rfl) (fun _ _ _ h => by exact h) (Or.inl ⟨by rfl, ?_⟩) (by assumption) ?_
          rotate_left
          · (intro w hSw; (try dsimp only at hSw); go_simp; (try with_reducible rfl))
          try simp only [Act.put, List.setIfInBounds_toArray, List.set_cons_zero, List.set_cons_succ]
          refine wpAnyH_take (i := 1) (oi := _) (v := ?_) (by rw [List.getElem?_toArray]; rfl) (by kernel_rfl) (by kernel_rfl) (by kernel_rfl) (fun _ _ _ h => by exact h) (Or.inl ⟨by rfl, ?_⟩) (by assumption) ?_
          rotate_left
          · (intro w hSw; (try dsimp only at hSw); go_simp; (try with_reducible rfl))
          try simp only [Act.put, List.setIfInBounds_toArray, List.set_cons_zero, List.set_cons_succ]
          refine wpAnyH_take (i := 2) (oi := _) (v := ?_) (by rw [List.getElem?_toArray]; rfl) (by kernel_rfl) (by kernel_rfl) (by kernel_rfl) (fun _ _ _ h => by exact h) (Or.inl ⟨by rfl, ?_⟩) (by assumption) ?_
          rotate_left
          · (intro w hSw; (try dsimp only at hSw); go_simp; (try with_reducible rfl))
          try simp only [Act.put, List.setIfInBounds_toArray, List.set_cons_zero, List.set_cons_succ]
          refine wpAnyH_take (i := 3) (oi := _) (v := ?_) (by rw [List.getElem?_toArray]; rfl) (by kernel_rfl) (by kernel_rfl) (by kernel_rfl) (fun _ _ _ h => by exact h) (Or.inl ⟨by rfl, ?_⟩) (by assumption) ?_
          rotate_left
          · (intro w hSw; (try dsimp only at hSw); go_simp; (try with_reducible rfl))
          try simp only [Act.put, List.setIfInBounds_toArray, List.set_cons_zero, List.set_cons_succ]
          refine wpAnyH_take (i := 6) (oi := _) (v := ?_) (by rw [List.getElem?_toArray]; rfl) (by kernel_rfl) (by kernel_rfl) (by kernel_rfl) (fun _ _ _ h => by exact h) (Or.inl ⟨by rfl, ?_⟩) (by assumption) ?_
          rotate_left
          · (intro w hSw; (try dsimp only at hSw); go_simp; (try with_reducible rfl))
          try simp only [Act.put, List.setIfInBounds_toArray, List.set_cons_zero, List.set_cons_succ]
          refine wpAnyH_take (i := 7) (oi := _) (v := ?_) (by rw [List.getElem?_toArray]; rfl) (by kernel_rfl) (by kernel_rfl) (by kernel_rfl) (fun _ _ _ h => by exact h) (Or.inl ⟨by rfl, ?_⟩) (by assumption) ?_
          rotate_left
          · (intro w hSw; (try dsimp only at hSw); have hstr := run_str _ _ _ _ hSw; go_simp; (try with_reducible rfl))
          try simp only [Act.put, List.setIfInBounds_toArray, List.set_cons_zero, List.set_cons_succ]
          refine wpAnyH_ready (rs := [4]) (by kernel_rfl) (by simp) ?_
          refine AllReadyH.cons (o := _) (by rw [List.getElem?_toArray]; rfl) (fun K hK => ?_) ?_
          · go_simp
            go_wp2_with (go_at_call 21; refine KQ.out.mono ?_; rintro e w9 ⟨a9, rfl, hf9, f9⟩; have F9 : Hid (Fr (fun _ => False) wr w9) := F8.out.trans (HD8.out.trans f9); have hs9 := run_str _ _ _ _ hf9.1; have hHeldN : Row w9 po (encB ds) pcap := F9.out.row HPW.out (by simp); clear hf9 f9)
            refine hK.out _ _ hHeldN (fun hHeld => ?_)
            clear hK K
            try simp only [Act.put, List.setIfInBounds_toArray, List.set_cons_zero, List.set_cons_succ]
            refine wpAnyH_ready (rs := [5]) (by kernel_rfl) (by simp) ?_
            refine AllReadyH.cons (o := _) (by rw [List.getElem?_toArray]; rfl) (fun K hK => ?_) ?_
            · go_simp
              refine hK.out _ _ hHeld (fun hHeld => ?_)
              clear hK K
              try simp only [Act.put, List.setIfInBounds_toArray, List.set_cons_zero, List.set_cons_succ]
              refine wpAnyH_take (i := 8) (oi := _) (v := ?_) (by rw [List.getElem?_toArray]; rfl) (by kernel_rfl) (by kernel_rfl) (by kernel_rfl) (fun _ _ _ h => by exact h) (Or.inl ⟨by rfl, ?_⟩) (by assumption) ?_
              rotate_left
              · (intro w hSw; (try dsimp only at hSw); go_simp; (try with_reducible rfl))
              try simp only [Act.put, List.setIfInBounds_toArray, List.set_cons_zero, List.set_cons_succ]
              refine wpAnyH_take (i := 9) (oi := _) (v := ?_) (by rw [List.getElem?_toArray]; rfl) (by kernel_rfl) (by kernel_rfl) (by kernel_rfl) (fun _ _ _ h => by exact h) (Or.inl ⟨by rfl, ?_⟩) (by assumption) ?_
              rotate_left
              · (intro w hSw; (try dsimp only at hSw); go_simp; (try with_reducible rfl))
              try simp only [Act.put, List.setIfInBounds_toArray, List.set_cons_zero, List.set_cons_succ]
              refine wpAnyH_take (i := 10) (oi := _) (v := ?_) (by rw [List.getElem?_toArray]; rfl) (by kernel_rfl) (by kernel_rfl) (by kernel_rfl) (fun _ _ _ h => by exact h) (Or.inl ⟨by rfl, ?_⟩) (by assumption) ?_
              rotate_left
              · (intro w hSw; (try dsimp only at hSw); go_simp; (try with_reducible rfl))
              try simp only [Act.put, List.setIfInBounds_toArray, List.set_cons_zero, List.set_cons_succ]
              refine wpAnyH_take (i := 11) (oi := _) (v := ?_) (by rw [List.getElem?_toArray]; rfl) (by kernel_rfl) (by kernel_rfl) (by kernel_rfl) (fun _ _ _ h => by exact h) (Or.inl ⟨by rfl, ?_⟩) (by assumption) ?_
              rotate_left
              · (intro w hSw; (try dsimp only at hSw); go_simp; (try with_reducible rfl))
              try simp only [Act.put, List.setIfInBounds_toArray, List.set_cons_zero, List.set_cons_succ]
              refine wpAnyH_take (i := 12) (oi := _) (v := ?_) (by rw [List.getElem?_toArray]; rfl) (by kernel_rfl) (by kernel_rfl) (by kernel_rfl) (fun _ _ _ h => by exact h) (Or.inl ⟨by rfl, ?_⟩) (by assumption) ?_
              rotate_left
              · (intro w hSw; (try dsimp only at hSw); go_simp; (try with_reducible rfl))
              try simp only [Act.put, List.setIfInBounds_toArray, List.set_cons_zero, List.set_cons_succ]
              refine wpAnyH_take (i := 13) (oi := _) (v := ?_) (by rw [List.getElem?_toArray]; rfl) (by kernel_rfl) (by kernel_rfl) (by kernel_rfl) (fun _ _ _ h => by exact h) (Or.inl ⟨by rfl, ?_⟩) (by assumption) ?_
              rotate_left
              · (intro w hSw; (try dsimp only at hSw); go_simp; (try with_reducible rfl))
              try simp only [Act.put, List.setIfInBounds_toArray, List.set_cons_zero, List.set_cons_succ]
              refine wpAnyH_take (i := 14) (oi := _) (v := undef) (by rw [List.getElem?_toArray]; rfl) (by kernel_rfl) (by kernel_rfl) (by kernel_rfl) (fun _ _ _ h => by exact h) (Or.inr ⟨by rfl, rfl⟩) (by assumption) ?_
              try simp only [Act.put, List.setIfInBounds_toArray, List.set_cons_zero, List.set_cons_succ]
              refine wpAnyH_take (i := 15) (oi := _) (v := undef) (by rw [List.getElem?_toArray]; rfl) (by kernel_rfl) (by kernel_rfl) (by kernel_rfl) (fun _ _ _ h => by exact h) (Or.inr ⟨by rfl, rfl⟩) (by assumption) ?_
              try simp only [Act.put, List.setIfInBounds_toArray, List.set_cons_zero, List.set_cons_succ]
              refine wpAnyH_take (i := 16) (oi := _) (v := undef) (by rw [List.getElem?_toArray]; rfl) (by kernel_rfl) (by kernel_rfl) (by kernel_rfl) (fun _ _ _ h => by exact h) (Or.inr ⟨by rfl, rfl⟩) (by assumption) ?_
              try simp only [Act.put, List.setIfInBounds_toArray, List.set_cons_zero, List.set_cons_succ]
              refine wpAnyH_take (i := 17) (oi := _) (v := undef) (by rw [List.getElem?_toArray]; rfl) (by kernel_rfl) (by kernel_rfl) (by kernel_rfl) (fun _ _ _ h => by exact h) (Or.inr ⟨by rfl, rfl⟩) (by assumption) ?_
              try simp only [Act.put, List.setIfInBounds_toArray, List.set_cons_zero, List.set_cons_succ]
              refine wpAnyH_take (i := 18) (oi := _) (v := undef) (by rw [List.getElem?_toArray]; rfl) (by kernel_rfl) (by kernel_rfl) (by kernel_rfl) (fun _ _ _ h => by exact h) (Or.inr ⟨by rfl, rfl⟩) (by assumption) ?_
              try simp only [Act.put, List.setIfInBounds_toArray, List.set_cons_zero, List.set_cons_succ]
              refine wpAnyH_take (i := 19) (oi := _) (v := undef) (by rw [List.getElem?_toArray]; rfl) (by kernel_rfl) (by kernel_rfl) (by kernel_rfl) (fun _ _ _ h => by exact h) (Or.inr ⟨by rfl, rfl⟩) (by assumption) ?_
              try simp only [Act.put, List.setIfInBounds_toArray, List.set_cons_zero, List.set_cons_succ]
              refine wpAnyH_take (i := 20) (oi := _) (v := ?_) (by rw [List.getElem?_toArray]; rfl) (by kernel_rfl) (by kernel_rfl) (by kernel_rfl) (fun _ _ _ h => by exact h) (Or.inl ⟨by rfl, ?_⟩) (by assumption) ?_
              rotate_left
              · (intro w hSw; (try dsimp only at hSw); go_simp; (try with_reducible rfl))
              try simp only [Act.put, List.setIfInBounds_toArray, List.set_cons_zero, List.set_cons_succ]
              refine wpAnyH_take (i := 21) (oi := _) (v := ?_) (by rw [List.getElem?_toArray]; rfl) (by kernel_rfl) (by kernel_rfl) (by kernel_rfl) (fun _ _ _ h => by exact h) (Or.inl ⟨by rfl, ?_⟩) (by assumption) ?_
              rotate_left
              · (intro w hSw; (try dsimp only at hSw); go_simp; (try with_reducible rfl))
              try simp only [Act.put, List.setIfInBounds_toArray, List.set_cons_zero, List.set_cons_succ]
              refine wpAnyH_done (by kernel_rfl) ?_ _
              have KE2 := KE.out w9 F9.out
              rw [HEL.out] at KE2
              have HK2 : Hid (Calls _ _ _ _ _) := KE2
              clear KE2
              have hHEL : Hid (encB gs ≠ []) := (by intro e; have h := HEL.out; rw [e] at h; simp at h)
              go_wp2_with fail
              refine HK2.out.mono ?_
              rintro e w10 ⟨a10, rfl, hf10, f10⟩
              have HF10 : Hid (Fr (fun _ => False) w w10) := HF.out.trans (F9.out.trans f10)
              have F9L : Hid (wr.heap.size ≤ w9.heap.size) := F9.out.size
              have HWR : Hid (w.heap.size ≤ wr.heap.size) := HF.out.size
              obtain ⟨hq, hqa⟩ := hf10
              obtain ⟨g, o, rfl, hcell⟩ := hq.2.2.2.2 hHEL.out
              obtain ⟨hg1, hg2, ho, _, cur, hcur⟩ := hqa _ rfl
              simp only at ho hg1 hg2 hcur
              subst ho
              have HQ : Hid (Row w10 (some ⟨g, 0, none⟩) (encB gs) 436) := (by have h := hq; rw [HEL.out] at h; exact h)
              obtain ⟨i, Hi⟩ : ∃ i, Hid (at_ % 436 = i) := ⟨_, rfl⟩
              have hi : i < 436 := by rw [← Hi.out]; exact Nat.mod_lt _ (by omega)
              have em2 : (at_ : Int) % 436 = (i : Int) := by rw [← Hi.out]; rfl
              have em : (at_ : Int).tmod 436 = (i : Int) := by rw [← Hi.out]; rfl
              obtain ⟨z, Hz⟩ : ∃ z, Hid ((encB gs).getD i 0 = z) := ⟨_, rfl⟩
              have cz := hcell i (by rw [HEL.out]; exact hi)
              rw [Hz.out, Nat.zero_add] at cz
              have hz8 : z < 256 := by rw [← Hz.out, List.getD_eq_getElem?_getD, List.getElem?_eq_getElem (by rw [HEL.out]; exact hi)]; exact encB_lt gs _ (List.getElem_mem _)
              obtain ⟨y, ey, hy8⟩ : ∃ y : Nat, bits .xor .u8 (z : Int) (turn : Int) = (y : Int) ∧ y < 256 := ⟨_, xor_u8 z turn hz8 hturn⟩
              have fz : w10.frozen? ⟨g, i, none⟩ = false := by simp [World.frozen?, hcur]
              have i0 : (0 : Int) ≤ (i : Int) := by omega
              have il : (i : Int) < 436 := by omega
              have hgw : w.heap.size ≤ g := by have := F9L.out; have := HWR.out; omega
              clear hq hqa hcell hcur f10 HK2 F9L HWR
              go_wp2_with fail
              have HFS : Hid (Fr (fun _ => False) w (w10.setCell ⟨g, i, none⟩ (.int .u8 (y : Int)))) := HF10.out.setCell (.inr hgw) _
              obtain ⟨q, Hq⟩ : ∃ q, Hid ((encB gs).set i y = q) := ⟨_, rfl⟩
              have HQS : Hid (Row (w10.setCell ⟨g, i, none⟩ (.int .u8 (y : Int))) (some ⟨g, 0, none⟩) q 436) := (by have h := row_set HQ.out (by rw [HEL.out]; exact hi) hy8; rw [Nat.zero_add, Hq.out] at h; exact h)
              have HQL : Hid (q.length = 436) := (by show _ = _; rw [← Hq.out, List.length_set]; exact HEL.out)
              have K3 := dec_back (some ⟨g, 0, none⟩) q 436 (w10.setCell ⟨g, i, none⟩ (.int .u8 (y : Int))) HQS.out (by have h := HQL.out; omega)
              rw [HQL.out] at K3
              have HK3 : Hid (Calls _ _ _ _ _) := K3
              clear K3
              go_wp2_with fail
              refine HK3.out.mono ?_
              rintro e w12 ⟨f12, ⟨es, eb, ev, rfl, heb, _, hel, hee, hei⟩ | rfl⟩
              · have F12 : Hid (Fr (fun _ => False) (w10.setCell ⟨g, i, none⟩ (.int .u8 (y : Int))) w12) := f12
                have HDD : Hid (Fr (fun _ => False) w12 w12.drew) := (Fr.refl _ w12).drewN 1
                have HQD : Hid (Row w12.drew (some ⟨g, 0, none⟩) q 436) := HDD.out.row (F12.out.row HQS.out (by simp)) (by simp)
                have KQ := enc_any (heb.fr HDD.out (by simp) (by simp)) hei (by omega)
                rw [hee] at KQ
                have HKQ : Hid (Calls _ _ _ _ _) := KQ
                clear KQ heb hei hee f12
                go_wp2_with fail
                refine wp_region_held_drew (S := (fun W => Row W (some ⟨g, 0, none⟩) q 436)) (by kernel_rfl) HQD.out (fun hHeld => ?_)
                refine wpAnyH_take (i := 0) (oi := _) (v := ?_) (by rw [List.getElem?_toArray]; rfl) (by kernel_rfl) (by kernel_rfl) (by kernel_rfl) (fun _ _ _ h => by exact h) (Or.inl ⟨by rfl, ?_⟩) (by assumption) ?_
                rotate_left
                · (intro w hSw; (try dsimp only at hSw); go_simp; (try with_reducible rfl))
                try simp only [Act.put, List.setIfInBounds_toArray, List.set_cons_zero, List.set_cons_succ]
                refine wpAnyH_take (i := 1) (oi := _) (v := ?_) (by rw [List.getElem?_toArray]; rfl) (by kernel_rfl) (by kernel_rfl) (by kernel_rfl) (fun _ _ _ h => by exact h) (Or.inl ⟨by rfl, ?_⟩) (by assumption) ?_
                rotate_left
                · (intro w hSw; (try dsimp only at hSw); go_simp; (try with_reducible rfl))
                try simp only [Act.put, List.setIfInBounds_toArray, List.set_cons_zero, List.set_cons_succ]
                refine wpAnyH_take (i := 2) (oi := _) (v := ?_) (by rw [List.getElem?_toArray]; rfl) (by kernel_rfl) (by kernel_rfl) (by kernel_rfl) (fun _ _ _ h => by exact h) (Or.inl ⟨by rfl, ?_⟩) (by assumption) ?_
                rotate_left
                · (intro w hSw; (try dsimp only at hSw); go_simp; (try with_reducible rfl))
                try simp only [Act.put, List.setIfInBounds_toArray, List.set_cons_zero, List.set_cons_succ]
                refine wpAnyH_take (i := 3) (oi := _) (v := ?_) (by rw [List.getElem?_toArray]; rfl) (by kernel_rfl) (by kernel_rfl) (by kernel_rfl) (fun _ _ _ h => by exact h) (Or.inl ⟨by rfl, ?_⟩) (by assumption) ?_
                rotate_left
                · (intro w hSw; (try dsimp only at hSw); go_simp; (try with_reducible rfl))
                try simp only [Act.put, List.setIfInBounds_toArray, List.set_cons_zero, List.set_cons_succ]
                refine wpAnyH_take (i := 6) (oi := _) (v := ?_) (by rw [List.getElem?_toArray]; rfl) (by kernel_rfl) (by kernel_rfl) (by kernel_rfl) (fun _ _ _ h => by exact h) (Or.inl ⟨by rfl, ?_⟩) (by assumption) ?_
                rotate_left
                · (intro w hSw; (try dsimp only at hSw); go_simp; (try with_reducible rfl))
                try simp only [Act.put, List.setIfInBounds_toArray, List.set_cons_zero, List.set_cons_succ]
                refine wpAnyH_take (i := 7) (oi := _) (v := ?_) (by rw [List.getElem?_toArray]; rfl) (by kernel_rfl) (by kernel_rfl) (by kernel_rfl) (fun _ _ _ h => by exact h) (Or.inl ⟨by rfl, ?_⟩) (by assumption) ?_
                rotate_left
                · (intro w hSw; (try dsimp only at hSw); have hstr := run_str' _ _ _ 436 _ HQL.out hSw; go_simp; (try with_reducible rfl))
                try simp only [Act.put, List.setIfInBounds_toArray, List.set_cons_zero, List.set_cons_succ]
                refine wpAnyH_ready (rs := [4]) (by kernel_rfl) (by simp) ?_
                refine AllReadyH.cons (o := _) (by rw [List.getElem?_toArray]; rfl) (fun K hK => ?_) ?_
                · go_simp
                  go_wp2_with (go_at_call 21; refine HKQ.out.mono ?_; rintro e w13 ⟨a13, rfl, hf13, f13⟩; have F13 : Hid (Fr (fun _ => False) w12 w13) := HDD.out.trans f13; have hs13 := run_str _ _ _ _ hf13.1; have hHeldN : Row w13 (some ⟨g, 0, none⟩) q 436 := F13.out.row (F12.out.row HQS.out (by simp)) (by simp); clear hf13 f13)
                  refine hK.out _ _ hHeldN (fun hHeld => ?_)
                  clear hK K
                  try simp only [Act.put, List.setIfInBounds_toArray, List.set_cons_zero, List.set_cons_succ]
                  refine wpAnyH_ready (rs := [5]) (by kernel_rfl) (by simp) ?_
                  refine AllReadyH.cons (o := _) (by rw [List.getElem?_toArray]; rfl) (fun K hK => ?_) ?_
                  · go_simp
                    refine hK.out _ _ hHeld (fun hHeld => ?_)
                    clear hK K
                    try simp only [Act.put, List.setIfInBounds_toArray, List.set_cons_zero, List.set_cons_succ]
                    refine wpAnyH_take (i := 8) (oi := _) (v := ?_) (by rw [List.getElem?_toArray]; rfl) (by kernel_rfl) (by kernel_rfl) (by kernel_rfl) (fun _ _ _ h => by exact h) (Or.inl ⟨by rfl, ?_⟩) (by assumption) ?_
                    rotate_left
                    · (intro w hSw; (try dsimp only at hSw); go_simp; (try with_reducible rfl))
                    try simp only [Act.put, List.setIfInBounds_toArray, List.set_cons_zero, List.set_cons_succ]
                    refine wpAnyH_take (i := 9) (oi := _) (v := ?_) (by rw [List.getElem?_toArray]; rfl) (by kernel_rfl) (by kernel_rfl) (by kernel_rfl) (fun _ _ _ h => by exact h) (Or.inl ⟨by rfl, ?_⟩) (by assumption) ?_
                    rotate_left
                    · (intro w hSw; (try dsimp only at hSw); go_simp; (try with_reducible rfl))
                    try simp only [Act.put, List.setIfInBounds_toArray, List.set_cons_zero, List.set_cons_succ]
                    refine wpAnyH_take (i := 10) (oi := _) (v := ?_) (by rw [List.getElem?_toArray]; rfl) (by kernel_rfl) (by kernel_rfl) (by kernel_rfl) (fun _ _ _ h => by exact h) (Or.inl ⟨by rfl, ?_⟩) (by assumption) ?_
                    rotate_left
                    · (intro w hSw; (try dsimp only at hSw); go_simp; (try with_reducible rfl))
                    try simp only [Act.put, List.setIfInBounds_toArray, List.set_cons_zero, List.set_cons_succ]
                    refine wpAnyH_take (i := 11) (oi := _) (v := undef) (by rw [List.getElem?_toArray]; rfl) (by kernel_rfl) (by kernel_rfl) (by kernel_rfl) (fun _ _ _ h => by exact h) (Or.inr ⟨by rfl, rfl⟩) (by assumption) ?_
                    try simp only [Act.put, List.setIfInBounds_toArray, List.set_cons_zero, List.set_cons_succ]
                    refine wpAnyH_take (i := 12) (oi := _) (v := undef) (by rw [List.getElem?_toArray]; rfl) (by kernel_rfl) (by kernel_rfl) (by kernel_rfl) (fun _ _ _ h => by exact h) (Or.inr ⟨by rfl, rfl⟩) (by assumption) ?_
                    try simp only [Act.put, List.setIfInBounds_toArray, List.set_cons_zero, List.set_cons_succ]
                    refine wpAnyH_take (i := 13) (oi := _) (v := undef) (by rw [List.getElem?_toArray]; rfl) (by kernel_rfl) (by kernel_rfl) (by kernel_rfl) (fun _ _ _ h => by exact h) (Or.inr ⟨by rfl, rfl⟩) (by assumption) ?_
                    try simp only [Act.put, List.setIfInBounds_toArray, List.set_cons_zero, List.set_cons_succ]
                    refine wpAnyH_take (i := 14) (oi := _) (v := undef) (by rw [List.getElem?_toArray]; rfl) (by kernel_rfl) (by kernel_rfl) (by kernel_rfl) (fun _ _ _ h => by exact h) (Or.inr ⟨by rfl, rfl⟩) (by assumption) ?_
                    try simp only [Act.put, List.setIfInBounds_toArray, List.set_cons_zero, List.set_cons_succ]
                    refine wpAnyH_take (i := 15) (oi := _) (v := undef) (by rw [List.getElem?_toArray]; rfl) (by kernel_rfl) (by kernel_rfl) (by kernel_rfl) (fun _ _ _ h => by exact h) (Or.inr ⟨by rfl, rfl⟩) (by assumption) ?_
                    try simp only [Act.put, List.setIfInBounds_toArray, List.set_cons_zero, List.set_cons_succ]
                    refine wpAnyH_take (i := 16) (oi := _) (v := undef) (by rw [List.getElem?_toArray]; rfl) (by kernel_rfl) (by kernel_rfl) (by kernel_rfl) (fun _ _ _ h => by exact h) (Or.inr ⟨by rfl, rfl⟩) (by assumption) ?_
                    try simp only [Act.put, List.setIfInBounds_toArray, List.set_cons_zero, List.set_cons_succ]
                    refine wpAnyH_take (i := 17) (oi := _) (v := ?_) (by rw [List.getElem?_toArray]; rfl) (by kernel_rfl) (by kernel_rfl) (by kernel_rfl) (fun _ _ _ h => by exact h) (Or.inl ⟨by rfl, ?_⟩) (by assumption) ?_
                    rotate_left
                    · (intro w hSw; (try dsimp only at hSw); go_simp; (try with_reducible rfl))
                    try simp only [Act.put, List.setIfInBounds_toArray, List.set_cons_zero, List.set_cons_succ]
                    refine wpAnyH_take (i := 18) (oi := _) (v := ?_) (by rw [List.getElem?_toArray]; rfl) (by kernel_rfl) (by kernel_rfl) (by kernel_rfl) (fun _ _ _ h => by exact h) (Or.inl ⟨by rfl, ?_⟩) (by assumption) ?_
                    rotate_left
                    · (intro w hSw; (try dsimp only at hSw); go_simp; (try with_reducible rfl))
                    try simp only [Act.put, List.setIfInBounds_toArray, List.set_cons_zero, List.set_cons_succ]
                    refine wpAnyH_done (by kernel_rfl) ?_ _
                    go_wp2
                    go_ret
                    exact ⟨rfl, HFS.out.trans (F12.out.trans F13.out)⟩
                  exact AllReadyH.nil
                exact AllReadyH.nil
              · have F12 : Hid (Fr (fun _ => False) (w10.setCell ⟨g, i, none⟩ (.int .u8 (y : Int))) w12) := f12
                clear f12
                go_wp2_with fail
                refine wp_region_held_drew (S := (fun _ => True)) (by kernel_rfl) trivial (fun hHeld => ?_)
                refine wpAnyH_take (i := 0) (oi := _) (v := ?_) (by rw [List.getElem?_toArray]; rfl) (by kernel_rfl) (by kernel_rfl) (by kernel_rfl) (fun _ _ _ h => by exact h) (Or.inl ⟨by rfl, ?_⟩) (by assumption) ?_
                rotate_left
                · (intro w hSw; (try dsimp only at hSw); go_simp; (try with_reducible rfl))
                try simp only [Act.put, List.setIfInBounds_toArray, List.set_cons_zero, List.set_cons_succ]
                refine wpAnyH_take (i := 1) (oi := _) (v := ?_) (by rw [List.getElem?_toArray]; rfl) (by kernel_rfl) (by kernel_rfl) (by kernel_rfl) (fun _ _ _ h => by exact h) (Or.inl ⟨by rfl, ?_⟩) (by assumption) ?_
                rotate_left
                · (intro w hSw; (try dsimp only at hSw); go_simp; (try with_reducible rfl))
                try simp only [Act.put, List.setIfInBounds_toArray, List.set_cons_zero, List.set_cons_succ]
                refine wpAnyH_take (i := 2) (oi := _) (v := ?_) (by rw [List.getElem?_toArray]; rfl) (by kernel_rfl) (by kernel_rfl) (by kernel_rfl) (fun _ _ _ h => by exact h) (Or.inl ⟨by rfl, ?_⟩) (by assumption) ?_
                rotate_left
                · (intro w hSw; (try dsimp only at hSw); go_simp; (try with_reducible rfl))
                try simp only [Act.put, List.setIfInBounds_toArray, List.set_cons_zero, List.set_cons_succ]
                refine wpAnyH_take (i := 3) (oi := _) (v := undef) (by rw [List.getElem?_toArray]; rfl) (by kernel_rfl) (by kernel_rfl) (by kernel_rfl) (fun _ _ _ h => by exact h) (Or.inr ⟨by rfl, rfl⟩) (by assumption) ?_
                try simp only [Act.put, List.setIfInBounds_toArray, List.set_cons_zero, List.set_cons_succ]
                refine wpAnyH_take (i := 4) (oi := _) (v := undef) (by rw [List.getElem?_toArray]; rfl) (by kernel_rfl) (by kernel_rfl) (by kernel_rfl) (fun _ _ _ h => by exact h) (Or.inr ⟨by rfl, rfl⟩) (by assumption) ?_
                try simp only [Act.put, List.setIfInBounds_toArray, List.set_cons_zero, List.set_cons_succ]
                refine wpAnyH_take (i := 5) (oi := _) (v := undef) (by rw [List.getElem?_toArray]; rfl) (by kernel_rfl) (by kernel_rfl) (by kernel_rfl) (fun _ _ _ h => by exact h) (Or.inr ⟨by rfl, rfl⟩) (by assumption) ?_
                try simp only [Act.put, List.setIfInBounds_toArray, List.set_cons_zero, List.set_cons_succ]
                refine wpAnyH_take (i := 6) (oi := _) (v := undef) (by rw [List.getElem?_toArray]; rfl) (by kernel_rfl) (by kernel_rfl) (by kernel_rfl) (fun _ _ _ h => by exact h) (Or.inr ⟨by rfl, rfl⟩) (by assumption) ?_
                try simp only [Act.put, List.setIfInBounds_toArray, List.set_cons_zero, List.set_cons_succ]
                refine wpAnyH_take (i := 7) (oi := _) (v := undef) (by rw [List.getElem?_toArray]; rfl) (by kernel_rfl) (by kernel_rfl) (by kernel_rfl) (fun _ _ _ h => by exact h) (Or.inr ⟨by rfl, rfl⟩) (by assumption) ?_
                try simp only [Act.put, List.setIfInBounds_toArray, List.set_cons_zero, List.set_cons_succ]
                refine wpAnyH_take (i := 8) (oi := _) (v := undef) (by rw [List.getElem?_toArray]; rfl) (by kernel_rfl) (by kernel_rfl) (by kernel_rfl) (fun _ _ _ h => by exact h) (Or.inr ⟨by rfl, rfl⟩) (by assumption) ?_
                try simp only [Act.put, List.setIfInBounds_toArray, List.set_cons_zero, List.set_cons_succ]
                refine wpAnyH_take (i := 9) (oi := _) (v := ?_) (by rw [List.getElem?_toArray]; rfl) (by kernel_rfl) (by kernel_rfl) (by kernel_rfl) (fun _ _ _ h => by exact h) (Or.inl ⟨by rfl, ?_⟩) (by assumption) ?_
                rotate_left
                · (intro w hSw; (try dsimp only at hSw); go_simp; (try with_reducible rfl))
                try simp only [Act.put, List.setIfInBounds_toArray, List.set_cons_zero, List.set_cons_succ]
                refine wpAnyH_take (i := 10) (oi := _) (v := ?_) (by rw [List.getElem?_toArray]; rfl) (by kernel_rfl) (by kernel_rfl) (by kernel_rfl) (fun _ _ _ h => by exact h) (Or.inl ⟨by rfl, ?_⟩) (by assumption) ?_
                rotate_left
                · (intro w hSw; (try dsimp only at hSw); go_simp; (try with_reducible rfl))
                try simp only [Act.put, List.setIfInBounds_toArray, List.set_cons_zero, List.set_cons_succ]
                refine wpAnyH_take (i := 11) (oi := _) (v := ?_) (by rw [List.getElem?_toArray]; rfl) (by kernel_rfl) (by kernel_rfl) (by kernel_rfl) (fun _ _ _ h => by exact h) (Or.inl ⟨by rfl, ?_⟩) (by assumption) ?_
                rotate_left
                · (intro w hSw; (try dsimp only at hSw); go_simp; (try with_reducible rfl))
                try simp only [Act.put, List.setIfInBounds_toArray, List.set_cons_zero, List.set_cons_succ]
                refine wpAnyH_take (i := 12) (oi := _) (v := ?_) (by rw [List.getElem?_toArray]; rfl) (by kernel_rfl) (by kernel_rfl) (by kernel_rfl) (fun _ _ _ h => by exact h) (Or.inl ⟨by rfl, ?_⟩) (by assumption) ?_
                rotate_left
                · (intro w hSw; (try dsimp only at hSw); go_simp; (try with_reducible rfl))
                try simp only [Act.put, List.setIfInBounds_toArray, List.set_cons_zero, List.set_cons_succ]
                refine wpAnyH_take (i := 13) (oi := _) (v := ?_) (by rw [List.getElem?_toArray]; rfl) (by kernel_rfl) (by kernel_rfl) (by kernel_rfl) (fun _ _ _ h => by exact h) (Or.inl ⟨by rfl, ?_⟩) (by assumption) ?_
                rotate_left
                · (intro w hSw; (try dsimp only at hSw); go_simp; (try with_reducible rfl))
                try simp only [Act.put, List.setIfInBounds_toArray, List.set_cons_zero, List.set_cons_succ]
                refine wpAnyH_take (i := 14) (oi := _) (v := ?_) (by rw [List.getElem?_toArray]; rfl) (by kernel_rfl) (by kernel_rfl) (by kernel_rfl) (fun _ _ _ h => by exact h) (Or.inl ⟨by rfl, ?_⟩) (by assumption) ?_
                rotate_left
                · (intro w hSw; (try dsimp only at hSw); go_simp; (try with_reducible rfl))
                try simp only [Act.put, List.setIfInBounds_toArray, List.set_cons_zero, List.set_cons_succ]
                refine wpAnyH_take (i := 15) (oi := _) (v := ?_) (by rw [List.getElem?_toArray]; rfl) (by kernel_rfl) (by kernel_rfl) (by kernel_rfl) (fun _ _ _ h => by exact h) (Or.inl ⟨by rfl, ?_⟩) (by assumption) ?_
                rotate_left
                · (intro w hSw; (try dsimp only at hSw); go_simp; (try with_reducible rfl))
                try simp only [Act.put, List.setIfInBounds_toArray, List.set_cons_zero, List.set_cons_succ]
                refine wpAnyH_take (i := 16) (oi := _) (v := ?_) (by rw [List.getElem?_toArray]; rfl) (by kernel_rfl) (by kernel_rfl) (by kernel_rfl) (fun _ _ _ h => by exact h) (Or.inl ⟨by rfl, ?_⟩) (by assumption) ?_
                rotate_left
                · (intro w hSw; (try dsimp only at hSw); go_simp; (try with_reducible rfl))
                try simp only [Act.put, List.setIfInBounds_toArray, List.set_cons_zero, List.set_cons_succ]
                refine wpAnyH_take (i := 17) (oi := _) (v := ?_) (by rw [List.getElem?_toArray]; rfl) (by kernel_rfl) (by kernel_rfl) (by kernel_rfl) (fun _ _ _ h => by exact h) (Or.inl ⟨by rfl, ?_⟩) (by assumption) ?_
                rotate_left
                · (intro w hSw; (try dsimp only at hSw); go_simp; (try with_reducible rfl))
                try simp only [Act.put, List.setIfInBounds_toArray, List.set_cons_zero, List.set_cons_succ]
                refine wpAnyH_take (i := 18) (oi := _) (v := ?_) (by rw [List.getElem?_toArray]; rfl) (by kernel_rfl) (by kernel_rfl) (by kernel_rfl) (fun _ _ _ h => by exact h) (Or.inl ⟨by rfl, ?_⟩) (by assumption) ?_
                rotate_left
                · (intro w hSw; (try dsimp only at hSw); go_simp; (try with_reducible rfl))
                try simp only [Act.put, List.setIfInBounds_toArray, List.set_cons_zero, List.set_cons_succ]
                refine wpAnyH_done (by kernel_rfl) ?_ _
                go_wp2
                go_ret
                exact ⟨rfl, HFS.out.trans (F12.out.drewN 1)⟩
            exact AllReadyH.nil
          exact AllReadyH.nil
        · have F9 : Hid (Fr (fun _ => False) wr w8.drew) := (F7.out.trans f8).drewN 1
          clear f8 KP
          go_wp2_with fail
          refine wp_region_held_drew (S := (fun _ => True)) (by kernel_rfl) trivial (fun hHeld => ?_)
          refine wpAnyH_take (i := 0) (oi := _) (v := ?_) (by rw [List.getElem?_toArray]; rfl) (by kernel_rfl) (by kernel_rfl) (by kernel_rfl) (fun _ _ _ h => by exact h) (Or.inl ⟨by rfl, ?_⟩) (by assumption) ?_
          rotate_left
          · (intro w hSw; (try dsimp only at hSw); go_simp; (try with_reducible rfl))
          try simp only [Act.put, List.setIfInBounds_toArray, List.set_cons_zero, List.set_cons_succ]
          refine wpAnyH_take (i := 1) (oi := _) (v := ?_) (by rw [List.getElem?_toArray]; rfl) (by kernel_rfl) (by kernel_rfl) (by kernel_rfl) (fun _ _ _ h => by exact h) (Or.inl ⟨by rfl, ?_⟩) (by assumption) ?_
          rotate_left
          · (intro w hSw; (try dsimp only at hSw); go_simp; (try with_reducible rfl))
          try simp only [Act.put, List.setIfInBounds_toArray, List.set_cons_zero, List.set_cons_succ]
          refine wpAnyH_take (i := 2) (oi := _) (v := ?_) (by rw [List.getElem?_toArray]; rfl) (by kernel_rfl) (by kernel_rfl) (by kernel_rfl) (fun _ _ _ h => by exact h) (Or.inl ⟨by rfl, ?_⟩) (by assumption) ?_
          rotate_left
          · (intro w hSw; (try dsimp only at hSw); go_simp; (try with_reducible rfl))
          try simp only [Act.put, List.setIfInBounds_toArray, List.set_cons_zero, List.set_cons_succ]
          refine wpAnyH_take (i := 3) (oi := _) (v := undef) (by rw [List.getElem?_toArray]; rfl) (by kernel_rfl) (by kernel_rfl) (by kernel_rfl) (fun _ _ _ h => by exact h) (Or.inr ⟨by rfl, rfl⟩) (by assumption) ?_
          try simp only [Act.put, List.setIfInBounds_toArray, List.set_cons_zero, List.set_cons_succ]
          refine wpAnyH_take (i := 4) (oi := _) (v := undef) (by rw [List.getElem?_toArray]; rfl) (by kernel_rfl) (by kernel_rfl) (by kernel_rfl) (fun _ _ _ h => by exact h) (Or.inr ⟨by rfl, rfl⟩) (by assumption) ?_
          try simp only [Act.put, List.setIfInBounds_toArray, List.set_cons_zero, List.set_cons_succ]
          refine wpAnyH_take (i := 5) (oi := _) (v := undef) (by rw [List.getElem?_toArray]; rfl) (by kernel_rfl) (by kernel_rfl) (by kernel_rfl) (fun _ _ _ h => by exact h) (Or.inr ⟨by rfl, rfl⟩) (by assumption) ?_
          try simp only [Act.put, List.setIfInBounds_toArray, List.set_cons_zero, List.set_cons_succ]
          refine wpAnyH_take (i := 6) (oi := _) (v := undef) (by rw [List.getElem?_toArray]; rfl) (by kernel_rfl) (by kernel_rfl) (by kernel_rfl) (fun _ _ _ h => by exact h) (Or.inr ⟨by rfl, rfl⟩) (by assumption) ?_
          try simp only [Act.put, List.setIfInBounds_toArray, List.set_cons_zero, List.set_cons_succ]
          refine wpAnyH_take (i := 7) (oi := _) (v := undef) (by rw [List.getElem?_toArray]; rfl) (by kernel_rfl) (by kernel_rfl) (by kernel_rfl) (fun _ _ _ h => by exact h) (Or.inr ⟨by rfl, rfl⟩) (by assumption) ?_
          try simp only [Act.put, List.setIfInBounds_toArray, List.set_cons_zero, List.set_cons_succ]
          refine wpAnyH_take (i := 8) (oi := _) (v := undef) (by rw [List.getElem?_toArray]; rfl) (by kernel_rfl) (by kernel_rfl) (by kernel_rfl) (fun _ _ _ h => by exact h) (Or.inr ⟨by rfl, rfl⟩) (by assumption) ?_
          try simp only [Act.put, List.setIfInBounds_toArray, List.set_cons_zero, List.set_cons_succ]
          refine wpAnyH_take (i := 9) (oi := _) (v := ?_) (by rw [List.getElem?_toArray]; rfl) (by kernel_rfl) (by kernel_rfl) (by kernel_rfl) (fun _ _ _ h => by exact h) (Or.inl ⟨by rfl, ?_⟩) (by assumption) ?_
          rotate_left
          · (intro w hSw; (try dsimp only at hSw); go_simp; (try with_reducible rfl))
          try simp only [Act.put, List.setIfInBounds_toArray, List.set_cons_zero, List.set_cons_succ]
          refine wpAnyH_take (i := 10) (oi := _) (v := ?_) (by rw [List.getElem?_toArray]; rfl) (by kernel_rfl) (by kernel_rfl) (by kernel_rfl) (fun _ _ _ h => by exact h) (Or.inl ⟨by rfl, ?_⟩) (by assumption) ?_
          rotate_left
          · (intro w hSw; (try dsimp only at hSw); go_simp; (try with_reducible rfl))
          try simp only [Act.put, List.setIfInBounds_toArray, List.set_cons_zero, List.set_cons_succ]
          refine wpAnyH_take (i := 11) (oi := _) (v := ?_) (by rw [List.getElem?_toArray]; rfl) (by kernel_rfl) (by kernel_rfl) (by kernel_rfl) (fun _ _ _ h => by exact h) (Or.inl ⟨by rfl, ?_⟩) (by assumption) ?_
          rotate_left
          · (intro w hSw; (try dsimp only at hSw); go_simp; (try with_reducible rfl))
          try simp only [Act.put, List.setIfInBounds_toArray, List.set_cons_zero, List.set_cons_succ]
          refine wpAnyH_take (i := 12) (oi := _) (v := ?_) (by rw [List.getElem?_toArray]; rfl) (by kernel_rfl) (by kernel_rfl) (by kernel_rfl) (fun _ _ _ h => by exact h) (Or.inl ⟨by rfl, ?_⟩) (by assumption) ?_
          rotate_left
          · (intro w hSw; (try dsimp only at hSw); go_simp; (try with_reducible rfl))
          try simp only [Act.put, List.setIfInBounds_toArray, List.set_cons_zero, List.set_cons_succ]
          refine wpAnyH_take (i := 13) (oi := _) (v := ?_) (by rw [List.getElem?_toArray]; rfl) (by kernel_rfl) (by kernel_rfl) (by kernel_rfl) (fun _ _ _ h => by exact h) (Or.inl ⟨by rfl, ?_⟩) (by assumption) ?_
          rotate_left
          · (intro w hSw; (try dsimp only at hSw); go_simp; (try with_reducible rfl))
          try simp only [Act.put, List.setIfInBounds_toArray, List.set_cons_zero, List.set_cons_succ]
          refine wpAnyH_take (i := 14) (oi := _) (v := ?_) (by rw [List.getElem?_toArray]; rfl) (by kernel_rfl) (by kernel_rfl) (by kernel_rfl) (fun _ _ _ h => by exact h) (Or.inl ⟨by rfl, ?_⟩) (by assumption) ?_
          rotate_left
          · (intro w hSw; (try dsimp only at hSw); go_simp; (try with_reducible rfl))
          try simp only [Act.put, List.setIfInBounds_toArray, List.set_cons_zero, List.set_cons_succ]
          refine wpAnyH_take (i := 15) (oi := _) (v := ?_) (by rw [List.getElem?_toArray]; rfl) (by kernel_rfl) (by kernel_rfl) (by kernel_rfl) (fun _ _ _ h => by exact h) (Or.inl ⟨by rfl, ?_⟩) (by assumption) ?_
          rotate_left
          · (intro w hSw; (try dsimp only at hSw); go_simp; (try with_reducible rfl))
          try simp only [Act.put, List.setIfInBounds_toArray, List.set_cons_zero, List.set_cons_succ]
          refine wpAnyH_take (i := 16) (oi := _) (v := ?_) (by rw [List.getElem?_toArray]; rfl) (by kernel_rfl) (by kernel_rfl) (by kernel_rfl) (fun _ _ _ h => by exact h) (Or.inl ⟨by rfl, ?_⟩) (by assumption) ?_
          rotate_left
          · (intro w hSw; (try dsimp only at hSw); go_simp; (try with_reducible rfl))
          try simp only [Act.put, List.setIfInBounds_toArray, List.set_cons_zero, List.set_cons_succ]
          refine wpAnyH_take (i := 17) (oi := _) (v := ?_) (by rw [List.getElem?_toArray]; rfl) (by kernel_rfl) (by kernel_rfl) (by kernel_rfl) (fun _ _ _ h => by exact h) (Or.inl ⟨by rfl, ?_⟩) (by assumption) ?_
          rotate_left
          · (intro w hSw; (try dsimp only at hSw); go_simp; (try with_reducible rfl))
          try simp only [Act.put, List.setIfInBounds_toArray, List.set_cons_zero, List.set_cons_succ]
          refine wpAnyH_take (i := 18) (oi := _) (v := ?_) (by rw [List.getElem?_toArray]; rfl) (by kernel_rfl) (by kernel_rfl) (by kernel_rfl) (fun _ _ _ h => by exact h) (Or.inl ⟨by rfl, ?_⟩) (by assumption) ?_
          rotate_left
          · (intro w hSw; (try dsimp only at hSw); go_simp; (try with_reducible rfl))
          try simp only [Act.put, List.setIfInBounds_toArray, List.set_cons_zero, List.set_cons_succ]
          refine wpAnyH_take (i := 19) (oi := _) (v := ?_) (by rw [List.getElem?_toArray]; rfl) (by kernel_rfl) (by kernel_rfl) (by kernel_rfl) (fun _ _ _ h => by exact h) (Or.inl ⟨by rfl, ?_⟩) (by assumption) ?_
          rotate_left
          · (intro w hSw; (try dsimp only at hSw); go_simp; (try with_reducible rfl))
          try simp only [Act.put, List.setIfInBounds_toArray, List.set_cons_zero, List.set_cons_succ]
          refine wpAnyH_take (i := 20) (oi := _) (v := ?_) (by rw [List.getElem?_toArray]; rfl) (by kernel_rfl) (by kernel_rfl) (by kernel_rfl) (fun _ _ _ h => by exact h) (Or.inl ⟨by rfl, ?_⟩) (by assumption) ?_
          rotate_left
          · (intro w hSw; (try dsimp only at hSw); go_simp; (try with_reducible rfl))
          try simp only [Act.put, List.setIfInBounds_toArray, List.set_cons_zero, List.set_cons_succ]
          refine wpAnyH_take (i := 21) (oi := _) (v := ?_) (by rw [List.getElem?_toArray]; rfl) (by kernel_rfl) (by kernel_rfl) (by kernel_rfl) (fun _ _ _ h => by exact h) (Or.inl ⟨by rfl, ?_⟩) (by assumption) ?_
          rotate_left
          · (intro w hSw; (try dsimp only at hSw); go_simp; (try with_reducible rfl))
          try simp only [Act.put, List.setIfInBounds_toArray, List.set_cons_zero, List.set_cons_succ]
          refine wpAnyH_done (by kernel_rfl) ?_ _
          have KE2 := KE.out w8.drew F9.out
          rw [HEL.out] at KE2
          have HK2 : Hid (Calls _ _ _ _ _) := KE2
          clear KE2
          have hHEL : Hid (encB gs ≠ []) := (by intro e; have h := HEL.out; rw [e] at h; simp at h)
          go_wp2_with fail
          refine HK2.out.mono ?_
          rintro e w10 ⟨a10, rfl, hf10, f10⟩
          have HF10 : Hid (Fr (fun _ => False) w w10) := HF.out.trans (F9.out.trans f10)
          have F9L : Hid (wr.heap.size ≤ w8.drew.heap.size) := F9.out.size
          have HWR : Hid (w.heap.size ≤ wr.heap.size) := HF.out.size
          obtain ⟨hq, hqa⟩ := hf10
          obtain ⟨g, o, rfl, hcell⟩ := hq.2.2.2.2 hHEL.out
          obtain ⟨hg1, hg2, ho, _, cur, hcur⟩ := hqa _ rfl
          simp only at ho hg1 hg2 hcur
          subst ho
          have HQ : Hid (Row w10 (some ⟨g, 0, none⟩) (encB gs) 436) := (by have h := hq; rw [HEL.out] at h; exact h)
          obtain ⟨i, Hi⟩ : ∃ i, Hid (at_ % 436 = i) := ⟨_, rfl⟩
          have hi : i < 436 := by rw [← Hi.out]; exact Nat.mod_lt _ (by omega)
          have em2 : (at_ : Int) % 436 = (i : Int) := by rw [← Hi.out]; rfl
          have em : (at_ : Int).tmod 436 = (i : Int) := by rw [← Hi.out]; rfl
          obtain ⟨z, Hz⟩ : ∃ z, Hid ((encB gs).getD i 0 = z) := ⟨_, rfl⟩
          have cz := hcell i (by rw [HEL.out]; exact hi)
          rw [Hz.out, Nat.zero_add] at cz
          have hz8 : z < 256 := by rw [← Hz.out, List.getD_eq_getElem?_getD, List.getElem?_eq_getElem (by rw [HEL.out]; exact hi)]; exact encB_lt gs _ (List.getElem_mem _)
          obtain ⟨y, ey, hy8⟩ : ∃ y : Nat, bits .xor .u8 (z : Int) (turn : Int) = (y : Int) ∧ y < 256 := ⟨_, xor_u8 z turn hz8 hturn⟩
          have fz : w10.frozen? ⟨g, i, none⟩ = false := by simp [World.frozen?, hcur]
          have i0 : (0 : Int) ≤ (i : Int) := by omega
          have il : (i : Int) < 436 := by omega
          have hgw : w.heap.size ≤ g := by have := F9L.out; have := HWR.out; omega
          clear hq hqa hcell hcur f10 HK2 F9L HWR
          go_wp2_with fail
          have HFS : Hid (Fr (fun _ => False) w (w10.setCell ⟨g, i, none⟩ (.int .u8 (y : Int)))) := HF10.out.setCell (.inr hgw) _
          obtain ⟨q, Hq⟩ : ∃ q, Hid ((encB gs).set i y = q) := ⟨_, rfl⟩
          have HQS : Hid (Row (w10.setCell ⟨g, i, none⟩ (.int .u8 (y : Int))) (some ⟨g, 0, none⟩) q 436) := (by have h := row_set HQ.out (by rw [HEL.out]; exact hi) hy8; rw [Nat.zero_add, Hq.out] at h; exact h)
          have HQL : Hid (q.length = 436) := (by show _ = _; rw [← Hq.out, List.length_set]; exact HEL.out)
          have K3 := dec_back (some ⟨g, 0, none⟩) q 436 (w10.setCell ⟨g, i, none⟩ (.int .u8 (y : Int))) HQS.out (by have h := HQL.out; omega)
          rw [HQL.out] at K3
          have HK3 : Hid (Calls _ _ _ _ _) := K3
          clear K3
          go_wp2_with fail
          refine HK3.out.mono ?_
          rintro e w12 ⟨f12, ⟨es, eb, ev, rfl, heb, _, hel, hee, hei⟩ | rfl⟩
          · have F12 : Hid (Fr (fun _ => False) (w10.setCell ⟨g, i, none⟩ (.int .u8 (y : Int))) w12) := f12
            have HDD : Hid (Fr (fun _ => False) w12 w12.drew) := (Fr.refl _ w12).drewN 1
            have HQD : Hid (Row w12.drew (some ⟨g, 0, none⟩) q 436) := HDD.out.row (F12.out.row HQS.out (by simp)) (by simp)
            have KQ := enc_any (heb.fr HDD.out (by simp) (by simp)) hei (by omega)
            rw [hee] at KQ
            have HKQ : Hid (Calls _ _ _ _ _) := KQ
            clear KQ heb hei hee f12
            go_wp2_with fail
            refine wp_region_held_drew (S := (fun W => Row W (some ⟨g, 0, none⟩) q 436)) (by kernel_rfl) HQD.out (fun hHeld => ?_)
            refine wpAnyH_take (i := 0) (oi := _) (v := ?_) (by rw [List.getElem?_toArray]; rfl) (by kernel_rfl) (by kernel_rfl) (by kernel_rfl) (fun _ _ _ h => by exact h) (Or.inl ⟨by rfl, ?_⟩) (by assumption) ?_
            rotate_left
            · (intro w hSw; (try dsimp only at hSw); go_simp; (try with_reducible rfl))
            try simp only [Act.put, List.setIfInBounds_toArray, List.set_cons_zero, List.set_cons_succ]
            refine wpAnyH_take (i := 1) (oi := _) (v := ?_) (by rw [List.getElem?_toArray]; rfl) (by kernel_rfl) (by kernel_rfl) (by kernel_rfl) (fun _ _ _ h => by exact h) (Or.inl ⟨by rfl, ?_⟩) (by assumption) ?_
            rotate_left
            · (intro w hSw; (try dsimp only at hSw); go_simp; (try with_reducible rfl))
            try simp only [Act.put, List.setIfInBounds_toArray, List.set_cons_zero, List.set_cons_succ]
            refine wpAnyH_take (i := 2) (oi := _) (v := ?_) (by rw [List.getElem?_toArray]; rfl) (by kernel_rfl) (by kernel_rfl) (by kernel_rfl) (fun _ _ _ h => by exact h) (Or.inl ⟨by rfl, ?_⟩) (by assumption) ?_
            rotate_left
            · (intro w hSw; (try dsimp only at hSw); go_simp; (try with_reducible rfl))
            try simp only [Act.put, List.setIfInBounds_toArray, List.set_cons_zero, List.set_cons_succ]
            refine wpAnyH_take (i := 3) (oi := _) (v := ?_) (by rw [List.getElem?_toArray]; rfl) (by kernel_rfl) (by kernel_rfl) (by kernel_rfl) (fun _ _ _ h => by exact h) (Or.inl ⟨by rfl, ?_⟩) (by assumption) ?_
            rotate_left
            · (intro w hSw; (try dsimp only at hSw); go_simp; (try with_reducible rfl))
            try simp only [Act.put, List.setIfInBounds_toArray, List.set_cons_zero, List.set_cons_succ]
            refine wpAnyH_take (i := 6) (oi := _) (v := ?_) (by rw [List.getElem?_toArray]; rfl) (by kernel_rfl) (by kernel_rfl) (by kernel_rfl) (fun _ _ _ h => by exact h) (Or.inl ⟨by rfl, ?_⟩) (by assumption) ?_
            rotate_left
            · (intro w hSw; (try dsimp only at hSw); go_simp; (try with_reducible rfl))
            try simp only [Act.put, List.setIfInBounds_toArray, List.set_cons_zero, List.set_cons_succ]
            refine wpAnyH_take (i := 7) (oi := _) (v := ?_) (by rw [List.getElem?_toArray]; rfl) (by kernel_rfl) (by kernel_rfl) (by kernel_rfl) (fun _ _ _ h => by exact h) (Or.inl ⟨by rfl, ?_⟩) (by assumption) ?_
            rotate_left
            · (intro w hSw; (try dsimp only at hSw); have hstr := run_str' _ _ _ 436 _ HQL.out hSw; go_simp; (try with_reducible rfl))
            try simp only [Act.put, List.setIfInBounds_toArray, List.set_cons_zero, List.set_cons_succ]
            refine wpAnyH_ready (rs := [4]) (by kernel_rfl) (by simp) ?_
            refine AllReadyH.cons (o := _) (by rw [List.getElem?_toArray]; rfl) (fun K hK => ?_) ?_
            · go_simp
              go_wp2_with (go_at_call 21; refine HKQ.out.mono ?_; rintro e w13 ⟨a13, rfl, hf13, f13⟩; have F13 : Hid (Fr (fun _ => False) w12 w13) := HDD.out.trans f13; have hs13 := run_str _ _ _ _ hf13.1; have hHeldN : Row w13 (some ⟨g, 0, none⟩) q 436 := F13.out.row (F12.out.row HQS.out (by simp)) (by simp); clear hf13 f13)
              refine hK.out _ _ hHeldN (fun hHeld => ?_)
              clear hK K
              try simp only [Act.put, List.setIfInBounds_toArray, List.set_cons_zero, List.set_cons_succ]
              refine wpAnyH_ready (rs := [5]) (by kernel_rfl) (by simp) ?_
              refine AllReadyH.cons (o := _) (by rw [List.getElem?_toArray]; rfl) (fun K hK => ?_) ?_
              · go_simp
                refine hK.out _ _ hHeld (fun hHeld => ?_)
                clear hK K
                try simp only [Act.put, List.setIfInBounds_toArray, List.set_cons_zero, List.set_cons_succ]
                refine wpAnyH_take (i := 8) (oi := _) (v := ?_) (by rw [List.getElem?_toArray]; rfl) (by kernel_rfl) (by kernel_rfl) (by kernel_rfl) (fun _ _ _ h => by exact h) (Or.inl ⟨by rfl, ?_⟩) (by assumption) ?_
                rotate_left
                · (intro w hSw; (try dsimp only at hSw); go_simp; (try with_reducible rfl))
                try simp only [Act.put, List.setIfInBounds_toArray, List.set_cons_zero, List.set_cons_succ]
                refine wpAnyH_take (i := 9) (oi := _) (v := ?_) (by rw [List.getElem?_toArray]; rfl) (by kernel_rfl) (by kernel_rfl) (by kernel_rfl) (fun _ _ _ h => by exact h) (Or.inl ⟨by rfl, ?_⟩) (by assumption) ?_
                rotate_left
                · (intro w hSw; (try dsimp only at hSw); go_simp; (try with_reducible rfl))
                try simp only [Act.put, List.setIfInBounds_toArray, List.set_cons_zero, List.set_cons_succ]
                refine wpAnyH_take (i := 10) (oi := _) (v := ?_) (by rw [List.getElem?_toArray]; rfl) (by kernel_rfl) (by kernel_rfl) (by kernel_rfl) (fun _ _ _ h => by exact h) (Or.inl ⟨by rfl, ?_⟩) (by assumption) ?_
                rotate_left
                · (intro w hSw; (try dsimp only at hSw); go_simp; (try with_reducible rfl))
                try simp only [Act.put, List.setIfInBounds_toArray, List.set_cons_zero, List.set_cons_succ]
                refine wpAnyH_take (i := 11) (oi := _) (v := undef) (by rw [List.getElem?_toArray]; rfl) (by kernel_rfl) (by kernel_rfl) (by kernel_rfl) (fun _ _ _ h => by exact h) (Or.inr ⟨by rfl, rfl⟩) (by assumption) ?_
                try simp only [Act.put, List.setIfInBounds_toArray, List.set_cons_zero, List.set_cons_succ]
                refine wpAnyH_take (i := 12) (oi := _) (v := undef) (by rw [List.getElem?_toArray]; rfl) (by kernel_rfl) (by kernel_rfl) (by kernel_rfl) (fun _ _ _ h => by exact h) (Or.inr ⟨by rfl, rfl⟩) (by assumption) ?_
                try simp only [Act.put, List.setIfInBounds_toArray, List.set_cons_zero, List.set_cons_succ]
                refine wpAnyH_take (i := 13) (oi := _) (v := undef) (by rw [List.getElem?_toArray]; rfl) (by kernel_rfl) (by kernel_rfl) (by kernel_rfl) (fun _ _ _ h => by exact h) (Or.inr ⟨by rfl, rfl⟩) (by assumption) ?_
                try simp only [Act.put, List.setIfInBounds_toArray, List.set_cons_zero, List.set_cons_succ]
                refine wpAnyH_take (i := 14) (oi := _) (v := undef) (by rw [List.getElem?_toArray]; rfl) (by kernel_rfl) (by kernel_rfl) (by kernel_rfl) (fun _ _ _ h => by exact h) (Or.inr ⟨by rfl, rfl⟩) (by assumption) ?_
                try simp only [Act.put, List.setIfInBounds_toArray, List.set_cons_zero, List.set_cons_succ]
                refine wpAnyH_take (i := 15) (oi := _) (v := undef) (by rw [List.getElem?_toArray]; rfl) (by kernel_rfl) (by kernel_rfl) (by kernel_rfl) (fun _ _ _ h => by exact h) (Or.inr ⟨by rfl, rfl⟩) (by assumption) ?_
                try simp only [Act.put, List.setIfInBounds_toArray, List.set_cons_zero, List.set_cons_succ]
                refine wpAnyH_take (i := 16) (oi := _) (v := undef) (by rw [List.getElem?_toArray]; rfl) (by kernel_rfl) (by kernel_rfl) (by kernel_rfl) (fun _ _ _ h => by exact h) (Or.inr ⟨by rfl, rfl⟩) (by assumption) ?_
                try simp only [Act.put, List.setIfInBounds_toArray, List.set_cons_zero, List.set_cons_succ]
                refine wpAnyH_take (i := 17) (oi := _) (v := ?_) (by rw [List.getElem?_toArray]; rfl) (by kernel_rfl) (by kernel_rfl) (by kernel_rfl) (fun _ _ _ h => by exact h) (Or.inl ⟨by rfl, ?_⟩) (by assumption) ?_
                rotate_left
                · (intro w hSw; (try dsimp only at hSw); go_simp; (try with_reducible rfl))
                try simp only [Act.put, List.setIfInBounds_toArray, List.set_cons_zero, List.set_cons_succ]
                refine wpAnyH_take (i := 18) (oi := _) (v := ?_) (by rw [List.getElem?_toArray]; rfl) (by kernel_rfl) (by kernel_rfl) (by kernel_rfl) (fun _ _ _ h => by exact h) (Or.inl ⟨by rfl, ?_⟩) (by assumption) ?_
                rotate_left
                · (intro w hSw; (try dsimp only at hSw); go_simp; (try with_reducible rfl))
                try simp only [Act.put, List.setIfInBounds_toArray, List.set_cons_zero, List.set_cons_succ]
                refine wpAnyH_done (by kernel_rfl) ?_ _
                go_wp2
                go_ret
                exact ⟨rfl, HFS.out.trans (F12.out.trans F13.out)⟩
              exact AllReadyH.nil
            exact AllReadyH.nil
          · have F12 : Hid (Fr (fun _ => False) (w10.setCell ⟨g, i, none⟩ (.int .u8 (y : Int))) w12) := f12
            clear f12
            go_wp2_with fail
            refine wp_region_held_drew (S := (fun _ => True)) (by kernel_rfl) trivial (fun hHeld => ?_)
            refine wpAnyH_take (i := 0) (oi := _) (v := ?_) (by rw [List.getElem?_toArray]; rfl) (by kernel_rfl) (by kernel_rfl) (by kernel_rfl) (fun _ _ _ h => by exact h) (Or.inl ⟨by rfl, ?_⟩) (by assumption) ?_
            rotate_left
            · (intro w hSw; (try dsimp only at hSw); go_simp; (try with_reducible rfl))
            try simp only [Act.put, List.setIfInBounds_toArray, List.set_cons_zero, List.set_cons_succ]
            refine wpAnyH_take (i := 1) (oi := _) (v := ?_) (by rw [List.getElem?_toArray]; rfl) (by kernel_rfl) (by kernel_rfl) (by kernel_rfl) (fun _ _ _ h => by exact h) (Or.inl ⟨by rfl, ?_⟩) (by assumption) ?_
            rotate_left
            · (intro w hSw; (try dsimp only at hSw); go_simp; (try with_reducible rfl))
            try simp only [Act.put, List.setIfInBounds_toArray, List.set_cons_zero, List.set_cons_succ]
            refine wpAnyH_take (i := 2) (oi := _) (v := ?_) (by rw [List.getElem?_toArray]; rfl) (by kernel_rfl) (by kernel_rfl) (by kernel_rfl) (fun _ _ _ h => by exact h) (Or.inl ⟨by rfl, ?_⟩) (by assumption) ?_
            rotate_left
            · (intro w hSw; (try dsimp only at hSw); go_simp; (try with_reducible rfl))
            try simp only [Act.put, List.setIfInBounds_toArray, List.set_cons_zero, List.set_cons_succ]
            refine wpAnyH_take (i := 3) (oi := _) (v := undef) (by rw [List.getElem?_toArray]; rfl) (by kernel_rfl) (by kernel_rfl) (by kernel_rfl) (fun _ _ _ h => by exact h) (Or.inr ⟨by rfl, rfl⟩) (by assumption) ?_
            try simp only [Act.put, List.setIfInBounds_toArray, List.set_cons_zero, List.set_cons_succ]
            refine wpAnyH_take (i := 4) (oi := _) (v := undef) (by rw [List.getElem?_toArray]; rfl) (by kernel_rfl) (by kernel_rfl) (by kernel_rfl) (fun _ _ _ h => by exact h) (Or.inr ⟨by rfl, rfl⟩) (by assumption) ?_
            try simp only [Act.put, List.setIfInBounds_toArray, List.set_cons_zero, List.set_cons_succ]
            refine wpAnyH_take (i := 5) (oi := _) (v := undef) (by rw [List.getElem?_toArray]; rfl) (by kernel_rfl) (by kernel_rfl) (by kernel_rfl) (fun _ _ _ h => by exact h) (Or.inr ⟨by rfl, rfl⟩) (by assumption) ?_
            try simp only [Act.put, List.setIfInBounds_toArray, List.set_cons_zero, List.set_cons_succ]
            refine wpAnyH_take (i := 6) (oi := _) (v := undef) (by rw [List.getElem?_toArray]; rfl) (by kernel_rfl) (by kernel_rfl) (by kernel_rfl) (fun _ _ _ h => by exact h) (Or.inr ⟨by rfl, rfl⟩) (by assumption) ?_
            try simp only [Act.put, List.setIfInBounds_toArray, List.set_cons_zero, List.set_cons_succ]
            refine wpAnyH_take (i := 7) (oi := _) (v := undef) (by rw [List.getElem?_toArray]; rfl) (by kernel_rfl) (by kernel_rfl) (by kernel_rfl) (fun _ _ _ h => by exact h) (Or.inr ⟨by rfl, rfl⟩) (by assumption) ?_
            try simp only [Act.put, List.setIfInBounds_toArray, List.set_cons_zero, List.set_cons_succ]
            refine wpAnyH_take (i := 8) (oi := _) (v := undef) (by rw [List.getElem?_toArray]; rfl) (by kernel_rfl) (by kernel_rfl) (by kernel_rfl) (fun _ _ _ h => by exact h) (Or.inr ⟨by rfl, rfl⟩) (by assumption) ?_
            try simp only [Act.put, List.setIfInBounds_toArray, List.set_cons_zero, List.set_cons_succ]
            refine wpAnyH_take (i := 9) (oi := _) (v := ?_) (by rw [List.getElem?_toArray]; rfl) (by kernel_rfl) (by kernel_rfl) (by kernel_rfl) (fun _ _ _ h => by exact h) (Or.inl ⟨by rfl, ?_⟩) (by assumption) ?_
            rotate_left
            · (intro w hSw; (try dsimp only at hSw); go_simp; (try with_reducible rfl))
            try simp only [Act.put, List.setIfInBounds_toArray, List.set_cons_zero, List.set_cons_succ]
            refine wpAnyH_take (i := 10) (oi := _) (v := ?_) (by rw [List.getElem?_toArray]; rfl) (by kernel_rfl) (by kernel_rfl) (by kernel_rfl) (fun _ _ _ h => by exact h) (Or.inl ⟨by rfl, ?_⟩) (by assumption) ?_
            rotate_left
            · (intro w hSw; (try dsimp only at hSw); go_simp; (try with_reducible rfl))
            try simp only [Act.put, List.setIfInBounds_toArray, List.set_cons_zero, List.set_cons_succ]
            refine wpAnyH_take (i := 11) (oi := _) (v := ?_) (by rw [List.getElem?_toArray]; rfl) (by kernel_rfl) (by kernel_rfl) (by kernel_rfl) (fun _ _ _ h => by exact h) (Or.inl ⟨by rfl, ?_⟩) (by assumption) ?_
            rotate_left
            · (intro w hSw; (try dsimp only at hSw); go_simp; (try with_reducible rfl))
            try simp only [Act.put, List.setIfInBounds_toArray, List.set_cons_zero, List.set_cons_succ]
            refine wpAnyH_take (i := 12) (oi := _) (v := ?_) (by rw [List.getElem?_toArray]; rfl) (by kernel_rfl) (by kernel_rfl) (by kernel_rfl) (fun _ _ _ h => by exact h) (Or.inl ⟨by rfl, ?_⟩) (by assumption) ?_
            rotate_left
            · (intro w hSw; (try dsimp only at hSw); go_simp; (try with_reducible rfl))
            try simp only [Act.put, List.setIfInBounds_toArray, List.set_cons_zero, List.set_cons_succ]
            refine wpAnyH_take (i := 13) (oi := _) (v := ?_) (by rw [List.getElem?_toArray]; rfl) (by kernel_rfl) (by kernel_rfl) (by kernel_rfl) (fun _ _ _ h => by exact h) (Or.inl ⟨by rfl, ?_⟩) (by assumption) ?_
            rotate_left
            · (intro w hSw; (try dsimp only at hSw); go_simp; (try with_reducible rfl))
            try simp only [Act.put, List.setIfInBounds_toArray, List.set_cons_zero, List.set_cons_succ]
            refine wpAnyH_take (i := 14) (oi := _) (v := ?_) (by rw [List.getElem?_toArray]; rfl) (by kernel_rfl) (by kernel_rfl) (by kernel_rfl) (fun _ _ _ h => by exact h) (Or.inl ⟨by rfl, ?_⟩) (by assumption) ?_
            rotate_left
            · (intro w hSw; (try dsimp only at hSw); go_simp; (try with_reducible rfl))
            try simp only [Act.put, List.setIfInBounds_toArray, List.set_cons_zero, List.set_cons_succ]
            refine wpAnyH_take (i := 15) (oi := _) (v := ?_) (by rw [List.getElem?_toArray]; rfl) (by kernel_rfl) (by kernel_rfl) (by kernel_rfl) (fun _ _ _ h => by exact h) (Or.inl ⟨by rfl, ?_⟩) (by assumption) ?_
            rotate_left
            · (intro w hSw; (try dsimp only at hSw); go_simp; (try with_reducible rfl))
            try simp only [Act.put, List.setIfInBounds_toArray, List.set_cons_zero, List.set_cons_succ]
            refine wpAnyH_take (i := 16) (oi := _) (v := ?_) (by rw [List.getElem?_toArray]; rfl) (by kernel_rfl) (by kernel_rfl) (by kernel_rfl) (fun _ _ _ h => by exact h) (Or.inl ⟨by rfl, ?_⟩) (by assumption) ?_
            rotate_left
            · (intro w hSw; (try dsimp only at hSw); go_simp; (try with_reducible rfl))
            try simp only [Act.put, List.setIfInBounds_toArray, List.set_cons_zero, List.set_cons_succ]
            refine wpAnyH_take (i := 17) (oi := _) (v := ?_) (by rw [List.getElem?_toArray]; rfl) (by kernel_rfl) (by kernel_rfl) (by kernel_rfl) (fun _ _ _ h => by exact h) (Or.inl ⟨by rfl, ?_⟩) (by assumption) ?_
            rotate_left
            · (intro w hSw; (try dsimp only at hSw); go_simp; (try with_reducible rfl))
            try simp only [Act.put, List.setIfInBounds_toArray, List.set_cons_zero, List.set_cons_succ]
            refine wpAnyH_take (i := 18) (oi := _) (v := ?_) (by rw [List.getElem?_toArray]; rfl) (by kernel_rfl) (by kernel_rfl) (by kernel_rfl) (fun _ _ _ h => by exact h) (Or.inl ⟨by rfl, ?_⟩) (by assumption) ?_
            rotate_left
            · (intro w hSw; (try dsimp only at hSw); go_simp; (try with_reducible rfl))
            try simp only [Act.put, List.setIfInBounds_toArray, List.set_cons_zero, List.set_cons_succ]
            refine wpAnyH_done (by kernel_rfl) ?_ _
            go_wp2
            go_ret
            exact ⟨rfl, HFS.out.trans (F12.out.drewN 1)⟩)
end Go.Proofs.Ytlneneacbjkheaa
