/- The statement WalBytes, walked: one of its four ways. -/
import Derived.Test.YtlcakglmheleeaaDoorWBytesH
namespace Go.Proofs.YtlcakglmheleeaaDoor
open Go.RowKit

set_option maxRecDepth 100000 in
set_option maxHeartbeats 3200000 in
theorem wbytes_op (t : Nat) (v : Int) (ra : Option Addr) (rs : List Rc) (rc : Nat) (s : Rc) (w : World) (ht : Tab w) (hrr : RRow w ra rs rc) (hs : RcG w s) (hsh : shortB rs = true) (hsd : ¬ 200 < s.d.length) (ht64 : t < 18446744073709551616) (hv : ¬ v < -1) (hv1 : -32768 ≤ v) (hv2 : v < 32768) :
    Calls Tryd.prog 4 #[.bool false, .int .u64 (t : Int), .int .i16 v, .slice ra rs.length rc, .agg #[.int .u8 (s.k : Int), .int .u64 (s.a : Int), .int .u64 (s.b : Int), .int .i16 s.v, .slice s.p s.d.length s.c]] w fun e w' => e = .returned (.bool true) ∧ Fr (fun _ => False) w w' := by
  have HT : Hid (Tab w) := ht
  have HV2 : Hid (-32768 ≤ v ∧ v < 32768) := ⟨hv1, hv2⟩
  have HRR : Hid (RRow w ra rs rc) := hrr
  have HSG : Hid (RcG w s) := hs
  have HSH : Hid (shortB rs = true) := hsh
  have HRD : Hid ((∀ r ∈ rs, r.d.length ≤ 200) ∧ rs.length ≤ 60) := by unfold shortB at hsh; simp at hsh; exact hsh
  have hrl : rs.length ≤ 60 := HRD.out.2
  have hl3 := hrr.len
  have hsl := hs.row.1
  have hsc := hs.row.2.1
  unfold maxLen at hsc
  have hsa := hs.a
  have hsb := hs.b
  obtain ⟨vn, Hvn, hvn2⟩ : ∃ vn : Nat, Hid (v + 1 = (vn : Int)) ∧ vn < 65536 := ⟨(v + 1).toNat, by show _ = _; omega, by omega⟩
  obtain ⟨sv, hsv, Hsv⟩ : ∃ sv : Nat, (s.a : Int) / 2 = (sv : Int) ∧ Hid (sv = s.a / 2) := ⟨s.a / 2, by omega, rfl⟩
  have hsv64 : sv < 18446744073709551616 := by rw [Hsv.out]; omega
  have HA : Hid (Fr (fun _ => False) w (w.alloc (.cells #[.int .u8 (s.k : Int), .int .u64 (s.a : Int), .int .u64 (s.b : Int), .int .i16 s.v, .slice s.p s.d.length s.c] 41))) := (Fr.refl _ _).alloc _
  have HB : Hid ((w.alloc (.cells #[.int .u8 (s.k : Int), .int .u64 (s.a : Int), .int .u64 (s.b : Int), .int .i16 s.v, .slice s.p s.d.length s.c] 41)).cell? ⟨w.heap.size, 1, none⟩ = some (.int .u64 (s.a : Int)) ∧ (w.alloc (.cells #[.int .u8 (s.k : Int), .int .u64 (s.a : Int), .int .u64 (s.b : Int), .int .i16 s.v, .slice s.p s.d.length s.c] 41)).cell? ⟨w.heap.size, 2, none⟩ = some (.int .u64 (s.b : Int)) ∧ (w.alloc (.cells #[.int .u8 (s.k : Int), .int .u64 (s.a : Int), .int .u64 (s.b : Int), .int .i16 s.v, .slice s.p s.d.length s.c] 41)).cell? ⟨w.heap.size, 4, none⟩ = some (.slice s.p s.d.length s.c)) := ⟨by simp, by simp, by simp⟩
  clear ht hrr hs hsh
  go_enter Tryd.func4, Tryd.ntmps4
  go_wp2_with fail
  refine (awake_any _ (HA.out.tab HT.out (by simp))).mono ?_
  rintro e w1 ⟨rfl, f1⟩
  have F1 : Hid (Fr (fun _ => False) w w1) := HA.out.trans f1
  have d1 := f1.cell HB.out.1 (by simp)
  have d2 := f1.cell HB.out.2.1 (by simp)
  have d4 := f1.cell HB.out.2.2 (by simp)
  have HD1 : Hid _ := d1
  have HD2 : Hid _ := d2
  have HD4 : Hid _ := d4
  clear f1
  go_wp2_with fail
  refine (short_any ra rs rc w1 (HRR.out.fr F1.out)).mono ?_
  rintro e w2 ⟨rfl, hw2⟩
  subst w2
  rw [HSH.out]
  have HH : Hid (Fr (fun _ => False) w1 (w1.alloc (.cells #[.int .u64 (t : Int), .int .i64 v] 29))) := (Fr.refl _ _).alloc _
  have HHC : Hid ((w1.alloc (.cells #[.int .u64 (t : Int), .int .i64 v] 29)).cell? ⟨w1.heap.size, 0, none⟩ = some (.int .u64 (t : Int)) ∧ (w1.alloc (.cells #[.int .u64 (t : Int), .int .i64 v] 29)).cell? ⟨w1.heap.size, 1, none⟩ = some (.int .i64 v)) := ⟨by simp, by simp⟩
  have F12 : Hid (Fr (fun _ => False) w1 (w1.alloc (.cells #[.int .u64 (t : Int), .int .i64 v] 29))) := HH.out
  have e1 := F12.out.cell HD1.out (by simp)
  have e2 := F12.out.cell HD2.out (by simp)
  have e4 := F12.out.cell HD4.out (by simp)
  have HH0 : Hid _ := HHC.out.1
  have HH1 : Hid _ := HHC.out.2
  have OW : Hid (Own (w1.alloc (.cells #[.int .u64 (t : Int), .int .i64 v] 29)) (w1.heap.size + 1) (.slice none 0 0) []) := Own.nil _ _
  have HLW : Hid (([] : List Nat).length ≤ 19) := by show _ ≤ _; simp
  obtain ⟨PRE, HPRE⟩ : ∃ PRE : List Nat, Hid (PRE = []) := ⟨_, rfl⟩
  have HLP : Hid ([] = PRE) := HPRE.out.symm
  have HPS : Hid (∀ es, PRE ++ recsE es = saveB false t v es) := by intro es; rw [HPRE.out]; rfl
  obtain ⟨W0, HW0⟩ : ∃ W0, Hid (W0 = (w1.alloc (.cells #[.int .u64 (t : Int), .int .i64 v] 29)).alloc (.cells #[.int .u64 (t : Int), .int .i64 v, .int .u64 (s.a : Int), .int .u64 (s.b : Int), .int .u64 (sv : Int), .slice s.p s.d.length s.c, .slice none 0 0] 42)) := ⟨_, rfl⟩
  obtain ⟨hb, Hhb⟩ : ∃ hb, Hid (w1.heap.size = hb) := ⟨_, rfl⟩
  obtain ⟨ib, Hib⟩ : ∃ ib, Hid ((w1.alloc (.cells #[.int .u64 (t : Int), .int .i64 v] 29)).heap.size = ib) := ⟨_, rfl⟩
  have F20 : Hid (Fr (fun _ => False) (w1.alloc (.cells #[.int .u64 (t : Int), .int .i64 v] 29)) W0) := by show Fr _ _ _; rw [HW0.out]; exact (Fr.refl _ _).alloc _
  have FW0 : Hid (Fr (fun _ => False) w W0) := F1.out.trans (F12.out.trans F20.out)
  have HSZ : Hid (W0.heap.size = ib + 1 ∧ w.heap.size ≤ hb ∧ hb < ib) := by
    refine ⟨?_, ?_, ?_⟩
    · rw [HW0.out, ← Hib.out]; simp
    · rw [← Hhb.out]; exact F1.out.size
    · rw [← Hhb.out, ← Hib.out]; simp
  have HC : Hid (W0.cell? ⟨hb, 0, none⟩ = some (.int .u64 (t : Int)) ∧ W0.cell? ⟨hb, 1, none⟩ = some (.int .i64 v) ∧ W0.cell? ⟨ib, 0, none⟩ = some (.int .u64 (t : Int)) ∧ W0.cell? ⟨ib, 1, none⟩ = some (.int .i64 v) ∧ W0.cell? ⟨ib, 2, none⟩ = some (.int .u64 (s.a : Int)) ∧ W0.cell? ⟨ib, 3, none⟩ = some (.int .u64 (s.b : Int)) ∧ W0.cell? ⟨ib, 4, none⟩ = some (.int .u64 (sv : Int)) ∧ W0.cell? ⟨ib, 5, none⟩ = some (.slice s.p s.d.length s.c) ∧ W0.cell? ⟨ib, 6, none⟩ = some (.slice none 0 0) ∧ W0.frozen? ⟨ib, 6, none⟩ = false) := by
    refine ⟨?_, ?_, ?_, ?_, ?_, ?_, ?_, ?_, ?_, ?_⟩
    · rw [← Hhb.out]; exact F20.out.cell HH0.out (by simp)
    · rw [← Hhb.out]; exact F20.out.cell HH1.out (by simp)
    all_goals rw [HW0.out, ← Hib.out]; simp
  have OW0 : Hid (Own W0 (hb + 1) (.slice none 0 0) []) := by show Own _ _ _ _; rw [← Hhb.out]; exact OW.out.fr F20.out (by simp)
  have HWI : Hid (∀ j, (Value.slice none 0 0).ownBlock = some j → j ≠ ib) := fun j hj e => by have := (OW.out.lt j hj).2; have := Hib.out; omega
  go_wp2
  clear hv hv1 hv2
  have Hib2 : Hid (w1.heap.size + 1 = ib) := by show _ = _; rw [← Hib.out]; simp
  rw [← HW0.out, Hib2.out, Hhb.out]
  go_loopw [13, 14, 16] (fun pe pw iv wr => ∃ (k : Nat) (ve vw : Value) (lw : List Nat), k ≤ rs.length ∧ iv = .int .i64 (k : Int) ∧ ve = pe ∧ vw = pw ∧ Hid (wr.ownsRow 0 50 4 ve k (flat (ensW s.a rs k))) ∧ Hid (Own wr (hb + 1) vw lw) ∧ Hid (∀ j, ve.ownBlock = some j → ib < j) ∧ Hid (∀ j, vw.ownBlock = some j → ve.ownBlock ≠ some j ∧ j ≠ ib) ∧ Hid (lw = PRE ++ recsE ((ensW s.a rs k).map En.p)) ∧ Hid (lw.length ≤ 19 + k * 230) ∧ Hid (Fr (fun j => hb < j ∧ j ≠ ib) W0 wr)) (fun _ _ iv _ => rs.length - (intOf iv).toNat)
  case atStart => exact ⟨0, .slice none 0 0, _, [], Nat.zero_le _, rfl, rfl, rfl, World.ownsRow_nil _ 0 50 4, OW0.out, fun j hj => (by simp [Value.ownBlock] at hj), fun j hj => ⟨by simp [Value.ownBlock], HWI.out j hj⟩, by show _ = _; rw [HLP.out]; simp [ensW, recsE], by show _ ≤ _; have := HLW.out; omega, Fr.refl _ _⟩
  case round =>
    obtain ⟨k, ve, vw, lw', hk, rfl, rfl, rfl, HOE, HOW, HVE, HVW, HLL, HLN, HFR⟩ := hrel
    have FWR : Hid (Fr (fun _ => False) w wr) := FW0.out.trans' HFR.out (fun i hi e => by have := HSZ.out; omega)
    have HOX : Hid (OwnE wr (fun j => j < w.heap.size ∨ ve.ownBlock = some j) ve (ensW s.a rs k)) := ownE_w HOE.out HRR.out hk FWR.out (fun j hj => by have := HVE.out j hj; have := HSZ.out; omega)
    obtain ⟨ea, ec, hve, hvel⟩ := HOX.out.form
    subst hve
    rw [ensW_length] at hvel HOX HOE HVE HVW ⊢
    obtain ⟨aw', cw', hvw, hrw, _⟩ := HOW.out.row
    subst hvw
    obtain ⟨h0, h1, i0, i1, i2, i3, i4, i5, i6, iz⟩ := HC.out
    have g2 := HFR.out.cell i2 (by simp)
    have hsz := HFR.out.size
    have HWS : Hid (W0.heap.size ≤ wr.heap.size) := hsz
    clear hrw hsz
    by_cases hlt : k < rs.length
    · obtain ⟨b, off, x, hra, x0, _, x2, _, x4, gx, Hx⟩ := (HRR.out.fr FWR.out).at hlt
      subst hra
      have hmem : x ∈ rs := by rw [Hx.out, List.getD_eq_getElem?_getD, List.getElem?_eq_getElem hlt]; exact List.getElem_mem _
      have HXD : Hid (x.d.length ≤ 200) := HRD.out.1 x hmem
      have HXB : Hid (x.d ≠ [] → ∀ a, x.p = some a → a.block < w.heap.size) := fun hne a ha => row_blk (HRR.out.2.2.1 x hmem).row hne a ha
      have j1 : (0 : Int) ≤ (k : Int) := by omega
      have j2 : (k : Int) < (rs.length : Int) := by omega
      have HGX : Hid (RcG wr x) := gx
      obtain ⟨z1, hz1, Hz1⟩ : ∃ z1 : Nat, IntKind.u64.wrap ((s.a : Int) + (k : Int)) = (z1 : Int) ∧ Hid (z1 = (s.a + k) % 18446744073709551616) := ⟨_, by rw [show (s.a : Int) + (k : Int) = ((s.a + k : Nat) : Int) by omega, wrap64], rfl⟩
      obtain ⟨z2, hz2, Hz2⟩ : ∃ z2 : Nat, IntKind.u64.wrap ((z1 : Int) + 1) = (z2 : Int) ∧ Hid (z2 = (s.a + k + 1) % 18446744073709551616) := ⟨_, by rw [show (z1 : Int) + 1 = ((z1 + 1 : Nat) : Int) by omega, wrap64], by show _ = _; rw [Hz1.out]; omega⟩
      have hkw : IntKind.u64.wrap (k : Int) = (k : Int) := wrap_u64_small _ (by omega) (by omega)
      have HEN : Hid (enW s.a x k = ⟨z2, x.b, x.k, x.d, x.p, x.c⟩) := by show _ = _; unfold enW; rw [← Hz2.out]
      have n1 := World.new_ne wr ⟨ib, 2, none⟩ g2
      have n2 := World.new_ne wr ⟨b, off + k * 5, none⟩ x0
      have n3 := World.new_ne wr ⟨b, off + k * 5 + 2, none⟩ x2
      have n4 := World.new_ne wr ⟨b, off + k * 5 + 4, none⟩ x4
      clear gx
      go_wp2_with fail
      go_region_held3 (fun w' => w'.cell? ⟨ib, 2, none⟩ = some (.int .u64 (s.a : Int)) ∧ w'.cell? ⟨b, off + k * 5, none⟩ = some (.int .u8 (x.k : Int)) ∧ w'.cell? ⟨b, off + k * 5 + 2, none⟩ = some (.int .u64 (x.b : Int)) ∧ w'.cell? ⟨b, off + k * 5 + 4, none⟩ = some (.slice x.p x.d.length x.c)) (first | (with_reducible exact ⟨g2, x0, x2, x4⟩) | go_keep) (fail)
      all_goals
        obtain ⟨W1, HW1⟩ : ∃ W1, Hid (W1 = (wr.alloc (.cells #[.int .u64 (z2 : Int), .int .u64 (x.b : Int), .int .u8 (x.k : Int), .slice x.p x.d.length x.c] 50)).drew) := ⟨_, rfl⟩
        obtain ⟨bx, Hbx⟩ : ∃ bx, Hid (wr.heap.size = bx) := ⟨_, rfl⟩
        have F01 : Hid (Fr (fun _ => False) wr W1) := by show Fr _ _ _; rw [HW1.out]; exact ((Fr.refl _ _).alloc _).drew
        have HX1 : Hid (W1.cell? ⟨bx, 0, none⟩ = some (.int .u64 (z2 : Int)) ∧ W1.cell? ⟨bx, 1, none⟩ = some (.int .u64 (x.b : Int)) ∧ W1.cell? ⟨bx, 2, none⟩ = some (.int .u8 (x.k : Int)) ∧ W1.cell? ⟨bx, 3, none⟩ = some (.slice x.p x.d.length x.c)) := by
          rw [HW1.out, ← Hbx.out]
          exact ⟨by simp, by simp, by simp, by simp⟩
        have HS1 : Hid (W1.heap.size = bx + 1) := by show _ = _; rw [HW1.out, ← Hbx.out]; simp
        obtain ⟨rx, Hrx⟩ : ∃ rx : En, Hid (rx = ⟨z2, x.b, x.k, x.d, x.p, x.c⟩) := ⟨_, rfl⟩
        rw [← HW1.out, Hbx.out]
        have HA1 : Hid (Fr (fun _ => False) W1 (W1.alloc (.cells #[.int .u64 (z2 : Int), .int .u64 (x.b : Int), .int .u8 (x.k : Int), .slice x.p x.d.length x.c] 50))) := (Fr.refl _ _).alloc _
        have hz64 : z2 < 18446744073709551616 := by rw [Hz2.out]; omega
        have HO1 : Hid (OwnE (W1.alloc (.cells #[.int .u64 (z2 : Int), .int .u64 (x.b : Int), .int .u8 (x.k : Int), .slice x.p x.d.length x.c] 50)) (fun j => j < w.heap.size ∨ (Value.slice ea k ec).ownBlock = some j ∨ wr.heap.size ≤ j) (.slice ea k ec) (ensW s.a rs k)) := (HOX.out.fr (F01.out.trans HA1.out) (by simp)).mono (fun j _ hj => hj.imp id .inl)
        have HMS : Hid (∀ z ∈ [(⟨z2, x.b, x.k, x.d, x.p, x.c⟩ : En)], EG (W1.alloc (.cells #[.int .u64 (z2 : Int), .int .u64 (x.b : Int), .int .u8 (x.k : Int), .slice x.p x.d.length x.c] 50)) (fun j => (j < w.heap.size ∨ (Value.slice ea k ec).ownBlock = some j ∨ wr.heap.size ≤ j) ∧ (Value.slice ea k ec).ownBlock ≠ some j) z) := fun z hz => by
          simp at hz
          subst hz
          exact ⟨hz64, HGX.out.b, HGX.out.k, (F01.out.trans HA1.out).row HGX.out.row (by simp), fun hne a ha => ⟨.inl (HXB.out hne a ha), fun e => by have := HVE.out _ e; have := HXB.out hne a ha; have := HSZ.out; omega⟩⟩
        have HNN : Hid (∀ j, (W1.alloc (.cells #[.int .u64 (z2 : Int), .int .u64 (x.b : Int), .int .u8 (x.k : Int), .slice x.p x.d.length x.c] 50)).heap.size ≤ j → (j < w.heap.size ∨ (Value.slice ea k ec).ownBlock = some j ∨ wr.heap.size ≤ j)) := fun j hj => .inr (.inr (Nat.le_trans (F01.out.trans HA1.out).size hj))
        have HLE : Hid ((ensW s.a rs k).length + [(⟨z2, x.b, x.k, x.d, x.p, x.c⟩ : En)].length ≤ 1000000) := by show _ ≤ _; rw [ensW_length]; simp; omega
        obtain ⟨y0, y1, y2, y3⟩ := HX1.out
        clear n1 n2 n3 n4 x0 x2 x4 g2
        go_wp2_with (at_builtin; refine wpList_append_ents rfl (.tmp 83) (.tmp 85) rfl (fun j => j < w.heap.size ∨ (Value.slice ea k ec).ownBlock = some j ∨ wr.heap.size ≤ j) _ (ensW s.a rs k) rfl HO1.out ⟨W1.heap.size, 0, none⟩ [⟨z2, x.b, x.k, x.d, x.p, x.c⟩] 1 rfl (one_cells W1 ⟨z2, x.b, x.k, x.d, x.p, x.c⟩) HMS.out HNN.out HLE.out ?_)
        intro v2 w2 o2 g2 hat
        have HES : Hid (ensW s.a rs k ++ [⟨z2, x.b, x.k, x.d, x.p, x.c⟩] = ensW s.a rs (k + 1)) := by show _ = _; rw [ensW_succ, ← Hx.out, HEN.out]
        rw [HES.out] at o2
        have HOR : Hid (w2.ownsRow 0 50 4 v2 (k + 1) (flat (ensW s.a rs (k + 1)))) := by show World.ownsRow _ _ _ _ _ _ _; have := o2.own; rw [ensW_length] at this; exact this
        have HAT : Hid (v2.ownBlock = (Value.slice ea k ec).ownBlock ∨ v2.ownBlock = some (bx + 2)) := by rcases hat with e | e; exact .inl e; exact .inr (by rw [e, HS1.out])
        have F12 : Hid (Fr (fun j => (Value.slice ea k ec).ownBlock = some j) (W1.alloc (.cells #[.int .u64 (z2 : Int), .int .u64 (x.b : Int), .int .u8 (x.k : Int), .slice x.p x.d.length x.c] 50)) w2) := (Fr.refl _ _).grown g2 (fun j hj => .inl hj)
        obtain ⟨ea2, ec2, hv2, hv2l⟩ := o2.form
        rw [ensW_length] at hv2 hv2l
        subst hv2
        have HEB : Hid (∀ j, (Value.slice ea k ec).ownBlock = some j → ib < j ∧ j < bx) := fun j hj => ⟨HVE.out j hj, by rw [← Hbx.out]; exact HOX.out.lt j hj⟩
        have hxe : ¬ (Value.slice ea k ec).ownBlock = some bx := fun e => by have := (HEB.out _ e).2; omega
        have k0 := F12.out.cell (HA1.out.cell y0 (by simp)) hxe
        have k1 := F12.out.cell (HA1.out.cell y1 (by simp)) hxe
        have k2 := F12.out.cell (HA1.out.cell y2 (by simp)) hxe
        have k3 := F12.out.cell (HA1.out.cell y3 (by simp)) hxe
        have FW2 : Hid (Fr (fun _ => False) w w2) := ((FWR.out.trans F01.out).trans HA1.out).trans' F12.out (fun j hj e => by have := (HEB.out j e).1; have := HSZ.out; omega)
        have KE : Hid (Calls _ _ _ _ _) := refentry_step ⟨z2, x.b, x.k, x.d, x.p, x.c⟩ w2 (FW2.out.row (HRR.out.2.2.1 x hmem).row (by simp)) hz64 HGX.out.b HGX.out.k (by show x.d.length ≤ _; have := HXD.out; omega)
        have F02 : Hid (Fr (fun j => (Value.slice ea k ec).ownBlock = some j) wr w2) := ((F01.out.trans HA1.out).mono (fun _ _ h => h.elim)).trans F12.out
        have HW2 : Hid (Own w2 (hb + 1) (.slice aw' lw'.length cw') lw') := HOW.out.fr F02.out (fun j hj => (HVW.out j hj).1)
        clear o2 g2 hat y0 y1 y2 y3 hxe
        go_wp2_with fail
        refine KE.out.mono ?_
        rintro e w3 ⟨aq, cq, q, rfl, oq, EQ, f3⟩
        have HW3 : Hid (Own w3 (hb + 1) (.slice aw' lw'.length cw') lw') := HW2.out.fr f3 (by simp)
        have HRQ : Hid (Row w3 aq q cq) := by obtain ⟨_, _, he, r, _⟩ := oq.row; cases he; exact r
        have HQL : Hid (q.length ≤ 230) := by show _ ≤ _; rw [EQ.out, entB_length]; show x.d.length + 30 ≤ _; have := HXD.out; omega
        have HNL : Hid (lw'.length + q.length ≤ 140737488355328) := by show _ ≤ _; have := HQL.out; have := HLN.out; omega
        have F03 : Hid (Fr (fun j => (Value.slice ea k ec).ownBlock = some j) wr w3) := F02.out.trans (f3.mono (fun _ _ h => h.elim))
        have hsz3 : hb + 1 ≤ w3.heap.size := by have := F03.out.size; have := HWS.out; have := HSZ.out; omega
        have HO3 : Hid (w3.ownsRow 0 50 4 (.slice ea2 (k + 1) ec2) (k + 1) (flat (ensW s.a rs (k + 1)))) := ownsRow_fr HOR.out f3 (by simp)
        have HLT3 : Hid (w2.heap.size ≤ w3.heap.size) := f3.size
        clear oq f3 KE k0 k1 k2 k3
        go_wp2_with (at_builtin; refine wpList_append_bytes rfl (.tmp 87) (.tmp 89) rfl (hb + 1) _ lw' rfl HW3.out aq q cq rfl HRQ.out HNL.out hsz3 ?_)
        intro v4 w4 o4 g4 hn4
        have F34 : Hid (Fr (fun j => (Value.slice aw' lw'.length cw').ownBlock = some j) w3 w4) := (Fr.refl _ _).grown g4 (fun j hj => .inl hj)
        obtain ⟨l4, Hl4⟩ : ∃ l4, Hid (lw' ++ q = l4) := ⟨_, rfl⟩
        rw [Hl4.out] at o4
        have HN4 : Hid (∀ j, v4.ownBlock = some j → (Value.slice aw' lw'.length cw').ownBlock = some j ∨ w3.heap.size ≤ j) := hn4
        obtain ⟨a4, c4, hv4, _⟩ := o4.row
        subst hv4
        have O4 : Hid (Own w4 (hb + 1) (.slice a4 l4.length c4) l4) := o4
        have HEB2 : Hid (∀ j, (Value.slice ea2 (k + 1) ec2).ownBlock = some j → ib < j ∧ j < w3.heap.size) := fun j hj => by
          refine ⟨?_, ?_⟩
          · rcases HAT.out with e | e
            · rw [e] at hj; exact (HEB.out j hj).1
            · rw [e] at hj; have := Option.some.inj hj; have := HWS.out; have := HSZ.out; have := Hbx.out; omega
          · exact Nat.lt_of_lt_of_le (HOR.out.lt j hj).2 HLT3.out
        have HVB2 : Hid (∀ j, (Value.slice aw' lw'.length cw').ownBlock = some j → (Value.slice ea2 (k + 1) ec2).ownBlock ≠ some j ∧ j ≠ ib) := fun j hj => ⟨fun e => by
          rcases HAT.out with e' | e'
          · rw [e'] at e; exact (HVW.out j hj).1 e
          · rw [e'] at e; have := Option.some.inj e; have := (HOW.out.lt j hj).2; have := Hbx.out; omega, (HVW.out j hj).2⟩
        have HO4 : Hid (w4.ownsRow 0 50 4 (.slice ea2 (k + 1) ec2) (k + 1) (flat (ensW s.a rs (k + 1)))) := ownsRow_fr HO3.out F34.out (fun j hj e => (HVB2.out j e).1 hj)
        have HV4 : Hid (∀ j, (Value.slice a4 l4.length c4).ownBlock = some j → (Value.slice ea2 (k + 1) ec2).ownBlock ≠ some j ∧ j ≠ ib) := fun j hj => by
          rcases HN4.out j hj with e | e
          · exact HVB2.out j e
          · exact ⟨fun e2 => by have := (HEB2.out j e2).2; omega, by have := F03.out.size; have := HWS.out; have := HSZ.out; omega⟩
        have HFR4 : Hid (Fr (fun j => hb < j ∧ j ≠ ib) W0 w4) := (HFR.out.trans (F03.out.mono (fun j _ hj => by have := HEB.out j hj; have := HSZ.out; omega))).trans' F34.out (fun j _ hj => by have := (HVW.out j hj).2; have := (HOW.out.lt j hj).1; omega)
        have HLL4 : Hid (l4 = PRE ++ recsE ((ensW s.a rs (k + 1)).map En.p)) := by show _ = _; rw [← Hl4.out, ← HES.out, List.map_append, recsE_append, HLL.out, EQ.out]; simp [recsE]
        have HLN4 : Hid (l4.length ≤ 19 + (k + 1) * 230) := by show _ ≤ _; rw [← Hl4.out, List.length_append]; have := HLN.out; have := HQL.out; omega
        clear o4 g4 hn4
        go_wp2
        go_roundw
        case rel => exact ⟨k + 1, _, _, l4, by omega, by go_num, rfl, rfl, HO4.out, O4.out, fun j hj => (HEB2.out j hj).1, HV4.out, HLL4.out, HLN4.out, HFR4.out⟩
        case measure => simp [intOf]; omega
    · have hk' : k = rs.length := by omega
      subst hk'
      have j2 : ¬ (rs.length : Int) < (rs.length : Int) := by omega
      obtain ⟨W1, HW1⟩ : ∃ W1, Hid (W1 = wr.setCell ⟨ib, 6, none⟩ (.slice ea rs.length ec)) := ⟨_, rfl⟩
      have c0 := HFR.out.cell h0 (by simp)
      have c1 := HFR.out.cell h1 (by simp)
      have i0' := HFR.out.cell i0 (by simp)
      have i1' := HFR.out.cell i1 (by simp)
      have i2' := HFR.out.cell i2 (by simp)
      have i3' := HFR.out.cell i3 (by simp)
      have i4' := HFR.out.cell i4 (by simp)
      have i5' := HFR.out.cell i5 (by simp)
      have i6' := HFR.out.cell i6 (by simp)
      have iz' := (HFR.out.frozenEq (a := ⟨ib, 6, none⟩) (World.block_lt_of_cell? _ _ i6) (by simp)).trans iz
      have F01 : Hid (Fr (fun j => j = ib) wr W1) := by show Fr _ _ _; rw [HW1.out]; exact (Fr.refl (fun j => j = ib) wr).setCell (p := ⟨ib, 6, none⟩) (Or.inl rfl) _
      have hhi : ¬ hb = ib := by have := HSZ.out; omega
      have o : ∀ {j : Nat} {u y : Value}, j ≠ 6 → wr.cell? ⟨ib, j, none⟩ = some y → (wr.setCell ⟨ib, 6, none⟩ u).cell? ⟨ib, j, none⟩ = some y := fun _hij hc => (World.cell?_setCell_other _ _ _ _ (by simp)).trans hc
      have HS1 : Hid (W1.cell? ⟨hb, 0, none⟩ = some (.int .u64 (t : Int)) ∧ W1.cell? ⟨hb, 1, none⟩ = some (.int .i64 v) ∧ W1.cell? ⟨ib, 0, none⟩ = some (.int .u64 (t : Int)) ∧ W1.cell? ⟨ib, 1, none⟩ = some (.int .i64 v) ∧ W1.cell? ⟨ib, 2, none⟩ = some (.int .u64 (s.a : Int)) ∧ W1.cell? ⟨ib, 3, none⟩ = some (.int .u64 (s.b : Int)) ∧ W1.cell? ⟨ib, 4, none⟩ = some (.int .u64 (sv : Int)) ∧ W1.cell? ⟨ib, 5, none⟩ = some (.slice s.p s.d.length s.c) ∧ W1.cell? ⟨ib, 6, none⟩ = some (.slice ea rs.length ec)) := by
        refine ⟨F01.out.cell c0 hhi, F01.out.cell c1 hhi, ?_, ?_, ?_, ?_, ?_, ?_, ?_⟩
        · rw [HW1.out]; exact o (by omega) i0'
        · rw [HW1.out]; exact o (by omega) i1'
        · rw [HW1.out]; exact o (by omega) i2'
        · rw [HW1.out]; exact o (by omega) i3'
        · rw [HW1.out]; exact o (by omega) i4'
        · rw [HW1.out]; exact o (by omega) i5'
        · rw [HW1.out]; exact World.cell?_setCell_same _ _ _ i6'
      have FW1 : Hid (Fr (fun _ => False) w W1) := FWR.out.trans' F01.out (fun i hi e => by have := HSZ.out; omega)
      have HO1 : Hid (OwnE W1 (fun j => j < w.heap.size ∨ (Value.slice ea rs.length ec).ownBlock = some j) (.slice ea rs.length ec) (ensW s.a rs rs.length)) := ownE_w (ownsRow_fr HOE.out F01.out (fun j hj e => by have := HVE.out j hj; omega)) HRR.out (Nat.le_refl _) FW1.out (fun j hj => by have := HVE.out j hj; have := HSZ.out; omega)
      obtain ⟨EE, HEE⟩ : ∃ EE, Hid (EE = ensW s.a rs rs.length) := ⟨_, rfl⟩
      rw [← HEE.out] at HO1 HLL
      have HEL2 : Hid (EE.length = rs.length) := by show _ = _; rw [HEE.out, ensW_length]
      have HER : Hid (∃ D : Nat → Prop, ERow W1 D D ea EE ec) := by
        obtain ⟨_, _, he, hr⟩ := HO1.out.eroww
        rw [HEL2.out] at he
        cases he
        exact ⟨_, hr⟩
      have HDL : Hid (∀ y ∈ EE, y.d.length ≤ 200) := fun y hy => by
        rw [HEE.out] at hy
        obtain ⟨j, hj, rfl⟩ := List.mem_map.1 hy
        have hj' : j < rs.length := List.mem_range.1 hj
        exact HRD.out.1 _ (by rw [List.getD_eq_getElem?_getD, List.getElem?_eq_getElem hj']; exact List.getElem_mem _)
      have HVW1 : Hid (Row W1 aw' lw' cw') := by obtain ⟨_, _, he, r, _⟩ := (HOW.out.fr F01.out (fun j hj e => (HVW.out j hj).2 e)).row; cases he; exact r
      have HSB : Hid (lw' = saveB false t v (EE.map En.p)) := by show _ = _; rw [← HPS.out]; exact HLL.out
      obtain ⟨WL, HWL⟩ : ∃ WL, Hid (WL = wholeB ⟨t, v, s.a, s.b, sv, s.d, EE.map En.p⟩) := ⟨_, rfl⟩
      have KB : Hid (∀ w', Fr (fun _ => False) W1 w' → Calls Tryd.prog 17 #[.agg #[.bool false, .int .u64 (t : Int), .int .i64 v, .slice ea rs.length ec]] w' fun e w'' => ∃ a c, e = .returned (.slice a lw'.length c) ∧ Row w'' a lw' c ∧ Fr (fun _ => False) w' w'') := fun w' f => by
        obtain ⟨D, hD⟩ := HER.out
        have := bytes_any false t vn v ea EE ec w' D D (hD.fr f (by simp) (by simp)) ((FW1.out.trans f).tab HT.out (by simp)) ht64 Hvn.out hvn2 (by rw [HEL2.out]; omega) (fun y hy => by have := HDL.out y hy; omega)
        rw [HEL2.out] at this
        refine this.mono ?_
        rintro e w'' ⟨v', rfl, hl, f'⟩
        rw [← HSB.out] at hl
        obtain ⟨a, c, hv', r, _⟩ := hl.row
        exact ⟨a, c, by rw [hv'], r, f'⟩
      have KW : Hid (∀ w', Fr (fun _ => False) W1 w' → Calls Tryd.prog 18 #[.agg #[.int .u64 (t : Int), .int .i64 v, .int .u64 (s.a : Int), .int .u64 (s.b : Int), .int .u64 (sv : Int), .slice s.p s.d.length s.c, .slice ea rs.length ec]] w' fun e w'' => ∃ a c, e = .returned (.slice a WL.length c) ∧ Row w'' a WL c ∧ Fr (fun _ => False) w' w'') := fun w' f => by
        obtain ⟨D, hD⟩ := HER.out
        have := whole_any t vn s.a s.b sv v s.p ea s.d s.c EE ec w' D D (hD.fr f (by simp) (by simp)) ((FW1.out.trans f).row HSG.out.row (by simp)) ((FW1.out.trans f).tab HT.out (by simp)) ht64 Hvn.out hvn2 hsa hsb hsv64 (by omega) (by rw [HEL2.out]; omega) (fun y hy => by have := HDL.out y hy; omega)
        rw [HEL2.out] at this
        refine this.mono ?_
        rintro e w'' ⟨v', rfl, hl, f'⟩
        rw [← HWL.out] at hl
        obtain ⟨a, c, hv', r, _⟩ := hl.row
        exact ⟨a, c, by rw [hv'], r, f'⟩
      have KR : Hid (∀ w', Fr (fun _ => False) W1 w' → Calls Tryd.prog 19 #[.agg #[.int .u64 (t : Int), .int .i64 v, .int .u64 (s.a : Int), .int .u64 (s.b : Int), .int .u64 (sv : Int), .slice s.p s.d.length s.c, .slice ea rs.length ec]] w' fun e w'' => ∃ a c, e = .returned (.slice a WL.length c) ∧ Row w'' a WL c ∧ Fr (fun _ => False) w' w'') := fun w' f => by
        obtain ⟨D, hD⟩ := HER.out
        have := refwhole_any t vn s.a s.b sv v s.p ea s.d s.c EE ec w' D D (hD.fr f (by simp) (by simp)) ((FW1.out.trans f).row HSG.out.row (by simp)) ht64 Hvn.out hvn2 hsa hsb hsv64 (by omega) (by rw [HEL2.out]; omega) (fun y hy => by have := HDL.out y hy; omega)
        rw [HEL2.out] at this
        refine this.mono ?_
        rintro e w'' ⟨v', rfl, hl, f'⟩
        rw [← HWL.out] at hl
        obtain ⟨a, c, hv', r, _⟩ := hl.row
        exact ⟨a, c, by rw [hv'], r, f'⟩
      obtain ⟨T1, HT1⟩ : ∃ T1, Hid (T1 = strOf lw') := ⟨_, rfl⟩
      obtain ⟨T2, HT2⟩ : ∃ T2, Hid (T2 = strOf WL) := ⟨_, rfl⟩
      have CV : Hid (∀ w' a c, Row w' a lw' c → Sem.run Tryd.prog (convert 23 9 (.slice a lw'.length c)) w' = .ok (.string T1) w') := fun w' a c h => by rw [HT1.out]; exact run_str w' a lw' c h
      have CW : Hid (∀ w' a c, Row w' a WL c → Sem.run Tryd.prog (convert 23 9 (.slice a WL.length c)) w' = .ok (.string T2) w') := fun w' a c h => by rw [HT2.out]; exact run_str w' a WL c h
      have hb1 : (T1.toList == T1.toList) = true := by simp
      have hb2 : (T2.toList == T2.toList) = true := by simp
      have SV : Hid (∀ w', Fr (fun _ => False) W1 w' → w'.cell? ⟨hb, 0, none⟩ = some (.int .u64 (t : Int)) ∧ w'.cell? ⟨hb, 1, none⟩ = some (.int .i64 v) ∧ w'.cell? ⟨ib, 0, none⟩ = some (.int .u64 (t : Int)) ∧ w'.cell? ⟨ib, 1, none⟩ = some (.int .i64 v) ∧ w'.cell? ⟨ib, 2, none⟩ = some (.int .u64 (s.a : Int)) ∧ w'.cell? ⟨ib, 3, none⟩ = some (.int .u64 (s.b : Int)) ∧ w'.cell? ⟨ib, 4, none⟩ = some (.int .u64 (sv : Int)) ∧ w'.cell? ⟨ib, 5, none⟩ = some (.slice s.p s.d.length s.c) ∧ w'.cell? ⟨ib, 6, none⟩ = some (.slice ea rs.length ec) ∧ Sem.run Tryd.prog (convert 23 9 (.slice aw' lw'.length cw')) w' = .ok (.string T1) w') := fun w' f => by
        obtain ⟨s0, s1, s2, s3, s4, s5, s6, s7, s8⟩ := HS1.out
        exact ⟨f.cell s0 (by simp), f.cell s1 (by simp), f.cell s2 (by simp), f.cell s3 (by simp), f.cell s4 (by simp), f.cell s5 (by simp), f.cell s6 (by simp), f.cell s7 (by simp), f.cell s8 (by simp), CV.out w' aw' cw' (f.row HVW1.out (by simp))⟩
      have F1d : Hid (Fr (fun _ => False) W1 W1.drew) := (Fr.refl (fun _ => False) W1).drew
      have S1d := SV.out W1.drew F1d.out
      have HS1d : Hid _ := S1d
      clear S1d
      go_wp2_with fail
      rw [← HW1.out]
      clear c0 c1 i0' i1' i2' i3' i4' i5' i6' iz' i0 i1 i2 i3 i4 i5 i6 iz h0 h1 g2 o j2
      have HS1p := (SV.out W1 (Fr.refl _ _))
      have HS1q : Hid _ := HS1p
      clear HS1p
      go_region_held (fun w' => w'.cell? ⟨hb, 0, none⟩ = some (.int .u64 (t : Int)) ∧ w'.cell? ⟨hb, 1, none⟩ = some (.int .i64 v) ∧ w'.cell? ⟨ib, 0, none⟩ = some (.int .u64 (t : Int)) ∧ w'.cell? ⟨ib, 1, none⟩ = some (.int .i64 v) ∧ w'.cell? ⟨ib, 2, none⟩ = some (.int .u64 (s.a : Int)) ∧ w'.cell? ⟨ib, 3, none⟩ = some (.int .u64 (s.b : Int)) ∧ w'.cell? ⟨ib, 4, none⟩ = some (.int .u64 (sv : Int)) ∧ w'.cell? ⟨ib, 5, none⟩ = some (.slice s.p s.d.length s.c) ∧ w'.cell? ⟨ib, 6, none⟩ = some (.slice ea rs.length ec) ∧ Sem.run Tryd.prog (convert 23 9 (.slice aw' lw'.length cw')) w' = .ok (.string T1) w') (first | (with_reducible exact HS1q.out) | (with_reducible exact HS1d.out) | (with_reducible exact SB2.out) | (with_reducible exact SW3.out) | (with_reducible exact SI4.out) | (with_reducible exact SR5.out) | go_keep) (first
        | (go_at_call 19; refine (KR.out _ ?_).mono ?_; (first | (with_reducible exact F3.out) | (with_reducible exact F4.out)); rintro e w5 ⟨a5, c5, rfl, r5, f5⟩; have F5 : Hid (Fr (fun _ => False) W1 w5) := (by first | exact F3.out.trans f5 | exact F4.out.trans f5); have R5 : Hid (Row w5 a5 WL c5) := r5; have CR55 := CW.out w5 a5 c5 r5; have SR5 := SV.out w5 F5.out; have SR5 : Hid _ := SR5; (first | (have R35 : Hid (Row w5 a3 WL c3) := (by first | exact f5.row R3.out (by simp) | exact f5.row R34.out (by simp)); have CR35 := CW.out w5 a3 c3 R35.out) | skip); clear r5 f5)
        | (go_at_call 14; refine (image_any _ _ _ _ _ _ _ _ _ _ _ _).mono ?_; rintro e w4 ⟨rfl, f4⟩; have F4 : Hid (Fr (fun _ => False) W1 w4) := (by first | exact F3.out.trans f4 | exact F2.out.trans f4); have SI4 := SV.out w4 F4.out; have SI4 : Hid _ := SI4; (first | (have R34 : Hid (Row w4 a3 WL c3) := f4.row R3.out (by simp); have CR34 := CW.out w4 a3 c3 R34.out) | skip); clear f4)
        | (go_at_call 18; refine (KW.out _ ?_).mono ?_; (first | (with_reducible exact F5.out) | (with_reducible exact F4.out) | (with_reducible exact F2.out)); rintro e w3 ⟨a3, c3, rfl, r3, f3⟩; have F3 : Hid (Fr (fun _ => False) W1 w3) := (by first | exact F5.out.trans f3 | exact F4.out.trans f3 | exact F2.out.trans f3); have R3 : Hid (Row w3 a3 WL c3) := r3; have CR33 := CW.out w3 a3 c3 r3; have SW3 := SV.out w3 F3.out; have SW3 : Hid _ := SW3; (first | (have R53 : Hid (Row w3 a5 WL c5) := f3.row R5.out (by simp); have CR53 := CW.out w3 a5 c5 R53.out) | skip); clear r3 f3)
        | (go_at_call 17; refine (KB.out _ ?_).mono ?_; exact F1d.out; rintro e w2 ⟨a2, c2, rfl, r2, f2⟩; have F2 : Hid (Fr (fun _ => False) W1 w2) := F1d.out.trans f2; have CR22 := CV.out w2 a2 c2 r2; have SB2 := SV.out w2 F2.out; have SB2 : Hid _ := SB2; clear r2 f2))
      all_goals
        go_wp2
        go_ret
        exact ⟨rfl, by first | exact FW1.out.trans F5.out | exact FW1.out.trans F3.out⟩
end Go.Proofs.YtlcakglmheleeaaDoor
