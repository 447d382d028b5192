/- The statement WalCompacts, walked. -/
import Derived.Test.YtlcakglmheleeaaDoorCompP
import Derived.Deep.RegionLaw
namespace Go.Proofs.YtlcakglmheleeaaDoor
open Go.RowKit

set_option maxRecDepth 100000 in
set_option maxHeartbeats 3200000 in
theorem comp_long (ra : Option Addr) (rs : List Rc) (rc : Nat) (s : Rc) (keep : Int) (ba : Option Addr) (bf : List Nat) (bc : Nat) (w : World) (ht : Tab w) (hrr : RRow w ra rs rc) (hs : RcG w s) (hb : Row w ba bf bc) (hsh : shortB rs = true) (hsd : ¬ 200 < s.d.length) (hbf : ¬ 200 < bf.length) (hk : -9223372036854775808 ≤ keep ∧ keep ≤ 9223372036854775807) :
    Calls Tryd.prog 6 #[.slice ra rs.length rc, .agg #[.int .u8 (s.k : Int), .int .u64 (s.a : Int), .int .u64 (s.b : Int), .int .i16 s.v, .slice s.p s.d.length s.c], .int .i64 keep, .slice ba bf.length bc] w fun e w' => e = .returned (.bool true) ∧ Fr (fun _ => False) w w' := by
  have HT : Hid (Tab w) := ht
  have HK : Hid (-9223372036854775808 ≤ keep ∧ keep ≤ 9223372036854775807) := hk
  have HRR : Hid (RRow w ra rs rc) := hrr
  have HSG : Hid (RcG w s) := hs
  have HBR : Hid (Row w ba bf bc) := hb
  have HSH : Hid (shortB rs = true) := hsh
  have HRD : Hid ((∀ r ∈ rs, r.d.length ≤ 200) ∧ rs.length ≤ 60) := by unfold shortB at hsh; simp at hsh; exact hsh
  have hrl : rs.length ≤ 60 := HRD.out.2
  have hl3 := hrr.len
  have hsl := hs.row.1
  have hsc := hs.row.2.1
  unfold maxLen at hsc
  have hbl := hb.1
  have hbc := hb.2.1
  unfold maxLen at hbc
  have hsa := hs.a
  have hsb := hs.b
  obtain ⟨si, hsi1, Hsi⟩ : ∃ si : Nat, (1 : Int) + (s.a : Int) % 1000 = (si : Int) ∧ Hid (si = 1 + s.a % 1000) := ⟨1 + s.a % 1000, by omega, rfl⟩
  have hsi : 1 ≤ si ∧ si ≤ 1000 := by rw [Hsi.out]; omega
  have HA : Hid (Fr (fun _ => False) w (w.alloc (.cells #[.int .u8 (s.k : Int), .int .u64 (s.a : Int), .int .u64 (s.b : Int), .int .i16 s.v, .slice s.p s.d.length s.c] 41))) := (Fr.refl _ _).alloc _
  have HB : Hid ((w.alloc (.cells #[.int .u8 (s.k : Int), .int .u64 (s.a : Int), .int .u64 (s.b : Int), .int .i16 s.v, .slice s.p s.d.length s.c] 41)).cell? ⟨w.heap.size, 1, none⟩ = some (.int .u64 (s.a : Int)) ∧ (w.alloc (.cells #[.int .u8 (s.k : Int), .int .u64 (s.a : Int), .int .u64 (s.b : Int), .int .i16 s.v, .slice s.p s.d.length s.c] 41)).cell? ⟨w.heap.size, 2, none⟩ = some (.int .u64 (s.b : Int)) ∧ (w.alloc (.cells #[.int .u8 (s.k : Int), .int .u64 (s.a : Int), .int .u64 (s.b : Int), .int .i16 s.v, .slice s.p s.d.length s.c] 41)).cell? ⟨w.heap.size, 4, none⟩ = some (.slice s.p s.d.length s.c)) := ⟨by simp, by simp, by simp⟩
  clear ht hrr hs hb hsh hk
  go_enter Tryd.func6, Tryd.ntmps6
  go_wp2_with fail
  refine (awake_any _ (HA.out.tab HT.out (by simp))).mono ?_
  rintro e w1 ⟨rfl, f1⟩
  have F1 : Hid (Fr (fun _ => False) w w1) := HA.out.trans f1
  have d1 := f1.cell HB.out.1 (by simp)
  have d2 := f1.cell HB.out.2.1 (by simp)
  have d4 := f1.cell HB.out.2.2 (by simp)
  have HD1 : Hid _ := d1
  have HD2 : Hid _ := d2
  have HD4 : Hid _ := d4
  clear f1
  go_wp2_with fail
  refine (short_any ra rs rc w1 (HRR.out.fr F1.out)).mono ?_
  rintro e w2 ⟨rfl, hw2⟩
  subst w2
  rw [HSH.out]
  go_wp2_with fail
  refine (dnew_any w1 w1.heap.size (Nat.le_refl _)).mono ?_
  rintro e w2 ⟨rfl, hd2, f2⟩
  obtain ⟨db, Hdb⟩ : ∃ db, Hid (w1.heap.size = db) := ⟨_, rfl⟩
  rw [Hdb.out] at hd2 ⊢
  have HDK : Hid (Dk w2 db db [] 0 0 (.slice none 0 0)) := hd2
  have HDB : Hid (w.heap.size < db) := by show _ < _; rw [← Hdb.out]; exact World.block_lt_of_cell? _ _ d1
  have F2 : Hid (Fr (fun _ => False) w w2) := F1.out.trans f2
  have KAP : Hid (Calls _ _ _ _ _) := dappend_any HDK.out (by omega) ba bf bc (F2.out.row HBR.out (by simp)) (fun hne a ha e => by have := row_blk HBR.out hne a ha; have := HDB.out; omega) (by simp; omega)
  have e1 := f2.cell d1 (by simp)
  have e2 := f2.cell d2 (by simp)
  have e4 := f2.cell d4 (by simp)
  have HE : Hid (_ ∧ _ ∧ _) := ⟨e1, e2, e4⟩
  clear hd2 f2 d1 d2 d4 e1 e2 e4
  go_wp2_with fail
  refine KAP.out.mono ?_
  rintro e w3 ⟨rfl, ⟨v3, hd3, hv3⟩, f3⟩
  have HD3 : Hid (Dk w3 db db bf 0 1 v3) := by show Dk _ _ _ _ _ _ _; simpa using hd3
  have hv3' : Hid (∀ k, v3.ownBlock = some k → w2.heap.size ≤ k) := fun k hk => by
    rcases hv3 k hk with e | e
    · simp [Value.ownBlock] at e
    · exact e
  have F3 : Hid (Fr (fun k => k = db) w2 w3) := f3.mono (fun k _ hk => by simpa [Value.ownBlock] using hk)
  have HNE : ¬ w1.heap.size = w.heap.size := by have := HDB.out; have := Hdb.out; omega
  have hdw : ¬ w.heap.size = db := by have := HDB.out; omega
  have d1 := F3.out.cell HE.out.1 hdw
  have d2 := F3.out.cell HE.out.2.1 hdw
  have d4 := F3.out.cell HE.out.2.2 hdw
  have FW3 : Hid (Fr (fun _ => False) w w3) := F2.out.trans' F3.out (fun i hi e => by have := HDB.out; omega)
  have hm0 : (0 : Int) ≤ (s.a : Int) % 1000 := by omega
  have hwr : IntKind.u64.wrap ((s.a : Int) % 1000) = (s.a : Int) % 1000 := wrap_u64_small _ (by omega) (by omega)
  have hwr2 : IntKind.u64.wrap (1 + (s.a : Int) % 1000) = (si : Int) := by rw [hsi1]; exact wrap_u64_small _ (by omega) (by omega)
  clear hd3 hv3 f3 KAP
  obtain ⟨W0, HW0⟩ : ∃ W0, Hid (W0 = w3.alloc (.cells #[.int .u64 (s.b : Int), .int .i64 2, .int .u64 (si : Int), .int .u64 (s.b : Int), .int .u64 7, .slice s.p s.d.length s.c, .slice none 0 0] 42)) := ⟨_, rfl⟩
  obtain ⟨ib, Hib⟩ : ∃ ib, Hid (w3.heap.size = ib) := ⟨_, rfl⟩
  have F30 : Hid (Fr (fun _ => False) w3 W0) := by show Fr _ _ _; rw [HW0.out]; exact (Fr.refl _ _).alloc _
  have HIB0 : Hid (IBox W0 ib ⟨s.b, 2, si, s.b, 7, s.d, []⟩ s.p s.c none 0 0) := by
    rw [HW0.out, ← Hib.out]
    refine ⟨?_, ?_, ?_, ?_, ?_, ?_, ?_, fun i hi => ?_⟩
    all_goals simp
  have HSZ : Hid (w.heap.size < db ∧ db < ib) := ⟨HDB.out, by rw [← Hib.out]; exact HD3.out.lt⟩
  go_wp2
  rw [← HW0.out, Hib.out]
  go_loopw [11] (fun iv wr => ∃ (k : Nat) (ea : Option Addr) (ec : Nat), k ≤ rs.length ∧ iv = .int .i64 (k : Int) ∧ Hid (IBox wr ib ⟨s.b, 2, si, s.b, 7, s.d, []⟩ s.p s.c ea k ec) ∧ Hid (wr.ownsRow 0 50 4 (.slice ea k ec) k (flat (ensW si rs k))) ∧ Hid (∀ j, (Value.slice ea k ec).ownBlock = some j → ib < j) ∧ Hid (Fr (fun _ => False) w3 wr)) (fun iv _ => rs.length - (intOf iv).toNat)
  case atStart => exact ⟨0, none, 0, Nat.zero_le _, rfl, HIB0.out, World.ownsRow_nil _ 0 50 4, fun j hj => (by simp [Value.ownBlock] at hj), F30.out⟩
  case round =>
    obtain ⟨k, ea, ec, hk, rfl, HIB, HOE, HVE, HFR⟩ := hrel
    have FWR : Hid (Fr (fun _ => False) w wr) := FW3.out.trans HFR.out
    have HOX : Hid (OwnE wr (fun j => j < w.heap.size ∨ (Value.slice ea k ec).ownBlock = some j) (.slice ea k ec) (ensW si rs k)) := ownE_w HOE.out HRR.out hk FWR.out (fun j hj => by have := HVE.out j hj; have := HSZ.out; omega)
    have hvel : k ≤ 9223372036854775807 ∧ ec ≤ 9223372036854775807 ∧ k ≤ ec := by
      obtain ⟨_, _, he, h⟩ := HOX.out.form
      rw [ensW_length] at he h
      cases he
      exact h
    have i2 := HIB.out.c2
    have i6 := HIB.out.c6
    have iz := HIB.out.z 6 (by omega)
    by_cases hlt : k < rs.length
    · obtain ⟨b, off, x, hra, x0, _, x2, _, x4, gx, Hx⟩ := (HRR.out.fr FWR.out).at hlt
      subst hra
      have hmem : x ∈ rs := by rw [Hx.out, List.getD_eq_getElem?_getD, List.getElem?_eq_getElem hlt]; exact List.getElem_mem _
      have HXD : Hid (x.d.length ≤ 200) := HRD.out.1 x hmem
      have HXB : Hid (x.d ≠ [] → ∀ a, x.p = some a → a.block < w.heap.size) := fun hne a ha => row_blk (HRR.out.2.2.1 x hmem).row hne a ha
      have j1 : (0 : Int) ≤ (k : Int) := by omega
      have j2 : (k : Int) < (rs.length : Int) := by omega
      have HGX : Hid (RcG wr x) := gx
      obtain ⟨z1, hz1, Hz1⟩ : ∃ z1 : Nat, IntKind.u64.wrap ((si : Int) + (k : Int)) = (z1 : Int) ∧ Hid (z1 = (si + k) % 18446744073709551616) := ⟨_, by rw [show (si : Int) + (k : Int) = ((si + k : Nat) : Int) by omega, wrap64], rfl⟩
      obtain ⟨z2, hz2, Hz2⟩ : ∃ z2 : Nat, IntKind.u64.wrap ((z1 : Int) + 1) = (z2 : Int) ∧ Hid (z2 = (si + k + 1) % 18446744073709551616) := ⟨_, by rw [show (z1 : Int) + 1 = ((z1 + 1 : Nat) : Int) by omega, wrap64], by show _ = _; rw [Hz1.out]; omega⟩
      have hkw : IntKind.u64.wrap (k : Int) = (k : Int) := wrap_u64_small _ (by omega) (by omega)
      have HEN : Hid (enW si x k = ⟨z2, x.b, x.k, x.d, x.p, x.c⟩) := by show _ = _; unfold enW; rw [← Hz2.out]
      have hz64 : z2 < 18446744073709551616 := by rw [Hz2.out]; omega
      have HEB : Hid (∀ j, (Value.slice ea k ec).ownBlock = some j → ib < j ∧ j < wr.heap.size) := fun j hj => ⟨HVE.out j hj, HOX.out.lt j hj⟩
      have hib : ib < wr.heap.size := HIB.out.lt
      have HApp : Hid (∀ W3, Fr (fun _ => False) wr W3 → ∃ av2 cv2 w', (Builtin.append_ #[32, 32] 32 #[.slice ea k ec, .slice (some ⟨W3.heap.size, 0, none⟩) 1 1]).run Tryd.prog (W3.alloc (.cells #[.int .u64 (z2 : Int), .int .u64 (x.b : Int), .int .u8 (x.k : Int), .slice x.p x.d.length x.c] 50)) = .ok (.slice av2 (k + 1) cv2) w' ∧ w'.ownsRow 0 50 4 (.slice av2 (k + 1) cv2) (k + 1) (flat (ensW si rs (k + 1))) ∧ Fr (fun j => (Value.slice ea k ec).ownBlock = some j) W3 w' ∧ ∀ j, (Value.slice av2 (k + 1) cv2).ownBlock = some j → ib < j) := by
        intro W3 f
        have fa := f.alloc (.cells #[.int .u64 (z2 : Int), .int .u64 (x.b : Int), .int .u8 (x.k : Int), .slice x.p x.d.length x.c] 50)
        have fW := (Fr.refl (fun j => (Value.slice ea k ec).ownBlock = some j) W3).alloc (.cells #[.int .u64 (z2 : Int), .int .u64 (x.b : Int), .int .u8 (x.k : Int), .slice x.p x.d.length x.c] 50)
        have ho : OwnE (W3.alloc (.cells #[.int .u64 (z2 : Int), .int .u64 (x.b : Int), .int .u8 (x.k : Int), .slice x.p x.d.length x.c] 50)) (fun j => j < w.heap.size ∨ (Value.slice ea k ec).ownBlock = some j ∨ wr.heap.size ≤ j) (.slice ea k ec) (ensW si rs k) := (HOX.out.fr fa (by simp)).mono (fun j _ hj => hj.imp id .inl)
        obtain ⟨v', w', hrun, h1, h2, h3⟩ := run_append_ents _ 32 (fun j => j < w.heap.size ∨ (Value.slice ea k ec).ownBlock = some j ∨ wr.heap.size ≤ j) (.slice ea k ec) (ensW si rs k) ho ⟨W3.heap.size, 0, none⟩ [⟨z2, x.b, x.k, x.d, x.p, x.c⟩] 1 (one_cells W3 ⟨z2, x.b, x.k, x.d, x.p, x.c⟩) (fun z hz => by
          simp at hz
          subst hz
          exact ⟨hz64, HGX.out.b, HGX.out.k, fa.row HGX.out.row (by simp), fun hne a ha => ⟨.inl (HXB.out hne a ha), fun e => by have := HVE.out _ e; have := HXB.out hne a ha; have := HSZ.out; omega⟩⟩) (fun j hj => .inr (.inr (Nat.le_trans fa.size hj))) (by rw [ensW_length]; simp; omega)
        have hes : ensW si rs k ++ [⟨z2, x.b, x.k, x.d, x.p, x.c⟩] = ensW si rs (k + 1) := by rw [ensW_succ, ← Hx.out, HEN.out]
        rw [hes] at h1
        obtain ⟨av2, cv2, hv2, _⟩ := h1.form
        rw [ensW_length] at hv2
        subst hv2
        refine ⟨av2, cv2, w', hrun, by have := h1.own; rw [ensW_length] at this; exact this, fW.grown h2 (fun j hj => .inl hj), fun j hj => ?_⟩
        rcases h3 with e | e
        · rw [e] at hj; exact HVE.out j hj
        · rw [e] at hj; have := Option.some.inj hj; have := fa.size; omega
      have HXC : Hid (wr.cell? ⟨ib, 2, none⟩ = some (.int .u64 (si : Int)) ∧ wr.cell? ⟨ib, 6, none⟩ = some (.slice ea k ec) ∧ wr.cell? ⟨b, off + k * 5, none⟩ = some (.int .u8 (x.k : Int)) ∧ wr.cell? ⟨b, off + k * 5 + 2, none⟩ = some (.int .u64 (x.b : Int)) ∧ wr.cell? ⟨b, off + k * 5 + 4, none⟩ = some (.slice x.p x.d.length x.c)) := ⟨i2, i6, x0, x2, x4⟩
      have ca6 : (wr.alloc (.cells #[.int .u64 (z2 : Int), .int .u64 (x.b : Int), .int .u8 (x.k : Int), .slice x.p x.d.length x.c] 50)).cell? ⟨ib, 6, none⟩ = some (.slice ea k ec) := ((Fr.refl (fun _ => False) wr).alloc _).cell i6 (by simp)
      obtain ⟨av2, cv2, w2', hrun, ho2, hf2, hib2⟩ := HApp.out wr.drew (Fr.refl (fun _ => False) wr).drew
      have HRUN : Hid (_ = Result.ok (Value.slice av2 (k + 1) cv2) w2') := hrun
      have hni : ¬ (Value.slice ea k ec).ownBlock = some ib := fun e => by have := HVE.out _ e; omega
      have e6 : w2'.cell? ⟨ib, 6, none⟩ = some (.slice ea k ec) := hf2.cell (w := wr.drew) i6 hni
      have ez : w2'.frozen? ⟨ib, 6, none⟩ = false := (hf2.frozenEq (w := wr.drew) (a := ⟨ib, 6, none⟩) hib hni).trans iz
      have HBX : Hid (IBox (w2'.setCell ⟨ib, 6, none⟩ (.slice av2 (k + 1) cv2)) ib ⟨s.b, 2, si, s.b, 7, s.d, []⟩ s.p s.c av2 (k + 1) cv2) := IBox.put6 ((HIB.out.fr (Fr.refl (fun _ => False) wr).drew (by simp)).fr hf2 hni)
      have fs := (Fr.refl (fun j => j = ib) w2').setCell (p := ⟨ib, 6, none⟩) (Or.inl rfl) (.slice av2 (k + 1) cv2)
      have HOW : Hid (World.ownsRow (w2'.setCell ⟨ib, 6, none⟩ (.slice av2 (k + 1) cv2)) 0 50 4 (.slice av2 (k + 1) cv2) (k + 1) (flat (ensW si rs (k + 1)))) := ownsRow_fr ho2 fs (fun j hj e => by have := hib2 j hj; omega)
      have HIB2 : Hid (∀ j, (Value.slice av2 (k + 1) cv2).ownBlock = some j → ib < j) := hib2
      have HFW : Hid (Fr (fun _ => False) w3 (w2'.setCell ⟨ib, 6, none⟩ (.slice av2 (k + 1) cv2))) := ((HFR.out.trans (Fr.refl (fun _ => False) wr).drew).trans' hf2 (fun j hj e => by have := (HEB.out j e).1; have := Hib.out; omega)).trans' fs (fun j hj e => by have := Hib.out; omega)
      have HBb : Hid (b < w.heap.size) := by
        obtain ⟨b', _, _, hra', y0, _⟩ := HRR.out.at hlt
        cases hra'
        exact World.block_lt_of_cell? _ _ y0
      have hnb : ¬ (Value.slice ea k ec).ownBlock = some b := fun e => by have := HVE.out _ e; have := HBb.out; have := HSZ.out; omega
      have HSA : Hid ((wr.alloc (.cells #[.int .u64 (z2 : Int), .int .u64 (x.b : Int), .int .u8 (x.k : Int), .slice x.p x.d.length x.c] 50)).cell? ⟨ib, 2, none⟩ = some (.int .u64 (si : Int)) ∧ (wr.alloc (.cells #[.int .u64 (z2 : Int), .int .u64 (x.b : Int), .int .u8 (x.k : Int), .slice x.p x.d.length x.c] 50)).cell? ⟨b, off + k * 5, none⟩ = some (.int .u8 (x.k : Int)) ∧ (wr.alloc (.cells #[.int .u64 (z2 : Int), .int .u64 (x.b : Int), .int .u8 (x.k : Int), .slice x.p x.d.length x.c] 50)).cell? ⟨b, off + k * 5 + 2, none⟩ = some (.int .u64 (x.b : Int)) ∧ (wr.alloc (.cells #[.int .u64 (z2 : Int), .int .u64 (x.b : Int), .int .u8 (x.k : Int), .slice x.p x.d.length x.c] 50)).cell? ⟨b, off + k * 5 + 4, none⟩ = some (.slice x.p x.d.length x.c)) := ⟨((Fr.refl (fun _ => False) wr).alloc _).cell i2 (by simp), ((Fr.refl (fun _ => False) wr).alloc _).cell x0 (by simp), ((Fr.refl (fun _ => False) wr).alloc _).cell x2 (by simp), ((Fr.refl (fun _ => False) wr).alloc _).cell x4 (by simp)⟩
      have HS2 : Hid (w2'.cell? ⟨ib, 2, none⟩ = some (.int .u64 (si : Int)) ∧ w2'.cell? ⟨b, off + k * 5, none⟩ = some (.int .u8 (x.k : Int)) ∧ w2'.cell? ⟨b, off + k * 5 + 2, none⟩ = some (.int .u64 (x.b : Int)) ∧ w2'.cell? ⟨b, off + k * 5 + 4, none⟩ = some (.slice x.p x.d.length x.c)) := ⟨hf2.cell (w := wr.drew) i2 hni, hf2.cell (w := wr.drew) x0 hnb, hf2.cell (w := wr.drew) x2 hnb, hf2.cell (w := wr.drew) x4 hnb⟩
      have hbib : ¬ ib = b := by have := HBb.out; have := HSZ.out; omega
      have HS3 : Hid ((w2'.setCell ⟨ib, 6, none⟩ (.slice av2 (k + 1) cv2)).cell? ⟨ib, 2, none⟩ = some (.int .u64 (si : Int)) ∧ (w2'.setCell ⟨ib, 6, none⟩ (.slice av2 (k + 1) cv2)).cell? ⟨b, off + k * 5, none⟩ = some (.int .u8 (x.k : Int)) ∧ (w2'.setCell ⟨ib, 6, none⟩ (.slice av2 (k + 1) cv2)).cell? ⟨b, off + k * 5 + 2, none⟩ = some (.int .u64 (x.b : Int)) ∧ (w2'.setCell ⟨ib, 6, none⟩ (.slice av2 (k + 1) cv2)).cell? ⟨b, off + k * 5 + 4, none⟩ = some (.slice x.p x.d.length x.c)) := ⟨(World.cell?_setCell_other _ _ _ _ (by simp)).trans HS2.out.1, (World.cell?_setCell_other _ _ _ _ (by simp)).trans HS2.out.2.1, (World.cell?_setCell_other _ _ _ _ (by simp)).trans HS2.out.2.2.1, (World.cell?_setCell_other _ _ _ _ (by simp)).trans HS2.out.2.2.2⟩
      clear hnb hbib
      clear gx hrun ho2 hf2 hib2 fs
      go_wp2_with fail
      refine wp_region_held_drew (S := (fun W => W.cell? ⟨ib, 2, none⟩ = some (.int .u64 (si : Int)) ∧ W.cell? ⟨b, off + k * 5, none⟩ = some (.int .u8 (x.k : Int)) ∧ W.cell? ⟨b, off + k * 5 + 2, none⟩ = some (.int .u64 (x.b : Int)) ∧ W.cell? ⟨b, off + k * 5 + 4, none⟩ = some (.slice x.p x.d.length x.c))) (by kernel_rfl) ⟨i2, x0, x2, x4⟩ (fun hHeld => ?_)
      refine wpAnyH_take (i := 0) (oi := _) (v := ?v1) (by rw [List.getElem?_toArray]; rfl) (by kernel_rfl) (by kernel_rfl) (by kernel_rfl) (fun _ _ _ h => by exact h) (Or.inl ⟨by rfl, ?hy1⟩) (by assumption) ?rest1
      case hy1 => (intro w hSw; (try dsimp only at hSw); go_simp; (try with_reducible rfl))
      try simp only [Act.put, List.setIfInBounds_toArray, List.set_cons_zero, List.set_cons_succ]
      refine wpAnyH_take (i := 2) (oi := _) (v := ?v2) (by rw [List.getElem?_toArray]; rfl) (by kernel_rfl) (by kernel_rfl) (by kernel_rfl) (fun _ _ _ h => by exact h) (Or.inl ⟨by rfl, ?hy2⟩) (by assumption) ?rest2
      case hy2 => (intro w hSw; (try dsimp only at hSw); go_simp; (try with_reducible rfl))
      try simp only [Act.put, List.setIfInBounds_toArray, List.set_cons_zero, List.set_cons_succ]
      refine wpAnyH_take (i := 3) (oi := _) (v := ?v3) (by rw [List.getElem?_toArray]; rfl) (by kernel_rfl) (by kernel_rfl) (by kernel_rfl) (fun _ _ _ h => by exact h) (Or.inl ⟨by rfl, ?hy3⟩) (by assumption) ?rest3
      case hy3 => (intro w hSw; (try dsimp only at hSw); go_simp; (try with_reducible rfl))
      try simp only [Act.put, List.setIfInBounds_toArray, List.set_cons_zero, List.set_cons_succ]
      refine wpAnyH_take (i := 4) (oi := _) (v := ?v4) (by rw [List.getElem?_toArray]; rfl) (by kernel_rfl) (by kernel_rfl) (by kernel_rfl) (fun _ _ _ h => by exact h) (Or.inl ⟨by rfl, ?hy4⟩) (by assumption) ?rest4
      case hy4 => (intro w hSw; (try dsimp only at hSw); go_simp; (try with_reducible rfl))
      try simp only [Act.put, List.setIfInBounds_toArray, List.set_cons_zero, List.set_cons_succ]
      refine wpAnyH_take (i := 5) (oi := _) (v := ?v5) (by rw [List.getElem?_toArray]; rfl) (by kernel_rfl) (by kernel_rfl) (by kernel_rfl) (fun _ _ _ h => by exact h) (Or.inl ⟨by rfl, ?hy5⟩) (by assumption) ?rest5
      case hy5 => (intro w hSw; (try dsimp only at hSw); go_simp; (try with_reducible rfl))
      try simp only [Act.put, List.setIfInBounds_toArray, List.set_cons_zero, List.set_cons_succ]
      refine wpAnyH_take (i := 6) (oi := _) (v := ?v6) (by rw [List.getElem?_toArray]; rfl) (by kernel_rfl) (by kernel_rfl) (by kernel_rfl) (fun _ _ _ h => by exact h) (Or.inl ⟨by rfl, ?hy6⟩) (by assumption) ?rest6
      case hy6 => (intro w hSw; (try dsimp only at hSw); go_simp; (try with_reducible rfl))
      try simp only [Act.put, List.setIfInBounds_toArray, List.set_cons_zero, List.set_cons_succ]
      refine wpAnyH_take (i := 7) (oi := _) (v := ?v7) (by rw [List.getElem?_toArray]; rfl) (by kernel_rfl) (by kernel_rfl) (by kernel_rfl) (fun _ _ _ h => by exact h) (Or.inl ⟨by rfl, ?hy7⟩) (by assumption) ?rest7
      case hy7 => (intro w hSw; (try dsimp only at hSw); go_simp; (try with_reducible rfl))
      try simp only [Act.put, List.setIfInBounds_toArray, List.set_cons_zero, List.set_cons_succ]
      refine wpAnyH_take (i := 8) (oi := _) (v := ?v8) (by rw [List.getElem?_toArray]; rfl) (by kernel_rfl) (by kernel_rfl) (by kernel_rfl) (fun _ _ _ h => by exact h) (Or.inl ⟨by rfl, ?hy8⟩) (by assumption) ?rest8
      case hy8 => (intro w hSw; (try dsimp only at hSw); go_simp; (try with_reducible rfl))
      try simp only [Act.put, List.setIfInBounds_toArray, List.set_cons_zero, List.set_cons_succ]
      refine wpAnyH_take (i := 9) (oi := _) (v := ?v9) (by rw [List.getElem?_toArray]; rfl) (by kernel_rfl) (by kernel_rfl) (by kernel_rfl) (fun _ _ _ h => by exact h) (Or.inl ⟨by rfl, ?hy9⟩) (by assumption) ?rest9
      case hy9 => (intro w hSw; (try dsimp only at hSw); go_simp; (try with_reducible rfl))
      try simp only [Act.put, List.setIfInBounds_toArray, List.set_cons_zero, List.set_cons_succ]
      refine wpAnyH_take (i := 10) (oi := _) (v := ?v10) (by rw [List.getElem?_toArray]; rfl) (by kernel_rfl) (by kernel_rfl) (by kernel_rfl) (fun _ _ _ h => by exact h) (Or.inl ⟨by rfl, ?hy10⟩) (by assumption) ?rest10
      case hy10 => (intro w hSw; (try dsimp only at hSw); go_simp; (try with_reducible rfl))
      try simp only [Act.put, List.setIfInBounds_toArray, List.set_cons_zero, List.set_cons_succ]
      refine wpAnyH_take (i := 11) (oi := _) (v := ?v11) (by rw [List.getElem?_toArray]; rfl) (by kernel_rfl) (by kernel_rfl) (by kernel_rfl) (fun _ _ _ h => by exact h) (Or.inl ⟨by rfl, ?hy11⟩) (by assumption) ?rest11
      case hy11 => (intro w hSw; (try dsimp only at hSw); go_simp; (try with_reducible rfl))
      try simp only [Act.put, List.setIfInBounds_toArray, List.set_cons_zero, List.set_cons_succ]
      refine wpAnyH_take (i := 12) (oi := _) (v := ?v12) (by rw [List.getElem?_toArray]; rfl) (by kernel_rfl) (by kernel_rfl) (by kernel_rfl) (fun _ _ _ h => by exact h) (Or.inl ⟨by rfl, ?hy12⟩) (by assumption) ?rest12
      case hy12 => (intro w hSw; (try dsimp only at hSw); go_simp; (try with_reducible rfl))
      try simp only [Act.put, List.setIfInBounds_toArray, List.set_cons_zero, List.set_cons_succ]
      refine wpAnyH_take (i := 13) (oi := _) (v := ?v13) (by rw [List.getElem?_toArray]; rfl) (by kernel_rfl) (by kernel_rfl) (by kernel_rfl) (fun _ _ _ h => by exact h) (Or.inl ⟨by rfl, ?hy13⟩) (by assumption) ?rest13
      case hy13 => (intro w hSw; (try dsimp only at hSw); go_simp; (try with_reducible rfl))
      try simp only [Act.put, List.setIfInBounds_toArray, List.set_cons_zero, List.set_cons_succ]
      refine wpAnyH_take (i := 14) (oi := _) (v := ?v14) (by rw [List.getElem?_toArray]; rfl) (by kernel_rfl) (by kernel_rfl) (by kernel_rfl) (fun _ _ _ h => by exact h) (Or.inl ⟨by rfl, ?hy14⟩) (by assumption) ?rest14
      case hy14 => (intro w hSw; (try dsimp only at hSw); go_simp; (try with_reducible rfl))
      try simp only [Act.put, List.setIfInBounds_toArray, List.set_cons_zero, List.set_cons_succ]
      refine wpAnyH_take (i := 15) (oi := _) (v := ?v15) (by rw [List.getElem?_toArray]; rfl) (by kernel_rfl) (by kernel_rfl) (by kernel_rfl) (fun _ _ _ h => by exact h) (Or.inl ⟨by rfl, ?hy15⟩) (by assumption) ?rest15
      case hy15 => (intro w hSw; (try dsimp only at hSw); go_simp; (try with_reducible rfl))
      try simp only [Act.put, List.setIfInBounds_toArray, List.set_cons_zero, List.set_cons_succ]
      refine wpAnyH_take (i := 16) (oi := _) (v := ?v16) (by rw [List.getElem?_toArray]; rfl) (by kernel_rfl) (by kernel_rfl) (by kernel_rfl) (fun _ _ _ h => by exact h) (Or.inl ⟨by rfl, ?hy16⟩) (by assumption) ?rest16
      case hy16 => (intro w hSw; (try dsimp only at hSw); go_simp; (try with_reducible rfl))
      try simp only [Act.put, List.setIfInBounds_toArray, List.set_cons_zero, List.set_cons_succ]
      refine wpAnyH_take (i := 17) (oi := _) (v := ?v17) (by rw [List.getElem?_toArray]; rfl) (by kernel_rfl) (by kernel_rfl) (by kernel_rfl) (fun _ _ _ h => by exact h) (Or.inl ⟨by rfl, ?hy17⟩) (by assumption) ?rest17
      case hy17 => (intro w hSw; (try dsimp only at hSw); go_simp; (try with_reducible rfl))
      try simp only [Act.put, List.setIfInBounds_toArray, List.set_cons_zero, List.set_cons_succ]
      refine wpAnyH_take (i := 18) (oi := _) (v := ?v18) (by rw [List.getElem?_toArray]; rfl) (by kernel_rfl) (by kernel_rfl) (by kernel_rfl) (fun _ _ _ h => by exact h) (Or.inl ⟨by rfl, ?hy18⟩) (by assumption) ?rest18
      case hy18 => (intro w hSw; (try dsimp only at hSw); go_simp; (try with_reducible rfl))
      try simp only [Act.put, List.setIfInBounds_toArray, List.set_cons_zero, List.set_cons_succ]
      refine wpAnyH_take (i := 19) (oi := _) (v := ?v19) (by rw [List.getElem?_toArray]; rfl) (by kernel_rfl) (by kernel_rfl) (by kernel_rfl) (fun _ _ _ h => by exact h) (Or.inl ⟨by rfl, ?hy19⟩) (by assumption) ?rest19
      case hy19 => (intro w hSw; (try dsimp only at hSw); go_simp; (try with_reducible rfl))
      try simp only [Act.put, List.setIfInBounds_toArray, List.set_cons_zero, List.set_cons_succ]
      refine wpAnyH_take (i := 20) (oi := _) (v := ?v20) (by rw [List.getElem?_toArray]; rfl) (by kernel_rfl) (by kernel_rfl) (by kernel_rfl) (fun _ _ _ h => by exact h) (Or.inl ⟨by rfl, ?hy20⟩) (by assumption) ?rest20
      case hy20 => (intro w hSw; (try dsimp only at hSw); go_simp; (try with_reducible rfl))
      try simp only [Act.put, List.setIfInBounds_toArray, List.set_cons_zero, List.set_cons_succ]
      refine wpAnyH_take (i := 21) (oi := _) (v := ?v21) (by rw [List.getElem?_toArray]; rfl) (by kernel_rfl) (by kernel_rfl) (by kernel_rfl) (fun _ _ _ h => by exact h) (Or.inl ⟨by rfl, ?hy21⟩) (by assumption) ?rest21
      case hy21 => (intro w hSw; (try dsimp only at hSw); go_simp; (try with_reducible rfl))
      try simp only [Act.put, List.setIfInBounds_toArray, List.set_cons_zero, List.set_cons_succ]
      refine wpAnyH_take (i := 22) (oi := _) (v := ?v22) (by rw [List.getElem?_toArray]; rfl) (by kernel_rfl) (by kernel_rfl) (by kernel_rfl) (fun _ _ _ h => by exact h) (Or.inl ⟨by rfl, ?hy22⟩) (by assumption) ?rest22
      case hy22 => (intro w hSw; (try dsimp only at hSw); go_simp; (try with_reducible rfl))
      try simp only [Act.put, List.setIfInBounds_toArray, List.set_cons_zero, List.set_cons_succ]
      refine wpAnyH_take (i := 23) (oi := _) (v := ?v23) (by rw [List.getElem?_toArray]; rfl) (by kernel_rfl) (by kernel_rfl) (by kernel_rfl) (fun _ _ _ h => by exact h) (Or.inl ⟨by rfl, ?hy23⟩) (by assumption) ?rest23
      case hy23 => (intro w hSw; (try dsimp only at hSw); go_simp; (try with_reducible rfl))
      try simp only [Act.put, List.setIfInBounds_toArray, List.set_cons_zero, List.set_cons_succ]
      refine wpAnyH_take (i := 24) (oi := _) (v := ?v24) (by rw [List.getElem?_toArray]; rfl) (by kernel_rfl) (by kernel_rfl) (by kernel_rfl) (fun _ _ _ h => by exact h) (Or.inl ⟨by rfl, ?hy24⟩) (by assumption) ?rest24
      case hy24 => (intro w hSw; (try dsimp only at hSw); go_simp; (try with_reducible rfl))
      try simp only [Act.put, List.setIfInBounds_toArray, List.set_cons_zero, List.set_cons_succ]
      refine wpAnyH_ready (rs := [1, 25]) (by kernel_rfl) (by simp) ?_
      refine AllReadyH.cons (o := _) (by rw [List.getElem?_toArray]; rfl) (fun K hK => ?_) ?_
      · go_simp
        refine hK.out _ _ ⟨i2, x0, x2, x4⟩ (fun hHeld => ?_)
        clear hK K
        try simp only [Act.put, List.setIfInBounds_toArray, List.set_cons_zero, List.set_cons_succ]
        refine wpAnyH_ready (rs := [25]) (by kernel_rfl) (by simp) ?_
        refine AllReadyH.cons (o := _) (by rw [List.getElem?_toArray]; rfl) (fun K hK => ?_) ?_
        · go_simp
          refine hK.out _ _ HSA.out (fun hHeld => ?_)
          clear hK K
          try simp only [Act.put, List.setIfInBounds_toArray, List.set_cons_zero, List.set_cons_succ]
          refine wpAnyH_ready (rs := [26]) (by kernel_rfl) (by simp) ?_
          refine AllReadyH.cons (o := _) (by rw [List.getElem?_toArray]; rfl) (fun K hK => ?_) ?_
          · refine step_append_eq rfl (.tmp 58) (.tmp 82) 32 rfl HRUN.out rfl rfl ?_
            refine hK.out _ _ HS2.out (fun hHeld => ?_)
            clear hK K
            try simp only [Act.put, List.setIfInBounds_toArray, List.set_cons_zero, List.set_cons_succ]
            refine wpAnyH_take (i := 27) (oi := _) (v := ?v25) (by rw [List.getElem?_toArray]; rfl) (by kernel_rfl) (by kernel_rfl) (by kernel_rfl) (fun _ _ _ h => by exact h) (Or.inl ⟨by rfl, ?hy25⟩) (by assumption) ?rest25
            case hy25 => (intro w hSw; (try dsimp only at hSw); go_simp; (try with_reducible rfl))
            try simp only [Act.put, List.setIfInBounds_toArray, List.set_cons_zero, List.set_cons_succ]
            refine wpAnyH_ready (rs := [28]) (by kernel_rfl) (by simp) ?_
            refine AllReadyH.cons (o := _) (by rw [List.getElem?_toArray]; rfl) (fun K hK => ?_) ?_
            · go_simp
              refine hK.out _ _ HS3.out (fun hHeld => ?_)
              clear hK K
              try simp only [Act.put, List.setIfInBounds_toArray, List.set_cons_zero, List.set_cons_succ]
              refine wpAnyH_done (by kernel_rfl) ?_ _
              go_wp2
              go_roundw
              case rel => exact ⟨k + 1, av2, cv2, by omega, by go_num, HBX.out, HOW.out, HIB2.out, HFW.out⟩
              case measure => simp [intOf]; omega
            exact AllReadyH.nil
          exact AllReadyH.nil
        exact AllReadyH.nil
      refine AllReadyH.cons (o := _) (by rw [List.getElem?_toArray]; rfl) (fun K hK => ?_) ?_
      · go_simp
        refine hK.out _ _ HSA.out (fun hHeld => ?_)
        clear hK K
        try simp only [Act.put, List.setIfInBounds_toArray, List.set_cons_zero, List.set_cons_succ]
        refine wpAnyH_ready (rs := [1]) (by kernel_rfl) (by simp) ?_
        refine AllReadyH.cons (o := _) (by rw [List.getElem?_toArray]; rfl) (fun K hK => ?_) ?_
        · go_simp
          refine hK.out _ _ HSA.out (fun hHeld => ?_)
          clear hK K
          try simp only [Act.put, List.setIfInBounds_toArray, List.set_cons_zero, List.set_cons_succ]
          refine wpAnyH_ready (rs := [26]) (by kernel_rfl) (by simp) ?_
          refine AllReadyH.cons (o := _) (by rw [List.getElem?_toArray]; rfl) (fun K hK => ?_) ?_
          · refine step_append_eq rfl (.tmp 58) (.tmp 82) 32 rfl HRUN.out rfl rfl ?_
            refine hK.out _ _ HS2.out (fun hHeld => ?_)
            clear hK K
            try simp only [Act.put, List.setIfInBounds_toArray, List.set_cons_zero, List.set_cons_succ]
            refine wpAnyH_take (i := 27) (oi := _) (v := ?v26) (by rw [List.getElem?_toArray]; rfl) (by kernel_rfl) (by kernel_rfl) (by kernel_rfl) (fun _ _ _ h => by exact h) (Or.inl ⟨by rfl, ?hy26⟩) (by assumption) ?rest26
            case hy26 => (intro w hSw; (try dsimp only at hSw); go_simp; (try with_reducible rfl))
            try simp only [Act.put, List.setIfInBounds_toArray, List.set_cons_zero, List.set_cons_succ]
            refine wpAnyH_ready (rs := [28]) (by kernel_rfl) (by simp) ?_
            refine AllReadyH.cons (o := _) (by rw [List.getElem?_toArray]; rfl) (fun K hK => ?_) ?_
            · go_simp
              refine hK.out _ _ HS3.out (fun hHeld => ?_)
              clear hK K
              try simp only [Act.put, List.setIfInBounds_toArray, List.set_cons_zero, List.set_cons_succ]
              refine wpAnyH_done (by kernel_rfl) ?_ _
              go_wp2
              go_roundw
              case rel => exact ⟨k + 1, av2, cv2, by omega, by go_num, HBX.out, HOW.out, HIB2.out, HFW.out⟩
              case measure => simp [intOf]; omega
            exact AllReadyH.nil
          exact AllReadyH.nil
        exact AllReadyH.nil
      exact AllReadyH.nil
    · have hk' : k = rs.length := by omega
      subst hk'
      have j2 : ¬ (rs.length : Int) < (rs.length : Int) := by omega
      obtain ⟨es, Hes⟩ : ∃ es, Hid (es = ensW si rs rs.length) := ⟨_, rfl⟩
      have hel : es.length = rs.length := by rw [Hes.out, ensW_length]
      rw [← Hes.out] at HOX
      rw [← hel] at HOX HIB HVE hvel i6 ⊢
      clear HOE
      have hlts : ∀ b, b = db → ¬ (Value.slice ea es.length ec).ownBlock = some b := fun b hb e => by have := HVE.out _ e; have := HSZ.out; omega
      have HRW : Hid (ERow wr (fun j => j < w.heap.size ∨ (Value.slice ea es.length ec).ownBlock = some j) (fun j => j < w.heap.size ∨ (Value.slice ea es.length ec).ownBlock = some j) ea es ec) := by
        obtain ⟨ao, cap, hv, hr⟩ := HOX.out.eroww
        injection hv with e1 e2 e3
        subst e1 e3
        exact hr
      obtain ⟨m1, Hm1⟩ : ∃ m1 : Img, Hid (m1 = ⟨s.b, 2, si, s.b, 7, s.d, es.map En.p⟩) := ⟨_, rfl⟩
      have HSC : Hid (scan img0 (wholeB m1) = (m1, (wholeB m1).length) ∧ (wholeB m1).length ≤ 20000) := by
        show _ ∧ _
        rw [Hm1.out, Hes.out]
        exact ⟨comp_img s rs si HSG.out (by omega) HRR.out.2.2.1 HRD.out.1 hrl hsi, comp_len s rs si HSG.out (by omega) HRD.out.1 hrl⟩
      have HD4 : Hid (Dk wr db db bf 0 1 v3) := HD3.out.fr HFR.out (by simp) (by simp)
      have KC : Hid (Calls _ _ _ _ _) := compact_any HD4.out (by omega) s.b 3 si s.b 7 2 s.p ea s.d s.c es ec _ _ HRW.out (FWR.out.row HSG.out.row (by simp)) (FWR.out.tab HT.out (by simp)) hsb rfl (by omega) (by omega) hsb (by omega) (by omega) (by omega) (fun y hy => by
        rw [Hes.out] at hy
        obtain ⟨j, hj, rfl⟩ := List.mem_map.1 hy
        have hj' := List.mem_range.1 hj
        have := HRD.out.1 (rs.getD j default) (by rw [List.getD_eq_getElem?_getD, List.getElem?_eq_getElem hj']; exact List.getElem_mem _)
        show (rs.getD j default).d.length ≤ _
        omega) (by have := HSC.out.2; rw [Hm1.out] at this; omega)
      have i0 := HIB.out.c0
      have i1 := HIB.out.c1
      have i3 := HIB.out.c3
      have i4 := HIB.out.c4
      have i5 := HIB.out.c5
      have HIB0' : Hid (IBox wr ib m1 s.p s.c ea es.length ec) := by
        obtain ⟨x0, x1, x2, x3, x4, x5, x6, xz⟩ := HIB.out
        show IBox _ _ _ _ _ _ _ _
        rw [Hm1.out]
        exact ⟨x0, x1, x2, x3, x4, x5, x6, xz⟩
      have HEL : Hid (es.length = rs.length) := hel
      clear HOX hlt hk hel
      go_wp2_with fail
      refine KC.out.mono ?_
      rintro e w4 ⟨rfl, ⟨v4, hd4, hv4⟩, f4⟩
      rw [← Hm1.out] at hd4
      have F4 : Hid (Fr (fun k => k = db) wr w4) := f4
      have FW4 : Hid (Fr (fun _ => False) w w4) := FWR.out.trans' f4 (fun i hi e => by have := HDB.out; omega)
      have HD5 : Hid (Dk w4 db db (wholeB m1) (wholeB m1).length 2 v4) := hd4
      have HV4 : Hid (∀ k, v4.ownBlock = some k → wr.heap.size ≤ k) := hv4
      have KX : Hid (Calls _ _ _ _ _) := dcrash_any HD5.out keep HK.out
      clear hd4 hv4 f4 KC i0 i1 i2 i3 i4 i5 i6 iz
      go_wp2_with fail
      refine KX.out.mono ?_
      rintro e w5 ⟨rfl, ⟨v5, hd5, hv5⟩, f5⟩
      have hdl : dleft (wholeB m1).length (wholeB m1).length keep = (wholeB m1).length := by unfold dleft; omega
      rw [hdl, List.take_length] at hd5
      have HD6 : Hid (Dk w5 db db (wholeB m1) (wholeB m1).length 2 v5) := hd5
      have FW5 : Hid (Fr (fun _ => False) w w5) := FW4.out.trans' f5 (fun i hi e => by have := HDB.out; omega)
      have F45 : Hid (Fr (fun k => k = db) wr w5) := F4.out.trans f5
      have KO : Hid (Calls _ _ _ _ _) := open_full HD6.out (FW5.out.tab HT.out (by simp)) (by have := HSC.out.2; omega) (by rw [HSC.out.1])
      have hiw : Hid (ib < wr.heap.size) := HIB0'.out.lt
      clear hd5 hv5 f5 KX hdl
      go_wp2_with fail
      refine KO.out.mono ?_
      rintro e w6 ⟨m2, sa1, sc1, ea1, es1, cx1, hm2, rfl, hs1, he1, hp1, f6⟩
      obtain rfl : m2 = m1 := by have := hm2.out; rw [HSC.out.1] at this; exact this.symm
      obtain ⟨b1, Hb1⟩ : ∃ b1, Hid (w6.heap.size = b1) := ⟨_, rfl⟩
      have F46 : Hid (Fr (fun k => k = db) wr w6) := F45.out.trans (f6.mono (fun _ _ h => h.elim))
      have G6 : Hid (Fr (fun _ => False) w5 w6) := f6
      have FW6 : Hid (Fr (fun _ => False) w w6) := FW5.out.trans f6
      obtain ⟨W, HW⟩ : ∃ W, Hid (W = w6.alloc (.cells #[.int .u64 (m2.tm : Int), .int .i64 m2.vo, .int .u64 (m2.si : Int), .int .u64 (m2.st : Int), .int .u64 (m2.sv : Int), .slice sa1 m2.sd.length sc1, .slice ea1 es1.length cx1] 42)) := ⟨_, rfl⟩
      have FAW : Hid (Fr (fun _ => False) w6 W) := by show Fr _ _ _; rw [HW.out]; exact (Fr.refl _ _).alloc _
      have HX1 : Hid (W.cell? ⟨b1, 0, none⟩ = some (.int .u64 (m2.tm : Int)) ∧ W.cell? ⟨b1, 1, none⟩ = some (.int .i64 m2.vo) ∧ W.cell? ⟨b1, 2, none⟩ = some (.int .u64 (m2.si : Int)) ∧ W.cell? ⟨b1, 3, none⟩ = some (.int .u64 (m2.st : Int)) ∧ W.cell? ⟨b1, 4, none⟩ = some (.int .u64 (m2.sv : Int)) ∧ W.cell? ⟨b1, 5, none⟩ = some (.slice sa1 m2.sd.length sc1) ∧ W.cell? ⟨b1, 6, none⟩ = some (.slice ea1 es1.length cx1)) := by
        show _ ∧ _
        rw [HW.out, ← Hb1.out]
        refine ⟨?_, ?_, ?_, ?_, ?_, ?_, ?_⟩ <;> simp
      have hidb : ¬ ib = db := by have := HSZ.out; omega
      have HX2 : Hid (W.cell? ⟨ib, 0, none⟩ = some (.int .u64 (m2.tm : Int)) ∧ W.cell? ⟨ib, 1, none⟩ = some (.int .i64 m2.vo) ∧ W.cell? ⟨ib, 2, none⟩ = some (.int .u64 (m2.si : Int)) ∧ W.cell? ⟨ib, 3, none⟩ = some (.int .u64 (m2.st : Int)) ∧ W.cell? ⟨ib, 4, none⟩ = some (.int .u64 (m2.sv : Int)) ∧ W.cell? ⟨ib, 5, none⟩ = some (.slice s.p m2.sd.length s.c) ∧ W.cell? ⟨ib, 6, none⟩ = some (.slice ea es.length ec)) := by
        obtain ⟨x0, x1, x2, x3, x4, x5, x6, xz⟩ := HIB0'.out
        exact ⟨FAW.out.cell (F46.out.cell x0 hidb) (by simp), FAW.out.cell (F46.out.cell x1 hidb) (by simp), FAW.out.cell (F46.out.cell x2 hidb) (by simp), FAW.out.cell (F46.out.cell x3 hidb) (by simp), FAW.out.cell (F46.out.cell x4 hidb) (by simp), FAW.out.cell (F46.out.cell x5 hidb) (by simp), FAW.out.cell (F46.out.cell x6 hidb) (by simp)⟩
      have HSR : Hid (Row W sa1 m2.sd sc1 ∧ ERow W (fun _ => True) (fun _ => True) ea1 es1 cx1 ∧ Row W s.p m2.sd s.c ∧ ERow W (fun j => j < w.heap.size ∨ (Value.slice ea es.length ec).ownBlock = some j) (fun j => j < w.heap.size ∨ (Value.slice ea es.length ec).ownBlock = some j) ea es ec) := by
        have hd : m2.sd = s.d := by rw [Hm1.out]
        have hne : ∀ k, (k < w.heap.size ∨ (Value.slice ea es.length ec).ownBlock = some k) → ¬ k = db := fun k hk e => by
          rcases hk with h | h
          · have := HDB.out; omega
          · exact hlts k e h
        refine ⟨FAW.out.row hs1 (by simp), he1.fr FAW.out (by simp) (by simp), ?_, (HRW.out.fr F46.out hne hne).fr FAW.out (by simp) (by simp)⟩
        rw [hd]
        exact FAW.out.row (FW6.out.row HSG.out.row (by simp)) (by simp)
      have HPP : Hid (es.map En.p = es1.map En.p) := by show _ = _; rw [hp1.out, Hm1.out]
      have KS : Hid (∀ w9, Fr (fun _ => False) W w9 → Calls Tryd.prog 13 #[.agg #[.int .u64 (m2.tm : Int), .int .i64 m2.vo, .int .u64 (m2.si : Int), .int .u64 (m2.st : Int), .int .u64 (m2.sv : Int), .slice sa1 m2.sd.length sc1, .slice ea1 es1.length cx1], .agg #[.int .u64 (m2.tm : Int), .int .i64 m2.vo, .int .u64 (m2.si : Int), .int .u64 (m2.st : Int), .int .u64 (m2.sv : Int), .slice s.p m2.sd.length s.c, .slice ea es.length ec]] w9 fun e w' => e = .returned (.bool true) ∧ Fr (fun _ => False) w9 w') := fun w9 f => same_yes m2.tm m2.si m2.st m2.sv m2.vo sa1 s.p ea1 ea m2.sd sc1 s.c es1 es cx1 ec w9 _ _ _ _ (HSR.out.2.1.fr f (by simp) (by simp)) (HSR.out.2.2.2.fr f (by simp) (by simp)) HPP.out (f.row HSR.out.1 (by simp)) (f.row HSR.out.2.2.1 (by simp))
      have HDW : Hid (Dk W db db (wholeB m2) (wholeB m2).length 2 v5) := (HD6.out.fr G6.out (by simp) (by simp)).fr FAW.out (by simp) (by simp)
      have FW : Hid (Fr (fun _ => False) w W) := FW6.out.trans FAW.out
      clear F4 F45 F46 G6 FAW FW6 FW5 FW4 F1 F2 F3 F30 FW3 HA HB HE HD1 HD2 HIB HIB0 HVE HFR FWR HT HRR HSG HBR HSH HRD HV4 hs1 he1 hp1 f6 hm2 KO HSR HD6 HD5 HD4 HD3 HRW HIB0' HSC hlts
      go_wp2_with fail
      rw [← HW.out, Hb1.out]
      obtain ⟨p0, p1, p2, p3, p4, p5, p6⟩ := HX1.out
      obtain ⟨q0, q1, q2, q3, q4, q5, q6⟩ := HX2.out
      have HCD : Hid (W.drew.cell? ⟨b1, 0, none⟩ = some (.int .u64 (m2.tm : Int)) ∧ W.drew.cell? ⟨b1, 1, none⟩ = some (.int .i64 m2.vo) ∧ W.drew.cell? ⟨b1, 2, none⟩ = some (.int .u64 (m2.si : Int)) ∧ W.drew.cell? ⟨b1, 3, none⟩ = some (.int .u64 (m2.st : Int)) ∧ W.drew.cell? ⟨b1, 4, none⟩ = some (.int .u64 (m2.sv : Int)) ∧ W.drew.cell? ⟨b1, 5, none⟩ = some (.slice sa1 m2.sd.length sc1) ∧ W.drew.cell? ⟨b1, 6, none⟩ = some (.slice ea1 es1.length cx1) ∧ W.drew.cell? ⟨ib, 0, none⟩ = some (.int .u64 (m2.tm : Int)) ∧ W.drew.cell? ⟨ib, 1, none⟩ = some (.int .i64 m2.vo) ∧ W.drew.cell? ⟨ib, 2, none⟩ = some (.int .u64 (m2.si : Int)) ∧ W.drew.cell? ⟨ib, 3, none⟩ = some (.int .u64 (m2.st : Int)) ∧ W.drew.cell? ⟨ib, 4, none⟩ = some (.int .u64 (m2.sv : Int)) ∧ W.drew.cell? ⟨ib, 5, none⟩ = some (.slice s.p m2.sd.length s.c) ∧ W.drew.cell? ⟨ib, 6, none⟩ = some (.slice ea es.length ec)) := ⟨p0, p1, p2, p3, p4, p5, p6, q0, q1, q2, q3, q4, q5, q6⟩
      go_region_held3 (fun w' => w'.cell? ⟨b1, 0, none⟩ = some (.int .u64 (m2.tm : Int)) ∧ w'.cell? ⟨b1, 1, none⟩ = some (.int .i64 m2.vo) ∧ w'.cell? ⟨b1, 2, none⟩ = some (.int .u64 (m2.si : Int)) ∧ w'.cell? ⟨b1, 3, none⟩ = some (.int .u64 (m2.st : Int)) ∧ w'.cell? ⟨b1, 4, none⟩ = some (.int .u64 (m2.sv : Int)) ∧ w'.cell? ⟨b1, 5, none⟩ = some (.slice sa1 m2.sd.length sc1) ∧ w'.cell? ⟨b1, 6, none⟩ = some (.slice ea1 es1.length cx1) ∧ w'.cell? ⟨ib, 0, none⟩ = some (.int .u64 (m2.tm : Int)) ∧ w'.cell? ⟨ib, 1, none⟩ = some (.int .i64 m2.vo) ∧ w'.cell? ⟨ib, 2, none⟩ = some (.int .u64 (m2.si : Int)) ∧ w'.cell? ⟨ib, 3, none⟩ = some (.int .u64 (m2.st : Int)) ∧ w'.cell? ⟨ib, 4, none⟩ = some (.int .u64 (m2.sv : Int)) ∧ w'.cell? ⟨ib, 5, none⟩ = some (.slice s.p m2.sd.length s.c) ∧ w'.cell? ⟨ib, 6, none⟩ = some (.slice ea es.length ec)) (first | (with_reducible exact ⟨p0, p1, p2, p3, p4, p5, p6, q0, q1, q2, q3, q4, q5, q6⟩) | (with_reducible exact HCD.out) | (with_reducible exact H7.out) | (with_reducible exact H6.out) | (with_reducible exact H5.out)) (first
        | (go_at_call 23; refine (dlen_any (HDW.out.fr F7.out (by simp) (by simp))).mono ?_; rintro e w8 ⟨rfl, hw8⟩; subst w8)
        | (go_at_call 24; refine (dsure_any (HDW.out.fr F7.out (by simp) (by simp))).mono ?_; rintro e w8 ⟨rfl, hw8⟩; subst w8)
        | (go_at_call 13; refine (KS.out _ F6.out).mono ?_; rintro e w7 ⟨rfl, f7⟩; have F7 : Hid (Fr (fun _ => False) W w7) := F6.out.trans f7; have H7 : Hid (w7.cell? ⟨b1, 0, none⟩ = some (.int .u64 (m2.tm : Int)) ∧ w7.cell? ⟨b1, 1, none⟩ = some (.int .i64 m2.vo) ∧ w7.cell? ⟨b1, 2, none⟩ = some (.int .u64 (m2.si : Int)) ∧ w7.cell? ⟨b1, 3, none⟩ = some (.int .u64 (m2.st : Int)) ∧ w7.cell? ⟨b1, 4, none⟩ = some (.int .u64 (m2.sv : Int)) ∧ w7.cell? ⟨b1, 5, none⟩ = some (.slice sa1 m2.sd.length sc1) ∧ w7.cell? ⟨b1, 6, none⟩ = some (.slice ea1 es1.length cx1) ∧ w7.cell? ⟨ib, 0, none⟩ = some (.int .u64 (m2.tm : Int)) ∧ w7.cell? ⟨ib, 1, none⟩ = some (.int .i64 m2.vo) ∧ w7.cell? ⟨ib, 2, none⟩ = some (.int .u64 (m2.si : Int)) ∧ w7.cell? ⟨ib, 3, none⟩ = some (.int .u64 (m2.st : Int)) ∧ w7.cell? ⟨ib, 4, none⟩ = some (.int .u64 (m2.sv : Int)) ∧ w7.cell? ⟨ib, 5, none⟩ = some (.slice s.p m2.sd.length s.c) ∧ w7.cell? ⟨ib, 6, none⟩ = some (.slice ea es.length ec)) := ⟨F7.out.cell p0 (by simp), F7.out.cell p1 (by simp), F7.out.cell p2 (by simp), F7.out.cell p3 (by simp), F7.out.cell p4 (by simp), F7.out.cell p5 (by simp), F7.out.cell p6 (by simp), F7.out.cell q0 (by simp), F7.out.cell q1 (by simp), F7.out.cell q2 (by simp), F7.out.cell q3 (by simp), F7.out.cell q4 (by simp), F7.out.cell q5 (by simp), F7.out.cell q6 (by simp)⟩; clear f7)
        | (go_at_call 14; refine (image_any _ _ _ _ _ _ _ _ _ _ _ w5).mono ?_; rintro e w6 ⟨rfl, f6⟩; have F6 : Hid (Fr (fun _ => False) W w6) := F5.out.trans f6; have H6 : Hid (w6.cell? ⟨b1, 0, none⟩ = some (.int .u64 (m2.tm : Int)) ∧ w6.cell? ⟨b1, 1, none⟩ = some (.int .i64 m2.vo) ∧ w6.cell? ⟨b1, 2, none⟩ = some (.int .u64 (m2.si : Int)) ∧ w6.cell? ⟨b1, 3, none⟩ = some (.int .u64 (m2.st : Int)) ∧ w6.cell? ⟨b1, 4, none⟩ = some (.int .u64 (m2.sv : Int)) ∧ w6.cell? ⟨b1, 5, none⟩ = some (.slice sa1 m2.sd.length sc1) ∧ w6.cell? ⟨b1, 6, none⟩ = some (.slice ea1 es1.length cx1) ∧ w6.cell? ⟨ib, 0, none⟩ = some (.int .u64 (m2.tm : Int)) ∧ w6.cell? ⟨ib, 1, none⟩ = some (.int .i64 m2.vo) ∧ w6.cell? ⟨ib, 2, none⟩ = some (.int .u64 (m2.si : Int)) ∧ w6.cell? ⟨ib, 3, none⟩ = some (.int .u64 (m2.st : Int)) ∧ w6.cell? ⟨ib, 4, none⟩ = some (.int .u64 (m2.sv : Int)) ∧ w6.cell? ⟨ib, 5, none⟩ = some (.slice s.p m2.sd.length s.c) ∧ w6.cell? ⟨ib, 6, none⟩ = some (.slice ea es.length ec)) := ⟨F6.out.cell p0 (by simp), F6.out.cell p1 (by simp), F6.out.cell p2 (by simp), F6.out.cell p3 (by simp), F6.out.cell p4 (by simp), F6.out.cell p5 (by simp), F6.out.cell p6 (by simp), F6.out.cell q0 (by simp), F6.out.cell q1 (by simp), F6.out.cell q2 (by simp), F6.out.cell q3 (by simp), F6.out.cell q4 (by simp), F6.out.cell q5 (by simp), F6.out.cell q6 (by simp)⟩; clear f6)
        | (go_at_call 14; refine (image_any _ _ _ _ _ _ _ _ _ _ _ _).mono ?_; rintro e w5 ⟨rfl, f5⟩; have F5 : Hid (Fr (fun _ => False) W w5) := (Fr.refl (fun _ => False) W).drew.trans f5; have H5 : Hid (w5.cell? ⟨b1, 0, none⟩ = some (.int .u64 (m2.tm : Int)) ∧ w5.cell? ⟨b1, 1, none⟩ = some (.int .i64 m2.vo) ∧ w5.cell? ⟨b1, 2, none⟩ = some (.int .u64 (m2.si : Int)) ∧ w5.cell? ⟨b1, 3, none⟩ = some (.int .u64 (m2.st : Int)) ∧ w5.cell? ⟨b1, 4, none⟩ = some (.int .u64 (m2.sv : Int)) ∧ w5.cell? ⟨b1, 5, none⟩ = some (.slice sa1 m2.sd.length sc1) ∧ w5.cell? ⟨b1, 6, none⟩ = some (.slice ea1 es1.length cx1) ∧ w5.cell? ⟨ib, 0, none⟩ = some (.int .u64 (m2.tm : Int)) ∧ w5.cell? ⟨ib, 1, none⟩ = some (.int .i64 m2.vo) ∧ w5.cell? ⟨ib, 2, none⟩ = some (.int .u64 (m2.si : Int)) ∧ w5.cell? ⟨ib, 3, none⟩ = some (.int .u64 (m2.st : Int)) ∧ w5.cell? ⟨ib, 4, none⟩ = some (.int .u64 (m2.sv : Int)) ∧ w5.cell? ⟨ib, 5, none⟩ = some (.slice s.p m2.sd.length s.c) ∧ w5.cell? ⟨ib, 6, none⟩ = some (.slice ea es.length ec)) := ⟨F5.out.cell p0 (by simp), F5.out.cell p1 (by simp), F5.out.cell p2 (by simp), F5.out.cell p3 (by simp), F5.out.cell p4 (by simp), F5.out.cell p5 (by simp), F5.out.cell p6 (by simp), F5.out.cell q0 (by simp), F5.out.cell q1 (by simp), F5.out.cell q2 (by simp), F5.out.cell q3 (by simp), F5.out.cell q4 (by simp), F5.out.cell q5 (by simp), F5.out.cell q6 (by simp)⟩; clear f5))
      all_goals
        go_wp2
        go_ret
        exact ⟨by simp, FW.out.trans F7.out⟩
theorem comp_walk (ra : Option Addr) (rs : List Rc) (rc : Nat) (s : Rc) (keep : Int) (ba : Option Addr) (bf : List Nat) (bc : Nat) (w : World) (ht : Tab w) (hrr : RRow w ra rs rc) (hs : RcG w s) (hb : Row w ba bf bc) (hk : -9223372036854775808 ≤ keep ∧ keep ≤ 9223372036854775807) :
    Calls Tryd.prog 6 #[.slice ra rs.length rc, .agg #[.int .u8 (s.k : Int), .int .u64 (s.a : Int), .int .u64 (s.b : Int), .int .i16 s.v, .slice s.p s.d.length s.c], .int .i64 keep, .slice ba bf.length bc] w fun e w' => e = .returned (.bool true) ∧ Fr (fun _ => False) w w' := by
  cases h1 : shortB rs with
  | false => exact comp_short ra rs rc s keep ba bf bc w ht hrr hs hb (.inl h1)
  | true =>
    by_cases h2 : 200 < s.d.length
    · exact comp_short ra rs rc s keep ba bf bc w ht hrr hs hb (.inr (.inl ⟨h1, h2⟩))
    · by_cases h3 : 200 < bf.length
      · exact comp_short ra rs rc s keep ba bf bc w ht hrr hs hb (.inr (.inr ⟨h1, h2, h3⟩))
      · exact comp_long ra rs rc s keep ba bf bc w ht hrr hs hb h1 h2 h3 hk
end Go.Proofs.YtlcakglmheleeaaDoor
