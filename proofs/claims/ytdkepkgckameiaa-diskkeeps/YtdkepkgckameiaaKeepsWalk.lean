/- The statement DiskKeeps, walked: bytes that were handed in, or read, are written over. -/
import Derived.Test.YtdkepkgckameiaaAwake
namespace Go.Proofs.Ytdkepkgckameiaa
open Go.RowKit

/-- cells that may be written over. -/
def Wipe (w : World) (g n : Nat) : Prop := (∀ j, j < n → ∃ x, w.cell? ⟨g, j, none⟩ = some x) ∧ ∀ j, w.frozen? ⟨g, j, none⟩ = false
theorem Wipe.set {w : World} {g n : Nat} (h : Wipe w g n) (i : Nat) (u : Value) : Wipe (w.setCell ⟨g, i, none⟩ u) g n := by
  refine ⟨fun j hj => ?_, fun j => by simpa using h.2 j⟩
  obtain ⟨x, hx⟩ := h.1 j hj
  by_cases hji : j = i
  · subst hji; exact ⟨u, World.cell?_setCell_same _ _ _ hx⟩
  · exact ⟨x, (World.cell?_setCell_other _ _ _ _ (by simp)).trans hx⟩
theorem Wipe.fr {w w1 : World} {g n : Nat} {S : Nat → Prop} (h : Wipe w g n) (f : Fr S w w1) (hg : g < w.heap.size) (hs : ¬ S g) : Wipe w1 g n :=
  ⟨fun j hj => by obtain ⟨x, hx⟩ := h.1 j hj; exact ⟨x, f.cell hx hs⟩, fun j => (f.frozenEq (a := ⟨g, j, none⟩) hg hs).trans (h.2 j)⟩
theorem Own.wipe {w : World} {base : Nat} {v : Value} {l : List Nat} (h : Own w base v l) : ∃ ao cap, v = .slice ao l.length cap ∧ (l ≠ [] → ∃ g, ao = some ⟨g, 0, none⟩ ∧ Wipe w g l.length) := by
  obtain ⟨⟨hl, h⟩, hb⟩ := h
  rcases h with ⟨rfl, h0⟩ | ⟨g, cap, cur, rfl, hbg, hg, hn, hm, hs, ht⟩
  · exact ⟨none, 0, by rw [h0], fun hne => absurd (List.eq_nil_of_length_eq_zero h0) hne⟩
  · refine ⟨_, cap, rfl, fun _ => ⟨g, rfl, fun i hi => ?_, fun i => by simp [World.frozen?, hg]⟩⟩
    have h1 := cellsOf_get l i hi
    rw [← ht, List.getElem?_take, if_pos (by omega)] at h1
    refine ⟨.int .u8 ((l.getD i 0 : Nat) : Int), ?_⟩
    rw [cell_of_row w g i cur 5 (0, 0) hg]
    simpa using h1
theorem strOf_append (l m : List Nat) : strOf (l ++ m) = strOf l ++ strOf m := by
  apply ByteArray.ext
  simp [strOf]
theorem strOf_size (l : List Nat) : (strOf l).size = l.length := by
  simp [strOf, ByteArray.size]
set_option maxRecDepth 100000 in
set_option maxHeartbeats 4000000 in
theorem keeps_walk (a1 : Option Addr) (p : List Nat) (c1 : Nat) (a2 : Option Addr) (q : List Nat) (c2 : Nat) (w : World) (h1 : Row w a1 p c1) (h2 : Row w a2 q c2) :
    Calls Try.prog 4 #[.slice a1 p.length c1, .slice a2 q.length c2] w fun e w' => e = .returned (.bool true) ∧ Fr (fun _ => False) w w' := by
  have hl1 : p.length ≤ 9223372036854775807 := by have := h1.1; have := h1.2.1; unfold maxLen at this; omega
  have hl2 : q.length ≤ 9223372036854775807 := by have := h2.1; have := h2.2.1; unfold maxLen at this; omega
  by_cases hp : 500 < p.length
  · clear h1 h2
    go_enter Try.func4, Try.ntmps4
    go_wp2_with fail
    refine (awake_any w).mono ?_
    rintro e w1 ⟨rfl, f1⟩
    go_wp2_with fail
    refine (awake_any w1).mono ?_
    rintro e w2 ⟨rfl, f2⟩
    go_wp2
    go_ret
    exact ⟨rfl, f1.trans f2⟩
  by_cases hq : 500 < q.length
  · clear h1 h2
    go_enter Try.func4, Try.ntmps4
    go_wp2_with fail
    refine (awake_any w).mono ?_
    rintro e w1 ⟨rfl, f1⟩
    go_wp2_with fail
    refine (awake_any w1).mono ?_
    rintro e w2 ⟨rfl, f2⟩
    go_wp2
    go_ret
    exact ⟨rfl, f1.trans f2⟩
  obtain ⟨sp, Hsp⟩ : ∃ sp, Hid (strOf p = sp) := ⟨_, rfl⟩
  obtain ⟨sq, Hsq⟩ : ∃ sq, Hid (strOf q = sq) := ⟨_, rfl⟩
  have hz1 := strOf_size p
  have hz2 := strOf_size q
  rw [Hsp.out] at hz1
  rw [Hsq.out] at hz2
  have hadd : (sp.size : Int) + (sq.size : Int) ≤ 9223372036854775807 := by omega
  have hadd2 : sp.size + sq.size ≤ 9223372036854775807 := by omega
  clear hz1 hz2
  have HR1 : Hid (Row w a1 p c1) := h1
  have HR2 : Hid (Row w a2 q c2) := h2
  clear h1 h2
  go_enter Try.func4, Try.ntmps4
  go_wp2_with fail
  refine (awake_any w).mono ?_
  rintro e w1 ⟨rfl, f1⟩
  have F1 : Hid (Fr (fun _ => False) w w1) := f1
  have s1 := run_str w1 a1 p c1 (f1.row HR1.out (by simp))
  have s2 := run_str w1 a2 q c2 (f1.row HR2.out (by simp))
  rw [Hsp.out] at s1
  rw [Hsq.out] at s2
  clear f1
  go_wp2_with (refine wpList_append_bytes rfl _ _ rfl w.heap.size _ [] rfl (Own.nil _ _) a1 p c1 rfl (F1.out.row HR1.out (by simp)) (by simp; omega) F1.out.size ?_)
  intro va w2 oa ga ka
  have F2 : Hid (Fr (fun _ => False) w w2) := F1.out.grown ga (fun k e => by simp [Value.ownBlock] at e)
  obtain ⟨aa, ca, hva, hwa⟩ := oa.wipe
  have OA : Hid (Own w2 w.heap.size va p) := oa
  have HWA : Hid (p ≠ [] → ∃ g, aa = some ⟨g, 0, none⟩ ∧ Wipe w2 g p.length) := hwa
  have Hva : Hid (va = .slice aa p.length ca) := hva
  have KA : Hid (∀ k, va.ownBlock = some k → k < w2.heap.size) := fun k hk => (oa.lt k hk).2
  rw [hva]
  clear s1 s2 oa ga ka hwa hva
  go_wp2_with (refine wpList_append_bytes rfl _ _ rfl w2.heap.size _ [] rfl (Own.nil _ _) a2 q c2 rfl (F2.out.row HR2.out (by simp)) (by simp; omega) (Nat.le_refl _) ?_)
  intro vb w3 ob gb kb
  have g3 : Fr (fun _ => False) w2 w3 := (Fr.refl _ _).grown gb (fun k e => by simp [Value.ownBlock] at e)
  have F3 : Hid (Fr (fun _ => False) w w3) := F2.out.trans g3
  have OA3 : Hid (Own w3 w.heap.size va p) := OA.out.fr g3 (by simp)
  obtain ⟨ab, cb, hvb, hwb⟩ := ob.wipe
  have OB : Hid (Own w3 w2.heap.size vb q) := ob
  have G3 : Hid (Fr (fun _ => False) w2 w3) := g3
  have HWB : Hid (q ≠ [] → ∃ g, ab = some ⟨g, 0, none⟩ ∧ Wipe w3 g q.length) := hwb
  have Hvb : Hid (vb = .slice ab q.length cb) := hvb
  rw [hvb]
  clear ob gb kb hwb hvb g3 OA
  go_wp2_with fail
  refine (new_any w3 w3.heap.size (Nat.le_refl _)).mono ?_
  rintro e w4 ⟨rfl, d4, g4⟩
  have OA4 := OA3.out.fr g4 (by simp)
  rw [Hva.out] at OA4
  obtain ⟨_, _, he4, ra4, rb4⟩ := OA4.row
  cases he4
  have K4 : Hid (Calls _ _ _ _ _) := put_any d4 (by omega) aa p ca ra4 (fun _ a ha e => by
    have h := (rb4 a ha).2.2.1
    rw [← Hva.out] at h
    have := KA.out _ h
    have := G3.out.size
    omega) (by omega)
  have G4 : Hid (Fr (fun _ => False) w3 w4) := g4
  have hdl := d4.lt
  obtain ⟨db, Hdb⟩ : ∃ db, Hid (w3.heap.size = db) := ⟨_, rfl⟩
  rw [Hdb.out] at K4 ⊢
  clear d4 g4 OA4 ra4 rb4
  go_wp2_with fail
  refine K4.out.mono ?_
  rintro e w5 ⟨rfl, ⟨v5, d5, k5⟩, g5⟩
  have HS4 := G4.out.size
  have KB : Hid (∀ k, vb.ownBlock = some k → w2.heap.size ≤ k ∧ k < db) := fun k hk => by have := OB.out.lt k hk; have := Hdb.out; omega
  have OB5 := (OB.out.fr G4.out (by simp)).fr g5 (fun k hk e => by have := KB.out k hk; omega)
  have OB5' : Own w5 w2.heap.size (.slice ab q.length cb) q := by rw [← Hvb.out]; exact OB5
  obtain ⟨_, _, he5, rb5, bb5⟩ := OB5'.row
  cases he5
  have K5 : Hid (Calls _ _ _ _ _) := append_any d5 (by omega) ab q cb rb5 (fun _ a ha e => by
    have h := (bb5 a ha).2.2.1
    rw [← Hvb.out] at h
    have := KB.out _ h
    omega) (by omega)
  have KV5 : Hid (∀ k, v5.ownBlock = some k → w4.heap.size ≤ k) := k5
  have G5 : Hid (Fr (fun k => k = db) w4 w5) := g5
  clear d5 k5 g5 OB5 OB5' rb5 bb5 K4
  go_wp2_with fail
  refine K5.out.mono ?_
  rintro e w6 ⟨rfl, ⟨v6, d6, k6⟩, g6⟩
  have KV6 : Hid (∀ k, v6.ownBlock = some k → w4.heap.size ≤ k) := fun k hk => by
    rcases k6 k hk with h | h
    · exact KV5.out k h
    · have := G5.out.size; omega
  have D6 : Hid (Dk w6 db db (p ++ q) p.length 2 v6) := d6
  have G6 : Hid (Fr (fun k => k = db ∨ v5.ownBlock = some k) w5 w6) := g6
  have K6 : Hid (Calls _ _ _ _ _) := read_any d6 (by simp; omega)
  clear d6 k6 g6 K5
  go_wp2_with fail
  refine K6.out.mono ?_
  rintro e w7 ⟨vr, rfl, or7, g7⟩
  obtain ⟨ar, cr, hvr, hwr⟩ := or7.wipe
  have KR : Hid (∀ k, vr.ownBlock = some k → w6.heap.size ≤ k ∧ k < w7.heap.size) := fun k hk => or7.lt k hk
  have D7 : Hid (Dk w7 db db (p ++ q) p.length 2 v6) := D6.out.fr g7 (by simp) (by simp)
  have G7 : Hid (Fr (fun k => db ≤ k) w3 w7) := by
    refine (((G4.out.mono (fun _ _ h => h.elim)).trans' G5.out (fun i hi e => by omega)).trans' G6.out (fun i hi e => ?_)).trans' g7 (fun _ _ h => h.elim)
    rcases e with e | e
    · omega
    · have := KV5.out i e; omega
  have F7 : Hid (Fr (fun _ => False) w w7) := F3.out.trans' G7.out (fun i hi e => by have := Hdb.out; have := F3.out.size; omega)
  have WA : Hid (p ≠ [] → ∃ g, aa = some ⟨g, 0, none⟩ ∧ va.ownBlock = some g ∧ g < w7.heap.size ∧ Wipe w7 g p.length) := fun hne => by
    obtain ⟨g, hg, hw⟩ := HWA.out hne
    have ho : va.ownBlock = some g := by rw [Hva.out, hg]; rfl
    have hlt := KA.out g ho
    have hs3 := G3.out.size
    have hs7 := G7.out.size
    exact ⟨g, hg, ho, by omega, (hw.fr G3.out hlt (by simp)).fr G7.out (by omega) (by have := Hdb.out; omega)⟩
  have WB : Hid (q ≠ [] → ∃ g, ab = some ⟨g, 0, none⟩ ∧ vb.ownBlock = some g ∧ g < w7.heap.size ∧ Wipe w7 g q.length) := fun hne => by
    obtain ⟨g, hg, hw⟩ := HWB.out hne
    have ho : vb.ownBlock = some g := by rw [Hvb.out, hg]; rfl
    have hlt := KB.out g ho
    have hs7 := G7.out.size
    have hd := Hdb.out
    exact ⟨g, hg, ho, by omega, hw.fr G7.out (by omega) (by omega)⟩
  have WR : Hid (p ++ q ≠ [] → ∃ g, ar = some ⟨g, 0, none⟩ ∧ vr.ownBlock = some g ∧ g < w7.heap.size ∧ Wipe w7 g (p ++ q).length) := fun hne => by
    obtain ⟨g, hg, hw⟩ := hwr hne
    have ho : vr.ownBlock = some g := by rw [hvr, hg]; rfl
    exact ⟨g, hg, ho, (KR.out g ho).2, hw⟩
  have DAB : Hid (∀ k, va.ownBlock = some k → vb.ownBlock ≠ some k) := fun k ha hb => by have := KA.out k ha; have := KB.out k hb; omega
  have HS6 : Hid (db < w6.heap.size) := D6.out.lt
  have DR : Hid (∀ k, vr.ownBlock = some k → db < k ∧ v6.ownBlock ≠ some k) := fun k hk => by
    have h := KR.out k hk
    refine ⟨by have := HS6.out; omega, fun e => ?_⟩
    have := (D6.out.own.lt k e).2
    omega
  have DRA : Hid (∀ k, vr.ownBlock = some k → va.ownBlock ≠ some k ∧ vb.ownBlock ≠ some k) := fun k hk => by
    have h := (DR.out k hk).1
    exact ⟨fun e => by have := KA.out k e; have := G3.out.size; have := Hdb.out; omega, fun e => by have := KB.out k e; omega⟩
  have DD : Hid (∀ k, (va.ownBlock = some k ∨ vb.ownBlock = some k ∨ vr.ownBlock = some k) → k ≠ db ∧ v6.ownBlock ≠ some k ∧ w.heap.size ≤ k) := fun k hk => by
    have hw2 := F2.out.size
    have hw3 := G3.out.size
    have hd := Hdb.out
    rcases hk with h | h | h
    · have h1 := KA.out k h
      have h2 := (OA3.out.lt k h).1
      exact ⟨by omega, fun e => by have := KV6.out k e; omega, h2⟩
    · have h1 := KB.out k h
      exact ⟨by omega, fun e => by have := KV6.out k e; omega, by omega⟩
    · have h1 := DR.out k h
      exact ⟨by omega, h1.2, by omega⟩
  obtain ⟨pq, Hpq⟩ : ∃ pq, Hid (p ++ q = pq) := ⟨_, rfl⟩
  rw [Hpq.out] at D7 WR hvr
  have hpql : pq.length ≤ 1000 := by rw [← Hpq.out]; simp; omega
  have Hss : Hid (sp ++ sq = strOf pq) := by show _ = _; rw [← Hpq.out, strOf_append, Hsp.out, Hsq.out]
  have Hvr : Hid (vr = .slice ar pq.length cr) := hvr
  rw [hvr]
  clear or7 g7 hwr hvr K6 KV6 KV5 G3 G4 G5 G6 G7 HWA HWB OA3 OB KA KB KR D6 HS6 F1 F2 F3 HR1 HR2 Hsp Hsq Hdb hdl HS4 DR
  go_wp2
  go_loopw [10] (fun i wr => ∃ k : Nat, k ≤ p.length ∧ i = .int .i64 (k : Int) ∧ Fr (fun k => va.ownBlock = some k) w7 wr ∧ (p ≠ [] → ∃ g, aa = some ⟨g, 0, none⟩ ∧ va.ownBlock = some g ∧ Wipe wr g p.length)) (fun i _ => p.length - (intOf i).toNat)
  case atStart => exact ⟨0, Nat.zero_le _, rfl, Fr.refl _ _, fun hne => by obtain ⟨g, h1, h2, _, h4⟩ := WA.out hne; exact ⟨g, h1, h2, h4⟩⟩
  case round =>
    obtain ⟨k, hk, rfl, hfr, hwp⟩ := hrel
    by_cases hlt : k < p.length
    · obtain ⟨g, rfl, hob, hw⟩ := hwp (fun e => by rw [e] at hlt; simp at hlt)
      obtain ⟨x, hx⟩ := hw.1 k hlt
      have hz := hw.2 k
      have HW : Hid (Wipe wr g p.length) := hw
      have HFR : Hid (Fr (fun k => va.ownBlock = some k) w7 wr) := hfr
      have z1 : (0 : Int) ≤ (k : Int) := by omega
      have z2 : (k : Int) < (p.length : Int) := by omega
      clear hw hfr hwp
      go_wp2
      go_roundw
      case rel => exact ⟨k + 1, by omega, by go_num, HFR.out.setCell (p := ⟨g, _, none⟩) (Or.inl hob) _, fun _ => ⟨g, rfl, hob, HW.out.set _ _⟩⟩
      case measure => simp [intOf]; omega
    · rename World => w8
      have HFR : Hid (Fr (fun k => va.ownBlock = some k) w7 w8) := hfr
      have hlt' : ¬ (k : Int) < (p.length : Int) := by omega
      clear hfr hwp
      go_wp2
      go_loopw [11] (fun i wr => ∃ k : Nat, k ≤ q.length ∧ i = .int .i64 (k : Int) ∧ Fr (fun k => vb.ownBlock = some k) w8 wr ∧ (q ≠ [] → ∃ g, ab = some ⟨g, 0, none⟩ ∧ vb.ownBlock = some g ∧ Wipe wr g q.length)) (fun i _ => q.length - (intOf i).toNat)
      case atStart => exact ⟨0, Nat.zero_le _, rfl, Fr.refl _ _, fun hne => by obtain ⟨g, h1, h2, h3, h4⟩ := WB.out hne; exact ⟨g, h1, h2, h4.fr HFR.out h3 (fun e => DAB.out g e h2)⟩⟩
      case round =>
        obtain ⟨k2, hk2, rfl, hfr, hwp⟩ := hrel
        by_cases hlt2 : k2 < q.length
        · obtain ⟨g, rfl, hob, hw⟩ := hwp (fun e => by rw [e] at hlt2; simp at hlt2)
          obtain ⟨x, hx⟩ := hw.1 k2 hlt2
          have hz := hw.2 k2
          have HW : Hid (Wipe wr g q.length) := hw
          have HFS : Hid (Fr (fun k => vb.ownBlock = some k) w8 wr) := hfr
          have z1 : (0 : Int) ≤ (k2 : Int) := by omega
          have z2 : (k2 : Int) < (q.length : Int) := by omega
          clear hw hfr hwp
          go_wp2
          go_roundw
          case rel => exact ⟨k2 + 1, by omega, by go_num, HFS.out.setCell (p := ⟨g, _, none⟩) (Or.inl hob) _, fun _ => ⟨g, rfl, hob, HW.out.set _ _⟩⟩
          case measure => simp [intOf]; omega
        · rename World => ws
          have HFS : Hid (Fr (fun k => va.ownBlock = some k ∨ vb.ownBlock = some k ∨ vr.ownBlock = some k) w7 ws) := (HFR.out.mono (fun _ _ h => .inl h)).trans (hfr.mono (fun _ _ h => .inr (.inl h)))
          have HWS : Hid (pq ≠ [] → ∃ g, ar = some ⟨g, 0, none⟩ ∧ vr.ownBlock = some g ∧ Wipe ws g pq.length) := fun hne => by
            obtain ⟨g, h1, h2, h3, h4⟩ := WR.out hne
            exact ⟨g, h1, h2, (h4.fr HFR.out h3 (fun e => (DRA.out g h2).1 e)).fr hfr (by have := HFR.out.size; omega) (fun e => (DRA.out g h2).2 e)⟩
          have hlt2' : ¬ (k2 : Int) < (q.length : Int) := by omega
          clear hfr hwp
          go_wp2
          go_loopw [12] (fun i wr => ∃ k : Nat, k ≤ pq.length ∧ i = .int .i64 (k : Int) ∧ Fr (fun k => va.ownBlock = some k ∨ vb.ownBlock = some k ∨ vr.ownBlock = some k) w7 wr ∧ (pq ≠ [] → ∃ g, ar = some ⟨g, 0, none⟩ ∧ vr.ownBlock = some g ∧ Wipe wr g pq.length)) (fun i _ => pq.length - (intOf i).toNat)
          case atStart => exact ⟨0, Nat.zero_le _, rfl, HFS.out, HWS.out⟩
          case round =>
            obtain ⟨k3, hk3, rfl, hfr, hwp⟩ := hrel
            by_cases hlt3 : k3 < pq.length
            · obtain ⟨g, rfl, hob, hw⟩ := hwp (fun e => by rw [e] at hlt3; simp at hlt3)
              obtain ⟨x, hx⟩ := hw.1 k3 hlt3
              have hz := hw.2 k3
              have HW : Hid (Wipe wr g pq.length) := hw
              have HFT : Hid (Fr (fun k => va.ownBlock = some k ∨ vb.ownBlock = some k ∨ vr.ownBlock = some k) w7 wr) := hfr
              have z1 : (0 : Int) ≤ (k3 : Int) := by omega
              have z2 : (k3 : Int) < (pq.length : Int) := by omega
              clear hw hfr hwp
              go_wp2
              go_roundw
              case rel => exact ⟨k3 + 1, by omega, by go_num, HFT.out.setCell (p := ⟨g, _, none⟩) (Or.inl (.inr (.inr hob))) _, fun _ => ⟨g, rfl, hob, HW.out.set _ _⟩⟩
              case measure => simp [intOf]; omega
            · have F8 : Hid (Fr (fun _ => False) w wr) := F7.out.trans' hfr (fun i hi e => by have := (DD.out i e).2.2; omega)
              have d8 := D7.out.fr hfr (fun e => (DD.out _ e).1 rfl) (fun k hk e => (DD.out k e).2.1 hk)
              have K8 : Hid (Calls _ _ _ _ _) := read_any d8 (by omega)
              have hlt3' : ¬ (k3 : Int) < (pq.length : Int) := by omega
              clear hfr hwp d8 HWS HFS HFR WA WB WR DD DAB DRA D7
              go_wp2_with fail
              refine K8.out.mono ?_
              rintro e w9 ⟨v9, rfl, o9, f9⟩
              obtain ⟨a9, c9, rfl, hr9, _⟩ := o9.row
              have s9 := run_str w9 a9 pq c9 hr9
              have F9 : Hid (Fr (fun _ => False) w w9) := F8.out.trans f9
              rw [Hss.out]
              obtain ⟨t, Ht⟩ : ∃ t, Hid (strOf pq = t) := ⟨_, rfl⟩
              rw [Ht.out] at s9 ⊢
              have hb : (t.toList == t.toList) = true := by simp
              clear o9 hr9 f9 K8
              go_wp2
              go_ret
              exact ⟨rfl, F9.out⟩
end Go.Proofs.Ytdkepkgckameiaa
