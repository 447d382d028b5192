/- What bytes come to. -/
import Derived.Test.YtlcakglmheleeaaDoorTake
namespace Go.Proofs.YtlcakglmheleeaaDoor
open Go.RowKit

theorem scan_step (f : Nat) (m : Img) (r : List Nat) (h1 : firstN r ≠ 0) (h2 : takeOk m (firstK r) (firstB r) = true) : scanP (f + 1) m r = ((scanP f (takeV m (firstK r) (firstB r)) (r.drop (firstN r))).1, firstN r + (scanP f (takeV m (firstK r) (firstB r)) (r.drop (firstN r))).2) := by
  rw [scanP, if_pos ⟨h1, h2⟩]
theorem scan_end (f : Nat) (m : Img) (r : List Nat) (h : firstN r = 0 ∨ takeOk m (firstK r) (firstB r) = false) : scanP f m r = (m, 0) := by
  cases f with
  | zero => rfl
  | succ f =>
    rw [scanP, if_neg]
    rintro ⟨h1, h2⟩
    rcases h with h | h
    · exact h1 h
    · rw [h] at h2; cases h2
theorem takeV_len (m : Img) (k : Nat) (b : List Nat) : (takeV m k b).es.length ≤ m.es.length + 1 := by
  unfold takeV putE
  split
  · simp
  · split
    · simp; omega
    · simp
/-- what 'Scan' answers. -/
def ScanPost (w : World) (l : List Nat) (e : Ending) (w' : World) : Prop :=
  ∃ m u sa sc v es, Hid ((m, u) = scan img0 l) ∧ e = .returned (.tuple #[.agg #[.int .u64 ((m : Img).tm : Int), .int .i64 m.vo, .int .u64 (m.si : Int), .int .u64 (m.st : Int), .int .u64 (m.sv : Int), .slice sa m.sd.length sc, v], .int .i64 ((u : Nat) : Int)]) ∧ Row w' sa m.sd sc ∧ OwnE w' (fun k => w.heap.size ≤ k) v es ∧ Hid (es.map En.p = m.es) ∧ u ≤ l.length ∧ Fr (fun _ => False) w w'
set_option maxRecDepth 100000 in
set_option maxHeartbeats 1600000 in
theorem scan_any (ao : Option Addr) (l : List Nat) (cap : Nat) (w : World) (ht : Tab w) (hr : Row w ao l cap) (hlen : l.length < 1000000) :
    Calls Tryd.prog 12 #[.slice ao l.length cap] w fun e w' => ScanPost w l e w' := by
  obtain ⟨W, HW⟩ : ∃ W, Hid (W = (w.alloc (.cells #[.int .u64 0, .int .i64 0, .int .u64 0, .int .u64 0, .int .u64 0, .slice none 0 0, .slice none 0 0] 42)).alloc (.cells #[.int .u64 0, .int .i64 (-1), .int .u64 0, .int .u64 0, .int .u64 0, .slice none 0 0, .slice none 0 0] 42)) := ⟨_, rfl⟩
  obtain ⟨rb, Hrb⟩ : ∃ rb, Hid (w.heap.size = rb) := ⟨_, rfl⟩
  obtain ⟨mb, Hmb⟩ : ∃ mb, Hid (rb + 1 = mb) := ⟨_, rfl⟩
  have F0 : Hid (Fr (fun _ => False) w W) := by show Fr _ _ _; rw [HW.out]; exact ((Fr.refl _ _).alloc _).alloc _
  have HWS : Hid (W.heap.size = mb + 1) := by show _ = _; rw [HW.out, ← Hmb.out, ← Hrb.out]; simp
  have HR : Hid (Row w ao l cap) := hr
  have HT : Hid (Tab w) := ht
  have HI0 : Hid (ImA W mb (fun k => mb + 1 ≤ k) img0) := by
    refine ⟨none, 0, .slice none 0 0, [], ?_, ?_, ?_, ?_, ?_, ?_, ?_, ?_, row_nil _, fun e => absurd rfl e, fun e => absurd rfl e, OwnE.nil _ _, rfl, by show ¬ mb + 1 ≤ mb; omega, by decide, by decide, by decide, by decide, by decide⟩
    all_goals rw [HW.out, ← Hmb.out, ← Hrb.out]
    · simp [img0]
    · simp [img0]
    · simp [img0]
    · simp [img0]
    · simp [img0]
    · simp [img0]
    · simp
    · intro i hi; simp
  have HZ : Hid (∀ i, i < 7 → (∃ u, W.cell? ⟨rb, i, none⟩ = some u) ∧ W.frozen? ⟨rb, i, none⟩ = false) := by
    intro i hi
    rw [HW.out, ← Hrb.out]
    have : i = 0 ∨ i = 1 ∨ i = 2 ∨ i = 3 ∨ i = 4 ∨ i = 5 ∨ i = 6 := by omega
    rcases this with rfl | rfl | rfl | rfl | rfl | rfl | rfl <;> exact ⟨⟨_, by simp; rfl⟩, by simp⟩
  have HLC : Hid (l.length ≤ cap ∧ cap ≤ maxLen) := ⟨hr.1, hr.2.1⟩
  have hcap : l.length ≤ cap := hr.1
  clear hr ht
  go_enter Tryd.func12, Tryd.ntmps12
  go_wp2
  rw [← HW.out, Hrb.out, Hmb.out]
  go_loopw [5] (fun av wr => ∃ (at_ f : Nat) (m : Img), av = .int .i64 (at_ : Int) ∧ at_ ≤ l.length ∧ Hid (scan img0 l = ((scanP f m (l.drop at_)).1, at_ + (scanP f m (l.drop at_)).2)) ∧ Hid (l.length - at_ < f) ∧ Hid (ImA wr mb (fun k => mb + 1 ≤ k) m) ∧ Hid (m.es.length ≤ at_) ∧ Hid (Fr (fun k => k = mb) W wr)) (fun av _ => l.length - (intOf av).toNat)
  case atStart => exact ⟨0, l.length + 1, img0, rfl, Nat.zero_le _, by show _ = _; simp [scan], by show _ < _; omega, HI0.out, by show _ ≤ _; simp [img0], Fr.refl _ _⟩
  case round =>
    obtain ⟨at_, f, m, rfl, hat, HSC, HFU, HIM, HEL, HFR⟩ := hrel
    have k0 : (0 : Int) ≤ (at_ : Int) := by omega
    have k1 : (at_ : Int) ≤ (l.length : Int) := by omega
    have k2 : (l.length : Int) ≤ (cap : Int) := by omega
    have k3 : (at_ : Int) ≤ (cap : Int) := by omega
    have HDL : Hid ((l.drop at_).length = l.length - at_) := List.length_drop
    have hroom : (if cap = at_ then cap - at_ else cap - at_) = cap - at_ := by simp
    clear hroom
    by_cases hca : cap = at_
    · have KF : Hid (Calls Tryd.prog 32 #[.slice ao (l.length - at_) 0] wr fun e w' => FirstPost wr (l.drop at_) e w') := by
        have hnil : l.drop at_ = [] := List.drop_eq_nil_of_le (by omega)
        have hl0 : l.length - at_ = 0 := by omega
        have hrow : Row wr ao ([] : List Nat) 0 := ⟨Nat.le_refl _, Nat.zero_le _, by simp, fun _ => rfl, fun e => absurd rfl e⟩
        have fw : Fr (fun _ => False) w wr := F0.out.trans' HFR.out (fun i hi e => by have := Hrb.out; have := Hmb.out; omega)
        have := first_any ao [] 0 wr (fw.tab HT.out (by simp)) hrow (by simp)
        rw [hnil, hl0]
        exact this
      go_wp2_with fail
      refine KF.out.mono ?_
      rintro e w1 ⟨k, n, ab, q, cb, rfl, hrow, EK, EQ, EN, hab, hk, f1⟩
      have HROW : Hid (Row w1 ab q cb) := hrow
      have HIM1 : Hid (ImA w1 mb (fun k => mb + 1 ≤ k) m) := by obtain ⟨sa, sc, v, es, h⟩ := HIM.out; exact ⟨sa, sc, v, es, h.fr f1 (by simp) (by simp)⟩
      have FR1 : Hid (Fr (fun k => k = mb) W w1) := HFR.out.trans (f1.mono (fun _ _ h => h.elim))
      clear hrow f1 KF
      by_cases hn : n = 0
      · have HEND : Hid (scanP f m (l.drop at_) = (m, 0)) := scan_end f m _ (.inl (by rw [← EN.out]; exact hn))
        subst hn
        obtain ⟨sa, sc, v, es, him⟩ := HIM1.out
        have HFIN : Hid (∀ W6, Fr (fun k => k = rb) w1 W6 → ScanPost w l (.returned (.tuple #[.agg #[.int .u64 (m.tm : Int), .int .i64 m.vo, .int .u64 (m.si : Int), .int .u64 (m.st : Int), .int .u64 (m.sv : Int), .slice sa m.sd.length sc, v], .int .i64 (at_ : Int)])) W6) := by
          intro W6 f6
          have hne : ∀ k, mb + 1 ≤ k → ¬ k = rb := fun k hk => by have := Hmb.out; omega
          have f05 : Fr (fun _ => False) w w1 := F0.out.trans' FR1.out (fun i hi e => by have := Hrb.out; have := Hmb.out; omega)
          refine ⟨m, at_, sa, sc, v, es, ?_, rfl, f6.row him.srow (fun hn a ha => hne _ (him.sblk hn a ha)), (him.own.mono (E := fun k => mb + 1 ≤ k) (fun k _ hk => hk)).fr f6 hne |>.mono (fun k _ hk => by have := Hrb.out; have := Hmb.out; omega), him.eq, hat, f05.trans' f6 (fun i hi e => by have := Hrb.out; omega)⟩
          show _ = _
          rw [HSC.out, HEND.out]
          rfl
        have c0 := him.c0
        have c1 := him.c1
        have c2 := him.c2
        have c3 := him.c3
        have c4 := him.c4
        have c5 := him.c5
        have c6 := him.c6
        have hrm : ¬ rb = mb := by have := Hmb.out; omega
        have rlt : ∀ i, i < 7 → (∃ u, w1.cell? ⟨rb, i, none⟩ = some u) ∧ w1.frozen? ⟨rb, i, none⟩ = false := fun i hi => by
          obtain ⟨⟨u, hu⟩, hz⟩ := HZ.out i hi
          exact ⟨⟨u, FR1.out.cell hu hrm⟩, (FR1.out.frozenEq (a := ⟨rb, i, none⟩) (World.block_lt_of_cell? _ _ hu) hrm).trans hz⟩
        obtain ⟨⟨y0, d0⟩, z0⟩ := rlt 0 (by omega)
        obtain ⟨⟨y1, d1⟩, z1⟩ := rlt 1 (by omega)
        obtain ⟨⟨y2, d2⟩, z2⟩ := rlt 2 (by omega)
        obtain ⟨⟨y3, d3⟩, z3⟩ := rlt 3 (by omega)
        obtain ⟨⟨y4, d4⟩, z4⟩ := rlt 4 (by omega)
        obtain ⟨⟨y5, d5⟩, z5⟩ := rlt 5 (by omega)
        obtain ⟨⟨y6, d6⟩, z6⟩ := rlt 6 (by omega)
        obtain ⟨va, vn, hv, _⟩ := him.own.form
        clear rlt him
        subst hv
        go_wp2
        obtain ⟨W6, HW6⟩ : ∃ W6, Hid (W6 = (((((((w1.setCell ⟨rb, 0, none⟩ (.int .u64 (m.tm : Int))).setCell ⟨rb, 1, none⟩ (.int .i64 m.vo)).setCell ⟨rb, 2, none⟩ (.int .u64 (m.si : Int))).setCell ⟨rb, 3, none⟩ (.int .u64 (m.st : Int))).setCell ⟨rb, 4, none⟩ (.int .u64 (m.sv : Int))).setCell ⟨rb, 5, none⟩ (.slice sa m.sd.length sc)).setCell ⟨rb, 6, none⟩ (.slice va es.length vn))) := ⟨_, rfl⟩
        have f6 : Fr (fun k => k = rb) w1 W6 := by rw [HW6.out]; exact (((((((Fr.refl (fun k => k = rb) w1).setCell (p := ⟨rb, 0, none⟩) (Or.inl rfl) _).setCell (p := ⟨rb, 1, none⟩) (Or.inl rfl) _).setCell (p := ⟨rb, 2, none⟩) (Or.inl rfl) _).setCell (p := ⟨rb, 3, none⟩) (Or.inl rfl) _).setCell (p := ⟨rb, 4, none⟩) (Or.inl rfl) _).setCell (p := ⟨rb, 5, none⟩) (Or.inl rfl) _).setCell (p := ⟨rb, 6, none⟩) (Or.inl rfl) _
        have o : ∀ {W : World} {i j : Nat} {u x : Value}, i ≠ j → W.cell? ⟨rb, j, none⟩ = some x → (W.setCell ⟨rb, i, none⟩ u).cell? ⟨rb, j, none⟩ = some x := fun _hij hc => (World.cell?_setCell_other _ _ _ _ (by simp)).trans hc
        have q' : ∀ {W : World} {i : Nat} {u x : Value}, W.cell? ⟨rb, i, none⟩ = some x → (W.setCell ⟨rb, i, none⟩ u).cell? ⟨rb, i, none⟩ = some u := fun hc => World.cell?_setCell_same _ _ _ hc
        have g0 : W6.cell? ⟨rb, 0, none⟩ = some (.int .u64 (m.tm : Int)) := by rw [HW6.out]; exact o (by omega) (o (by omega) (o (by omega) (o (by omega) (o (by omega) (o (by omega) (q' (d0)))))))
        have g1 : W6.cell? ⟨rb, 1, none⟩ = some (.int .i64 m.vo) := by rw [HW6.out]; exact o (by omega) (o (by omega) (o (by omega) (o (by omega) (o (by omega) (q' (o (i := 0) (by omega) (d1)))))))
        have g2 : W6.cell? ⟨rb, 2, none⟩ = some (.int .u64 (m.si : Int)) := by rw [HW6.out]; exact o (by omega) (o (by omega) (o (by omega) (o (by omega) (q' (o (i := 1) (by omega) (o (i := 0) (by omega) (d2)))))))
        have g3 : W6.cell? ⟨rb, 3, none⟩ = some (.int .u64 (m.st : Int)) := by rw [HW6.out]; exact o (by omega) (o (by omega) (o (by omega) (q' (o (i := 2) (by omega) (o (i := 1) (by omega) (o (i := 0) (by omega) (d3)))))))
        have g4 : W6.cell? ⟨rb, 4, none⟩ = some (.int .u64 (m.sv : Int)) := by rw [HW6.out]; exact o (by omega) (o (by omega) (q' (o (i := 3) (by omega) (o (i := 2) (by omega) (o (i := 1) (by omega) (o (i := 0) (by omega) (d4)))))))
        have g5 : W6.cell? ⟨rb, 5, none⟩ = some (.slice sa m.sd.length sc) := by rw [HW6.out]; exact o (by omega) (q' (o (i := 4) (by omega) (o (i := 3) (by omega) (o (i := 2) (by omega) (o (i := 1) (by omega) (o (i := 0) (by omega) (d5)))))))
        have g6 : W6.cell? ⟨rb, 6, none⟩ = some (.slice va es.length vn) := by rw [HW6.out]; exact q' (o (i := 5) (by omega) (o (i := 4) (by omega) (o (i := 3) (by omega) (o (i := 2) (by omega) (o (i := 1) (by omega) (o (i := 0) (by omega) (d6)))))))
        rw [← HW6.out]
        exact bodyPost_ret (v := .tuple #[.agg #[.int .u64 (m.tm : Int), .int .i64 m.vo, .int .u64 (m.si : Int), .int .u64 (m.st : Int), .int .u64 (m.sv : Int), .slice sa m.sd.length sc, .slice va es.length vn], .int .i64 (at_ : Int)]) (by simp [results, Tryd.results12, go_sem, g0, g1, g2, g3, g4, g5, g6]) rfl (HFIN.out _ f6)
      · have hn0 : ¬ (n : Int) = 0 := by omega
        have K : Hid (Calls _ _ _ _ _) := take_any HIM1.out k ab q cb HROW.out (fun j hj => by have := HWS.out; have := FR1.out.size; omega) (by have := HEL.out; omega)
        obtain ⟨b, Hb⟩ : ∃ b, Hid (takeOk m k q = b) := ⟨_, rfl⟩
        cases b with
        | false =>
          have HEND : Hid (scanP f m (l.drop at_) = (m, 0)) := scan_end f m _ (.inr (by rw [← EK.out, ← EQ.out]; exact Hb.out))
          go_wp2_with fail
          refine K.out.mono ?_
          rintro e w2 ⟨rfl, hi, f2⟩
          rw [Hb.out] at hi ⊢
          have HIM2 : Hid (ImA w2 mb (fun k => mb + 1 ≤ k) m) := hi
          have FR2 : Hid (Fr (fun k => k = mb) W w2) := FR1.out.trans' f2 (fun i hi e => by have := HWS.out; rcases e with e | e; exact e; omega)
          clear hi f2 K
          obtain ⟨sa, sc, v, es, him⟩ := HIM2.out
          have HFIN : Hid (∀ W6, Fr (fun k => k = rb) w2 W6 → ScanPost w l (.returned (.tuple #[.agg #[.int .u64 (m.tm : Int), .int .i64 m.vo, .int .u64 (m.si : Int), .int .u64 (m.st : Int), .int .u64 (m.sv : Int), .slice sa m.sd.length sc, v], .int .i64 (at_ : Int)])) W6) := by
            intro W6 f6
            have hne : ∀ k, mb + 1 ≤ k → ¬ k = rb := fun k hk => by have := Hmb.out; omega
            have f05 : Fr (fun _ => False) w w2 := F0.out.trans' FR2.out (fun i hi e => by have := Hrb.out; have := Hmb.out; omega)
            refine ⟨m, at_, sa, sc, v, es, ?_, rfl, f6.row him.srow (fun hn a ha => hne _ (him.sblk hn a ha)), (him.own.mono (E := fun k => mb + 1 ≤ k) (fun k _ hk => hk)).fr f6 hne |>.mono (fun k _ hk => by have := Hrb.out; have := Hmb.out; omega), him.eq, hat, f05.trans' f6 (fun i hi e => by have := Hrb.out; omega)⟩
            show _ = _
            rw [HSC.out, HEND.out]
            rfl
          have c0 := him.c0
          have c1 := him.c1
          have c2 := him.c2
          have c3 := him.c3
          have c4 := him.c4
          have c5 := him.c5
          have c6 := him.c6
          have hrm : ¬ rb = mb := by have := Hmb.out; omega
          have rlt : ∀ i, i < 7 → (∃ u, w2.cell? ⟨rb, i, none⟩ = some u) ∧ w2.frozen? ⟨rb, i, none⟩ = false := fun i hi => by
            obtain ⟨⟨u, hu⟩, hz⟩ := HZ.out i hi
            exact ⟨⟨u, FR2.out.cell hu hrm⟩, (FR2.out.frozenEq (a := ⟨rb, i, none⟩) (World.block_lt_of_cell? _ _ hu) hrm).trans hz⟩
          obtain ⟨⟨y0, d0⟩, z0⟩ := rlt 0 (by omega)
          obtain ⟨⟨y1, d1⟩, z1⟩ := rlt 1 (by omega)
          obtain ⟨⟨y2, d2⟩, z2⟩ := rlt 2 (by omega)
          obtain ⟨⟨y3, d3⟩, z3⟩ := rlt 3 (by omega)
          obtain ⟨⟨y4, d4⟩, z4⟩ := rlt 4 (by omega)
          obtain ⟨⟨y5, d5⟩, z5⟩ := rlt 5 (by omega)
          obtain ⟨⟨y6, d6⟩, z6⟩ := rlt 6 (by omega)
          obtain ⟨va, vn, hv, _⟩ := him.own.form
          clear rlt him
          subst hv
          go_wp2
          obtain ⟨W6, HW6⟩ : ∃ W6, Hid (W6 = (((((((w2.setCell ⟨rb, 0, none⟩ (.int .u64 (m.tm : Int))).setCell ⟨rb, 1, none⟩ (.int .i64 m.vo)).setCell ⟨rb, 2, none⟩ (.int .u64 (m.si : Int))).setCell ⟨rb, 3, none⟩ (.int .u64 (m.st : Int))).setCell ⟨rb, 4, none⟩ (.int .u64 (m.sv : Int))).setCell ⟨rb, 5, none⟩ (.slice sa m.sd.length sc)).setCell ⟨rb, 6, none⟩ (.slice va es.length vn))) := ⟨_, rfl⟩
          have f6 : Fr (fun k => k = rb) w2 W6 := by rw [HW6.out]; exact (((((((Fr.refl (fun k => k = rb) w2).setCell (p := ⟨rb, 0, none⟩) (Or.inl rfl) _).setCell (p := ⟨rb, 1, none⟩) (Or.inl rfl) _).setCell (p := ⟨rb, 2, none⟩) (Or.inl rfl) _).setCell (p := ⟨rb, 3, none⟩) (Or.inl rfl) _).setCell (p := ⟨rb, 4, none⟩) (Or.inl rfl) _).setCell (p := ⟨rb, 5, none⟩) (Or.inl rfl) _).setCell (p := ⟨rb, 6, none⟩) (Or.inl rfl) _
          have o : ∀ {W : World} {i j : Nat} {u x : Value}, i ≠ j → W.cell? ⟨rb, j, none⟩ = some x → (W.setCell ⟨rb, i, none⟩ u).cell? ⟨rb, j, none⟩ = some x := fun _hij hc => (World.cell?_setCell_other _ _ _ _ (by simp)).trans hc
          have q' : ∀ {W : World} {i : Nat} {u x : Value}, W.cell? ⟨rb, i, none⟩ = some x → (W.setCell ⟨rb, i, none⟩ u).cell? ⟨rb, i, none⟩ = some u := fun hc => World.cell?_setCell_same _ _ _ hc
          have g0 : W6.cell? ⟨rb, 0, none⟩ = some (.int .u64 (m.tm : Int)) := by rw [HW6.out]; exact o (by omega) (o (by omega) (o (by omega) (o (by omega) (o (by omega) (o (by omega) (q' (d0)))))))
          have g1 : W6.cell? ⟨rb, 1, none⟩ = some (.int .i64 m.vo) := by rw [HW6.out]; exact o (by omega) (o (by omega) (o (by omega) (o (by omega) (o (by omega) (q' (o (i := 0) (by omega) (d1)))))))
          have g2 : W6.cell? ⟨rb, 2, none⟩ = some (.int .u64 (m.si : Int)) := by rw [HW6.out]; exact o (by omega) (o (by omega) (o (by omega) (o (by omega) (q' (o (i := 1) (by omega) (o (i := 0) (by omega) (d2)))))))
          have g3 : W6.cell? ⟨rb, 3, none⟩ = some (.int .u64 (m.st : Int)) := by rw [HW6.out]; exact o (by omega) (o (by omega) (o (by omega) (q' (o (i := 2) (by omega) (o (i := 1) (by omega) (o (i := 0) (by omega) (d3)))))))
          have g4 : W6.cell? ⟨rb, 4, none⟩ = some (.int .u64 (m.sv : Int)) := by rw [HW6.out]; exact o (by omega) (o (by omega) (q' (o (i := 3) (by omega) (o (i := 2) (by omega) (o (i := 1) (by omega) (o (i := 0) (by omega) (d4)))))))
          have g5 : W6.cell? ⟨rb, 5, none⟩ = some (.slice sa m.sd.length sc) := by rw [HW6.out]; exact o (by omega) (q' (o (i := 4) (by omega) (o (i := 3) (by omega) (o (i := 2) (by omega) (o (i := 1) (by omega) (o (i := 0) (by omega) (d5)))))))
          have g6 : W6.cell? ⟨rb, 6, none⟩ = some (.slice va es.length vn) := by rw [HW6.out]; exact q' (o (i := 5) (by omega) (o (i := 4) (by omega) (o (i := 3) (by omega) (o (i := 2) (by omega) (o (i := 1) (by omega) (o (i := 0) (by omega) (d6)))))))
          rw [← HW6.out]
          exact bodyPost_ret (v := .tuple #[.agg #[.int .u64 (m.tm : Int), .int .i64 m.vo, .int .u64 (m.si : Int), .int .u64 (m.st : Int), .int .u64 (m.sv : Int), .slice sa m.sd.length sc, .slice va es.length vn], .int .i64 (at_ : Int)]) (by simp [results, Tryd.results12, go_sem, g0, g1, g2, g3, g4, g5, g6]) rfl (HFIN.out _ f6)
        | true =>
          go_wp2_with fail
          refine K.out.mono ?_
          rintro e w2 ⟨rfl, hi, f2⟩
          rw [Hb.out, if_pos rfl] at hi
          rw [Hb.out]
          have HIM2 : Hid (ImA w2 mb (fun k => mb + 1 ≤ k) (takeV m k q)) := hi
          have FR2 : Hid (Fr (fun k => k = mb) W w2) := FR1.out.trans' f2 (fun i hi e => by have := HWS.out; rcases e with e | e; exact e; omega)
          have HN : Hid (okRec (l.drop at_) ∧ n ≤ l.length - at_ ∧ 9 ≤ n) := by
            have h0 : firstN (l.drop at_) ≠ 0 := by rw [← EN.out]; exact hn
            have := firstN_pos h0
            rw [← EN.out, HDL.out] at this
            exact ⟨this.1, this.2.2, by omega⟩
          have HST : Hid (∃ f', f = f' + 1 ∧ scanP f m (l.drop at_) = ((scanP f' (takeV m k q) (l.drop (at_ + n))).1, n + (scanP f' (takeV m k q) (l.drop (at_ + n))).2)) := by
            refine ⟨f - 1, by have := HFU.out; omega, ?_⟩
            obtain ⟨f', rfl⟩ : ∃ f', f = f' + 1 := ⟨f - 1, by have := HFU.out; omega⟩
            rw [scan_step f' m _ (by rw [← EN.out]; exact hn) (by rw [← EK.out, ← EQ.out]; exact Hb.out), ← EK.out, ← EQ.out, ← EN.out, List.drop_drop]
            rfl
          have hnl : n ≤ l.length - at_ := HN.out.2.1
          have h9 : 9 ≤ n := HN.out.2.2
          obtain ⟨f', hf', hst⟩ := HST.out
          have HS2 : Hid (scan img0 l = ((scanP f' (takeV m k q) (l.drop (at_ + n))).1, at_ + n + (scanP f' (takeV m k q) (l.drop (at_ + n))).2)) := by show _ = _; rw [HSC.out, hst]; simp [Nat.add_assoc]
          have HF2 : Hid (l.length - (at_ + n) < f') := by show _ < _; have := HFU.out; omega
          have HE2 : Hid ((takeV m k q).es.length ≤ at_ + n) := by show _ ≤ _; have := takeV_len m k q; have := HEL.out; omega
          exfalso
          omega
    · have KF : Hid (Calls Tryd.prog 32 #[.slice (Option.map (fun x => x.add at_) ao) (l.length - at_) (cap - at_)] wr fun e w' => FirstPost wr (l.drop at_) e w') := by
        have fw : Fr (fun _ => False) w wr := F0.out.trans' HFR.out (fun i hi e => by have := Hrb.out; have := Hmb.out; omega)
        have hrw := fw.row HR.out (by simp)
        have hrow : Row wr (Option.map (fun x => x.add at_) ao) (l.drop at_) (cap - at_) := by
          cases ao with
          | none => have := hrw.2.2.2.1 rfl; omega
          | some a => exact hrw.drop hat _ (fun _ => rfl)
        have := first_any _ (l.drop at_) (cap - at_) wr (fw.tab HT.out (by simp)) hrow (by rw [HDL.out]; omega)
        rw [HDL.out] at this
        exact this
      go_wp2_with fail
      refine KF.out.mono ?_
      rintro e w1 ⟨k, n, ab, q, cb, rfl, hrow, EK, EQ, EN, hab, hk, f1⟩
      have HROW : Hid (Row w1 ab q cb) := hrow
      have HIM1 : Hid (ImA w1 mb (fun k => mb + 1 ≤ k) m) := by obtain ⟨sa, sc, v, es, h⟩ := HIM.out; exact ⟨sa, sc, v, es, h.fr f1 (by simp) (by simp)⟩
      have FR1 : Hid (Fr (fun k => k = mb) W w1) := HFR.out.trans (f1.mono (fun _ _ h => h.elim))
      clear hrow f1 KF
      by_cases hn : n = 0
      · have HEND : Hid (scanP f m (l.drop at_) = (m, 0)) := scan_end f m _ (.inl (by rw [← EN.out]; exact hn))
        subst hn
        obtain ⟨sa, sc, v, es, him⟩ := HIM1.out
        have HFIN : Hid (∀ W6, Fr (fun k => k = rb) w1 W6 → ScanPost w l (.returned (.tuple #[.agg #[.int .u64 (m.tm : Int), .int .i64 m.vo, .int .u64 (m.si : Int), .int .u64 (m.st : Int), .int .u64 (m.sv : Int), .slice sa m.sd.length sc, v], .int .i64 (at_ : Int)])) W6) := by
          intro W6 f6
          have hne : ∀ k, mb + 1 ≤ k → ¬ k = rb := fun k hk => by have := Hmb.out; omega
          have f05 : Fr (fun _ => False) w w1 := F0.out.trans' FR1.out (fun i hi e => by have := Hrb.out; have := Hmb.out; omega)
          refine ⟨m, at_, sa, sc, v, es, ?_, rfl, f6.row him.srow (fun hn a ha => hne _ (him.sblk hn a ha)), (him.own.mono (E := fun k => mb + 1 ≤ k) (fun k _ hk => hk)).fr f6 hne |>.mono (fun k _ hk => by have := Hrb.out; have := Hmb.out; omega), him.eq, hat, f05.trans' f6 (fun i hi e => by have := Hrb.out; omega)⟩
          show _ = _
          rw [HSC.out, HEND.out]
          rfl
        have c0 := him.c0
        have c1 := him.c1
        have c2 := him.c2
        have c3 := him.c3
        have c4 := him.c4
        have c5 := him.c5
        have c6 := him.c6
        have hrm : ¬ rb = mb := by have := Hmb.out; omega
        have rlt : ∀ i, i < 7 → (∃ u, w1.cell? ⟨rb, i, none⟩ = some u) ∧ w1.frozen? ⟨rb, i, none⟩ = false := fun i hi => by
          obtain ⟨⟨u, hu⟩, hz⟩ := HZ.out i hi
          exact ⟨⟨u, FR1.out.cell hu hrm⟩, (FR1.out.frozenEq (a := ⟨rb, i, none⟩) (World.block_lt_of_cell? _ _ hu) hrm).trans hz⟩
        obtain ⟨⟨y0, d0⟩, z0⟩ := rlt 0 (by omega)
        obtain ⟨⟨y1, d1⟩, z1⟩ := rlt 1 (by omega)
        obtain ⟨⟨y2, d2⟩, z2⟩ := rlt 2 (by omega)
        obtain ⟨⟨y3, d3⟩, z3⟩ := rlt 3 (by omega)
        obtain ⟨⟨y4, d4⟩, z4⟩ := rlt 4 (by omega)
        obtain ⟨⟨y5, d5⟩, z5⟩ := rlt 5 (by omega)
        obtain ⟨⟨y6, d6⟩, z6⟩ := rlt 6 (by omega)
        obtain ⟨va, vn, hv, _⟩ := him.own.form
        clear rlt him
        subst hv
        go_wp2
        obtain ⟨W6, HW6⟩ : ∃ W6, Hid (W6 = (((((((w1.setCell ⟨rb, 0, none⟩ (.int .u64 (m.tm : Int))).setCell ⟨rb, 1, none⟩ (.int .i64 m.vo)).setCell ⟨rb, 2, none⟩ (.int .u64 (m.si : Int))).setCell ⟨rb, 3, none⟩ (.int .u64 (m.st : Int))).setCell ⟨rb, 4, none⟩ (.int .u64 (m.sv : Int))).setCell ⟨rb, 5, none⟩ (.slice sa m.sd.length sc)).setCell ⟨rb, 6, none⟩ (.slice va es.length vn))) := ⟨_, rfl⟩
        have f6 : Fr (fun k => k = rb) w1 W6 := by rw [HW6.out]; exact (((((((Fr.refl (fun k => k = rb) w1).setCell (p := ⟨rb, 0, none⟩) (Or.inl rfl) _).setCell (p := ⟨rb, 1, none⟩) (Or.inl rfl) _).setCell (p := ⟨rb, 2, none⟩) (Or.inl rfl) _).setCell (p := ⟨rb, 3, none⟩) (Or.inl rfl) _).setCell (p := ⟨rb, 4, none⟩) (Or.inl rfl) _).setCell (p := ⟨rb, 5, none⟩) (Or.inl rfl) _).setCell (p := ⟨rb, 6, none⟩) (Or.inl rfl) _
        have o : ∀ {W : World} {i j : Nat} {u x : Value}, i ≠ j → W.cell? ⟨rb, j, none⟩ = some x → (W.setCell ⟨rb, i, none⟩ u).cell? ⟨rb, j, none⟩ = some x := fun _hij hc => (World.cell?_setCell_other _ _ _ _ (by simp)).trans hc
        have q' : ∀ {W : World} {i : Nat} {u x : Value}, W.cell? ⟨rb, i, none⟩ = some x → (W.setCell ⟨rb, i, none⟩ u).cell? ⟨rb, i, none⟩ = some u := fun hc => World.cell?_setCell_same _ _ _ hc
        have g0 : W6.cell? ⟨rb, 0, none⟩ = some (.int .u64 (m.tm : Int)) := by rw [HW6.out]; exact o (by omega) (o (by omega) (o (by omega) (o (by omega) (o (by omega) (o (by omega) (q' (d0)))))))
        have g1 : W6.cell? ⟨rb, 1, none⟩ = some (.int .i64 m.vo) := by rw [HW6.out]; exact o (by omega) (o (by omega) (o (by omega) (o (by omega) (o (by omega) (q' (o (i := 0) (by omega) (d1)))))))
        have g2 : W6.cell? ⟨rb, 2, none⟩ = some (.int .u64 (m.si : Int)) := by rw [HW6.out]; exact o (by omega) (o (by omega) (o (by omega) (o (by omega) (q' (o (i := 1) (by omega) (o (i := 0) (by omega) (d2)))))))
        have g3 : W6.cell? ⟨rb, 3, none⟩ = some (.int .u64 (m.st : Int)) := by rw [HW6.out]; exact o (by omega) (o (by omega) (o (by omega) (q' (o (i := 2) (by omega) (o (i := 1) (by omega) (o (i := 0) (by omega) (d3)))))))
        have g4 : W6.cell? ⟨rb, 4, none⟩ = some (.int .u64 (m.sv : Int)) := by rw [HW6.out]; exact o (by omega) (o (by omega) (q' (o (i := 3) (by omega) (o (i := 2) (by omega) (o (i := 1) (by omega) (o (i := 0) (by omega) (d4)))))))
        have g5 : W6.cell? ⟨rb, 5, none⟩ = some (.slice sa m.sd.length sc) := by rw [HW6.out]; exact o (by omega) (q' (o (i := 4) (by omega) (o (i := 3) (by omega) (o (i := 2) (by omega) (o (i := 1) (by omega) (o (i := 0) (by omega) (d5)))))))
        have g6 : W6.cell? ⟨rb, 6, none⟩ = some (.slice va es.length vn) := by rw [HW6.out]; exact q' (o (i := 5) (by omega) (o (i := 4) (by omega) (o (i := 3) (by omega) (o (i := 2) (by omega) (o (i := 1) (by omega) (o (i := 0) (by omega) (d6)))))))
        rw [← HW6.out]
        exact bodyPost_ret (v := .tuple #[.agg #[.int .u64 (m.tm : Int), .int .i64 m.vo, .int .u64 (m.si : Int), .int .u64 (m.st : Int), .int .u64 (m.sv : Int), .slice sa m.sd.length sc, .slice va es.length vn], .int .i64 (at_ : Int)]) (by simp [results, Tryd.results12, go_sem, g0, g1, g2, g3, g4, g5, g6]) rfl (HFIN.out _ f6)
      · have hn0 : ¬ (n : Int) = 0 := by omega
        have K : Hid (Calls _ _ _ _ _) := take_any HIM1.out k ab q cb HROW.out (fun j hj => by have := HWS.out; have := FR1.out.size; omega) (by have := HEL.out; omega)
        obtain ⟨b, Hb⟩ : ∃ b, Hid (takeOk m k q = b) := ⟨_, rfl⟩
        cases b with
        | false =>
          have HEND : Hid (scanP f m (l.drop at_) = (m, 0)) := scan_end f m _ (.inr (by rw [← EK.out, ← EQ.out]; exact Hb.out))
          go_wp2_with fail
          refine K.out.mono ?_
          rintro e w2 ⟨rfl, hi, f2⟩
          rw [Hb.out] at hi ⊢
          have HIM2 : Hid (ImA w2 mb (fun k => mb + 1 ≤ k) m) := hi
          have FR2 : Hid (Fr (fun k => k = mb) W w2) := FR1.out.trans' f2 (fun i hi e => by have := HWS.out; rcases e with e | e; exact e; omega)
          clear hi f2 K
          obtain ⟨sa, sc, v, es, him⟩ := HIM2.out
          have HFIN : Hid (∀ W6, Fr (fun k => k = rb) w2 W6 → ScanPost w l (.returned (.tuple #[.agg #[.int .u64 (m.tm : Int), .int .i64 m.vo, .int .u64 (m.si : Int), .int .u64 (m.st : Int), .int .u64 (m.sv : Int), .slice sa m.sd.length sc, v], .int .i64 (at_ : Int)])) W6) := by
            intro W6 f6
            have hne : ∀ k, mb + 1 ≤ k → ¬ k = rb := fun k hk => by have := Hmb.out; omega
            have f05 : Fr (fun _ => False) w w2 := F0.out.trans' FR2.out (fun i hi e => by have := Hrb.out; have := Hmb.out; omega)
            refine ⟨m, at_, sa, sc, v, es, ?_, rfl, f6.row him.srow (fun hn a ha => hne _ (him.sblk hn a ha)), (him.own.mono (E := fun k => mb + 1 ≤ k) (fun k _ hk => hk)).fr f6 hne |>.mono (fun k _ hk => by have := Hrb.out; have := Hmb.out; omega), him.eq, hat, f05.trans' f6 (fun i hi e => by have := Hrb.out; omega)⟩
            show _ = _
            rw [HSC.out, HEND.out]
            rfl
          have c0 := him.c0
          have c1 := him.c1
          have c2 := him.c2
          have c3 := him.c3
          have c4 := him.c4
          have c5 := him.c5
          have c6 := him.c6
          have hrm : ¬ rb = mb := by have := Hmb.out; omega
          have rlt : ∀ i, i < 7 → (∃ u, w2.cell? ⟨rb, i, none⟩ = some u) ∧ w2.frozen? ⟨rb, i, none⟩ = false := fun i hi => by
            obtain ⟨⟨u, hu⟩, hz⟩ := HZ.out i hi
            exact ⟨⟨u, FR2.out.cell hu hrm⟩, (FR2.out.frozenEq (a := ⟨rb, i, none⟩) (World.block_lt_of_cell? _ _ hu) hrm).trans hz⟩
          obtain ⟨⟨y0, d0⟩, z0⟩ := rlt 0 (by omega)
          obtain ⟨⟨y1, d1⟩, z1⟩ := rlt 1 (by omega)
          obtain ⟨⟨y2, d2⟩, z2⟩ := rlt 2 (by omega)
          obtain ⟨⟨y3, d3⟩, z3⟩ := rlt 3 (by omega)
          obtain ⟨⟨y4, d4⟩, z4⟩ := rlt 4 (by omega)
          obtain ⟨⟨y5, d5⟩, z5⟩ := rlt 5 (by omega)
          obtain ⟨⟨y6, d6⟩, z6⟩ := rlt 6 (by omega)
          obtain ⟨va, vn, hv, _⟩ := him.own.form
          clear rlt him
          subst hv
          go_wp2
          obtain ⟨W6, HW6⟩ : ∃ W6, Hid (W6 = (((((((w2.setCell ⟨rb, 0, none⟩ (.int .u64 (m.tm : Int))).setCell ⟨rb, 1, none⟩ (.int .i64 m.vo)).setCell ⟨rb, 2, none⟩ (.int .u64 (m.si : Int))).setCell ⟨rb, 3, none⟩ (.int .u64 (m.st : Int))).setCell ⟨rb, 4, none⟩ (.int .u64 (m.sv : Int))).setCell ⟨rb, 5, none⟩ (.slice sa m.sd.length sc)).setCell ⟨rb, 6, none⟩ (.slice va es.length vn))) := ⟨_, rfl⟩
          have f6 : Fr (fun k => k = rb) w2 W6 := by rw [HW6.out]; exact (((((((Fr.refl (fun k => k = rb) w2).setCell (p := ⟨rb, 0, none⟩) (Or.inl rfl) _).setCell (p := ⟨rb, 1, none⟩) (Or.inl rfl) _).setCell (p := ⟨rb, 2, none⟩) (Or.inl rfl) _).setCell (p := ⟨rb, 3, none⟩) (Or.inl rfl) _).setCell (p := ⟨rb, 4, none⟩) (Or.inl rfl) _).setCell (p := ⟨rb, 5, none⟩) (Or.inl rfl) _).setCell (p := ⟨rb, 6, none⟩) (Or.inl rfl) _
          have o : ∀ {W : World} {i j : Nat} {u x : Value}, i ≠ j → W.cell? ⟨rb, j, none⟩ = some x → (W.setCell ⟨rb, i, none⟩ u).cell? ⟨rb, j, none⟩ = some x := fun _hij hc => (World.cell?_setCell_other _ _ _ _ (by simp)).trans hc
          have q' : ∀ {W : World} {i : Nat} {u x : Value}, W.cell? ⟨rb, i, none⟩ = some x → (W.setCell ⟨rb, i, none⟩ u).cell? ⟨rb, i, none⟩ = some u := fun hc => World.cell?_setCell_same _ _ _ hc
          have g0 : W6.cell? ⟨rb, 0, none⟩ = some (.int .u64 (m.tm : Int)) := by rw [HW6.out]; exact o (by omega) (o (by omega) (o (by omega) (o (by omega) (o (by omega) (o (by omega) (q' (d0)))))))
          have g1 : W6.cell? ⟨rb, 1, none⟩ = some (.int .i64 m.vo) := by rw [HW6.out]; exact o (by omega) (o (by omega) (o (by omega) (o (by omega) (o (by omega) (q' (o (i := 0) (by omega) (d1)))))))
          have g2 : W6.cell? ⟨rb, 2, none⟩ = some (.int .u64 (m.si : Int)) := by rw [HW6.out]; exact o (by omega) (o (by omega) (o (by omega) (o (by omega) (q' (o (i := 1) (by omega) (o (i := 0) (by omega) (d2)))))))
          have g3 : W6.cell? ⟨rb, 3, none⟩ = some (.int .u64 (m.st : Int)) := by rw [HW6.out]; exact o (by omega) (o (by omega) (o (by omega) (q' (o (i := 2) (by omega) (o (i := 1) (by omega) (o (i := 0) (by omega) (d3)))))))
          have g4 : W6.cell? ⟨rb, 4, none⟩ = some (.int .u64 (m.sv : Int)) := by rw [HW6.out]; exact o (by omega) (o (by omega) (q' (o (i := 3) (by omega) (o (i := 2) (by omega) (o (i := 1) (by omega) (o (i := 0) (by omega) (d4)))))))
          have g5 : W6.cell? ⟨rb, 5, none⟩ = some (.slice sa m.sd.length sc) := by rw [HW6.out]; exact o (by omega) (q' (o (i := 4) (by omega) (o (i := 3) (by omega) (o (i := 2) (by omega) (o (i := 1) (by omega) (o (i := 0) (by omega) (d5)))))))
          have g6 : W6.cell? ⟨rb, 6, none⟩ = some (.slice va es.length vn) := by rw [HW6.out]; exact q' (o (i := 5) (by omega) (o (i := 4) (by omega) (o (i := 3) (by omega) (o (i := 2) (by omega) (o (i := 1) (by omega) (o (i := 0) (by omega) (d6)))))))
          rw [← HW6.out]
          exact bodyPost_ret (v := .tuple #[.agg #[.int .u64 (m.tm : Int), .int .i64 m.vo, .int .u64 (m.si : Int), .int .u64 (m.st : Int), .int .u64 (m.sv : Int), .slice sa m.sd.length sc, .slice va es.length vn], .int .i64 (at_ : Int)]) (by simp [results, Tryd.results12, go_sem, g0, g1, g2, g3, g4, g5, g6]) rfl (HFIN.out _ f6)
        | true =>
          go_wp2_with fail
          refine K.out.mono ?_
          rintro e w2 ⟨rfl, hi, f2⟩
          rw [Hb.out, if_pos rfl] at hi
          rw [Hb.out]
          have HIM2 : Hid (ImA w2 mb (fun k => mb + 1 ≤ k) (takeV m k q)) := hi
          have FR2 : Hid (Fr (fun k => k = mb) W w2) := FR1.out.trans' f2 (fun i hi e => by have := HWS.out; rcases e with e | e; exact e; omega)
          have HN : Hid (okRec (l.drop at_) ∧ n ≤ l.length - at_ ∧ 9 ≤ n) := by
            have h0 : firstN (l.drop at_) ≠ 0 := by rw [← EN.out]; exact hn
            have := firstN_pos h0
            rw [← EN.out, HDL.out] at this
            exact ⟨this.1, this.2.2, by omega⟩
          have HST : Hid (∃ f', f = f' + 1 ∧ scanP f m (l.drop at_) = ((scanP f' (takeV m k q) (l.drop (at_ + n))).1, n + (scanP f' (takeV m k q) (l.drop (at_ + n))).2)) := by
            refine ⟨f - 1, by have := HFU.out; omega, ?_⟩
            obtain ⟨f', rfl⟩ : ∃ f', f = f' + 1 := ⟨f - 1, by have := HFU.out; omega⟩
            rw [scan_step f' m _ (by rw [← EN.out]; exact hn) (by rw [← EK.out, ← EQ.out]; exact Hb.out), ← EK.out, ← EQ.out, ← EN.out, List.drop_drop]
            rfl
          have hnl : n ≤ l.length - at_ := HN.out.2.1
          have h9 : 9 ≤ n := HN.out.2.2
          obtain ⟨f', hf', hst⟩ := HST.out
          have HS2 : Hid (scan img0 l = ((scanP f' (takeV m k q) (l.drop (at_ + n))).1, at_ + n + (scanP f' (takeV m k q) (l.drop (at_ + n))).2)) := by show _ = _; rw [HSC.out, hst]; simp [Nat.add_assoc]
          have HF2 : Hid (l.length - (at_ + n) < f') := by show _ < _; have := HFU.out; omega
          have HE2 : Hid ((takeV m k q).es.length ≤ at_ + n) := by show _ ≤ _; have := takeV_len m k q; have := HEL.out; omega
          clear hi f2 K hst hf'
          go_wp2
          go_roundw
          case rel => exact ⟨at_ + n, f', takeV m k q, by go_num, by omega, HS2.out, HF2.out, HIM2.out, HE2.out, FR2.out⟩
          case measure => simp [intOf]; omega
end Go.Proofs.YtlcakglmheleeaaDoor
