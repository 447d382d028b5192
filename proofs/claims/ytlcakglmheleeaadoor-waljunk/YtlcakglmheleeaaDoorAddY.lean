/- The document's Add, where the entry can stand there. -/
import Derived.Test.YtlcakglmheleeaaDoorAddW
namespace Go.Proofs.YtlcakglmheleeaaDoor
open Go.RowKit

set_option maxRecDepth 100000 in
set_option maxHeartbeats 3200000 in
theorem add_yes (m : Img) (sa : Option Addr) (sc : Nat) (ea : Option Addr) (es : List En) (c : Nat) (x : En) (n : Nat) (w : World) (D : Nat → Prop) (h : ImV w D m sa sc ea es c) (hg : Good m n) (hn : n ≤ 1000) (hc : canE m x.i = true) (hx : EG w D x) (hnew : ∀ k, w.heap.size ≤ k → D k) :
    Calls Tryd.prog 30 #[aggI m sa sc ea es.length c, .agg #[.int .u64 (x.i : Int), .int .u64 (x.t : Int), .int .u8 (x.k : Int), .slice x.a x.d.length x.c]] w fun e w' => AddPost w D m x.p e w' := by
  have hel : es.length = m.es.length := by rw [← h.eq, List.length_map]
  have hsi := hg.si
  have hml := hg.len
  have hen : es.length ≤ 1000 := by omega
  have hxi := hx.i
  have k1 : ¬ x.i ≤ m.si := by unfold canE at hc; simp at hc; omega
  have k2 : ¬ m.si + es.length + 1 < x.i := by unfold canE at hc; simp at hc; omega
  have HFI : Hid ((es.filter (fun e => decide (e.i < x.i))).map En.p = m.es.take (x.i - m.si - 1)) := by
    show _ = _
    rw [← filter_inv m x.i hg.inv, ← h.eq, List.filter_map]
    rfl
  have HFIN : Hid (∀ w' va vc es', Fr (fun _ => False) w w' → OwnE w' D (.slice va (es' : List En).length vc) es' → es' = es.filter (fun e => decide (e.i < x.i)) ++ [x] → AddPost w D m x.p (.returned (.tuple #[.agg #[.int .u64 (m.tm : Int), .int .i64 m.vo, .int .u64 (m.si : Int), .int .u64 (m.st : Int), .int .u64 (m.sv : Int), .slice sa m.sd.length sc, .slice va es'.length vc], .bool true])) w') := fun w' va vc es' f ho he => by
    obtain ⟨ao, cap, hv, hr⟩ := ho.eroww
    cases hv
    refine ⟨putE m x.p, sa, sc, va, es', vc, by rw [show x.p.1 = x.i from rfl, hc]; rfl, by show _ = _; rw [show x.p.1 = x.i from rfl, hc]; rfl, ⟨f.row h.srow (by simp), h.sblk, hr, ?_⟩, f⟩
    rw [he, List.map_append, HFI.out]
    rfl
  have HI : Hid (ImV w D m sa sc ea es c) := h
  have HX : Hid (EG w D x) := hx
  have HN : Hid (∀ k, w.heap.size ≤ k → D k) := hnew
  obtain ⟨si, Hsi⟩ : ∃ si, Hid (m.si = si) := ⟨_, rfl⟩
  have hen2 : (es.length : Int) ≤ 1000 := by omega
  unfold aggI
  rw [Hsi.out] at k1 k2 hsi HFIN ⊢
  obtain ⟨W0, HW⟩ : ∃ W0, Hid (W0 = ((w.alloc (.cells #[.int .u64 (m.tm : Int), .int .i64 m.vo, .int .u64 (si : Int), .int .u64 (m.st : Int), .int .u64 (m.sv : Int), .slice sa m.sd.length sc, .slice ea es.length c] 34)).alloc (.cells #[.int .u64 (x.i : Int), .int .u64 (x.t : Int), .int .u8 (x.k : Int), .slice x.a x.d.length x.c] 50)).alloc (.cells #[.int .u64 0, .int .i64 0, .int .u64 0, .int .u64 0, .int .u64 0, .slice none 0 0, .slice none 0 0] 34)) := ⟨_, rfl⟩
  obtain ⟨b0, Hb0⟩ : ∃ b0, Hid (w.heap.size = b0) := ⟨_, rfl⟩
  obtain ⟨bx, Hbx⟩ : ∃ bx, Hid (b0 + 1 = bx) := ⟨_, rfl⟩
  obtain ⟨br, Hbr⟩ : ∃ br, Hid (bx + 1 = br) := ⟨_, rfl⟩
  have F0 : Hid (Fr (fun _ => False) w W0) := by show Fr _ _ _; rw [HW.out]; exact (((Fr.refl _ _).alloc _).alloc _).alloc _
  have HWS : Hid (W0.heap.size = br + 1) := by show _ = _; rw [HW.out, ← Hbr.out, ← Hbx.out, ← Hb0.out]; simp
  have HC : Hid (W0.cell? ⟨b0, 0, none⟩ = some (.int .u64 (m.tm : Int)) ∧ W0.cell? ⟨b0, 1, none⟩ = some (.int .i64 m.vo) ∧ W0.cell? ⟨b0, 2, none⟩ = some (.int .u64 (si : Int)) ∧ W0.cell? ⟨b0, 3, none⟩ = some (.int .u64 (m.st : Int)) ∧ W0.cell? ⟨b0, 4, none⟩ = some (.int .u64 (m.sv : Int)) ∧ W0.cell? ⟨b0, 5, none⟩ = some (.slice sa m.sd.length sc) ∧ W0.cell? ⟨b0, 6, none⟩ = some (.slice ea es.length c) ∧ W0.frozen? ⟨b0, 6, none⟩ = false) := by
    rw [HW.out, ← Hb0.out]
    have f := ((Fr.refl (fun _ => False) (w.alloc (.cells #[.int .u64 (m.tm : Int), .int .i64 m.vo, .int .u64 (si : Int), .int .u64 (m.st : Int), .int .u64 (m.sv : Int), .slice sa m.sd.length sc, .slice ea es.length c] 34))).alloc (.cells #[.int .u64 (x.i : Int), .int .u64 (x.t : Int), .int .u8 (x.k : Int), .slice x.a x.d.length x.c] 50)).alloc (.cells #[.int .u64 0, .int .i64 0, .int .u64 0, .int .u64 0, .int .u64 0, .slice none 0 0, .slice none 0 0] 34)
    refine ⟨f.cell ?_ (by simp), f.cell ?_ (by simp), f.cell ?_ (by simp), f.cell ?_ (by simp), f.cell ?_ (by simp), f.cell ?_ (by simp), f.cell ?_ (by simp), (f.frozenEq (a := ⟨w.heap.size, 6, none⟩) ?_ (by simp)).trans ?_⟩
    all_goals simp
  have HXC : Hid (W0.cell? ⟨bx, 0, none⟩ = some (.int .u64 (x.i : Int)) ∧ W0.cell? ⟨bx, 1, none⟩ = some (.int .u64 (x.t : Int)) ∧ W0.cell? ⟨bx, 2, none⟩ = some (.int .u8 (x.k : Int)) ∧ W0.cell? ⟨bx, 3, none⟩ = some (.slice x.a x.d.length x.c)) := by
    rw [HW.out, ← Hbx.out, ← Hb0.out]
    have f := (Fr.refl (fun _ => False) ((w.alloc (.cells #[.int .u64 (m.tm : Int), .int .i64 m.vo, .int .u64 (si : Int), .int .u64 (m.st : Int), .int .u64 (m.sv : Int), .slice sa m.sd.length sc, .slice ea es.length c] 34)).alloc (.cells #[.int .u64 (x.i : Int), .int .u64 (x.t : Int), .int .u8 (x.k : Int), .slice x.a x.d.length x.c] 50))).alloc (.cells #[.int .u64 0, .int .i64 0, .int .u64 0, .int .u64 0, .int .u64 0, .slice none 0 0, .slice none 0 0] 34)
    refine ⟨f.cell ?_ (by simp), f.cell ?_ (by simp), f.cell ?_ (by simp), f.cell ?_ (by simp)⟩
    all_goals simp
  have HZ : Hid (∀ i, i < 7 → (∃ u, W0.cell? ⟨br, i, none⟩ = some u) ∧ W0.frozen? ⟨br, i, none⟩ = false) := by
    intro i hi
    rw [HW.out, ← Hbr.out, ← Hbx.out, ← Hb0.out]
    generalize hG : (w.alloc (.cells #[.int .u64 (m.tm : Int), .int .i64 m.vo, .int .u64 (si : Int), .int .u64 (m.st : Int), .int .u64 (m.sv : Int), .slice sa m.sd.length sc, .slice ea es.length c] 34)).alloc (.cells #[.int .u64 (x.i : Int), .int .u64 (x.t : Int), .int .u8 (x.k : Int), .slice x.a x.d.length x.c] 50) = G
    have hgs : w.heap.size + 1 + 1 = G.heap.size := by rw [← hG]; simp
    rw [hgs]
    have : i = 0 ∨ i = 1 ∨ i = 2 ∨ i = 3 ∨ i = 4 ∨ i = 5 ∨ i = 6 := by omega
    rcases this with rfl | rfl | rfl | rfl | rfl | rfl | rfl <;> exact ⟨⟨_, by simp; rfl⟩, by simp⟩
  have HEL : Hid (es.length = m.es.length) := hel
  clear h hc hg hel hml hx hnew
  go_enter Tryd.func30, Tryd.ntmps30
  go_wp2
  rw [← HW.out, Hb0.out, Hbx.out, Hbr.out]
  go_loopw [7, 8] (fun lv iv wr => ∃ (k : Nat) (v : Value) (es1 : List En), k ≤ es.length ∧ iv = .int .i64 (k : Int) ∧ lv = v ∧ OwnE wr D v es1 ∧ Hid (∀ j, v.ownBlock = some j → br < j) ∧ Hid (es1 = (es.take k).filter (fun e => decide (e.i < x.i))) ∧ Hid (Fr (fun _ => False) W0 wr)) (fun _ iv _ => es.length - (intOf iv).toNat)
  case atStart => exact ⟨0, _, [], Nat.zero_le _, rfl, rfl, OwnE.nil _ _, fun j hj => (by simp [Value.ownBlock] at hj), by show _ = _; simp, Fr.refl _ _⟩
  case round =>
    obtain ⟨k, v, es1, hk, rfl, rfl, hown, HVB, HES, HFR⟩ := hrel
    obtain ⟨va, vc, hv, hvl⟩ := hown.form
    subst hv
    have HO : Hid (OwnE wr D (.slice va es1.length vc) es1) := hown
    have H1L : Hid (es1.length ≤ k) := by show _ ≤ _; rw [HES.out]; exact Nat.le_trans (List.length_filter_le _ _) (by rw [List.length_take]; exact Nat.min_le_left _ _)
    have HFW : Hid (Fr (fun _ => False) w wr) := F0.out.trans HFR.out
    have c6 := HFR.out.cell HC.out.2.2.2.2.2.2.1 (by simp)
    have x0 := HFR.out.cell HXC.out.1 (by simp)
    have x1 := HFR.out.cell HXC.out.2.1 (by simp)
    have x2 := HFR.out.cell HXC.out.2.2.1 (by simp)
    have x3 := HFR.out.cell HXC.out.2.2.2 (by simp)
    have HWR : Hid (br + 1 ≤ wr.heap.size) := by show _ ≤ _; rw [← HWS.out]; exact HFR.out.size
    clear hown
    by_cases hlt : k < es.length
    · obtain ⟨b, off, y, rfl, _, y0, y1, y2, y3, gy, Hy⟩ := (HI.out.erow.fr HFW.out (by simp) (by simp)).at hlt
      have HGY : Hid (EG wr D y) := gy
      have HYB : Hid (y.d ≠ [] → ∀ a, y.a = some a → a.block < b0) := fun hne a ha => by
        have hm : y ∈ es := by rw [Hy.out, List.getD_eq_getElem?_getD, List.getElem?_eq_getElem hlt]; exact List.getElem_mem _
        have := row_blk (HI.out.erow.2.2.2.1 y hm).row hne a ha
        rw [Hb0.out] at this
        exact this
      have i1 : (0 : Int) ≤ (k : Int) := by omega
      have i2 : (k : Int) < (es.length : Int) := by omega
      have HTS : Hid (es.take (k + 1) = es.take k ++ [y]) := by show _ = _; rw [List.take_succ_eq_append_getElem hlt, Hy.out, List.getD_eq_getElem?_getD, List.getElem?_eq_getElem hlt]; rfl
      clear gy
      by_cases hyx : y.i < x.i
      · have hyi : (y.i : Int) < (x.i : Int) := by omega
        go_wp2_with fail
        go_quiet (fail)
        generalize hE : wr.drewN nq = wq
        have fq : Fr (fun _ => False) wr wq := hE ▸ (Fr.refl _ wr).drewN nq
        have FQ : Hid (Fr (fun _ => False) wr wq) := fq
        have d6 := fq.cell c6 (by simp)
        have z0 := fq.cell y0 (by simp)
        have z1 := fq.cell y1 (by simp)
        have z2 := fq.cell y2 (by simp)
        have z3 := fq.cell y3 (by simp)
        have HA : Hid (Fr (fun _ => False) wq (wq.alloc (.cells #[.int .u64 (y.i : Int), .int .u64 (y.t : Int), .int .u8 (y.k : Int), .slice y.a y.d.length y.c] 50))) := (Fr.refl _ _).alloc _
        have HO2 : Hid (OwnE (wq.alloc (.cells #[.int .u64 (y.i : Int), .int .u64 (y.t : Int), .int .u8 (y.k : Int), .slice y.a y.d.length y.c] 50)) D (.slice va es1.length vc) es1) := HO.out.fr (FQ.out.trans HA.out) (by simp)
        have HMS : Hid (∀ z ∈ [y], EG (wq.alloc (.cells #[.int .u64 (y.i : Int), .int .u64 (y.t : Int), .int .u8 (y.k : Int), .slice y.a y.d.length y.c] 50)) (fun k => D k ∧ (Value.slice va es1.length vc).ownBlock ≠ some k) z) := fun z hz => by
          simp at hz
          subst hz
          have g := HGY.out.fr (FQ.out.trans HA.out) (by simp)
          exact ⟨g.i, g.t, g.k, g.row, fun hne a ha => ⟨g.blk hne a ha, fun e => by have := HVB.out _ e; have := HYB.out hne a ha; have := Hbx.out; have := Hbr.out; omega⟩⟩
        have HNN : Hid (∀ j, (wq.alloc (.cells #[.int .u64 (y.i : Int), .int .u64 (y.t : Int), .int .u8 (y.k : Int), .slice y.a y.d.length y.c] 50)).heap.size ≤ j → D j) := fun j hj => HN.out j (Nat.le_trans (HFW.out.trans (FQ.out.trans HA.out)).size hj)
        have HLN : Hid (es1.length + [y].length ≤ 1000000) := by show _ ≤ _; have := H1L.out; simp; omega
        clear hE fq c6 y0 y1 y2 y3 x0 x1 x2 x3
        go_wp2_with (at_builtin; refine wpList_append_ents rfl (.tmp 47) (.tmp 53) rfl D _ es1 rfl HO2.out ⟨wq.heap.size, 0, none⟩ [y] 1 rfl (one_cells wq y) HMS.out HNN.out HLN.out ?_)
        intro v2 w2 o2 g2 hat
        have F2 : Hid (Fr (fun _ => False) W0 w2) := (HFR.out.trans (FQ.out.trans HA.out)).grown g2 (fun j hj => .inr (by have := HVB.out j hj; rw [HWS.out]; omega))
        have HVB2 : Hid (∀ j, v2.ownBlock = some j → br < j) := fun j hj => by
          rcases hat with e | e
          · rw [e] at hj; exact HVB.out j hj
          · rw [e] at hj; simp at hj; have := HWR.out; have := FQ.out.size; omega
        obtain ⟨va2, vc2, hv2, _⟩ := o2.form
        subst hv2
        have O2 : Hid (OwnE w2 D _ (es1 ++ [y])) := o2
        clear o2 g2 hat
        go_wp2
        go_roundw
        case rel => exact ⟨k + 1, _, es1 ++ [y], by omega, by go_num, rfl, O2.out, HVB2.out, by show _ = _; rw [HTS.out, List.filter_append, ← HES.out]; simp [hyx], F2.out⟩
        case measure => simp [intOf]; omega
      · have hyi : ¬ (y.i : Int) < (x.i : Int) := by omega
        go_wp2_with fail
        go_quiet (fail)
        have FQ : Hid (Fr (fun _ => False) wr (wr.drewN nq)) := (Fr.refl _ wr).drewN nq
        go_wp2
        go_roundw
        case rel => exact ⟨k + 1, _, es1, by omega, by go_num, rfl, HO.out.fr FQ.out (by simp), HVB.out, by show _ = _; rw [HTS.out, List.filter_append, ← HES.out]; simp; omega, HFR.out.trans FQ.out⟩
        case measure => simp [intOf]; omega
    · have i2 : ¬ (k : Int) < (es.length : Int) := by omega
      have HEF : Hid (es1 = es.filter (fun e => decide (e.i < x.i))) := by show _ = _; rw [HES.out, List.take_of_length_le (by omega)]
      have HA : Hid (Fr (fun _ => False) wr (wr.alloc (.cells #[.int .u64 (x.i : Int), .int .u64 (x.t : Int), .int .u8 (x.k : Int), .slice x.a x.d.length x.c] 50))) := (Fr.refl _ _).alloc _
      have HO2 : Hid (OwnE (wr.alloc (.cells #[.int .u64 (x.i : Int), .int .u64 (x.t : Int), .int .u8 (x.k : Int), .slice x.a x.d.length x.c] 50)) D (.slice va es1.length vc) es1) := HO.out.fr HA.out (by simp)
      have HMS : Hid (∀ z ∈ [x], EG (wr.alloc (.cells #[.int .u64 (x.i : Int), .int .u64 (x.t : Int), .int .u8 (x.k : Int), .slice x.a x.d.length x.c] 50)) (fun k => D k ∧ (Value.slice va es1.length vc).ownBlock ≠ some k) z) := fun z hz => by
        simp at hz
        subst hz
        have g := HX.out.fr (HFW.out.trans HA.out) (by simp)
        exact ⟨g.i, g.t, g.k, g.row, fun hne a ha => ⟨g.blk hne a ha, fun e => by have := HVB.out _ e; have := row_blk HX.out.row hne a ha; have := Hb0.out; have := Hbx.out; have := Hbr.out; omega⟩⟩
      have HNN : Hid (∀ j, (wr.alloc (.cells #[.int .u64 (x.i : Int), .int .u64 (x.t : Int), .int .u8 (x.k : Int), .slice x.a x.d.length x.c] 50)).heap.size ≤ j → D j) := fun j hj => HN.out j (Nat.le_trans (HFW.out.trans HA.out).size hj)
      have HLN : Hid (es1.length + [x].length ≤ 1000000) := by show _ ≤ _; have := H1L.out; simp; omega
      go_wp2_with (at_builtin; refine wpList_append_ents rfl (.tmp 55) (.tmp 57) rfl D _ es1 rfl HO2.out ⟨wr.heap.size, 0, none⟩ [x] 1 rfl (one_cells wr x) HMS.out HNN.out HLN.out ?_)
      intro v2 w2 o2 g2 hat
      have F2 : Hid (Fr (fun _ => False) W0 w2) := (HFR.out.trans HA.out).grown g2 (fun j hj => .inr (by have := HVB.out j hj; rw [HWS.out]; omega))
      have HVB2 : Hid (∀ j, v2.ownBlock = some j → br < j) := fun j hj => by
        rcases hat with e | e
        · rw [e] at hj; exact HVB.out j hj
        · rw [e] at hj; simp at hj; have := HWR.out; omega
      obtain ⟨va2, vc2, hv2, _⟩ := o2.form
      subst hv2
      obtain ⟨es2, Hes2⟩ : ∃ es2, Hid (es1 ++ [x] = es2) := ⟨_, rfl⟩
      rw [Hes2.out] at o2 HVB2 ⊢
      have O2 : Hid (OwnE w2 D (.slice va2 es2.length vc2) es2) := o2
      have e0' := F2.out.cell HC.out.1 (by simp)
      have e1 := F2.out.cell HC.out.2.1 (by simp)
      have e2 := F2.out.cell HC.out.2.2.1 (by simp)
      have e3 := F2.out.cell HC.out.2.2.2.1 (by simp)
      have e4 := F2.out.cell HC.out.2.2.2.2.1 (by simp)
      have e5 := F2.out.cell HC.out.2.2.2.2.2.1 (by simp)
      have e6 := F2.out.cell HC.out.2.2.2.2.2.2.1 (by simp)
      have ez := (F2.out.frozenEq (a := ⟨b0, 6, none⟩) (World.block_lt_of_cell? _ _ HC.out.2.2.2.2.2.2.1) (by simp)).trans HC.out.2.2.2.2.2.2.2
      have hrb : ¬ br = b0 := by have := Hbx.out; have := Hbr.out; omega
      have hrb2 : ¬ b0 = br := by omega
      have rlt : ∀ i, i < 7 → (∃ u, w2.cell? ⟨br, i, none⟩ = some u) ∧ w2.frozen? ⟨br, i, none⟩ = false := fun i hi => by
        obtain ⟨⟨u, hu⟩, hz⟩ := HZ.out i hi
        exact ⟨⟨u, F2.out.cell hu (by simp)⟩, (F2.out.frozenEq (a := ⟨br, i, none⟩) (World.block_lt_of_cell? _ _ hu) (by simp)).trans hz⟩
      obtain ⟨⟨u0, d0⟩, z0⟩ := rlt 0 (by omega)
      obtain ⟨⟨u1, d1⟩, z1⟩ := rlt 1 (by omega)
      obtain ⟨⟨u2, d2⟩, z2⟩ := rlt 2 (by omega)
      obtain ⟨⟨u3, d3⟩, z3⟩ := rlt 3 (by omega)
      obtain ⟨⟨u4, d4⟩, z4⟩ := rlt 4 (by omega)
      obtain ⟨⟨u5, d5⟩, z5⟩ := rlt 5 (by omega)
      obtain ⟨⟨u6, d6⟩, z6⟩ := rlt 6 (by omega)
      clear rlt o2 g2 hat c6 x0 x1 x2 x3
      go_wp2
      obtain ⟨W6, HW6⟩ : ∃ W6, Hid (W6 = ((((((((w2.setCell ⟨b0, 6, none⟩ (.slice va2 es2.length vc2)).setCell ⟨br, 0, none⟩ (.int .u64 (m.tm : Int))).setCell ⟨br, 1, none⟩ (.int .i64 m.vo)).setCell ⟨br, 2, none⟩ (.int .u64 (si : Int))).setCell ⟨br, 3, none⟩ (.int .u64 (m.st : Int))).setCell ⟨br, 4, none⟩ (.int .u64 (m.sv : Int))).setCell ⟨br, 5, none⟩ (.slice sa m.sd.length sc)).setCell ⟨br, 6, none⟩ (.slice va2 es2.length vc2))) := ⟨_, rfl⟩
      have f6 : Fr (fun k => k = br ∨ k = b0) w2 W6 := by rw [HW6.out]; exact (((((((((Fr.refl (fun k => k = br ∨ k = b0) w2).setCell (p := ⟨b0, 6, none⟩) (Or.inl (.inr rfl)) _).setCell (p := ⟨br, 0, none⟩) (Or.inl (.inl rfl)) _).setCell (p := ⟨br, 1, none⟩) (Or.inl (.inl rfl)) _).setCell (p := ⟨br, 2, none⟩) (Or.inl (.inl rfl)) _).setCell (p := ⟨br, 3, none⟩) (Or.inl (.inl rfl)) _).setCell (p := ⟨br, 4, none⟩) (Or.inl (.inl rfl)) _).setCell (p := ⟨br, 5, none⟩) (Or.inl (.inl rfl)) _).setCell (p := ⟨br, 6, none⟩) (Or.inl (.inl rfl)) _)
      have o : ∀ {W : World} {i j : Nat} {u x : Value}, i ≠ j → W.cell? ⟨br, j, none⟩ = some x → (W.setCell ⟨br, i, none⟩ u).cell? ⟨br, j, none⟩ = some x := fun _hij hc => (World.cell?_setCell_other _ _ _ _ (by simp)).trans hc
      have q' : ∀ {W : World} {i : Nat} {u x : Value}, W.cell? ⟨br, i, none⟩ = some x → (W.setCell ⟨br, i, none⟩ u).cell? ⟨br, i, none⟩ = some u := fun hc => World.cell?_setCell_same _ _ _ hc
      have ob : ∀ {j : Nat} {u x : Value}, w2.cell? ⟨br, j, none⟩ = some x → (w2.setCell ⟨b0, 6, none⟩ u).cell? ⟨br, j, none⟩ = some x := fun hc => (World.cell?_setCell_other _ _ _ _ (by simp)).trans hc
      have g0 : W6.cell? ⟨br, 0, none⟩ = some (.int .u64 (m.tm : Int)) := by rw [HW6.out]; exact o (by omega) (o (by omega) (o (by omega) (o (by omega) (o (by omega) (o (by omega) (q' (ob d0)))))))
      have g1 : W6.cell? ⟨br, 1, none⟩ = some (.int .i64 m.vo) := by rw [HW6.out]; exact o (by omega) (o (by omega) (o (by omega) (o (by omega) (o (by omega) (q' (o (i := 0) (by omega) (ob d1)))))))
      have g2 : W6.cell? ⟨br, 2, none⟩ = some (.int .u64 (si : Int)) := by rw [HW6.out]; exact o (by omega) (o (by omega) (o (by omega) (o (by omega) (q' (o (i := 1) (by omega) (o (i := 0) (by omega) (ob d2)))))))
      have g3 : W6.cell? ⟨br, 3, none⟩ = some (.int .u64 (m.st : Int)) := by rw [HW6.out]; exact o (by omega) (o (by omega) (o (by omega) (q' (o (i := 2) (by omega) (o (i := 1) (by omega) (o (i := 0) (by omega) (ob d3)))))))
      have g4 : W6.cell? ⟨br, 4, none⟩ = some (.int .u64 (m.sv : Int)) := by rw [HW6.out]; exact o (by omega) (o (by omega) (q' (o (i := 3) (by omega) (o (i := 2) (by omega) (o (i := 1) (by omega) (o (i := 0) (by omega) (ob d4)))))))
      have g5 : W6.cell? ⟨br, 5, none⟩ = some (.slice sa m.sd.length sc) := by rw [HW6.out]; exact o (by omega) (q' (o (i := 4) (by omega) (o (i := 3) (by omega) (o (i := 2) (by omega) (o (i := 1) (by omega) (o (i := 0) (by omega) (ob d5)))))))
      have g6 : W6.cell? ⟨br, 6, none⟩ = some (.slice va2 es2.length vc2) := by rw [HW6.out]; exact q' (o (i := 5) (by omega) (o (i := 4) (by omega) (o (i := 3) (by omega) (o (i := 2) (by omega) (o (i := 1) (by omega) (o (i := 0) (by omega) (ob d6)))))))
      rw [← HW6.out]
      have FF : Fr (fun _ => False) w W6 := (F0.out.trans F2.out).trans' f6 (fun i hi e => by have := Hb0.out; have := Hbx.out; have := Hbr.out; omega)
      have OO : OwnE W6 D (.slice va2 es2.length vc2) es2 := by
        refine ⟨⟨O2.out.own.1, ?_⟩, O2.out.blk, fun z hz => ?_⟩
        · rcases O2.out.own.2 with hn | ⟨g, cp, cur, he, hbg, hg, rest⟩
          · exact .inl hn
          · refine .inr ⟨g, cp, cur, he, hbg, (f6.block g (Array.getElem?_eq_some_iff.1 hg).1 ?_).trans hg, rest⟩
            have := HVB2 g (by rw [he]; rfl)
            have := Hbx.out
            have := Hbr.out
            omega
        · have hw : EG w D z := by
            rw [← Hes2.out, HEF.out] at hz
            rcases List.mem_append.1 hz with h | h
            · exact HI.out.erow.2.2.2.1 z (List.mem_filter.1 h).1
            · simp at h; subst h; exact HX.out
          have g := hw.fr FF (by simp)
          refine ⟨g.i, g.t, g.k, g.row, fun hne a ha => ⟨g.blk hne a ha, fun e => ?_⟩⟩
          have := HVB2 _ e
          have := row_blk hw.row hne a ha
          have := Hb0.out
          have := Hbx.out
          have := Hbr.out
          omega
      exact bodyPost_ret (v := .tuple #[.agg #[.int .u64 (m.tm : Int), .int .i64 m.vo, .int .u64 (si : Int), .int .u64 (m.st : Int), .int .u64 (m.sv : Int), .slice sa m.sd.length sc, .slice va2 es2.length vc2], .bool true]) (by simp [results, Tryd.results30, go_sem, g0, g1, g2, g3, g4, g5, g6]) rfl (HFIN.out _ _ _ es2 FF OO (by rw [← Hes2.out, HEF.out]))
end Go.Proofs.YtlcakglmheleeaaDoor
