/- The law's bytes: a record, and what an image is with it. -/
import Derived.Test.YtlcakglmheleeaaDoorAddY
import Derived.Test.YtlcakglmheleeaaDoorRefW
namespace Go.Proofs.YtlcakglmheleeaaDoor
open Go.RowKit

theorem add_any (m : Img) (sa : Option Addr) (sc : Nat) (ea : Option Addr) (es : List En) (c : Nat) (x : En) (n : Nat) (w : World) (D : Nat → Prop) (h : ImV w D m sa sc ea es c) (hg : Good m n) (hn : n ≤ 1000) (hx : EG w D x) (hnew : ∀ k, w.heap.size ≤ k → D k) :
    Calls Tryd.prog 30 #[aggI m sa sc ea es.length c, .agg #[.int .u64 (x.i : Int), .int .u64 (x.t : Int), .int .u8 (x.k : Int), .slice x.a x.d.length x.c]] w fun e w' => AddPost w D m x.p e w' := by
  by_cases hc : canE m x.i = true
  · exact add_yes m sa sc ea es c x n w D h hg hn hc hx hnew
  · exact add_no m sa sc ea es c x n w D h hg hn (by simpa using hc) hx.i
theorem ImV.mono {D E : Nat → Prop} {w : World} {m : Img} {sa : Option Addr} {sc : Nat} {ea : Option Addr} {es : List En} {c : Nat} (h : ImV w D m sa sc ea es c) (hs : ∀ k, k < w.heap.size → D k → E k) : ImV w E m sa sc ea es c := by
  refine ⟨h.srow, fun hne a ha => hs _ (row_blk h.srow hne a ha) (h.sblk hne a ha), ?_, h.eq⟩
  obtain ⟨h1, h2, h3, h4, h5⟩ := h.erow
  refine ⟨h1, h2, h3, fun x hx => (h4 x hx).mono hs, fun hne => ?_⟩
  obtain ⟨b, off, he, hb, hc⟩ := h5 hne
  refine ⟨b, off, he, hs b ?_ hb, hc⟩
  have h0 := hc 0 (List.length_pos_iff.2 hne) 0 (by omega)
  exact World.block_lt_of_cell? _ _ (h0.trans (show _ = some (Value.int .u64 ((es.getD 0 default).i : Int)) from rfl))
def BytesPost (w : World) (D : Nat → Prop) (m : Img) (x : Rc) (e : Ending) (w' : World) : Prop :=
  ∃ aq q cq m' sa sc ea es c, e = .returned (.tuple #[.slice aq (q : List Nat).length cq, aggI m' sa sc ea (es : List En).length c, .bool (okOf m x)]) ∧ Row w' aq q cq ∧ (∀ a, aq = some a → w.heap.size ≤ a.block) ∧ Hid (q = bytesOf m x) ∧ Hid (m' = nextOf m x) ∧ ImV w' D m' sa sc ea es c ∧ Fr (fun _ => False) w w'
set_option maxRecDepth 100000 in
set_option maxHeartbeats 800000 in
theorem lawb_0p (m : Img) (sa : Option Addr) (sc : Nat) (ea : Option Addr) (es : List En) (c : Nat) (x : Rc) (n : Nat) (w : World) (D : Nat → Prop) (h : ImV w D m sa sc ea es c) (hg : Good m n) (hn : n ≤ 1000) (hx : RcG w x) (hxd : x.d.length ≤ 200) (hnew : ∀ k, w.heap.size ≤ k → D k) (hxD : x.d ≠ [] → ∀ a, x.p = some a → D a.block) (hk : x.k % 4 = 0) (hv : ¬ x.v < -1) :
    Calls Tryd.prog 11 #[aggI m sa sc ea es.length c, .agg #[.int .u8 (x.k : Int), .int .u64 (x.a : Int), .int .u64 (x.b : Int), .int .i16 x.v, .slice x.p x.d.length x.c]] w fun e w' => BytesPost w D m x e w' := by
  have hel : es.length = m.es.length := by rw [← h.eq, List.length_map]
  have hml := hg.len
  have hen : es.length ≤ 1000 := by omega
  have hsi := hg.si
  have hka : (x.k : Int) % 4 = 0 := by omega
  have hk8 := hx.k
  have hv1 := hx.v.1
  have hv2 := hx.v.2
  have hxa := hx.a
  have hxb := hx.b
  have hxl := hx.row.1
  have hxc := hx.row.2.1
  unfold maxLen at hxc
  have HI : Hid (ImV w D m sa sc ea es c) := h
  have HG : Hid (Good m n) := hg
  have HX : Hid (RcG w x) := hx
  have HXD : Hid (x.d ≠ [] → ∀ a, x.p = some a → D a.block) := hxD
  have HN : Hid (∀ k, w.heap.size ≤ k → D k) := hnew
  have HK : Hid (x.k % 4 = 0) := hk
  have HEL : Hid (es.length = m.es.length) := hel
  have HXL : Hid (x.d.length ≤ 200) := hxd
  have hvo : Hid (voOf x.v = x.v) := by show _ = _; unfold voOf; rw [if_neg hv]
  have HVN : Hid (∃ vn : Nat, x.v + 1 = (vn : Int) ∧ vn < 65536) := ⟨(x.v + 1).toNat, by omega, by omega⟩
  have HOK : Hid (okOf m x = true) := by show _ = _; unfold okOf isE; rw [hk]; rfl
  have HM : Hid (nextOf m x = { m with tm := x.a, vo := x.v }) := by show _ = _; unfold nextOf; rw [if_pos hk, hvo.out]
  have HQM : Hid (bytesOf m x = hardB x.a x.v) := by show _ = _; unfold bytesOf; rw [if_pos hk, hvo.out]
  unfold aggI
  obtain ⟨W0, HW⟩ : ∃ W0, Hid (W0 = (((w.alloc (.cells #[.int .u64 (x.a : Int), .int .i64 x.v, .int .u64 (m.si : Int), .int .u64 (m.st : Int), .int .u64 (m.sv : Int), .slice sa m.sd.length sc, .slice ea es.length c] 34)).alloc (.cells #[.int .u8 (x.k : Int), .int .u64 (x.a : Int), .int .u64 (x.b : Int), .int .i16 x.v, .slice x.p x.d.length x.c] 41)).alloc (.cells #[.int .u64 0, .int .i64 0, .int .u64 0, .int .u64 0, .int .u64 0, .slice none 0 0, .slice none 0 0] 34)).alloc (.cells #[.int .u64 (x.a : Int), .int .i64 x.v] 29)) := ⟨_, rfl⟩
  obtain ⟨b0, Hb0⟩ : ∃ b0, Hid (w.heap.size = b0) := ⟨_, rfl⟩
  obtain ⟨bx, Hbx⟩ : ∃ bx, Hid (b0 + 1 = bx) := ⟨_, rfl⟩
  obtain ⟨br, Hbr⟩ : ∃ br, Hid (bx + 1 = br) := ⟨_, rfl⟩
  obtain ⟨b4, Hb4⟩ : ∃ b4, Hid (br + 1 = b4) := ⟨_, rfl⟩
  have F0 : Hid (Fr (fun _ => False) w W0) := by show Fr _ _ _; rw [HW.out]; exact ((((Fr.refl _ _).alloc _).alloc _).alloc _).alloc _
  have HWS : Hid (W0.heap.size = b4 + 1) := by show _ = _; rw [HW.out, ← Hb4.out, ← Hbr.out, ← Hbx.out, ← Hb0.out]; simp
  have HC : Hid ((W0.cell? ⟨b0, 0, none⟩ = some (.int .u64 (x.a : Int)) ∧ W0.cell? ⟨b0, 1, none⟩ = some (.int .i64 x.v) ∧ W0.cell? ⟨b0, 2, none⟩ = some (.int .u64 (m.si : Int)) ∧ W0.cell? ⟨b0, 3, none⟩ = some (.int .u64 (m.st : Int))) ∧ (W0.cell? ⟨b0, 4, none⟩ = some (.int .u64 (m.sv : Int)) ∧ W0.cell? ⟨b0, 5, none⟩ = some (.slice sa m.sd.length sc) ∧ W0.cell? ⟨b0, 6, none⟩ = some (.slice ea es.length c))) := by
    rw [HW.out, ← Hb0.out]
    have f := (((Fr.refl (fun _ => False) (w.alloc (.cells #[.int .u64 (x.a : Int), .int .i64 x.v, .int .u64 (m.si : Int), .int .u64 (m.st : Int), .int .u64 (m.sv : Int), .slice sa m.sd.length sc, .slice ea es.length c] 34))).alloc (.cells #[.int .u8 (x.k : Int), .int .u64 (x.a : Int), .int .u64 (x.b : Int), .int .i16 x.v, .slice x.p x.d.length x.c] 41)).alloc (.cells #[.int .u64 0, .int .i64 0, .int .u64 0, .int .u64 0, .int .u64 0, .slice none 0 0, .slice none 0 0] 34)).alloc (.cells #[.int .u64 (x.a : Int), .int .i64 x.v] 29)
    refine ⟨⟨f.cell ?_ (by simp), f.cell ?_ (by simp), f.cell ?_ (by simp), f.cell ?_ (by simp)⟩, f.cell ?_ (by simp), f.cell ?_ (by simp), f.cell ?_ (by simp)⟩
    all_goals simp
  have HTC : Hid (W0.cell? ⟨b4, 0, none⟩ = some (.int .u64 (x.a : Int)) ∧ W0.cell? ⟨b4, 1, none⟩ = some (.int .i64 x.v)) := by
    rw [HW.out, ← Hb4.out, ← Hbr.out, ← Hbx.out, ← Hb0.out]
    generalize hG : ((w.alloc (.cells #[.int .u64 (x.a : Int), .int .i64 x.v, .int .u64 (m.si : Int), .int .u64 (m.st : Int), .int .u64 (m.sv : Int), .slice sa m.sd.length sc, .slice ea es.length c] 34)).alloc (.cells #[.int .u8 (x.k : Int), .int .u64 (x.a : Int), .int .u64 (x.b : Int), .int .i16 x.v, .slice x.p x.d.length x.c] 41)).alloc (.cells #[.int .u64 0, .int .i64 0, .int .u64 0, .int .u64 0, .int .u64 0, .slice none 0 0, .slice none 0 0] 34) = G
    have hgs : w.heap.size + 1 + 1 + 1 = G.heap.size := by rw [← hG]; simp
    rw [hgs]
    refine ⟨?_, ?_⟩
    all_goals simp
  have HZ : Hid (∀ i, i < 7 → (∃ u, W0.cell? ⟨br, i, none⟩ = some u) ∧ W0.frozen? ⟨br, i, none⟩ = false) := by
    intro i hi
    rw [HW.out, ← Hbr.out, ← Hbx.out, ← Hb0.out]
    generalize hG : (w.alloc (.cells #[.int .u64 (x.a : Int), .int .i64 x.v, .int .u64 (m.si : Int), .int .u64 (m.st : Int), .int .u64 (m.sv : Int), .slice sa m.sd.length sc, .slice ea es.length c] 34)).alloc (.cells #[.int .u8 (x.k : Int), .int .u64 (x.a : Int), .int .u64 (x.b : Int), .int .i16 x.v, .slice x.p x.d.length x.c] 41) = G
    have hgs : w.heap.size + 1 + 1 = G.heap.size := by rw [← hG]; simp
    rw [hgs]
    have f := (Fr.refl (fun _ => False) (G.alloc (.cells #[.int .u64 0, .int .i64 0, .int .u64 0, .int .u64 0, .int .u64 0, .slice none 0 0, .slice none 0 0] 34))).alloc (.cells #[.int .u64 (x.a : Int), .int .i64 x.v] 29)
    have : i = 0 ∨ i = 1 ∨ i = 2 ∨ i = 3 ∨ i = 4 ∨ i = 5 ∨ i = 6 := by omega
    rcases this with rfl | rfl | rfl | rfl | rfl | rfl | rfl <;> exact ⟨⟨_, f.cell (by simp; rfl) (by simp)⟩, (f.frozenEq (by simp) (by simp)).trans (by simp)⟩
  obtain ⟨⟨c0, c1, c2, c3⟩, c4, c5, c6⟩ := HC.out
  obtain ⟨t0, t1⟩ := HTC.out
  have hrb : ¬ br = b0 := by have := Hbx.out; have := Hbr.out; omega
  have hrb4 : ¬ br = b4 := by have := Hb4.out; omega
  clear h hg hel hml hx hnew hxD
  go_enter Tryd.func11, Tryd.ntmps11
  go_wp2_with fail
  rw [← HW.out, Hb0.out, Hbx.out, Hbr.out, Hb4.out]
  obtain ⟨vn, hvn1, hvn2⟩ := HVN.out
  have KH : Hid (∀ w1, Calls Tryd.prog 15 #[.agg #[.int .u64 (x.a : Int), .int .i64 x.v]] w1 fun e w' => ∃ a1 c1 q, e = .returned (.slice a1 (q : List Nat).length c1) ∧ Own w' w1.heap.size (.slice a1 q.length c1) q ∧ Hid (q = hardB x.a x.v) ∧ Fr (fun _ => False) w1 w') := fun w1 => refhard_step x.a vn x.v w1 hxa hvn1 hvn2
  clear hvn1 hvn2 hv1 hv2 hv hka
  have HCD : Hid (W0.drew.cell? ⟨b0, 0, none⟩ = some (.int .u64 (x.a : Int)) ∧ W0.drew.cell? ⟨b0, 1, none⟩ = some (.int .i64 x.v) ∧ W0.drew.cell? ⟨b0, 2, none⟩ = some (.int .u64 (m.si : Int)) ∧ W0.drew.cell? ⟨b0, 3, none⟩ = some (.int .u64 (m.st : Int)) ∧ W0.drew.cell? ⟨b0, 4, none⟩ = some (.int .u64 (m.sv : Int)) ∧ W0.drew.cell? ⟨b0, 5, none⟩ = some (.slice sa m.sd.length sc) ∧ W0.drew.cell? ⟨b0, 6, none⟩ = some (.slice ea es.length c) ∧ W0.drew.cell? ⟨b4, 0, none⟩ = some (.int .u64 (x.a : Int)) ∧ W0.drew.cell? ⟨b4, 1, none⟩ = some (.int .i64 x.v)) := ⟨c0, c1, c2, c3, c4, c5, c6, t0, t1⟩
  go_region_held3 (fun w' => w'.cell? ⟨b0, 0, none⟩ = some (.int .u64 (x.a : Int)) ∧ w'.cell? ⟨b0, 1, none⟩ = some (.int .i64 x.v) ∧ w'.cell? ⟨b0, 2, none⟩ = some (.int .u64 (m.si : Int)) ∧ w'.cell? ⟨b0, 3, none⟩ = some (.int .u64 (m.st : Int)) ∧ w'.cell? ⟨b0, 4, none⟩ = some (.int .u64 (m.sv : Int)) ∧ w'.cell? ⟨b0, 5, none⟩ = some (.slice sa m.sd.length sc) ∧ w'.cell? ⟨b0, 6, none⟩ = some (.slice ea es.length c) ∧ w'.cell? ⟨b4, 0, none⟩ = some (.int .u64 (x.a : Int)) ∧ w'.cell? ⟨b4, 1, none⟩ = some (.int .i64 x.v)) (first | (with_reducible exact ⟨c0, c1, c2, c3, c4, c5, c6, t0, t1⟩) | (with_reducible exact HCD.out) | (with_reducible exact ⟨e0, e1, e2, e3, e4, e5, e6, s0, s1⟩) | go_keep) (first
    | (go_at_call 15; refine (KH.out _).mono ?_; rintro e w2 ⟨aq, cq, q, rfl, oq, EQ, f2⟩; have FQ : Hid (Fr (fun _ => False) W0 w2) := (Fr.refl (fun _ => False) W0).drew.trans f2; have OQ : Hid (Own w2 W0.heap.size (.slice aq q.length cq) q) := oq; have e0 := FQ.out.cell c0 (by simp); have e1 := FQ.out.cell c1 (by simp); have e2 := FQ.out.cell c2 (by simp); have e3 := FQ.out.cell c3 (by simp); have e4 := FQ.out.cell c4 (by simp); have e5 := FQ.out.cell c5 (by simp); have e6 := FQ.out.cell c6 (by simp); have s0 := FQ.out.cell t0 (by simp); have s1 := FQ.out.cell t1 (by simp); have zc : Hid (∀ i, i < 7 → (∃ u, w2.cell? ⟨br, i, none⟩ = some u) ∧ w2.frozen? ⟨br, i, none⟩ = false) := (fun i hi => by
        obtain ⟨⟨u, hu⟩, hz⟩ := HZ.out i hi
        exact ⟨⟨u, FQ.out.cell hu (by simp)⟩, (FQ.out.frozenEq (a := ⟨br, i, none⟩) (World.block_lt_of_cell? _ _ hu) (by simp)).trans hz⟩); obtain ⟨⟨u0, d0⟩, z0⟩ := zc.out 0 (by omega); obtain ⟨⟨u1, d1⟩, z1⟩ := zc.out 1 (by omega); obtain ⟨⟨u2, d2⟩, z2⟩ := zc.out 2 (by omega); obtain ⟨⟨u3, d3⟩, z3⟩ := zc.out 3 (by omega); obtain ⟨⟨u4, d4⟩, z4⟩ := zc.out 4 (by omega); obtain ⟨⟨u5, d5⟩, z5⟩ := zc.out 5 (by omega); obtain ⟨⟨u6, d6⟩, z6⟩ := zc.out 6 (by omega); clear oq f2))
  all_goals
    have HRQ : Hid (Row w2 aq q cq) := by obtain ⟨_, _, he, r, _⟩ := OQ.out.row; cases he; exact r
    have HQB : Hid (∀ a, aq = some a → W0.heap.size ≤ a.block) := by obtain ⟨_, _, he, _, hb⟩ := OQ.out.row; cases he; exact fun a ha => (hb a ha).1
    have FW2 : Hid (Fr (fun _ => False) w w2) := F0.out.trans FQ.out
    go_wp2
    obtain ⟨W6, HW6⟩ : ∃ W6, Hid (W6 = (((((((w2.setCell ⟨br, 0, none⟩ (.int .u64 (x.a : Int))).setCell ⟨br, 1, none⟩ (.int .i64 x.v)).setCell ⟨br, 2, none⟩ (.int .u64 (m.si : Int))).setCell ⟨br, 3, none⟩ (.int .u64 (m.st : Int))).setCell ⟨br, 4, none⟩ (.int .u64 (m.sv : Int))).setCell ⟨br, 5, none⟩ (.slice sa m.sd.length sc)).setCell ⟨br, 6, none⟩ (.slice ea es.length c))) := ⟨_, rfl⟩
    have f6 : Fr (fun k => k = br) w2 W6 := by rw [HW6.out]; exact (((((((Fr.refl (fun k => k = br) w2).setCell (p := ⟨br, 0, none⟩) (Or.inl rfl) _).setCell (p := ⟨br, 1, none⟩) (Or.inl rfl) _).setCell (p := ⟨br, 2, none⟩) (Or.inl rfl) _).setCell (p := ⟨br, 3, none⟩) (Or.inl rfl) _).setCell (p := ⟨br, 4, none⟩) (Or.inl rfl) _).setCell (p := ⟨br, 5, none⟩) (Or.inl rfl) _).setCell (p := ⟨br, 6, none⟩) (Or.inl rfl) _
    have o : ∀ {W : World} {i j : Nat} {u x : Value}, i ≠ j → W.cell? ⟨br, j, none⟩ = some x → (W.setCell ⟨br, i, none⟩ u).cell? ⟨br, j, none⟩ = some x := fun _hij hc => (World.cell?_setCell_other _ _ _ _ (by simp)).trans hc
    have q' : ∀ {W : World} {i : Nat} {u x : Value}, W.cell? ⟨br, i, none⟩ = some x → (W.setCell ⟨br, i, none⟩ u).cell? ⟨br, i, none⟩ = some u := fun hc => World.cell?_setCell_same _ _ _ hc
    have g0 : W6.cell? ⟨br, 0, none⟩ = some (.int .u64 (x.a : Int)) := by rw [HW6.out]; exact o (by omega) (o (by omega) (o (by omega) (o (by omega) (o (by omega) (o (by omega) (q' (d0)))))))
    have g1 : W6.cell? ⟨br, 1, none⟩ = some (.int .i64 x.v) := by rw [HW6.out]; exact o (by omega) (o (by omega) (o (by omega) (o (by omega) (o (by omega) (q' (o (i := 0) (by omega) (d1)))))))
    have g2 : W6.cell? ⟨br, 2, none⟩ = some (.int .u64 (m.si : Int)) := by rw [HW6.out]; exact o (by omega) (o (by omega) (o (by omega) (o (by omega) (q' (o (i := 1) (by omega) (o (i := 0) (by omega) (d2)))))))
    have g3 : W6.cell? ⟨br, 3, none⟩ = some (.int .u64 (m.st : Int)) := by rw [HW6.out]; exact o (by omega) (o (by omega) (o (by omega) (q' (o (i := 2) (by omega) (o (i := 1) (by omega) (o (i := 0) (by omega) (d3)))))))
    have g4 : W6.cell? ⟨br, 4, none⟩ = some (.int .u64 (m.sv : Int)) := by rw [HW6.out]; exact o (by omega) (o (by omega) (q' (o (i := 3) (by omega) (o (i := 2) (by omega) (o (i := 1) (by omega) (o (i := 0) (by omega) (d4)))))))
    have g5 : W6.cell? ⟨br, 5, none⟩ = some (.slice sa m.sd.length sc) := by rw [HW6.out]; exact o (by omega) (q' (o (i := 4) (by omega) (o (i := 3) (by omega) (o (i := 2) (by omega) (o (i := 1) (by omega) (o (i := 0) (by omega) (d5)))))))
    have g6 : W6.cell? ⟨br, 6, none⟩ = some (.slice ea es.length c) := by rw [HW6.out]; exact q' (o (i := 5) (by omega) (o (i := 4) (by omega) (o (i := 3) (by omega) (o (i := 2) (by omega) (o (i := 1) (by omega) (o (i := 0) (by omega) (d6)))))))
    rw [← HW6.out]
    have FF : Hid (Fr (fun _ => False) w W6) := FW2.out.trans' f6 (fun i hi e => by have := Hb0.out; have := Hbx.out; have := Hbr.out; omega)
    have RQ : Hid (Row W6 aq q cq) := f6.row HRQ.out (fun _ a ha => by have := HQB.out a ha; have := HWS.out; have := Hb4.out; omega)
    have QB : Hid (∀ a, aq = some a → w.heap.size ≤ a.block) := fun a ha => by have := HQB.out a ha; have := HWS.out; have := Hb0.out; have := Hbx.out; have := Hbr.out; have := Hb4.out; omega
    exact bodyPost_ret (v := .tuple #[.slice aq q.length cq, .agg #[.int .u64 (x.a : Int), .int .i64 x.v, .int .u64 (m.si : Int), .int .u64 (m.st : Int), .int .u64 (m.sv : Int), .slice sa m.sd.length sc, .slice ea es.length c], .bool true]) (by simp [results, Tryd.results11, go_sem, g0, g1, g2, g3, g4, g5, g6]) rfl (⟨aq, q, cq, { m with tm := x.a, vo := x.v }, sa, sc, ea, es, c, by rw [HOK.out]; rfl, RQ.out, QB.out, by show _ = _; rw [HQM.out]; exact EQ.out, HM.out.symm, ⟨FF.out.row HI.out.srow (by simp), HI.out.sblk, HI.out.erow.fr FF.out (by simp) (by simp), HI.out.eq⟩, FF.out⟩)
set_option maxRecDepth 100000 in
set_option maxHeartbeats 800000 in
theorem lawb_3p (m : Img) (sa : Option Addr) (sc : Nat) (ea : Option Addr) (es : List En) (c : Nat) (x : Rc) (n : Nat) (w : World) (D : Nat → Prop) (h : ImV w D m sa sc ea es c) (hg : Good m n) (hn : n ≤ 1000) (hx : RcG w x) (hxd : x.d.length ≤ 200) (hnew : ∀ k, w.heap.size ≤ k → D k) (hxD : x.d ≠ [] → ∀ a, x.p = some a → D a.block) (hk : x.k % 4 = 3) (hv : ¬ x.v < -1) :
    Calls Tryd.prog 11 #[aggI m sa sc ea es.length c, .agg #[.int .u8 (x.k : Int), .int .u64 (x.a : Int), .int .u64 (x.b : Int), .int .i16 x.v, .slice x.p x.d.length x.c]] w fun e w' => BytesPost w D m x e w' := by
  have hel : es.length = m.es.length := by rw [← h.eq, List.length_map]
  have hml := hg.len
  have hen : es.length ≤ 1000 := by omega
  have hsi := hg.si
  have hka : (x.k : Int) % 4 = 3 := by omega
  have hk8 := hx.k
  have hv1 := hx.v.1
  have hv2 := hx.v.2
  have hxa := hx.a
  have hxb := hx.b
  have hxl := hx.row.1
  have hxc := hx.row.2.1
  unfold maxLen at hxc
  have HI : Hid (ImV w D m sa sc ea es c) := h
  have HG : Hid (Good m n) := hg
  have HX : Hid (RcG w x) := hx
  have HXD : Hid (x.d ≠ [] → ∀ a, x.p = some a → D a.block) := hxD
  have HN : Hid (∀ k, w.heap.size ≤ k → D k) := hnew
  have HK : Hid (x.k % 4 = 3) := hk
  have HEL : Hid (es.length = m.es.length) := hel
  have HXL : Hid (x.d.length ≤ 200) := hxd
  obtain ⟨r9, hr9, Hr9⟩ : ∃ r9 : Nat, (x.a : Int) % 9 = (r9 : Int) ∧ Hid (r9 = x.a % 9) := ⟨x.a % 9, by omega, rfl⟩
  have hne0 : ¬ x.k % 4 = 0 := by omega
  have hE : isE x = false := by unfold isE; simp; omega
  have HOK : Hid (okOf m x = true) := by show _ = _; unfold okOf; rw [hE]; rfl
  have HM : Hid (nextOf m x = { m with si := r9, st := x.b, sv := x.a, sd := x.d, es := [] }) := by show _ = _; unfold nextOf; rw [if_neg hne0, hE, Hr9.out]; rfl
  have HQM : Hid (bytesOf m x = snapB (r9, x.b, x.a, x.d)) := by show _ = _; unfold bytesOf; rw [if_neg hne0, hE, Hr9.out]; rfl
  have h9 : r9 < 9 := by rw [Hr9.out]; omega
  clear hne0 hE
  unfold aggI
  obtain ⟨W0, HW⟩ : ∃ W0, Hid (W0 = (((w.alloc (.cells #[.int .u64 (m.tm : Int), .int .i64 m.vo, .int .u64 (r9 : Int), .int .u64 (x.b : Int), .int .u64 (x.a : Int), .slice x.p x.d.length x.c, .slice none 0 0] 34)).alloc (.cells #[.int .u8 (x.k : Int), .int .u64 (x.a : Int), .int .u64 (x.b : Int), .int .i16 x.v, .slice x.p x.d.length x.c] 41)).alloc (.cells #[.int .u64 0, .int .i64 0, .int .u64 0, .int .u64 0, .int .u64 0, .slice none 0 0, .slice none 0 0] 34)).alloc (.cells #[.int .u64 (r9 : Int), .int .u64 (x.b : Int), .int .u64 (x.a : Int), .slice x.p x.d.length x.c] 31)) := ⟨_, rfl⟩
  obtain ⟨b0, Hb0⟩ : ∃ b0, Hid (w.heap.size = b0) := ⟨_, rfl⟩
  obtain ⟨bx, Hbx⟩ : ∃ bx, Hid (b0 + 1 = bx) := ⟨_, rfl⟩
  obtain ⟨br, Hbr⟩ : ∃ br, Hid (bx + 1 = br) := ⟨_, rfl⟩
  obtain ⟨b4, Hb4⟩ : ∃ b4, Hid (br + 1 = b4) := ⟨_, rfl⟩
  have F0 : Hid (Fr (fun _ => False) w W0) := by show Fr _ _ _; rw [HW.out]; exact ((((Fr.refl _ _).alloc _).alloc _).alloc _).alloc _
  have HWS : Hid (W0.heap.size = b4 + 1) := by show _ = _; rw [HW.out, ← Hb4.out, ← Hbr.out, ← Hbx.out, ← Hb0.out]; simp
  have HC : Hid ((W0.cell? ⟨b0, 0, none⟩ = some (.int .u64 (m.tm : Int)) ∧ W0.cell? ⟨b0, 1, none⟩ = some (.int .i64 m.vo) ∧ W0.cell? ⟨b0, 2, none⟩ = some (.int .u64 (r9 : Int)) ∧ W0.cell? ⟨b0, 3, none⟩ = some (.int .u64 (x.b : Int))) ∧ (W0.cell? ⟨b0, 4, none⟩ = some (.int .u64 (x.a : Int)) ∧ W0.cell? ⟨b0, 5, none⟩ = some (.slice x.p x.d.length x.c) ∧ W0.cell? ⟨b0, 6, none⟩ = some (.slice none 0 0))) := by
    rw [HW.out, ← Hb0.out]
    have f := (((Fr.refl (fun _ => False) (w.alloc (.cells #[.int .u64 (m.tm : Int), .int .i64 m.vo, .int .u64 (r9 : Int), .int .u64 (x.b : Int), .int .u64 (x.a : Int), .slice x.p x.d.length x.c, .slice none 0 0] 34))).alloc (.cells #[.int .u8 (x.k : Int), .int .u64 (x.a : Int), .int .u64 (x.b : Int), .int .i16 x.v, .slice x.p x.d.length x.c] 41)).alloc (.cells #[.int .u64 0, .int .i64 0, .int .u64 0, .int .u64 0, .int .u64 0, .slice none 0 0, .slice none 0 0] 34)).alloc (.cells #[.int .u64 (r9 : Int), .int .u64 (x.b : Int), .int .u64 (x.a : Int), .slice x.p x.d.length x.c] 31)
    refine ⟨⟨f.cell ?_ (by simp), f.cell ?_ (by simp), f.cell ?_ (by simp), f.cell ?_ (by simp)⟩, f.cell ?_ (by simp), f.cell ?_ (by simp), f.cell ?_ (by simp)⟩
    all_goals simp
  have HTC : Hid (W0.cell? ⟨b4, 0, none⟩ = some (.int .u64 (r9 : Int)) ∧ W0.cell? ⟨b4, 1, none⟩ = some (.int .u64 (x.b : Int)) ∧ W0.cell? ⟨b4, 2, none⟩ = some (.int .u64 (x.a : Int)) ∧ W0.cell? ⟨b4, 3, none⟩ = some (.slice x.p x.d.length x.c)) := by
    rw [HW.out, ← Hb4.out, ← Hbr.out, ← Hbx.out, ← Hb0.out]
    generalize hG : ((w.alloc (.cells #[.int .u64 (m.tm : Int), .int .i64 m.vo, .int .u64 (r9 : Int), .int .u64 (x.b : Int), .int .u64 (x.a : Int), .slice x.p x.d.length x.c, .slice none 0 0] 34)).alloc (.cells #[.int .u8 (x.k : Int), .int .u64 (x.a : Int), .int .u64 (x.b : Int), .int .i16 x.v, .slice x.p x.d.length x.c] 41)).alloc (.cells #[.int .u64 0, .int .i64 0, .int .u64 0, .int .u64 0, .int .u64 0, .slice none 0 0, .slice none 0 0] 34) = G
    have hgs : w.heap.size + 1 + 1 + 1 = G.heap.size := by rw [← hG]; simp
    rw [hgs]
    refine ⟨?_, ?_, ?_, ?_⟩
    all_goals simp
  have HZ : Hid (∀ i, i < 7 → (∃ u, W0.cell? ⟨br, i, none⟩ = some u) ∧ W0.frozen? ⟨br, i, none⟩ = false) := by
    intro i hi
    rw [HW.out, ← Hbr.out, ← Hbx.out, ← Hb0.out]
    generalize hG : (w.alloc (.cells #[.int .u64 (m.tm : Int), .int .i64 m.vo, .int .u64 (r9 : Int), .int .u64 (x.b : Int), .int .u64 (x.a : Int), .slice x.p x.d.length x.c, .slice none 0 0] 34)).alloc (.cells #[.int .u8 (x.k : Int), .int .u64 (x.a : Int), .int .u64 (x.b : Int), .int .i16 x.v, .slice x.p x.d.length x.c] 41) = G
    have hgs : w.heap.size + 1 + 1 = G.heap.size := by rw [← hG]; simp
    rw [hgs]
    have f := (Fr.refl (fun _ => False) (G.alloc (.cells #[.int .u64 0, .int .i64 0, .int .u64 0, .int .u64 0, .int .u64 0, .slice none 0 0, .slice none 0 0] 34))).alloc (.cells #[.int .u64 (r9 : Int), .int .u64 (x.b : Int), .int .u64 (x.a : Int), .slice x.p x.d.length x.c] 31)
    have : i = 0 ∨ i = 1 ∨ i = 2 ∨ i = 3 ∨ i = 4 ∨ i = 5 ∨ i = 6 := by omega
    rcases this with rfl | rfl | rfl | rfl | rfl | rfl | rfl <;> exact ⟨⟨_, f.cell (by simp; rfl) (by simp)⟩, (f.frozenEq (by simp) (by simp)).trans (by simp)⟩
  obtain ⟨⟨c0, c1, c2, c3⟩, c4, c5, c6⟩ := HC.out
  obtain ⟨t0, t1, t2, t3⟩ := HTC.out
  have hrb : ¬ br = b0 := by have := Hbx.out; have := Hbr.out; omega
  have hrb4 : ¬ br = b4 := by have := Hb4.out; omega
  clear h hg hel hml hx hnew hxD
  go_enter Tryd.func11, Tryd.ntmps11
  go_wp2_with fail
  rw [← HW.out, Hb0.out, Hbx.out, Hbr.out, Hb4.out]
  have KH : Hid (∀ w1, Fr (fun _ => False) W0 w1 → Calls Tryd.prog 31 #[.agg #[.int .u64 (r9 : Int), .int .u64 (x.b : Int), .int .u64 (x.a : Int), .slice x.p x.d.length x.c]] w1 fun e w' => ∃ a1 c1 q, e = .returned (.slice a1 (q : List Nat).length c1) ∧ Own w' w1.heap.size (.slice a1 q.length c1) q ∧ Hid (q = snapB (r9, x.b, x.a, x.d)) ∧ Fr (fun _ => False) w1 w') := fun w1 f => refsnap_step r9 x.b x.a x.p x.d x.c w1 ((F0.out.trans f).row HX.out.row (by simp)) (by omega) hxb hxa (by omega)
  have FD : Hid (Fr (fun _ => False) W0 W0.drew) := (Fr.refl (fun _ => False) W0).drew
  clear hv1 hv2 hv hka
  have HCD : Hid (W0.drew.cell? ⟨b0, 0, none⟩ = some (.int .u64 (m.tm : Int)) ∧ W0.drew.cell? ⟨b0, 1, none⟩ = some (.int .i64 m.vo) ∧ W0.drew.cell? ⟨b0, 2, none⟩ = some (.int .u64 (r9 : Int)) ∧ W0.drew.cell? ⟨b0, 3, none⟩ = some (.int .u64 (x.b : Int)) ∧ W0.drew.cell? ⟨b0, 4, none⟩ = some (.int .u64 (x.a : Int)) ∧ W0.drew.cell? ⟨b0, 5, none⟩ = some (.slice x.p x.d.length x.c) ∧ W0.drew.cell? ⟨b0, 6, none⟩ = some (.slice none 0 0) ∧ W0.drew.cell? ⟨b4, 0, none⟩ = some (.int .u64 (r9 : Int)) ∧ W0.drew.cell? ⟨b4, 1, none⟩ = some (.int .u64 (x.b : Int)) ∧ W0.drew.cell? ⟨b4, 2, none⟩ = some (.int .u64 (x.a : Int)) ∧ W0.drew.cell? ⟨b4, 3, none⟩ = some (.slice x.p x.d.length x.c)) := ⟨c0, c1, c2, c3, c4, c5, c6, t0, t1, t2, t3⟩
  go_region_held3 (fun w' => w'.cell? ⟨b0, 0, none⟩ = some (.int .u64 (m.tm : Int)) ∧ w'.cell? ⟨b0, 1, none⟩ = some (.int .i64 m.vo) ∧ w'.cell? ⟨b0, 2, none⟩ = some (.int .u64 (r9 : Int)) ∧ w'.cell? ⟨b0, 3, none⟩ = some (.int .u64 (x.b : Int)) ∧ w'.cell? ⟨b0, 4, none⟩ = some (.int .u64 (x.a : Int)) ∧ w'.cell? ⟨b0, 5, none⟩ = some (.slice x.p x.d.length x.c) ∧ w'.cell? ⟨b0, 6, none⟩ = some (.slice none 0 0) ∧ w'.cell? ⟨b4, 0, none⟩ = some (.int .u64 (r9 : Int)) ∧ w'.cell? ⟨b4, 1, none⟩ = some (.int .u64 (x.b : Int)) ∧ w'.cell? ⟨b4, 2, none⟩ = some (.int .u64 (x.a : Int)) ∧ w'.cell? ⟨b4, 3, none⟩ = some (.slice x.p x.d.length x.c)) (first | (with_reducible exact ⟨c0, c1, c2, c3, c4, c5, c6, t0, t1, t2, t3⟩) | (with_reducible exact HCD.out) | (with_reducible exact ⟨e0, e1, e2, e3, e4, e5, e6, s0, s1, s2, s3⟩) | go_keep) (first
    | (go_at_call 31; refine (KH.out _ FD.out).mono ?_; rintro e w2 ⟨aq, cq, q, rfl, oq, EQ, f2⟩; have FQ : Hid (Fr (fun _ => False) W0 w2) := (Fr.refl (fun _ => False) W0).drew.trans f2; have OQ : Hid (Own w2 W0.heap.size (.slice aq q.length cq) q) := oq; have e0 := FQ.out.cell c0 (by simp); have e1 := FQ.out.cell c1 (by simp); have e2 := FQ.out.cell c2 (by simp); have e3 := FQ.out.cell c3 (by simp); have e4 := FQ.out.cell c4 (by simp); have e5 := FQ.out.cell c5 (by simp); have e6 := FQ.out.cell c6 (by simp); have s0 := FQ.out.cell t0 (by simp); have s1 := FQ.out.cell t1 (by simp); have s2 := FQ.out.cell t2 (by simp); have s3 := FQ.out.cell t3 (by simp); have zc : Hid (∀ i, i < 7 → (∃ u, w2.cell? ⟨br, i, none⟩ = some u) ∧ w2.frozen? ⟨br, i, none⟩ = false) := (fun i hi => by
        obtain ⟨⟨u, hu⟩, hz⟩ := HZ.out i hi
        exact ⟨⟨u, FQ.out.cell hu (by simp)⟩, (FQ.out.frozenEq (a := ⟨br, i, none⟩) (World.block_lt_of_cell? _ _ hu) (by simp)).trans hz⟩); obtain ⟨⟨u0, d0⟩, z0⟩ := zc.out 0 (by omega); obtain ⟨⟨u1, d1⟩, z1⟩ := zc.out 1 (by omega); obtain ⟨⟨u2, d2⟩, z2⟩ := zc.out 2 (by omega); obtain ⟨⟨u3, d3⟩, z3⟩ := zc.out 3 (by omega); obtain ⟨⟨u4, d4⟩, z4⟩ := zc.out 4 (by omega); obtain ⟨⟨u5, d5⟩, z5⟩ := zc.out 5 (by omega); obtain ⟨⟨u6, d6⟩, z6⟩ := zc.out 6 (by omega); clear oq f2))
  all_goals
    have HRQ : Hid (Row w2 aq q cq) := by obtain ⟨_, _, he, r, _⟩ := OQ.out.row; cases he; exact r
    have HQB : Hid (∀ a, aq = some a → W0.heap.size ≤ a.block) := by obtain ⟨_, _, he, _, hb⟩ := OQ.out.row; cases he; exact fun a ha => (hb a ha).1
    have FW2 : Hid (Fr (fun _ => False) w w2) := F0.out.trans FQ.out
    go_wp2
    obtain ⟨W6, HW6⟩ : ∃ W6, Hid (W6 = (((((((w2.setCell ⟨br, 0, none⟩ (.int .u64 (m.tm : Int))).setCell ⟨br, 1, none⟩ (.int .i64 m.vo)).setCell ⟨br, 2, none⟩ (.int .u64 (r9 : Int))).setCell ⟨br, 3, none⟩ (.int .u64 (x.b : Int))).setCell ⟨br, 4, none⟩ (.int .u64 (x.a : Int))).setCell ⟨br, 5, none⟩ (.slice x.p x.d.length x.c)).setCell ⟨br, 6, none⟩ (.slice none 0 0))) := ⟨_, rfl⟩
    have f6 : Fr (fun k => k = br) w2 W6 := by rw [HW6.out]; exact (((((((Fr.refl (fun k => k = br) w2).setCell (p := ⟨br, 0, none⟩) (Or.inl rfl) _).setCell (p := ⟨br, 1, none⟩) (Or.inl rfl) _).setCell (p := ⟨br, 2, none⟩) (Or.inl rfl) _).setCell (p := ⟨br, 3, none⟩) (Or.inl rfl) _).setCell (p := ⟨br, 4, none⟩) (Or.inl rfl) _).setCell (p := ⟨br, 5, none⟩) (Or.inl rfl) _).setCell (p := ⟨br, 6, none⟩) (Or.inl rfl) _
    have o : ∀ {W : World} {i j : Nat} {u x : Value}, i ≠ j → W.cell? ⟨br, j, none⟩ = some x → (W.setCell ⟨br, i, none⟩ u).cell? ⟨br, j, none⟩ = some x := fun _hij hc => (World.cell?_setCell_other _ _ _ _ (by simp)).trans hc
    have q' : ∀ {W : World} {i : Nat} {u x : Value}, W.cell? ⟨br, i, none⟩ = some x → (W.setCell ⟨br, i, none⟩ u).cell? ⟨br, i, none⟩ = some u := fun hc => World.cell?_setCell_same _ _ _ hc
    have g0 : W6.cell? ⟨br, 0, none⟩ = some (.int .u64 (m.tm : Int)) := by rw [HW6.out]; exact o (by omega) (o (by omega) (o (by omega) (o (by omega) (o (by omega) (o (by omega) (q' (d0)))))))
    have g1 : W6.cell? ⟨br, 1, none⟩ = some (.int .i64 m.vo) := by rw [HW6.out]; exact o (by omega) (o (by omega) (o (by omega) (o (by omega) (o (by omega) (q' (o (i := 0) (by omega) (d1)))))))
    have g2 : W6.cell? ⟨br, 2, none⟩ = some (.int .u64 (r9 : Int)) := by rw [HW6.out]; exact o (by omega) (o (by omega) (o (by omega) (o (by omega) (q' (o (i := 1) (by omega) (o (i := 0) (by omega) (d2)))))))
    have g3 : W6.cell? ⟨br, 3, none⟩ = some (.int .u64 (x.b : Int)) := by rw [HW6.out]; exact o (by omega) (o (by omega) (o (by omega) (q' (o (i := 2) (by omega) (o (i := 1) (by omega) (o (i := 0) (by omega) (d3)))))))
    have g4 : W6.cell? ⟨br, 4, none⟩ = some (.int .u64 (x.a : Int)) := by rw [HW6.out]; exact o (by omega) (o (by omega) (q' (o (i := 3) (by omega) (o (i := 2) (by omega) (o (i := 1) (by omega) (o (i := 0) (by omega) (d4)))))))
    have g5 : W6.cell? ⟨br, 5, none⟩ = some (.slice x.p x.d.length x.c) := by rw [HW6.out]; exact o (by omega) (q' (o (i := 4) (by omega) (o (i := 3) (by omega) (o (i := 2) (by omega) (o (i := 1) (by omega) (o (i := 0) (by omega) (d5)))))))
    have g6 : W6.cell? ⟨br, 6, none⟩ = some (.slice none 0 0) := by rw [HW6.out]; exact q' (o (i := 5) (by omega) (o (i := 4) (by omega) (o (i := 3) (by omega) (o (i := 2) (by omega) (o (i := 1) (by omega) (o (i := 0) (by omega) (d6)))))))
    rw [← HW6.out]
    have FF : Hid (Fr (fun _ => False) w W6) := FW2.out.trans' f6 (fun i hi e => by have := Hb0.out; have := Hbx.out; have := Hbr.out; omega)
    have RQ : Hid (Row W6 aq q cq) := f6.row HRQ.out (fun _ a ha => by have := HQB.out a ha; have := HWS.out; have := Hb4.out; omega)
    have QB : Hid (∀ a, aq = some a → w.heap.size ≤ a.block) := fun a ha => by have := HQB.out a ha; have := HWS.out; have := Hb0.out; have := Hbx.out; have := Hbr.out; have := Hb4.out; omega
    exact bodyPost_ret (v := .tuple #[.slice aq q.length cq, .agg #[.int .u64 (m.tm : Int), .int .i64 m.vo, .int .u64 (r9 : Int), .int .u64 (x.b : Int), .int .u64 (x.a : Int), .slice x.p x.d.length x.c, .slice none 0 0], .bool true]) (by simp [results, Tryd.results11, go_sem, g0, g1, g2, g3, g4, g5, g6]) rfl (⟨aq, q, cq, { m with si := r9, st := x.b, sv := x.a, sd := x.d, es := [] }, x.p, x.c, none, [], 0, by rw [HOK.out]; rfl, RQ.out, QB.out, by show _ = _; rw [HQM.out]; exact EQ.out, HM.out.symm, ⟨FF.out.row HX.out.row (by simp), HXD.out, ERow.nil _ _ _, rfl⟩, FF.out⟩)
set_option maxRecDepth 100000 in
set_option maxHeartbeats 800000 in
theorem lawb_1p (m : Img) (sa : Option Addr) (sc : Nat) (ea : Option Addr) (es : List En) (c : Nat) (x : Rc) (n : Nat) (w : World) (D : Nat → Prop) (h : ImV w D m sa sc ea es c) (hg : Good m n) (hn : n ≤ 1000) (hx : RcG w x) (hxd : x.d.length ≤ 200) (hnew : ∀ k, w.heap.size ≤ k → D k) (hxD : x.d ≠ [] → ∀ a, x.p = some a → D a.block) (hk : x.k % 4 = 1) (hv : ¬ x.v < -1) :
    Calls Tryd.prog 11 #[aggI m sa sc ea es.length c, .agg #[.int .u8 (x.k : Int), .int .u64 (x.a : Int), .int .u64 (x.b : Int), .int .i16 x.v, .slice x.p x.d.length x.c]] w fun e w' => BytesPost w D m x e w' := by
  have hel : es.length = m.es.length := by rw [← h.eq, List.length_map]
  have hml := hg.len
  have hen : es.length ≤ 1000 := by omega
  have hsi := hg.si
  have hka : (x.k : Int) % 4 = 1 := by omega
  have hk8 := hx.k
  have hv1 := hx.v.1
  have hv2 := hx.v.2
  have hxa := hx.a
  have hxb := hx.b
  have hxl := hx.row.1
  have hxc := hx.row.2.1
  unfold maxLen at hxc
  have HI : Hid (ImV w D m sa sc ea es c) := h
  have HG : Hid (Good m n) := hg
  have HX : Hid (RcG w x) := hx
  have HXD : Hid (x.d ≠ [] → ∀ a, x.p = some a → D a.block) := hxD
  have HN : Hid (∀ k, w.heap.size ≤ k → D k) := hnew
  have HK : Hid (x.k % 4 = 1) := hk
  have HEL : Hid (es.length = m.es.length) := hel
  have HXL : Hid (x.d.length ≤ 200) := hxd
  obtain ⟨ix, hix, Hix⟩ : ∃ ix : Nat, (x.a : Int) % 12 = (ix : Int) ∧ Hid (ix = ixOf m x) := ⟨x.a % 12, by omega, by show _ = _; unfold ixOf; rw [if_neg (by omega)]⟩
  have hixl : ix < 18446744073709551616 := by omega
  obtain ⟨kd, hkd, Hkd⟩ : ∃ kd : Nat, (x.k : Int) / 4 % 2 = (kd : Int) ∧ Hid (kd = x.k / 4 % 2) := ⟨x.k / 4 % 2, by omega, rfl⟩
  have hkd2 : kd < 2 := by rw [Hkd.out]; omega
  have hne0 : ¬ x.k % 4 = 0 := by omega
  have hE : isE x = true := by unfold isE; simp; omega
  have HEN : Hid (entOf m x = (ix, x.b, kd, x.d)) := by show _ = _; unfold entOf; rw [Hix.out, Hkd.out]
  have HOK : Hid (okOf m x = canE m ix) := by show _ = _; unfold okOf; rw [hE, if_pos rfl, Hix.out]
  have HM : Hid (nextOf m x = if canE m ix then putE m (ix, x.b, kd, x.d) else m) := by show _ = _; unfold nextOf; rw [if_neg hne0, hE, if_pos rfl, HEN.out, Hix.out]
  have HQM : Hid (bytesOf m x = entB (ix, x.b, kd, x.d)) := by show _ = _; unfold bytesOf; rw [if_neg hne0, hE, if_pos rfl, HEN.out]
  clear hne0 hE
  unfold aggI
  obtain ⟨W0, HW⟩ : ∃ W0, Hid (W0 = (((w.alloc (.cells #[.int .u64 (m.tm : Int), .int .i64 m.vo, .int .u64 (m.si : Int), .int .u64 (m.st : Int), .int .u64 (m.sv : Int), .slice sa m.sd.length sc, .slice ea es.length c] 34)).alloc (.cells #[.int .u8 (x.k : Int), .int .u64 (x.a : Int), .int .u64 (x.b : Int), .int .i16 x.v, .slice x.p x.d.length x.c] 41)).alloc (.cells #[.int .u64 0, .int .i64 0, .int .u64 0, .int .u64 0, .int .u64 0, .slice none 0 0, .slice none 0 0] 34)).alloc (.cells #[.int .u64 (ix : Int), .int .u64 (x.b : Int), .int .u8 (kd : Int), .slice x.p x.d.length x.c] 50)) := ⟨_, rfl⟩
  obtain ⟨b0, Hb0⟩ : ∃ b0, Hid (w.heap.size = b0) := ⟨_, rfl⟩
  obtain ⟨bx, Hbx⟩ : ∃ bx, Hid (b0 + 1 = bx) := ⟨_, rfl⟩
  obtain ⟨br, Hbr⟩ : ∃ br, Hid (bx + 1 = br) := ⟨_, rfl⟩
  obtain ⟨b4, Hb4⟩ : ∃ b4, Hid (br + 1 = b4) := ⟨_, rfl⟩
  have F0 : Hid (Fr (fun _ => False) w W0) := by show Fr _ _ _; rw [HW.out]; exact ((((Fr.refl _ _).alloc _).alloc _).alloc _).alloc _
  have HWS : Hid (W0.heap.size = b4 + 1) := by show _ = _; rw [HW.out, ← Hb4.out, ← Hbr.out, ← Hbx.out, ← Hb0.out]; simp
  have HC : Hid ((W0.cell? ⟨b0, 0, none⟩ = some (.int .u64 (m.tm : Int)) ∧ W0.cell? ⟨b0, 1, none⟩ = some (.int .i64 m.vo) ∧ W0.cell? ⟨b0, 2, none⟩ = some (.int .u64 (m.si : Int)) ∧ W0.cell? ⟨b0, 3, none⟩ = some (.int .u64 (m.st : Int))) ∧ (W0.cell? ⟨b0, 4, none⟩ = some (.int .u64 (m.sv : Int)) ∧ W0.cell? ⟨b0, 5, none⟩ = some (.slice sa m.sd.length sc) ∧ W0.cell? ⟨b0, 6, none⟩ = some (.slice ea es.length c))) := by
    rw [HW.out, ← Hb0.out]
    have f := (((Fr.refl (fun _ => False) (w.alloc (.cells #[.int .u64 (m.tm : Int), .int .i64 m.vo, .int .u64 (m.si : Int), .int .u64 (m.st : Int), .int .u64 (m.sv : Int), .slice sa m.sd.length sc, .slice ea es.length c] 34))).alloc (.cells #[.int .u8 (x.k : Int), .int .u64 (x.a : Int), .int .u64 (x.b : Int), .int .i16 x.v, .slice x.p x.d.length x.c] 41)).alloc (.cells #[.int .u64 0, .int .i64 0, .int .u64 0, .int .u64 0, .int .u64 0, .slice none 0 0, .slice none 0 0] 34)).alloc (.cells #[.int .u64 (ix : Int), .int .u64 (x.b : Int), .int .u8 (kd : Int), .slice x.p x.d.length x.c] 50)
    refine ⟨⟨f.cell ?_ (by simp), f.cell ?_ (by simp), f.cell ?_ (by simp), f.cell ?_ (by simp)⟩, f.cell ?_ (by simp), f.cell ?_ (by simp), f.cell ?_ (by simp)⟩
    all_goals simp
  have HTC : Hid (W0.cell? ⟨b4, 0, none⟩ = some (.int .u64 (ix : Int)) ∧ W0.cell? ⟨b4, 1, none⟩ = some (.int .u64 (x.b : Int)) ∧ W0.cell? ⟨b4, 2, none⟩ = some (.int .u8 (kd : Int)) ∧ W0.cell? ⟨b4, 3, none⟩ = some (.slice x.p x.d.length x.c)) := by
    rw [HW.out, ← Hb4.out, ← Hbr.out, ← Hbx.out, ← Hb0.out]
    generalize hG : ((w.alloc (.cells #[.int .u64 (m.tm : Int), .int .i64 m.vo, .int .u64 (m.si : Int), .int .u64 (m.st : Int), .int .u64 (m.sv : Int), .slice sa m.sd.length sc, .slice ea es.length c] 34)).alloc (.cells #[.int .u8 (x.k : Int), .int .u64 (x.a : Int), .int .u64 (x.b : Int), .int .i16 x.v, .slice x.p x.d.length x.c] 41)).alloc (.cells #[.int .u64 0, .int .i64 0, .int .u64 0, .int .u64 0, .int .u64 0, .slice none 0 0, .slice none 0 0] 34) = G
    have hgs : w.heap.size + 1 + 1 + 1 = G.heap.size := by rw [← hG]; simp
    rw [hgs]
    refine ⟨?_, ?_, ?_, ?_⟩
    all_goals simp
  have HZ : Hid (∀ i, i < 7 → (∃ u, W0.cell? ⟨br, i, none⟩ = some u) ∧ W0.frozen? ⟨br, i, none⟩ = false) := by
    intro i hi
    rw [HW.out, ← Hbr.out, ← Hbx.out, ← Hb0.out]
    generalize hG : (w.alloc (.cells #[.int .u64 (m.tm : Int), .int .i64 m.vo, .int .u64 (m.si : Int), .int .u64 (m.st : Int), .int .u64 (m.sv : Int), .slice sa m.sd.length sc, .slice ea es.length c] 34)).alloc (.cells #[.int .u8 (x.k : Int), .int .u64 (x.a : Int), .int .u64 (x.b : Int), .int .i16 x.v, .slice x.p x.d.length x.c] 41) = G
    have hgs : w.heap.size + 1 + 1 = G.heap.size := by rw [← hG]; simp
    rw [hgs]
    have f := (Fr.refl (fun _ => False) (G.alloc (.cells #[.int .u64 0, .int .i64 0, .int .u64 0, .int .u64 0, .int .u64 0, .slice none 0 0, .slice none 0 0] 34))).alloc (.cells #[.int .u64 (ix : Int), .int .u64 (x.b : Int), .int .u8 (kd : Int), .slice x.p x.d.length x.c] 50)
    have : i = 0 ∨ i = 1 ∨ i = 2 ∨ i = 3 ∨ i = 4 ∨ i = 5 ∨ i = 6 := by omega
    rcases this with rfl | rfl | rfl | rfl | rfl | rfl | rfl <;> exact ⟨⟨_, f.cell (by simp; rfl) (by simp)⟩, (f.frozenEq (by simp) (by simp)).trans (by simp)⟩
  obtain ⟨⟨c0, c1, c2, c3⟩, c4, c5, c6⟩ := HC.out
  obtain ⟨t0, t1, t2, t3⟩ := HTC.out
  have hrb : ¬ br = b0 := by have := Hbx.out; have := Hbr.out; omega
  have hrb4 : ¬ br = b4 := by have := Hb4.out; omega
  clear h hg hel hml hx hnew hxD
  go_enter Tryd.func11, Tryd.ntmps11
  go_wp2_with fail
  rw [← HW.out, Hb0.out, Hbx.out, Hbr.out, Hb4.out]
  have hm5 : ∀ v : Nat, True := fun _ => trivial
  clear hm5
  have KA : Hid (Calls _ _ _ _ _) := add_any m sa sc ea es c ⟨ix, x.b, kd, x.d, x.p, x.c⟩ n W0 (fun k => D k ∧ k ≠ br) ((HI.out.mono (E := fun k => D k ∧ k ≠ br) (fun k hk hd => ⟨hd, by have := Hb0.out; have := Hbx.out; have := Hbr.out; omega⟩)).fr F0.out (by simp)) HG.out hn ⟨hixl, hxb, by show kd < 256; omega, F0.out.row HX.out.row (by simp), fun hne a ha => ⟨HXD.out hne a ha, by have := row_blk HX.out.row hne a ha; have := Hb0.out; have := Hbx.out; have := Hbr.out; omega⟩⟩ (fun k hk => ⟨HN.out k (Nat.le_trans F0.out.size hk), by have := HWS.out; have := Hb4.out; omega⟩)
  clear hv1 hv2 hv hka hix hkd
  refine KA.out.mono ?_
  rintro e w2 ⟨m2, sa2, sc2, ea2, es2, cx2, rfl, HM2, hi2, f2⟩
  have HI2 : Hid (ImV w2 (fun k => D k ∧ k ≠ br) m2 sa2 sc2 ea2 es2 cx2) := hi2
  have FQ0 : Hid (Fr (fun _ => False) W0 w2) := f2
  obtain ⟨w3, HW3⟩ : ∃ w3, Hid (w3 = w2.alloc (.cells #[.int .u64 (m2.tm : Int), .int .i64 m2.vo, .int .u64 (m2.si : Int), .int .u64 (m2.st : Int), .int .u64 (m2.sv : Int), .slice sa2 m2.sd.length sc2, .slice ea2 es2.length cx2] 34)) := ⟨_, rfl⟩
  obtain ⟨b5, Hb5⟩ : ∃ b5, Hid (w2.heap.size = b5) := ⟨_, rfl⟩
  have FQ : Hid (Fr (fun _ => False) W0 w3) := by show Fr _ _ _; rw [HW3.out]; exact f2.alloc _
  have FQ3 : Hid (Fr (fun _ => False) w2 w3) := by show Fr _ _ _; rw [HW3.out]; exact (Fr.refl _ _).alloc _
  have HV5 : Hid (w3.cell? ⟨b5, 0, none⟩ = some (.int .u64 (m2.tm : Int)) ∧ w3.cell? ⟨b5, 1, none⟩ = some (.int .i64 m2.vo) ∧ w3.cell? ⟨b5, 2, none⟩ = some (.int .u64 (m2.si : Int)) ∧ w3.cell? ⟨b5, 3, none⟩ = some (.int .u64 (m2.st : Int)) ∧ w3.cell? ⟨b5, 4, none⟩ = some (.int .u64 (m2.sv : Int)) ∧ w3.cell? ⟨b5, 5, none⟩ = some (.slice sa2 m2.sd.length sc2) ∧ w3.cell? ⟨b5, 6, none⟩ = some (.slice ea2 es2.length cx2)) := by
    rw [HW3.out, ← Hb5.out]
    exact ⟨by simp, by simp, by simp, by simp, by simp, by simp, by simp⟩
  obtain ⟨bc, HBC⟩ : ∃ bc, Hid (canE m ix = bc) := ⟨_, rfl⟩
  rw [show canE m (En.p ⟨ix, x.b, kd, x.d, x.p, x.c⟩).1 = canE m ix from rfl, HBC.out]
  unfold aggI
  clear hi2 f2 KA
  go_wp2_with fail
  rw [← HW3.out, Hb5.out]
  obtain ⟨p0, p1, p2, p3, p4, p5, p6⟩ := HV5.out
  have t0' := FQ.out.cell t0 (by simp)
  have t1' := FQ.out.cell t1 (by simp)
  have t2' := FQ.out.cell t2 (by simp)
  have t3' := FQ.out.cell t3 (by simp)
  have hrb5 : ¬ br = b5 := by have := HWS.out; have := Hb4.out; have := Hb5.out; have := FQ0.out.size; omega
  have KH : Hid (∀ w1, Fr (fun _ => False) W0 w1 → Calls Tryd.prog 16 #[.agg #[.int .u64 (ix : Int), .int .u64 (x.b : Int), .int .u8 (kd : Int), .slice x.p x.d.length x.c]] w1 fun e w' => ∃ a1 c1 q, e = .returned (.slice a1 (q : List Nat).length c1) ∧ Own w' w1.heap.size (.slice a1 q.length c1) q ∧ Hid (q = entB (ix, x.b, kd, x.d)) ∧ Fr (fun _ => False) w1 w') := fun w1 f => refentry_step ⟨ix, x.b, kd, x.d, x.p, x.c⟩ w1 ((F0.out.trans f).row HX.out.row (by simp)) hixl hxb (by show kd < 256; omega) (by show x.d.length ≤ _; omega)
  have FD : Hid (Fr (fun _ => False) W0 w3.drew) := FQ.out.drew
  have HCD : Hid (w3.drew.cell? ⟨b5, 0, none⟩ = some (.int .u64 (m2.tm : Int)) ∧ w3.drew.cell? ⟨b5, 1, none⟩ = some (.int .i64 m2.vo) ∧ w3.drew.cell? ⟨b5, 2, none⟩ = some (.int .u64 (m2.si : Int)) ∧ w3.drew.cell? ⟨b5, 3, none⟩ = some (.int .u64 (m2.st : Int)) ∧ w3.drew.cell? ⟨b5, 4, none⟩ = some (.int .u64 (m2.sv : Int)) ∧ w3.drew.cell? ⟨b5, 5, none⟩ = some (.slice sa2 m2.sd.length sc2) ∧ w3.drew.cell? ⟨b5, 6, none⟩ = some (.slice ea2 es2.length cx2) ∧ w3.drew.cell? ⟨b4, 0, none⟩ = some (.int .u64 (ix : Int)) ∧ w3.drew.cell? ⟨b4, 1, none⟩ = some (.int .u64 (x.b : Int)) ∧ w3.drew.cell? ⟨b4, 2, none⟩ = some (.int .u8 (kd : Int)) ∧ w3.drew.cell? ⟨b4, 3, none⟩ = some (.slice x.p x.d.length x.c)) := ⟨p0, p1, p2, p3, p4, p5, p6, t0', t1', t2', t3'⟩
  clear c0 c1 c2 c3 c4 c5 c6 t0 t1 t2 t3
  go_region_held3 (fun w' => w'.cell? ⟨b5, 0, none⟩ = some (.int .u64 (m2.tm : Int)) ∧ w'.cell? ⟨b5, 1, none⟩ = some (.int .i64 m2.vo) ∧ w'.cell? ⟨b5, 2, none⟩ = some (.int .u64 (m2.si : Int)) ∧ w'.cell? ⟨b5, 3, none⟩ = some (.int .u64 (m2.st : Int)) ∧ w'.cell? ⟨b5, 4, none⟩ = some (.int .u64 (m2.sv : Int)) ∧ w'.cell? ⟨b5, 5, none⟩ = some (.slice sa2 m2.sd.length sc2) ∧ w'.cell? ⟨b5, 6, none⟩ = some (.slice ea2 es2.length cx2) ∧ w'.cell? ⟨b4, 0, none⟩ = some (.int .u64 (ix : Int)) ∧ w'.cell? ⟨b4, 1, none⟩ = some (.int .u64 (x.b : Int)) ∧ w'.cell? ⟨b4, 2, none⟩ = some (.int .u8 (kd : Int)) ∧ w'.cell? ⟨b4, 3, none⟩ = some (.slice x.p x.d.length x.c)) (first | (with_reducible exact ⟨p0, p1, p2, p3, p4, p5, p6, t0', t1', t2', t3'⟩) | (with_reducible exact HCD.out) | (with_reducible exact ⟨e0, e1, e2, e3, e4, e5, e6, s0, s1, s2, s3⟩) | go_keep) (first
    | (go_at_call 16; refine (KH.out _ FD.out).mono ?_; rintro e w4 ⟨aq, cq, q, rfl, oq, EQ, f4⟩; have FQ4 : Hid (Fr (fun _ => False) w3 w4) := (Fr.refl (fun _ => False) w3).drew.trans f4; have FR4 : Hid (Fr (fun _ => False) W0 w4) := FQ.out.trans FQ4.out; have OQ : Hid (Own w4 W0.heap.size (.slice aq q.length cq) q) := oq.rebase FQ.out.size; have e0 := FQ4.out.cell p0 (by simp); have e1 := FQ4.out.cell p1 (by simp); have e2 := FQ4.out.cell p2 (by simp); have e3 := FQ4.out.cell p3 (by simp); have e4 := FQ4.out.cell p4 (by simp); have e5 := FQ4.out.cell p5 (by simp); have e6 := FQ4.out.cell p6 (by simp); have s0 := FQ4.out.cell t0' (by simp); have s1 := FQ4.out.cell t1' (by simp); have s2 := FQ4.out.cell t2' (by simp); have s3 := FQ4.out.cell t3' (by simp); have zc : Hid (∀ i, i < 7 → (∃ u, w4.cell? ⟨br, i, none⟩ = some u) ∧ w4.frozen? ⟨br, i, none⟩ = false) := (fun i hi => by
        obtain ⟨⟨u, hu⟩, hz⟩ := HZ.out i hi
        exact ⟨⟨u, FR4.out.cell hu (by simp)⟩, (FR4.out.frozenEq (a := ⟨br, i, none⟩) (World.block_lt_of_cell? _ _ hu) (by simp)).trans hz⟩); obtain ⟨⟨u0, d0⟩, z0⟩ := zc.out 0 (by omega); obtain ⟨⟨u1, d1⟩, z1⟩ := zc.out 1 (by omega); obtain ⟨⟨u2, d2⟩, z2⟩ := zc.out 2 (by omega); obtain ⟨⟨u3, d3⟩, z3⟩ := zc.out 3 (by omega); obtain ⟨⟨u4, d4⟩, z4⟩ := zc.out 4 (by omega); obtain ⟨⟨u5, d5⟩, z5⟩ := zc.out 5 (by omega); obtain ⟨⟨u6, d6⟩, z6⟩ := zc.out 6 (by omega); clear oq f4))
  all_goals
    have HRQ : Hid (Row w4 aq q cq) := by obtain ⟨_, _, he, r, _⟩ := OQ.out.row; cases he; exact r
    have HQB : Hid (∀ a, aq = some a → W0.heap.size ≤ a.block) := by obtain ⟨_, _, he, _, hb⟩ := OQ.out.row; cases he; exact fun a ha => (hb a ha).1
    have FW2 : Hid (Fr (fun _ => False) w w4) := F0.out.trans FR4.out
    have FI4 : Hid (Fr (fun _ => False) w2 w4) := FQ3.out.trans FQ4.out
    have HI24 : ∀ W6, Fr (fun k => k = br) w4 W6 → ImV W6 D m2 sa2 sc2 ea2 es2 cx2 := fun W6 f6 => ((HI2.out.fr FI4.out (by simp)).fr f6 (fun k hk => hk.2)).mono (fun k _ hk => hk.1)
    go_wp2
    obtain ⟨W6, HW6⟩ : ∃ W6, Hid (W6 = (((((((w4.setCell ⟨br, 0, none⟩ (.int .u64 (m2.tm : Int))).setCell ⟨br, 1, none⟩ (.int .i64 m2.vo)).setCell ⟨br, 2, none⟩ (.int .u64 (m2.si : Int))).setCell ⟨br, 3, none⟩ (.int .u64 (m2.st : Int))).setCell ⟨br, 4, none⟩ (.int .u64 (m2.sv : Int))).setCell ⟨br, 5, none⟩ (.slice sa2 m2.sd.length sc2)).setCell ⟨br, 6, none⟩ (.slice ea2 es2.length cx2))) := ⟨_, rfl⟩
    have f6 : Fr (fun k => k = br) w4 W6 := by rw [HW6.out]; exact (((((((Fr.refl (fun k => k = br) w4).setCell (p := ⟨br, 0, none⟩) (Or.inl rfl) _).setCell (p := ⟨br, 1, none⟩) (Or.inl rfl) _).setCell (p := ⟨br, 2, none⟩) (Or.inl rfl) _).setCell (p := ⟨br, 3, none⟩) (Or.inl rfl) _).setCell (p := ⟨br, 4, none⟩) (Or.inl rfl) _).setCell (p := ⟨br, 5, none⟩) (Or.inl rfl) _).setCell (p := ⟨br, 6, none⟩) (Or.inl rfl) _
    have o : ∀ {W : World} {i j : Nat} {u x : Value}, i ≠ j → W.cell? ⟨br, j, none⟩ = some x → (W.setCell ⟨br, i, none⟩ u).cell? ⟨br, j, none⟩ = some x := fun _hij hc => (World.cell?_setCell_other _ _ _ _ (by simp)).trans hc
    have q' : ∀ {W : World} {i : Nat} {u x : Value}, W.cell? ⟨br, i, none⟩ = some x → (W.setCell ⟨br, i, none⟩ u).cell? ⟨br, i, none⟩ = some u := fun hc => World.cell?_setCell_same _ _ _ hc
    have g0 : W6.cell? ⟨br, 0, none⟩ = some (.int .u64 (m2.tm : Int)) := by rw [HW6.out]; exact o (by omega) (o (by omega) (o (by omega) (o (by omega) (o (by omega) (o (by omega) (q' (d0)))))))
    have g1 : W6.cell? ⟨br, 1, none⟩ = some (.int .i64 m2.vo) := by rw [HW6.out]; exact o (by omega) (o (by omega) (o (by omega) (o (by omega) (o (by omega) (q' (o (i := 0) (by omega) (d1)))))))
    have g2 : W6.cell? ⟨br, 2, none⟩ = some (.int .u64 (m2.si : Int)) := by rw [HW6.out]; exact o (by omega) (o (by omega) (o (by omega) (o (by omega) (q' (o (i := 1) (by omega) (o (i := 0) (by omega) (d2)))))))
    have g3 : W6.cell? ⟨br, 3, none⟩ = some (.int .u64 (m2.st : Int)) := by rw [HW6.out]; exact o (by omega) (o (by omega) (o (by omega) (q' (o (i := 2) (by omega) (o (i := 1) (by omega) (o (i := 0) (by omega) (d3)))))))
    have g4 : W6.cell? ⟨br, 4, none⟩ = some (.int .u64 (m2.sv : Int)) := by rw [HW6.out]; exact o (by omega) (o (by omega) (q' (o (i := 3) (by omega) (o (i := 2) (by omega) (o (i := 1) (by omega) (o (i := 0) (by omega) (d4)))))))
    have g5 : W6.cell? ⟨br, 5, none⟩ = some (.slice sa2 m2.sd.length sc2) := by rw [HW6.out]; exact o (by omega) (q' (o (i := 4) (by omega) (o (i := 3) (by omega) (o (i := 2) (by omega) (o (i := 1) (by omega) (o (i := 0) (by omega) (d5)))))))
    have g6 : W6.cell? ⟨br, 6, none⟩ = some (.slice ea2 es2.length cx2) := by rw [HW6.out]; exact q' (o (i := 5) (by omega) (o (i := 4) (by omega) (o (i := 3) (by omega) (o (i := 2) (by omega) (o (i := 1) (by omega) (o (i := 0) (by omega) (d6)))))))
    rw [← HW6.out]
    have FF : Hid (Fr (fun _ => False) w W6) := FW2.out.trans' f6 (fun i hi e => by have := Hb0.out; have := Hbx.out; have := Hbr.out; omega)
    have RQ : Hid (Row W6 aq q cq) := f6.row HRQ.out (fun _ a ha => by have := HQB.out a ha; have := HWS.out; have := Hb4.out; omega)
    have QB : Hid (∀ a, aq = some a → w.heap.size ≤ a.block) := fun a ha => by have := HQB.out a ha; have := HWS.out; have := Hb0.out; have := Hbx.out; have := Hbr.out; have := Hb4.out; omega
    have HI6 : ImV W6 D m2 sa2 sc2 ea2 es2 cx2 := HI24 W6 f6
    exact bodyPost_ret (v := .tuple #[.slice aq q.length cq, .agg #[.int .u64 (m2.tm : Int), .int .i64 m2.vo, .int .u64 (m2.si : Int), .int .u64 (m2.st : Int), .int .u64 (m2.sv : Int), .slice sa2 m2.sd.length sc2, .slice ea2 es2.length cx2], .bool bc]) (by simp [results, Tryd.results11, go_sem, g0, g1, g2, g3, g4, g5, g6]) rfl (⟨aq, q, cq, m2, sa2, sc2, ea2, es2, cx2, by rw [HOK.out, HBC.out]; rfl, RQ.out, QB.out, by show _ = _; rw [HQM.out]; exact EQ.out, by show _ = _; rw [HM2.out, HM.out]; rfl, HI6, FF.out⟩)
set_option maxRecDepth 100000 in
set_option maxHeartbeats 800000 in
theorem lawb_2p (m : Img) (sa : Option Addr) (sc : Nat) (ea : Option Addr) (es : List En) (c : Nat) (x : Rc) (n : Nat) (w : World) (D : Nat → Prop) (h : ImV w D m sa sc ea es c) (hg : Good m n) (hn : n ≤ 1000) (hx : RcG w x) (hxd : x.d.length ≤ 200) (hnew : ∀ k, w.heap.size ≤ k → D k) (hxD : x.d ≠ [] → ∀ a, x.p = some a → D a.block) (hk : x.k % 4 = 2) (hv : ¬ x.v < -1) :
    Calls Tryd.prog 11 #[aggI m sa sc ea es.length c, .agg #[.int .u8 (x.k : Int), .int .u64 (x.a : Int), .int .u64 (x.b : Int), .int .i16 x.v, .slice x.p x.d.length x.c]] w fun e w' => BytesPost w D m x e w' := by
  have hel : es.length = m.es.length := by rw [← h.eq, List.length_map]
  have hml := hg.len
  have hen : es.length ≤ 1000 := by omega
  have hsi := hg.si
  have hka : (x.k : Int) % 4 = 2 := by omega
  have hk8 := hx.k
  have hv1 := hx.v.1
  have hv2 := hx.v.2
  have hxa := hx.a
  have hxb := hx.b
  have hxl := hx.row.1
  have hxc := hx.row.2.1
  unfold maxLen at hxc
  have HI : Hid (ImV w D m sa sc ea es c) := h
  have HG : Hid (Good m n) := hg
  have HX : Hid (RcG w x) := hx
  have HXD : Hid (x.d ≠ [] → ∀ a, x.p = some a → D a.block) := hxD
  have HN : Hid (∀ k, w.heap.size ≤ k → D k) := hnew
  have HK : Hid (x.k % 4 = 2) := hk
  have HEL : Hid (es.length = m.es.length) := hel
  have HXL : Hid (x.d.length ≤ 200) := hxd
  obtain ⟨ix, hix, Hix⟩ : ∃ ix : Nat, (m.si : Int) + (es.length : Int) + 1 = (ix : Int) ∧ Hid (ix = ixOf m x) := ⟨m.si + es.length + 1, by omega, by show _ = _; unfold ixOf; rw [if_pos hk, hel]⟩
  have hixl : ix < 18446744073709551616 := by omega
  obtain ⟨kd, hkd, Hkd⟩ : ∃ kd : Nat, (x.k : Int) / 4 % 2 = (kd : Int) ∧ Hid (kd = x.k / 4 % 2) := ⟨x.k / 4 % 2, by omega, rfl⟩
  have hkd2 : kd < 2 := by rw [Hkd.out]; omega
  have hne0 : ¬ x.k % 4 = 0 := by omega
  have hE : isE x = true := by unfold isE; simp; omega
  have HEN : Hid (entOf m x = (ix, x.b, kd, x.d)) := by show _ = _; unfold entOf; rw [Hix.out, Hkd.out]
  have HOK : Hid (okOf m x = canE m ix) := by show _ = _; unfold okOf; rw [hE, if_pos rfl, Hix.out]
  have HM : Hid (nextOf m x = if canE m ix then putE m (ix, x.b, kd, x.d) else m) := by show _ = _; unfold nextOf; rw [if_neg hne0, hE, if_pos rfl, HEN.out, Hix.out]
  have HQM : Hid (bytesOf m x = entB (ix, x.b, kd, x.d)) := by show _ = _; unfold bytesOf; rw [if_neg hne0, hE, if_pos rfl, HEN.out]
  clear hne0 hE
  unfold aggI
  obtain ⟨W0, HW⟩ : ∃ W0, Hid (W0 = (((w.alloc (.cells #[.int .u64 (m.tm : Int), .int .i64 m.vo, .int .u64 (m.si : Int), .int .u64 (m.st : Int), .int .u64 (m.sv : Int), .slice sa m.sd.length sc, .slice ea es.length c] 34)).alloc (.cells #[.int .u8 (x.k : Int), .int .u64 (x.a : Int), .int .u64 (x.b : Int), .int .i16 x.v, .slice x.p x.d.length x.c] 41)).alloc (.cells #[.int .u64 0, .int .i64 0, .int .u64 0, .int .u64 0, .int .u64 0, .slice none 0 0, .slice none 0 0] 34)).alloc (.cells #[.int .u64 (ix : Int), .int .u64 (x.b : Int), .int .u8 (kd : Int), .slice x.p x.d.length x.c] 50)) := ⟨_, rfl⟩
  obtain ⟨b0, Hb0⟩ : ∃ b0, Hid (w.heap.size = b0) := ⟨_, rfl⟩
  obtain ⟨bx, Hbx⟩ : ∃ bx, Hid (b0 + 1 = bx) := ⟨_, rfl⟩
  obtain ⟨br, Hbr⟩ : ∃ br, Hid (bx + 1 = br) := ⟨_, rfl⟩
  obtain ⟨b4, Hb4⟩ : ∃ b4, Hid (br + 1 = b4) := ⟨_, rfl⟩
  have F0 : Hid (Fr (fun _ => False) w W0) := by show Fr _ _ _; rw [HW.out]; exact ((((Fr.refl _ _).alloc _).alloc _).alloc _).alloc _
  have HWS : Hid (W0.heap.size = b4 + 1) := by show _ = _; rw [HW.out, ← Hb4.out, ← Hbr.out, ← Hbx.out, ← Hb0.out]; simp
  have HC : Hid ((W0.cell? ⟨b0, 0, none⟩ = some (.int .u64 (m.tm : Int)) ∧ W0.cell? ⟨b0, 1, none⟩ = some (.int .i64 m.vo) ∧ W0.cell? ⟨b0, 2, none⟩ = some (.int .u64 (m.si : Int)) ∧ W0.cell? ⟨b0, 3, none⟩ = some (.int .u64 (m.st : Int))) ∧ (W0.cell? ⟨b0, 4, none⟩ = some (.int .u64 (m.sv : Int)) ∧ W0.cell? ⟨b0, 5, none⟩ = some (.slice sa m.sd.length sc) ∧ W0.cell? ⟨b0, 6, none⟩ = some (.slice ea es.length c))) := by
    rw [HW.out, ← Hb0.out]
    have f := (((Fr.refl (fun _ => False) (w.alloc (.cells #[.int .u64 (m.tm : Int), .int .i64 m.vo, .int .u64 (m.si : Int), .int .u64 (m.st : Int), .int .u64 (m.sv : Int), .slice sa m.sd.length sc, .slice ea es.length c] 34))).alloc (.cells #[.int .u8 (x.k : Int), .int .u64 (x.a : Int), .int .u64 (x.b : Int), .int .i16 x.v, .slice x.p x.d.length x.c] 41)).alloc (.cells #[.int .u64 0, .int .i64 0, .int .u64 0, .int .u64 0, .int .u64 0, .slice none 0 0, .slice none 0 0] 34)).alloc (.cells #[.int .u64 (ix : Int), .int .u64 (x.b : Int), .int .u8 (kd : Int), .slice x.p x.d.length x.c] 50)
    refine ⟨⟨f.cell ?_ (by simp), f.cell ?_ (by simp), f.cell ?_ (by simp), f.cell ?_ (by simp)⟩, f.cell ?_ (by simp), f.cell ?_ (by simp), f.cell ?_ (by simp)⟩
    all_goals simp
  have HTC : Hid (W0.cell? ⟨b4, 0, none⟩ = some (.int .u64 (ix : Int)) ∧ W0.cell? ⟨b4, 1, none⟩ = some (.int .u64 (x.b : Int)) ∧ W0.cell? ⟨b4, 2, none⟩ = some (.int .u8 (kd : Int)) ∧ W0.cell? ⟨b4, 3, none⟩ = some (.slice x.p x.d.length x.c)) := by
    rw [HW.out, ← Hb4.out, ← Hbr.out, ← Hbx.out, ← Hb0.out]
    generalize hG : ((w.alloc (.cells #[.int .u64 (m.tm : Int), .int .i64 m.vo, .int .u64 (m.si : Int), .int .u64 (m.st : Int), .int .u64 (m.sv : Int), .slice sa m.sd.length sc, .slice ea es.length c] 34)).alloc (.cells #[.int .u8 (x.k : Int), .int .u64 (x.a : Int), .int .u64 (x.b : Int), .int .i16 x.v, .slice x.p x.d.length x.c] 41)).alloc (.cells #[.int .u64 0, .int .i64 0, .int .u64 0, .int .u64 0, .int .u64 0, .slice none 0 0, .slice none 0 0] 34) = G
    have hgs : w.heap.size + 1 + 1 + 1 = G.heap.size := by rw [← hG]; simp
    rw [hgs]
    refine ⟨?_, ?_, ?_, ?_⟩
    all_goals simp
  have HZ : Hid (∀ i, i < 7 → (∃ u, W0.cell? ⟨br, i, none⟩ = some u) ∧ W0.frozen? ⟨br, i, none⟩ = false) := by
    intro i hi
    rw [HW.out, ← Hbr.out, ← Hbx.out, ← Hb0.out]
    generalize hG : (w.alloc (.cells #[.int .u64 (m.tm : Int), .int .i64 m.vo, .int .u64 (m.si : Int), .int .u64 (m.st : Int), .int .u64 (m.sv : Int), .slice sa m.sd.length sc, .slice ea es.length c] 34)).alloc (.cells #[.int .u8 (x.k : Int), .int .u64 (x.a : Int), .int .u64 (x.b : Int), .int .i16 x.v, .slice x.p x.d.length x.c] 41) = G
    have hgs : w.heap.size + 1 + 1 = G.heap.size := by rw [← hG]; simp
    rw [hgs]
    have f := (Fr.refl (fun _ => False) (G.alloc (.cells #[.int .u64 0, .int .i64 0, .int .u64 0, .int .u64 0, .int .u64 0, .slice none 0 0, .slice none 0 0] 34))).alloc (.cells #[.int .u64 (ix : Int), .int .u64 (x.b : Int), .int .u8 (kd : Int), .slice x.p x.d.length x.c] 50)
    have : i = 0 ∨ i = 1 ∨ i = 2 ∨ i = 3 ∨ i = 4 ∨ i = 5 ∨ i = 6 := by omega
    rcases this with rfl | rfl | rfl | rfl | rfl | rfl | rfl <;> exact ⟨⟨_, f.cell (by simp; rfl) (by simp)⟩, (f.frozenEq (by simp) (by simp)).trans (by simp)⟩
  obtain ⟨⟨c0, c1, c2, c3⟩, c4, c5, c6⟩ := HC.out
  obtain ⟨t0, t1, t2, t3⟩ := HTC.out
  have hrb : ¬ br = b0 := by have := Hbx.out; have := Hbr.out; omega
  have hrb4 : ¬ br = b4 := by have := Hb4.out; omega
  clear h hg hel hml hx hnew hxD
  go_enter Tryd.func11, Tryd.ntmps11
  go_wp2_with fail
  rw [← HW.out, Hb0.out, Hbx.out, Hbr.out, Hb4.out]
  have hm5 : ∀ v : Nat, True := fun _ => trivial
  clear hm5
  have KA : Hid (Calls _ _ _ _ _) := add_any m sa sc ea es c ⟨ix, x.b, kd, x.d, x.p, x.c⟩ n W0 (fun k => D k ∧ k ≠ br) ((HI.out.mono (E := fun k => D k ∧ k ≠ br) (fun k hk hd => ⟨hd, by have := Hb0.out; have := Hbx.out; have := Hbr.out; omega⟩)).fr F0.out (by simp)) HG.out hn ⟨hixl, hxb, by show kd < 256; omega, F0.out.row HX.out.row (by simp), fun hne a ha => ⟨HXD.out hne a ha, by have := row_blk HX.out.row hne a ha; have := Hb0.out; have := Hbx.out; have := Hbr.out; omega⟩⟩ (fun k hk => ⟨HN.out k (Nat.le_trans F0.out.size hk), by have := HWS.out; have := Hb4.out; omega⟩)
  clear hv1 hv2 hv hka hix hkd
  refine KA.out.mono ?_
  rintro e w2 ⟨m2, sa2, sc2, ea2, es2, cx2, rfl, HM2, hi2, f2⟩
  have HI2 : Hid (ImV w2 (fun k => D k ∧ k ≠ br) m2 sa2 sc2 ea2 es2 cx2) := hi2
  have FQ0 : Hid (Fr (fun _ => False) W0 w2) := f2
  obtain ⟨w3, HW3⟩ : ∃ w3, Hid (w3 = w2.alloc (.cells #[.int .u64 (m2.tm : Int), .int .i64 m2.vo, .int .u64 (m2.si : Int), .int .u64 (m2.st : Int), .int .u64 (m2.sv : Int), .slice sa2 m2.sd.length sc2, .slice ea2 es2.length cx2] 34)) := ⟨_, rfl⟩
  obtain ⟨b5, Hb5⟩ : ∃ b5, Hid (w2.heap.size = b5) := ⟨_, rfl⟩
  have FQ : Hid (Fr (fun _ => False) W0 w3) := by show Fr _ _ _; rw [HW3.out]; exact f2.alloc _
  have FQ3 : Hid (Fr (fun _ => False) w2 w3) := by show Fr _ _ _; rw [HW3.out]; exact (Fr.refl _ _).alloc _
  have HV5 : Hid (w3.cell? ⟨b5, 0, none⟩ = some (.int .u64 (m2.tm : Int)) ∧ w3.cell? ⟨b5, 1, none⟩ = some (.int .i64 m2.vo) ∧ w3.cell? ⟨b5, 2, none⟩ = some (.int .u64 (m2.si : Int)) ∧ w3.cell? ⟨b5, 3, none⟩ = some (.int .u64 (m2.st : Int)) ∧ w3.cell? ⟨b5, 4, none⟩ = some (.int .u64 (m2.sv : Int)) ∧ w3.cell? ⟨b5, 5, none⟩ = some (.slice sa2 m2.sd.length sc2) ∧ w3.cell? ⟨b5, 6, none⟩ = some (.slice ea2 es2.length cx2)) := by
    rw [HW3.out, ← Hb5.out]
    exact ⟨by simp, by simp, by simp, by simp, by simp, by simp, by simp⟩
  obtain ⟨bc, HBC⟩ : ∃ bc, Hid (canE m ix = bc) := ⟨_, rfl⟩
  rw [show canE m (En.p ⟨ix, x.b, kd, x.d, x.p, x.c⟩).1 = canE m ix from rfl, HBC.out]
  unfold aggI
  clear hi2 f2 KA
  go_wp2_with fail
  rw [← HW3.out, Hb5.out]
  obtain ⟨p0, p1, p2, p3, p4, p5, p6⟩ := HV5.out
  have t0' := FQ.out.cell t0 (by simp)
  have t1' := FQ.out.cell t1 (by simp)
  have t2' := FQ.out.cell t2 (by simp)
  have t3' := FQ.out.cell t3 (by simp)
  have hrb5 : ¬ br = b5 := by have := HWS.out; have := Hb4.out; have := Hb5.out; have := FQ0.out.size; omega
  have KH : Hid (∀ w1, Fr (fun _ => False) W0 w1 → Calls Tryd.prog 16 #[.agg #[.int .u64 (ix : Int), .int .u64 (x.b : Int), .int .u8 (kd : Int), .slice x.p x.d.length x.c]] w1 fun e w' => ∃ a1 c1 q, e = .returned (.slice a1 (q : List Nat).length c1) ∧ Own w' w1.heap.size (.slice a1 q.length c1) q ∧ Hid (q = entB (ix, x.b, kd, x.d)) ∧ Fr (fun _ => False) w1 w') := fun w1 f => refentry_step ⟨ix, x.b, kd, x.d, x.p, x.c⟩ w1 ((F0.out.trans f).row HX.out.row (by simp)) hixl hxb (by show kd < 256; omega) (by show x.d.length ≤ _; omega)
  have FD : Hid (Fr (fun _ => False) W0 w3.drew) := FQ.out.drew
  have HCD : Hid (w3.drew.cell? ⟨b5, 0, none⟩ = some (.int .u64 (m2.tm : Int)) ∧ w3.drew.cell? ⟨b5, 1, none⟩ = some (.int .i64 m2.vo) ∧ w3.drew.cell? ⟨b5, 2, none⟩ = some (.int .u64 (m2.si : Int)) ∧ w3.drew.cell? ⟨b5, 3, none⟩ = some (.int .u64 (m2.st : Int)) ∧ w3.drew.cell? ⟨b5, 4, none⟩ = some (.int .u64 (m2.sv : Int)) ∧ w3.drew.cell? ⟨b5, 5, none⟩ = some (.slice sa2 m2.sd.length sc2) ∧ w3.drew.cell? ⟨b5, 6, none⟩ = some (.slice ea2 es2.length cx2) ∧ w3.drew.cell? ⟨b4, 0, none⟩ = some (.int .u64 (ix : Int)) ∧ w3.drew.cell? ⟨b4, 1, none⟩ = some (.int .u64 (x.b : Int)) ∧ w3.drew.cell? ⟨b4, 2, none⟩ = some (.int .u8 (kd : Int)) ∧ w3.drew.cell? ⟨b4, 3, none⟩ = some (.slice x.p x.d.length x.c)) := ⟨p0, p1, p2, p3, p4, p5, p6, t0', t1', t2', t3'⟩
  clear c0 c1 c2 c3 c4 c5 c6 t0 t1 t2 t3
  go_region_held3 (fun w' => w'.cell? ⟨b5, 0, none⟩ = some (.int .u64 (m2.tm : Int)) ∧ w'.cell? ⟨b5, 1, none⟩ = some (.int .i64 m2.vo) ∧ w'.cell? ⟨b5, 2, none⟩ = some (.int .u64 (m2.si : Int)) ∧ w'.cell? ⟨b5, 3, none⟩ = some (.int .u64 (m2.st : Int)) ∧ w'.cell? ⟨b5, 4, none⟩ = some (.int .u64 (m2.sv : Int)) ∧ w'.cell? ⟨b5, 5, none⟩ = some (.slice sa2 m2.sd.length sc2) ∧ w'.cell? ⟨b5, 6, none⟩ = some (.slice ea2 es2.length cx2) ∧ w'.cell? ⟨b4, 0, none⟩ = some (.int .u64 (ix : Int)) ∧ w'.cell? ⟨b4, 1, none⟩ = some (.int .u64 (x.b : Int)) ∧ w'.cell? ⟨b4, 2, none⟩ = some (.int .u8 (kd : Int)) ∧ w'.cell? ⟨b4, 3, none⟩ = some (.slice x.p x.d.length x.c)) (first | (with_reducible exact ⟨p0, p1, p2, p3, p4, p5, p6, t0', t1', t2', t3'⟩) | (with_reducible exact HCD.out) | (with_reducible exact ⟨e0, e1, e2, e3, e4, e5, e6, s0, s1, s2, s3⟩) | go_keep) (first
    | (go_at_call 16; refine (KH.out _ FD.out).mono ?_; rintro e w4 ⟨aq, cq, q, rfl, oq, EQ, f4⟩; have FQ4 : Hid (Fr (fun _ => False) w3 w4) := (Fr.refl (fun _ => False) w3).drew.trans f4; have FR4 : Hid (Fr (fun _ => False) W0 w4) := FQ.out.trans FQ4.out; have OQ : Hid (Own w4 W0.heap.size (.slice aq q.length cq) q) := oq.rebase FQ.out.size; have e0 := FQ4.out.cell p0 (by simp); have e1 := FQ4.out.cell p1 (by simp); have e2 := FQ4.out.cell p2 (by simp); have e3 := FQ4.out.cell p3 (by simp); have e4 := FQ4.out.cell p4 (by simp); have e5 := FQ4.out.cell p5 (by simp); have e6 := FQ4.out.cell p6 (by simp); have s0 := FQ4.out.cell t0' (by simp); have s1 := FQ4.out.cell t1' (by simp); have s2 := FQ4.out.cell t2' (by simp); have s3 := FQ4.out.cell t3' (by simp); have zc : Hid (∀ i, i < 7 → (∃ u, w4.cell? ⟨br, i, none⟩ = some u) ∧ w4.frozen? ⟨br, i, none⟩ = false) := (fun i hi => by
        obtain ⟨⟨u, hu⟩, hz⟩ := HZ.out i hi
        exact ⟨⟨u, FR4.out.cell hu (by simp)⟩, (FR4.out.frozenEq (a := ⟨br, i, none⟩) (World.block_lt_of_cell? _ _ hu) (by simp)).trans hz⟩); obtain ⟨⟨u0, d0⟩, z0⟩ := zc.out 0 (by omega); obtain ⟨⟨u1, d1⟩, z1⟩ := zc.out 1 (by omega); obtain ⟨⟨u2, d2⟩, z2⟩ := zc.out 2 (by omega); obtain ⟨⟨u3, d3⟩, z3⟩ := zc.out 3 (by omega); obtain ⟨⟨u4, d4⟩, z4⟩ := zc.out 4 (by omega); obtain ⟨⟨u5, d5⟩, z5⟩ := zc.out 5 (by omega); obtain ⟨⟨u6, d6⟩, z6⟩ := zc.out 6 (by omega); clear oq f4))
  all_goals
    have HRQ : Hid (Row w4 aq q cq) := by obtain ⟨_, _, he, r, _⟩ := OQ.out.row; cases he; exact r
    have HQB : Hid (∀ a, aq = some a → W0.heap.size ≤ a.block) := by obtain ⟨_, _, he, _, hb⟩ := OQ.out.row; cases he; exact fun a ha => (hb a ha).1
    have FW2 : Hid (Fr (fun _ => False) w w4) := F0.out.trans FR4.out
    have FI4 : Hid (Fr (fun _ => False) w2 w4) := FQ3.out.trans FQ4.out
    have HI24 : ∀ W6, Fr (fun k => k = br) w4 W6 → ImV W6 D m2 sa2 sc2 ea2 es2 cx2 := fun W6 f6 => ((HI2.out.fr FI4.out (by simp)).fr f6 (fun k hk => hk.2)).mono (fun k _ hk => hk.1)
    go_wp2
    obtain ⟨W6, HW6⟩ : ∃ W6, Hid (W6 = (((((((w4.setCell ⟨br, 0, none⟩ (.int .u64 (m2.tm : Int))).setCell ⟨br, 1, none⟩ (.int .i64 m2.vo)).setCell ⟨br, 2, none⟩ (.int .u64 (m2.si : Int))).setCell ⟨br, 3, none⟩ (.int .u64 (m2.st : Int))).setCell ⟨br, 4, none⟩ (.int .u64 (m2.sv : Int))).setCell ⟨br, 5, none⟩ (.slice sa2 m2.sd.length sc2)).setCell ⟨br, 6, none⟩ (.slice ea2 es2.length cx2))) := ⟨_, rfl⟩
    have f6 : Fr (fun k => k = br) w4 W6 := by rw [HW6.out]; exact (((((((Fr.refl (fun k => k = br) w4).setCell (p := ⟨br, 0, none⟩) (Or.inl rfl) _).setCell (p := ⟨br, 1, none⟩) (Or.inl rfl) _).setCell (p := ⟨br, 2, none⟩) (Or.inl rfl) _).setCell (p := ⟨br, 3, none⟩) (Or.inl rfl) _).setCell (p := ⟨br, 4, none⟩) (Or.inl rfl) _).setCell (p := ⟨br, 5, none⟩) (Or.inl rfl) _).setCell (p := ⟨br, 6, none⟩) (Or.inl rfl) _
    have o : ∀ {W : World} {i j : Nat} {u x : Value}, i ≠ j → W.cell? ⟨br, j, none⟩ = some x → (W.setCell ⟨br, i, none⟩ u).cell? ⟨br, j, none⟩ = some x := fun _hij hc => (World.cell?_setCell_other _ _ _ _ (by simp)).trans hc
    have q' : ∀ {W : World} {i : Nat} {u x : Value}, W.cell? ⟨br, i, none⟩ = some x → (W.setCell ⟨br, i, none⟩ u).cell? ⟨br, i, none⟩ = some u := fun hc => World.cell?_setCell_same _ _ _ hc
    have g0 : W6.cell? ⟨br, 0, none⟩ = some (.int .u64 (m2.tm : Int)) := by rw [HW6.out]; exact o (by omega) (o (by omega) (o (by omega) (o (by omega) (o (by omega) (o (by omega) (q' (d0)))))))
    have g1 : W6.cell? ⟨br, 1, none⟩ = some (.int .i64 m2.vo) := by rw [HW6.out]; exact o (by omega) (o (by omega) (o (by omega) (o (by omega) (o (by omega) (q' (o (i := 0) (by omega) (d1)))))))
    have g2 : W6.cell? ⟨br, 2, none⟩ = some (.int .u64 (m2.si : Int)) := by rw [HW6.out]; exact o (by omega) (o (by omega) (o (by omega) (o (by omega) (q' (o (i := 1) (by omega) (o (i := 0) (by omega) (d2)))))))
    have g3 : W6.cell? ⟨br, 3, none⟩ = some (.int .u64 (m2.st : Int)) := by rw [HW6.out]; exact o (by omega) (o (by omega) (o (by omega) (q' (o (i := 2) (by omega) (o (i := 1) (by omega) (o (i := 0) (by omega) (d3)))))))
    have g4 : W6.cell? ⟨br, 4, none⟩ = some (.int .u64 (m2.sv : Int)) := by rw [HW6.out]; exact o (by omega) (o (by omega) (q' (o (i := 3) (by omega) (o (i := 2) (by omega) (o (i := 1) (by omega) (o (i := 0) (by omega) (d4)))))))
    have g5 : W6.cell? ⟨br, 5, none⟩ = some (.slice sa2 m2.sd.length sc2) := by rw [HW6.out]; exact o (by omega) (q' (o (i := 4) (by omega) (o (i := 3) (by omega) (o (i := 2) (by omega) (o (i := 1) (by omega) (o (i := 0) (by omega) (d5)))))))
    have g6 : W6.cell? ⟨br, 6, none⟩ = some (.slice ea2 es2.length cx2) := by rw [HW6.out]; exact q' (o (i := 5) (by omega) (o (i := 4) (by omega) (o (i := 3) (by omega) (o (i := 2) (by omega) (o (i := 1) (by omega) (o (i := 0) (by omega) (d6)))))))
    rw [← HW6.out]
    have FF : Hid (Fr (fun _ => False) w W6) := FW2.out.trans' f6 (fun i hi e => by have := Hb0.out; have := Hbx.out; have := Hbr.out; omega)
    have RQ : Hid (Row W6 aq q cq) := f6.row HRQ.out (fun _ a ha => by have := HQB.out a ha; have := HWS.out; have := Hb4.out; omega)
    have QB : Hid (∀ a, aq = some a → w.heap.size ≤ a.block) := fun a ha => by have := HQB.out a ha; have := HWS.out; have := Hb0.out; have := Hbx.out; have := Hbr.out; have := Hb4.out; omega
    have HI6 : ImV W6 D m2 sa2 sc2 ea2 es2 cx2 := HI24 W6 f6
    exact bodyPost_ret (v := .tuple #[.slice aq q.length cq, .agg #[.int .u64 (m2.tm : Int), .int .i64 m2.vo, .int .u64 (m2.si : Int), .int .u64 (m2.st : Int), .int .u64 (m2.sv : Int), .slice sa2 m2.sd.length sc2, .slice ea2 es2.length cx2], .bool bc]) (by simp [results, Tryd.results11, go_sem, g0, g1, g2, g3, g4, g5, g6]) rfl (⟨aq, q, cq, m2, sa2, sc2, ea2, es2, cx2, by rw [HOK.out, HBC.out]; rfl, RQ.out, QB.out, by show _ = _; rw [HQM.out]; exact EQ.out, by show _ = _; rw [HM2.out, HM.out]; rfl, HI6, FF.out⟩)
set_option maxRecDepth 100000 in
set_option maxHeartbeats 800000 in
theorem lawb_0n (m : Img) (sa : Option Addr) (sc : Nat) (ea : Option Addr) (es : List En) (c : Nat) (x : Rc) (n : Nat) (w : World) (D : Nat → Prop) (h : ImV w D m sa sc ea es c) (hg : Good m n) (hn : n ≤ 1000) (hx : RcG w x) (hxd : x.d.length ≤ 200) (hnew : ∀ k, w.heap.size ≤ k → D k) (hxD : x.d ≠ [] → ∀ a, x.p = some a → D a.block) (hk : x.k % 4 = 0) (hv : x.v < -1) :
    Calls Tryd.prog 11 #[aggI m sa sc ea es.length c, .agg #[.int .u8 (x.k : Int), .int .u64 (x.a : Int), .int .u64 (x.b : Int), .int .i16 x.v, .slice x.p x.d.length x.c]] w fun e w' => BytesPost w D m x e w' := by
  have hel : es.length = m.es.length := by rw [← h.eq, List.length_map]
  have hml := hg.len
  have hen : es.length ≤ 1000 := by omega
  have hsi := hg.si
  have hka : (x.k : Int) % 4 = 0 := by omega
  have hk8 := hx.k
  have hv1 := hx.v.1
  have hv2 := hx.v.2
  have hxa := hx.a
  have hxb := hx.b
  have hxl := hx.row.1
  have hxc := hx.row.2.1
  unfold maxLen at hxc
  have HI : Hid (ImV w D m sa sc ea es c) := h
  have HG : Hid (Good m n) := hg
  have HX : Hid (RcG w x) := hx
  have HXD : Hid (x.d ≠ [] → ∀ a, x.p = some a → D a.block) := hxD
  have HN : Hid (∀ k, w.heap.size ≤ k → D k) := hnew
  have HK : Hid (x.k % 4 = 0) := hk
  have HEL : Hid (es.length = m.es.length) := hel
  have HXL : Hid (x.d.length ≤ 200) := hxd
  have hvo : Hid (voOf x.v = (-1)) := by show _ = _; unfold voOf; rw [if_pos hv]
  have HVN : Hid (∃ vn : Nat, (-1) + 1 = (vn : Int) ∧ vn < 65536) := ⟨((-1) + 1).toNat, by omega, by omega⟩
  have HOK : Hid (okOf m x = true) := by show _ = _; unfold okOf isE; rw [hk]; rfl
  have HM : Hid (nextOf m x = { m with tm := x.a, vo := (-1) }) := by show _ = _; unfold nextOf; rw [if_pos hk, hvo.out]
  have HQM : Hid (bytesOf m x = hardB x.a (-1)) := by show _ = _; unfold bytesOf; rw [if_pos hk, hvo.out]
  unfold aggI
  obtain ⟨W0, HW⟩ : ∃ W0, Hid (W0 = (((w.alloc (.cells #[.int .u64 (x.a : Int), .int .i64 (-1), .int .u64 (m.si : Int), .int .u64 (m.st : Int), .int .u64 (m.sv : Int), .slice sa m.sd.length sc, .slice ea es.length c] 34)).alloc (.cells #[.int .u8 (x.k : Int), .int .u64 (x.a : Int), .int .u64 (x.b : Int), .int .i16 x.v, .slice x.p x.d.length x.c] 41)).alloc (.cells #[.int .u64 0, .int .i64 0, .int .u64 0, .int .u64 0, .int .u64 0, .slice none 0 0, .slice none 0 0] 34)).alloc (.cells #[.int .u64 (x.a : Int), .int .i64 (-1)] 29)) := ⟨_, rfl⟩
  obtain ⟨b0, Hb0⟩ : ∃ b0, Hid (w.heap.size = b0) := ⟨_, rfl⟩
  obtain ⟨bx, Hbx⟩ : ∃ bx, Hid (b0 + 1 = bx) := ⟨_, rfl⟩
  obtain ⟨br, Hbr⟩ : ∃ br, Hid (bx + 1 = br) := ⟨_, rfl⟩
  obtain ⟨b4, Hb4⟩ : ∃ b4, Hid (br + 1 = b4) := ⟨_, rfl⟩
  have F0 : Hid (Fr (fun _ => False) w W0) := by show Fr _ _ _; rw [HW.out]; exact ((((Fr.refl _ _).alloc _).alloc _).alloc _).alloc _
  have HWS : Hid (W0.heap.size = b4 + 1) := by show _ = _; rw [HW.out, ← Hb4.out, ← Hbr.out, ← Hbx.out, ← Hb0.out]; simp
  have HC : Hid ((W0.cell? ⟨b0, 0, none⟩ = some (.int .u64 (x.a : Int)) ∧ W0.cell? ⟨b0, 1, none⟩ = some (.int .i64 (-1)) ∧ W0.cell? ⟨b0, 2, none⟩ = some (.int .u64 (m.si : Int)) ∧ W0.cell? ⟨b0, 3, none⟩ = some (.int .u64 (m.st : Int))) ∧ (W0.cell? ⟨b0, 4, none⟩ = some (.int .u64 (m.sv : Int)) ∧ W0.cell? ⟨b0, 5, none⟩ = some (.slice sa m.sd.length sc) ∧ W0.cell? ⟨b0, 6, none⟩ = some (.slice ea es.length c))) := by
    rw [HW.out, ← Hb0.out]
    have f := (((Fr.refl (fun _ => False) (w.alloc (.cells #[.int .u64 (x.a : Int), .int .i64 (-1), .int .u64 (m.si : Int), .int .u64 (m.st : Int), .int .u64 (m.sv : Int), .slice sa m.sd.length sc, .slice ea es.length c] 34))).alloc (.cells #[.int .u8 (x.k : Int), .int .u64 (x.a : Int), .int .u64 (x.b : Int), .int .i16 x.v, .slice x.p x.d.length x.c] 41)).alloc (.cells #[.int .u64 0, .int .i64 0, .int .u64 0, .int .u64 0, .int .u64 0, .slice none 0 0, .slice none 0 0] 34)).alloc (.cells #[.int .u64 (x.a : Int), .int .i64 (-1)] 29)
    refine ⟨⟨f.cell ?_ (by simp), f.cell ?_ (by simp), f.cell ?_ (by simp), f.cell ?_ (by simp)⟩, f.cell ?_ (by simp), f.cell ?_ (by simp), f.cell ?_ (by simp)⟩
    all_goals simp
  have HTC : Hid (W0.cell? ⟨b4, 0, none⟩ = some (.int .u64 (x.a : Int)) ∧ W0.cell? ⟨b4, 1, none⟩ = some (.int .i64 (-1))) := by
    rw [HW.out, ← Hb4.out, ← Hbr.out, ← Hbx.out, ← Hb0.out]
    generalize hG : ((w.alloc (.cells #[.int .u64 (x.a : Int), .int .i64 (-1), .int .u64 (m.si : Int), .int .u64 (m.st : Int), .int .u64 (m.sv : Int), .slice sa m.sd.length sc, .slice ea es.length c] 34)).alloc (.cells #[.int .u8 (x.k : Int), .int .u64 (x.a : Int), .int .u64 (x.b : Int), .int .i16 x.v, .slice x.p x.d.length x.c] 41)).alloc (.cells #[.int .u64 0, .int .i64 0, .int .u64 0, .int .u64 0, .int .u64 0, .slice none 0 0, .slice none 0 0] 34) = G
    have hgs : w.heap.size + 1 + 1 + 1 = G.heap.size := by rw [← hG]; simp
    rw [hgs]
    refine ⟨?_, ?_⟩
    all_goals simp
  have HZ : Hid (∀ i, i < 7 → (∃ u, W0.cell? ⟨br, i, none⟩ = some u) ∧ W0.frozen? ⟨br, i, none⟩ = false) := by
    intro i hi
    rw [HW.out, ← Hbr.out, ← Hbx.out, ← Hb0.out]
    generalize hG : (w.alloc (.cells #[.int .u64 (x.a : Int), .int .i64 (-1), .int .u64 (m.si : Int), .int .u64 (m.st : Int), .int .u64 (m.sv : Int), .slice sa m.sd.length sc, .slice ea es.length c] 34)).alloc (.cells #[.int .u8 (x.k : Int), .int .u64 (x.a : Int), .int .u64 (x.b : Int), .int .i16 x.v, .slice x.p x.d.length x.c] 41) = G
    have hgs : w.heap.size + 1 + 1 = G.heap.size := by rw [← hG]; simp
    rw [hgs]
    have f := (Fr.refl (fun _ => False) (G.alloc (.cells #[.int .u64 0, .int .i64 0, .int .u64 0, .int .u64 0, .int .u64 0, .slice none 0 0, .slice none 0 0] 34))).alloc (.cells #[.int .u64 (x.a : Int), .int .i64 (-1)] 29)
    have : i = 0 ∨ i = 1 ∨ i = 2 ∨ i = 3 ∨ i = 4 ∨ i = 5 ∨ i = 6 := by omega
    rcases this with rfl | rfl | rfl | rfl | rfl | rfl | rfl <;> exact ⟨⟨_, f.cell (by simp; rfl) (by simp)⟩, (f.frozenEq (by simp) (by simp)).trans (by simp)⟩
  obtain ⟨⟨c0, c1, c2, c3⟩, c4, c5, c6⟩ := HC.out
  obtain ⟨t0, t1⟩ := HTC.out
  have hrb : ¬ br = b0 := by have := Hbx.out; have := Hbr.out; omega
  have hrb4 : ¬ br = b4 := by have := Hb4.out; omega
  clear h hg hel hml hx hnew hxD
  go_enter Tryd.func11, Tryd.ntmps11
  go_wp2_with fail
  rw [← HW.out, Hb0.out, Hbx.out, Hbr.out, Hb4.out]
  obtain ⟨vn, hvn1, hvn2⟩ := HVN.out
  have KH : Hid (∀ w1, Calls Tryd.prog 15 #[.agg #[.int .u64 (x.a : Int), .int .i64 (-1)]] w1 fun e w' => ∃ a1 c1 q, e = .returned (.slice a1 (q : List Nat).length c1) ∧ Own w' w1.heap.size (.slice a1 q.length c1) q ∧ Hid (q = hardB x.a (-1)) ∧ Fr (fun _ => False) w1 w') := fun w1 => refhard_step x.a vn (-1) w1 hxa hvn1 hvn2
  clear hvn1 hvn2 hv1 hv2 hv hka
  have HCD : Hid (W0.drew.cell? ⟨b0, 0, none⟩ = some (.int .u64 (x.a : Int)) ∧ W0.drew.cell? ⟨b0, 1, none⟩ = some (.int .i64 (-1)) ∧ W0.drew.cell? ⟨b0, 2, none⟩ = some (.int .u64 (m.si : Int)) ∧ W0.drew.cell? ⟨b0, 3, none⟩ = some (.int .u64 (m.st : Int)) ∧ W0.drew.cell? ⟨b0, 4, none⟩ = some (.int .u64 (m.sv : Int)) ∧ W0.drew.cell? ⟨b0, 5, none⟩ = some (.slice sa m.sd.length sc) ∧ W0.drew.cell? ⟨b0, 6, none⟩ = some (.slice ea es.length c) ∧ W0.drew.cell? ⟨b4, 0, none⟩ = some (.int .u64 (x.a : Int)) ∧ W0.drew.cell? ⟨b4, 1, none⟩ = some (.int .i64 (-1))) := ⟨c0, c1, c2, c3, c4, c5, c6, t0, t1⟩
  go_region_held3 (fun w' => w'.cell? ⟨b0, 0, none⟩ = some (.int .u64 (x.a : Int)) ∧ w'.cell? ⟨b0, 1, none⟩ = some (.int .i64 (-1)) ∧ w'.cell? ⟨b0, 2, none⟩ = some (.int .u64 (m.si : Int)) ∧ w'.cell? ⟨b0, 3, none⟩ = some (.int .u64 (m.st : Int)) ∧ w'.cell? ⟨b0, 4, none⟩ = some (.int .u64 (m.sv : Int)) ∧ w'.cell? ⟨b0, 5, none⟩ = some (.slice sa m.sd.length sc) ∧ w'.cell? ⟨b0, 6, none⟩ = some (.slice ea es.length c) ∧ w'.cell? ⟨b4, 0, none⟩ = some (.int .u64 (x.a : Int)) ∧ w'.cell? ⟨b4, 1, none⟩ = some (.int .i64 (-1))) (first | (with_reducible exact ⟨c0, c1, c2, c3, c4, c5, c6, t0, t1⟩) | (with_reducible exact HCD.out) | (with_reducible exact ⟨e0, e1, e2, e3, e4, e5, e6, s0, s1⟩) | go_keep) (first
    | (go_at_call 15; refine (KH.out _).mono ?_; rintro e w2 ⟨aq, cq, q, rfl, oq, EQ, f2⟩; have FQ : Hid (Fr (fun _ => False) W0 w2) := (Fr.refl (fun _ => False) W0).drew.trans f2; have OQ : Hid (Own w2 W0.heap.size (.slice aq q.length cq) q) := oq; have e0 := FQ.out.cell c0 (by simp); have e1 := FQ.out.cell c1 (by simp); have e2 := FQ.out.cell c2 (by simp); have e3 := FQ.out.cell c3 (by simp); have e4 := FQ.out.cell c4 (by simp); have e5 := FQ.out.cell c5 (by simp); have e6 := FQ.out.cell c6 (by simp); have s0 := FQ.out.cell t0 (by simp); have s1 := FQ.out.cell t1 (by simp); have zc : Hid (∀ i, i < 7 → (∃ u, w2.cell? ⟨br, i, none⟩ = some u) ∧ w2.frozen? ⟨br, i, none⟩ = false) := (fun i hi => by
        obtain ⟨⟨u, hu⟩, hz⟩ := HZ.out i hi
        exact ⟨⟨u, FQ.out.cell hu (by simp)⟩, (FQ.out.frozenEq (a := ⟨br, i, none⟩) (World.block_lt_of_cell? _ _ hu) (by simp)).trans hz⟩); obtain ⟨⟨u0, d0⟩, z0⟩ := zc.out 0 (by omega); obtain ⟨⟨u1, d1⟩, z1⟩ := zc.out 1 (by omega); obtain ⟨⟨u2, d2⟩, z2⟩ := zc.out 2 (by omega); obtain ⟨⟨u3, d3⟩, z3⟩ := zc.out 3 (by omega); obtain ⟨⟨u4, d4⟩, z4⟩ := zc.out 4 (by omega); obtain ⟨⟨u5, d5⟩, z5⟩ := zc.out 5 (by omega); obtain ⟨⟨u6, d6⟩, z6⟩ := zc.out 6 (by omega); clear oq f2))
  all_goals
    have HRQ : Hid (Row w2 aq q cq) := by obtain ⟨_, _, he, r, _⟩ := OQ.out.row; cases he; exact r
    have HQB : Hid (∀ a, aq = some a → W0.heap.size ≤ a.block) := by obtain ⟨_, _, he, _, hb⟩ := OQ.out.row; cases he; exact fun a ha => (hb a ha).1
    have FW2 : Hid (Fr (fun _ => False) w w2) := F0.out.trans FQ.out
    go_wp2
    obtain ⟨W6, HW6⟩ : ∃ W6, Hid (W6 = (((((((w2.setCell ⟨br, 0, none⟩ (.int .u64 (x.a : Int))).setCell ⟨br, 1, none⟩ (.int .i64 (-1))).setCell ⟨br, 2, none⟩ (.int .u64 (m.si : Int))).setCell ⟨br, 3, none⟩ (.int .u64 (m.st : Int))).setCell ⟨br, 4, none⟩ (.int .u64 (m.sv : Int))).setCell ⟨br, 5, none⟩ (.slice sa m.sd.length sc)).setCell ⟨br, 6, none⟩ (.slice ea es.length c))) := ⟨_, rfl⟩
    have f6 : Fr (fun k => k = br) w2 W6 := by rw [HW6.out]; exact (((((((Fr.refl (fun k => k = br) w2).setCell (p := ⟨br, 0, none⟩) (Or.inl rfl) _).setCell (p := ⟨br, 1, none⟩) (Or.inl rfl) _).setCell (p := ⟨br, 2, none⟩) (Or.inl rfl) _).setCell (p := ⟨br, 3, none⟩) (Or.inl rfl) _).setCell (p := ⟨br, 4, none⟩) (Or.inl rfl) _).setCell (p := ⟨br, 5, none⟩) (Or.inl rfl) _).setCell (p := ⟨br, 6, none⟩) (Or.inl rfl) _
    have o : ∀ {W : World} {i j : Nat} {u x : Value}, i ≠ j → W.cell? ⟨br, j, none⟩ = some x → (W.setCell ⟨br, i, none⟩ u).cell? ⟨br, j, none⟩ = some x := fun _hij hc => (World.cell?_setCell_other _ _ _ _ (by simp)).trans hc
    have q' : ∀ {W : World} {i : Nat} {u x : Value}, W.cell? ⟨br, i, none⟩ = some x → (W.setCell ⟨br, i, none⟩ u).cell? ⟨br, i, none⟩ = some u := fun hc => World.cell?_setCell_same _ _ _ hc
    have g0 : W6.cell? ⟨br, 0, none⟩ = some (.int .u64 (x.a : Int)) := by rw [HW6.out]; exact o (by omega) (o (by omega) (o (by omega) (o (by omega) (o (by omega) (o (by omega) (q' (d0)))))))
    have g1 : W6.cell? ⟨br, 1, none⟩ = some (.int .i64 (-1)) := by rw [HW6.out]; exact o (by omega) (o (by omega) (o (by omega) (o (by omega) (o (by omega) (q' (o (i := 0) (by omega) (d1)))))))
    have g2 : W6.cell? ⟨br, 2, none⟩ = some (.int .u64 (m.si : Int)) := by rw [HW6.out]; exact o (by omega) (o (by omega) (o (by omega) (o (by omega) (q' (o (i := 1) (by omega) (o (i := 0) (by omega) (d2)))))))
    have g3 : W6.cell? ⟨br, 3, none⟩ = some (.int .u64 (m.st : Int)) := by rw [HW6.out]; exact o (by omega) (o (by omega) (o (by omega) (q' (o (i := 2) (by omega) (o (i := 1) (by omega) (o (i := 0) (by omega) (d3)))))))
    have g4 : W6.cell? ⟨br, 4, none⟩ = some (.int .u64 (m.sv : Int)) := by rw [HW6.out]; exact o (by omega) (o (by omega) (q' (o (i := 3) (by omega) (o (i := 2) (by omega) (o (i := 1) (by omega) (o (i := 0) (by omega) (d4)))))))
    have g5 : W6.cell? ⟨br, 5, none⟩ = some (.slice sa m.sd.length sc) := by rw [HW6.out]; exact o (by omega) (q' (o (i := 4) (by omega) (o (i := 3) (by omega) (o (i := 2) (by omega) (o (i := 1) (by omega) (o (i := 0) (by omega) (d5)))))))
    have g6 : W6.cell? ⟨br, 6, none⟩ = some (.slice ea es.length c) := by rw [HW6.out]; exact q' (o (i := 5) (by omega) (o (i := 4) (by omega) (o (i := 3) (by omega) (o (i := 2) (by omega) (o (i := 1) (by omega) (o (i := 0) (by omega) (d6)))))))
    rw [← HW6.out]
    have FF : Hid (Fr (fun _ => False) w W6) := FW2.out.trans' f6 (fun i hi e => by have := Hb0.out; have := Hbx.out; have := Hbr.out; omega)
    have RQ : Hid (Row W6 aq q cq) := f6.row HRQ.out (fun _ a ha => by have := HQB.out a ha; have := HWS.out; have := Hb4.out; omega)
    have QB : Hid (∀ a, aq = some a → w.heap.size ≤ a.block) := fun a ha => by have := HQB.out a ha; have := HWS.out; have := Hb0.out; have := Hbx.out; have := Hbr.out; have := Hb4.out; omega
    exact bodyPost_ret (v := .tuple #[.slice aq q.length cq, .agg #[.int .u64 (x.a : Int), .int .i64 (-1), .int .u64 (m.si : Int), .int .u64 (m.st : Int), .int .u64 (m.sv : Int), .slice sa m.sd.length sc, .slice ea es.length c], .bool true]) (by simp [results, Tryd.results11, go_sem, g0, g1, g2, g3, g4, g5, g6]) rfl (⟨aq, q, cq, { m with tm := x.a, vo := (-1) }, sa, sc, ea, es, c, by rw [HOK.out]; rfl, RQ.out, QB.out, by show _ = _; rw [HQM.out]; exact EQ.out, HM.out.symm, ⟨FF.out.row HI.out.srow (by simp), HI.out.sblk, HI.out.erow.fr FF.out (by simp) (by simp), HI.out.eq⟩, FF.out⟩)
set_option maxRecDepth 100000 in
set_option maxHeartbeats 800000 in
theorem lawb_3n (m : Img) (sa : Option Addr) (sc : Nat) (ea : Option Addr) (es : List En) (c : Nat) (x : Rc) (n : Nat) (w : World) (D : Nat → Prop) (h : ImV w D m sa sc ea es c) (hg : Good m n) (hn : n ≤ 1000) (hx : RcG w x) (hxd : x.d.length ≤ 200) (hnew : ∀ k, w.heap.size ≤ k → D k) (hxD : x.d ≠ [] → ∀ a, x.p = some a → D a.block) (hk : x.k % 4 = 3) (hv : x.v < -1) :
    Calls Tryd.prog 11 #[aggI m sa sc ea es.length c, .agg #[.int .u8 (x.k : Int), .int .u64 (x.a : Int), .int .u64 (x.b : Int), .int .i16 x.v, .slice x.p x.d.length x.c]] w fun e w' => BytesPost w D m x e w' := by
  have hel : es.length = m.es.length := by rw [← h.eq, List.length_map]
  have hml := hg.len
  have hen : es.length ≤ 1000 := by omega
  have hsi := hg.si
  have hka : (x.k : Int) % 4 = 3 := by omega
  have hk8 := hx.k
  have hv1 := hx.v.1
  have hv2 := hx.v.2
  have hxa := hx.a
  have hxb := hx.b
  have hxl := hx.row.1
  have hxc := hx.row.2.1
  unfold maxLen at hxc
  have HI : Hid (ImV w D m sa sc ea es c) := h
  have HG : Hid (Good m n) := hg
  have HX : Hid (RcG w x) := hx
  have HXD : Hid (x.d ≠ [] → ∀ a, x.p = some a → D a.block) := hxD
  have HN : Hid (∀ k, w.heap.size ≤ k → D k) := hnew
  have HK : Hid (x.k % 4 = 3) := hk
  have HEL : Hid (es.length = m.es.length) := hel
  have HXL : Hid (x.d.length ≤ 200) := hxd
  obtain ⟨r9, hr9, Hr9⟩ : ∃ r9 : Nat, (x.a : Int) % 9 = (r9 : Int) ∧ Hid (r9 = x.a % 9) := ⟨x.a % 9, by omega, rfl⟩
  have hne0 : ¬ x.k % 4 = 0 := by omega
  have hE : isE x = false := by unfold isE; simp; omega
  have HOK : Hid (okOf m x = true) := by show _ = _; unfold okOf; rw [hE]; rfl
  have HM : Hid (nextOf m x = { m with si := r9, st := x.b, sv := x.a, sd := x.d, es := [] }) := by show _ = _; unfold nextOf; rw [if_neg hne0, hE, Hr9.out]; rfl
  have HQM : Hid (bytesOf m x = snapB (r9, x.b, x.a, x.d)) := by show _ = _; unfold bytesOf; rw [if_neg hne0, hE, Hr9.out]; rfl
  have h9 : r9 < 9 := by rw [Hr9.out]; omega
  clear hne0 hE
  unfold aggI
  obtain ⟨W0, HW⟩ : ∃ W0, Hid (W0 = (((w.alloc (.cells #[.int .u64 (m.tm : Int), .int .i64 m.vo, .int .u64 (r9 : Int), .int .u64 (x.b : Int), .int .u64 (x.a : Int), .slice x.p x.d.length x.c, .slice none 0 0] 34)).alloc (.cells #[.int .u8 (x.k : Int), .int .u64 (x.a : Int), .int .u64 (x.b : Int), .int .i16 x.v, .slice x.p x.d.length x.c] 41)).alloc (.cells #[.int .u64 0, .int .i64 0, .int .u64 0, .int .u64 0, .int .u64 0, .slice none 0 0, .slice none 0 0] 34)).alloc (.cells #[.int .u64 (r9 : Int), .int .u64 (x.b : Int), .int .u64 (x.a : Int), .slice x.p x.d.length x.c] 31)) := ⟨_, rfl⟩
  obtain ⟨b0, Hb0⟩ : ∃ b0, Hid (w.heap.size = b0) := ⟨_, rfl⟩
  obtain ⟨bx, Hbx⟩ : ∃ bx, Hid (b0 + 1 = bx) := ⟨_, rfl⟩
  obtain ⟨br, Hbr⟩ : ∃ br, Hid (bx + 1 = br) := ⟨_, rfl⟩
  obtain ⟨b4, Hb4⟩ : ∃ b4, Hid (br + 1 = b4) := ⟨_, rfl⟩
  have F0 : Hid (Fr (fun _ => False) w W0) := by show Fr _ _ _; rw [HW.out]; exact ((((Fr.refl _ _).alloc _).alloc _).alloc _).alloc _
  have HWS : Hid (W0.heap.size = b4 + 1) := by show _ = _; rw [HW.out, ← Hb4.out, ← Hbr.out, ← Hbx.out, ← Hb0.out]; simp
  have HC : Hid ((W0.cell? ⟨b0, 0, none⟩ = some (.int .u64 (m.tm : Int)) ∧ W0.cell? ⟨b0, 1, none⟩ = some (.int .i64 m.vo) ∧ W0.cell? ⟨b0, 2, none⟩ = some (.int .u64 (r9 : Int)) ∧ W0.cell? ⟨b0, 3, none⟩ = some (.int .u64 (x.b : Int))) ∧ (W0.cell? ⟨b0, 4, none⟩ = some (.int .u64 (x.a : Int)) ∧ W0.cell? ⟨b0, 5, none⟩ = some (.slice x.p x.d.length x.c) ∧ W0.cell? ⟨b0, 6, none⟩ = some (.slice none 0 0))) := by
    rw [HW.out, ← Hb0.out]
    have f := (((Fr.refl (fun _ => False) (w.alloc (.cells #[.int .u64 (m.tm : Int), .int .i64 m.vo, .int .u64 (r9 : Int), .int .u64 (x.b : Int), .int .u64 (x.a : Int), .slice x.p x.d.length x.c, .slice none 0 0] 34))).alloc (.cells #[.int .u8 (x.k : Int), .int .u64 (x.a : Int), .int .u64 (x.b : Int), .int .i16 x.v, .slice x.p x.d.length x.c] 41)).alloc (.cells #[.int .u64 0, .int .i64 0, .int .u64 0, .int .u64 0, .int .u64 0, .slice none 0 0, .slice none 0 0] 34)).alloc (.cells #[.int .u64 (r9 : Int), .int .u64 (x.b : Int), .int .u64 (x.a : Int), .slice x.p x.d.length x.c] 31)
    refine ⟨⟨f.cell ?_ (by simp), f.cell ?_ (by simp), f.cell ?_ (by simp), f.cell ?_ (by simp)⟩, f.cell ?_ (by simp), f.cell ?_ (by simp), f.cell ?_ (by simp)⟩
    all_goals simp
  have HTC : Hid (W0.cell? ⟨b4, 0, none⟩ = some (.int .u64 (r9 : Int)) ∧ W0.cell? ⟨b4, 1, none⟩ = some (.int .u64 (x.b : Int)) ∧ W0.cell? ⟨b4, 2, none⟩ = some (.int .u64 (x.a : Int)) ∧ W0.cell? ⟨b4, 3, none⟩ = some (.slice x.p x.d.length x.c)) := by
    rw [HW.out, ← Hb4.out, ← Hbr.out, ← Hbx.out, ← Hb0.out]
    generalize hG : ((w.alloc (.cells #[.int .u64 (m.tm : Int), .int .i64 m.vo, .int .u64 (r9 : Int), .int .u64 (x.b : Int), .int .u64 (x.a : Int), .slice x.p x.d.length x.c, .slice none 0 0] 34)).alloc (.cells #[.int .u8 (x.k : Int), .int .u64 (x.a : Int), .int .u64 (x.b : Int), .int .i16 x.v, .slice x.p x.d.length x.c] 41)).alloc (.cells #[.int .u64 0, .int .i64 0, .int .u64 0, .int .u64 0, .int .u64 0, .slice none 0 0, .slice none 0 0] 34) = G
    have hgs : w.heap.size + 1 + 1 + 1 = G.heap.size := by rw [← hG]; simp
    rw [hgs]
    refine ⟨?_, ?_, ?_, ?_⟩
    all_goals simp
  have HZ : Hid (∀ i, i < 7 → (∃ u, W0.cell? ⟨br, i, none⟩ = some u) ∧ W0.frozen? ⟨br, i, none⟩ = false) := by
    intro i hi
    rw [HW.out, ← Hbr.out, ← Hbx.out, ← Hb0.out]
    generalize hG : (w.alloc (.cells #[.int .u64 (m.tm : Int), .int .i64 m.vo, .int .u64 (r9 : Int), .int .u64 (x.b : Int), .int .u64 (x.a : Int), .slice x.p x.d.length x.c, .slice none 0 0] 34)).alloc (.cells #[.int .u8 (x.k : Int), .int .u64 (x.a : Int), .int .u64 (x.b : Int), .int .i16 x.v, .slice x.p x.d.length x.c] 41) = G
    have hgs : w.heap.size + 1 + 1 = G.heap.size := by rw [← hG]; simp
    rw [hgs]
    have f := (Fr.refl (fun _ => False) (G.alloc (.cells #[.int .u64 0, .int .i64 0, .int .u64 0, .int .u64 0, .int .u64 0, .slice none 0 0, .slice none 0 0] 34))).alloc (.cells #[.int .u64 (r9 : Int), .int .u64 (x.b : Int), .int .u64 (x.a : Int), .slice x.p x.d.length x.c] 31)
    have : i = 0 ∨ i = 1 ∨ i = 2 ∨ i = 3 ∨ i = 4 ∨ i = 5 ∨ i = 6 := by omega
    rcases this with rfl | rfl | rfl | rfl | rfl | rfl | rfl <;> exact ⟨⟨_, f.cell (by simp; rfl) (by simp)⟩, (f.frozenEq (by simp) (by simp)).trans (by simp)⟩
  obtain ⟨⟨c0, c1, c2, c3⟩, c4, c5, c6⟩ := HC.out
  obtain ⟨t0, t1, t2, t3⟩ := HTC.out
  have hrb : ¬ br = b0 := by have := Hbx.out; have := Hbr.out; omega
  have hrb4 : ¬ br = b4 := by have := Hb4.out; omega
  clear h hg hel hml hx hnew hxD
  go_enter Tryd.func11, Tryd.ntmps11
  go_wp2_with fail
  rw [← HW.out, Hb0.out, Hbx.out, Hbr.out, Hb4.out]
  have KH : Hid (∀ w1, Fr (fun _ => False) W0 w1 → Calls Tryd.prog 31 #[.agg #[.int .u64 (r9 : Int), .int .u64 (x.b : Int), .int .u64 (x.a : Int), .slice x.p x.d.length x.c]] w1 fun e w' => ∃ a1 c1 q, e = .returned (.slice a1 (q : List Nat).length c1) ∧ Own w' w1.heap.size (.slice a1 q.length c1) q ∧ Hid (q = snapB (r9, x.b, x.a, x.d)) ∧ Fr (fun _ => False) w1 w') := fun w1 f => refsnap_step r9 x.b x.a x.p x.d x.c w1 ((F0.out.trans f).row HX.out.row (by simp)) (by omega) hxb hxa (by omega)
  have FD : Hid (Fr (fun _ => False) W0 W0.drew) := (Fr.refl (fun _ => False) W0).drew
  clear hv1 hv2 hv hka
  have HCD : Hid (W0.drew.cell? ⟨b0, 0, none⟩ = some (.int .u64 (m.tm : Int)) ∧ W0.drew.cell? ⟨b0, 1, none⟩ = some (.int .i64 m.vo) ∧ W0.drew.cell? ⟨b0, 2, none⟩ = some (.int .u64 (r9 : Int)) ∧ W0.drew.cell? ⟨b0, 3, none⟩ = some (.int .u64 (x.b : Int)) ∧ W0.drew.cell? ⟨b0, 4, none⟩ = some (.int .u64 (x.a : Int)) ∧ W0.drew.cell? ⟨b0, 5, none⟩ = some (.slice x.p x.d.length x.c) ∧ W0.drew.cell? ⟨b0, 6, none⟩ = some (.slice none 0 0) ∧ W0.drew.cell? ⟨b4, 0, none⟩ = some (.int .u64 (r9 : Int)) ∧ W0.drew.cell? ⟨b4, 1, none⟩ = some (.int .u64 (x.b : Int)) ∧ W0.drew.cell? ⟨b4, 2, none⟩ = some (.int .u64 (x.a : Int)) ∧ W0.drew.cell? ⟨b4, 3, none⟩ = some (.slice x.p x.d.length x.c)) := ⟨c0, c1, c2, c3, c4, c5, c6, t0, t1, t2, t3⟩
  go_region_held3 (fun w' => w'.cell? ⟨b0, 0, none⟩ = some (.int .u64 (m.tm : Int)) ∧ w'.cell? ⟨b0, 1, none⟩ = some (.int .i64 m.vo) ∧ w'.cell? ⟨b0, 2, none⟩ = some (.int .u64 (r9 : Int)) ∧ w'.cell? ⟨b0, 3, none⟩ = some (.int .u64 (x.b : Int)) ∧ w'.cell? ⟨b0, 4, none⟩ = some (.int .u64 (x.a : Int)) ∧ w'.cell? ⟨b0, 5, none⟩ = some (.slice x.p x.d.length x.c) ∧ w'.cell? ⟨b0, 6, none⟩ = some (.slice none 0 0) ∧ w'.cell? ⟨b4, 0, none⟩ = some (.int .u64 (r9 : Int)) ∧ w'.cell? ⟨b4, 1, none⟩ = some (.int .u64 (x.b : Int)) ∧ w'.cell? ⟨b4, 2, none⟩ = some (.int .u64 (x.a : Int)) ∧ w'.cell? ⟨b4, 3, none⟩ = some (.slice x.p x.d.length x.c)) (first | (with_reducible exact ⟨c0, c1, c2, c3, c4, c5, c6, t0, t1, t2, t3⟩) | (with_reducible exact HCD.out) | (with_reducible exact ⟨e0, e1, e2, e3, e4, e5, e6, s0, s1, s2, s3⟩) | go_keep) (first
    | (go_at_call 31; refine (KH.out _ FD.out).mono ?_; rintro e w2 ⟨aq, cq, q, rfl, oq, EQ, f2⟩; have FQ : Hid (Fr (fun _ => False) W0 w2) := (Fr.refl (fun _ => False) W0).drew.trans f2; have OQ : Hid (Own w2 W0.heap.size (.slice aq q.length cq) q) := oq; have e0 := FQ.out.cell c0 (by simp); have e1 := FQ.out.cell c1 (by simp); have e2 := FQ.out.cell c2 (by simp); have e3 := FQ.out.cell c3 (by simp); have e4 := FQ.out.cell c4 (by simp); have e5 := FQ.out.cell c5 (by simp); have e6 := FQ.out.cell c6 (by simp); have s0 := FQ.out.cell t0 (by simp); have s1 := FQ.out.cell t1 (by simp); have s2 := FQ.out.cell t2 (by simp); have s3 := FQ.out.cell t3 (by simp); have zc : Hid (∀ i, i < 7 → (∃ u, w2.cell? ⟨br, i, none⟩ = some u) ∧ w2.frozen? ⟨br, i, none⟩ = false) := (fun i hi => by
        obtain ⟨⟨u, hu⟩, hz⟩ := HZ.out i hi
        exact ⟨⟨u, FQ.out.cell hu (by simp)⟩, (FQ.out.frozenEq (a := ⟨br, i, none⟩) (World.block_lt_of_cell? _ _ hu) (by simp)).trans hz⟩); obtain ⟨⟨u0, d0⟩, z0⟩ := zc.out 0 (by omega); obtain ⟨⟨u1, d1⟩, z1⟩ := zc.out 1 (by omega); obtain ⟨⟨u2, d2⟩, z2⟩ := zc.out 2 (by omega); obtain ⟨⟨u3, d3⟩, z3⟩ := zc.out 3 (by omega); obtain ⟨⟨u4, d4⟩, z4⟩ := zc.out 4 (by omega); obtain ⟨⟨u5, d5⟩, z5⟩ := zc.out 5 (by omega); obtain ⟨⟨u6, d6⟩, z6⟩ := zc.out 6 (by omega); clear oq f2))
  all_goals
    have HRQ : Hid (Row w2 aq q cq) := by obtain ⟨_, _, he, r, _⟩ := OQ.out.row; cases he; exact r
    have HQB : Hid (∀ a, aq = some a → W0.heap.size ≤ a.block) := by obtain ⟨_, _, he, _, hb⟩ := OQ.out.row; cases he; exact fun a ha => (hb a ha).1
    have FW2 : Hid (Fr (fun _ => False) w w2) := F0.out.trans FQ.out
    go_wp2
    obtain ⟨W6, HW6⟩ : ∃ W6, Hid (W6 = (((((((w2.setCell ⟨br, 0, none⟩ (.int .u64 (m.tm : Int))).setCell ⟨br, 1, none⟩ (.int .i64 m.vo)).setCell ⟨br, 2, none⟩ (.int .u64 (r9 : Int))).setCell ⟨br, 3, none⟩ (.int .u64 (x.b : Int))).setCell ⟨br, 4, none⟩ (.int .u64 (x.a : Int))).setCell ⟨br, 5, none⟩ (.slice x.p x.d.length x.c)).setCell ⟨br, 6, none⟩ (.slice none 0 0))) := ⟨_, rfl⟩
    have f6 : Fr (fun k => k = br) w2 W6 := by rw [HW6.out]; exact (((((((Fr.refl (fun k => k = br) w2).setCell (p := ⟨br, 0, none⟩) (Or.inl rfl) _).setCell (p := ⟨br, 1, none⟩) (Or.inl rfl) _).setCell (p := ⟨br, 2, none⟩) (Or.inl rfl) _).setCell (p := ⟨br, 3, none⟩) (Or.inl rfl) _).setCell (p := ⟨br, 4, none⟩) (Or.inl rfl) _).setCell (p := ⟨br, 5, none⟩) (Or.inl rfl) _).setCell (p := ⟨br, 6, none⟩) (Or.inl rfl) _
    have o : ∀ {W : World} {i j : Nat} {u x : Value}, i ≠ j → W.cell? ⟨br, j, none⟩ = some x → (W.setCell ⟨br, i, none⟩ u).cell? ⟨br, j, none⟩ = some x := fun _hij hc => (World.cell?_setCell_other _ _ _ _ (by simp)).trans hc
    have q' : ∀ {W : World} {i : Nat} {u x : Value}, W.cell? ⟨br, i, none⟩ = some x → (W.setCell ⟨br, i, none⟩ u).cell? ⟨br, i, none⟩ = some u := fun hc => World.cell?_setCell_same _ _ _ hc
    have g0 : W6.cell? ⟨br, 0, none⟩ = some (.int .u64 (m.tm : Int)) := by rw [HW6.out]; exact o (by omega) (o (by omega) (o (by omega) (o (by omega) (o (by omega) (o (by omega) (q' (d0)))))))
    have g1 : W6.cell? ⟨br, 1, none⟩ = some (.int .i64 m.vo) := by rw [HW6.out]; exact o (by omega) (o (by omega) (o (by omega) (o (by omega) (o (by omega) (q' (o (i := 0) (by omega) (d1)))))))
    have g2 : W6.cell? ⟨br, 2, none⟩ = some (.int .u64 (r9 : Int)) := by rw [HW6.out]; exact o (by omega) (o (by omega) (o (by omega) (o (by omega) (q' (o (i := 1) (by omega) (o (i := 0) (by omega) (d2)))))))
    have g3 : W6.cell? ⟨br, 3, none⟩ = some (.int .u64 (x.b : Int)) := by rw [HW6.out]; exact o (by omega) (o (by omega) (o (by omega) (q' (o (i := 2) (by omega) (o (i := 1) (by omega) (o (i := 0) (by omega) (d3)))))))
    have g4 : W6.cell? ⟨br, 4, none⟩ = some (.int .u64 (x.a : Int)) := by rw [HW6.out]; exact o (by omega) (o (by omega) (q' (o (i := 3) (by omega) (o (i := 2) (by omega) (o (i := 1) (by omega) (o (i := 0) (by omega) (d4)))))))
    have g5 : W6.cell? ⟨br, 5, none⟩ = some (.slice x.p x.d.length x.c) := by rw [HW6.out]; exact o (by omega) (q' (o (i := 4) (by omega) (o (i := 3) (by omega) (o (i := 2) (by omega) (o (i := 1) (by omega) (o (i := 0) (by omega) (d5)))))))
    have g6 : W6.cell? ⟨br, 6, none⟩ = some (.slice none 0 0) := by rw [HW6.out]; exact q' (o (i := 5) (by omega) (o (i := 4) (by omega) (o (i := 3) (by omega) (o (i := 2) (by omega) (o (i := 1) (by omega) (o (i := 0) (by omega) (d6)))))))
    rw [← HW6.out]
    have FF : Hid (Fr (fun _ => False) w W6) := FW2.out.trans' f6 (fun i hi e => by have := Hb0.out; have := Hbx.out; have := Hbr.out; omega)
    have RQ : Hid (Row W6 aq q cq) := f6.row HRQ.out (fun _ a ha => by have := HQB.out a ha; have := HWS.out; have := Hb4.out; omega)
    have QB : Hid (∀ a, aq = some a → w.heap.size ≤ a.block) := fun a ha => by have := HQB.out a ha; have := HWS.out; have := Hb0.out; have := Hbx.out; have := Hbr.out; have := Hb4.out; omega
    exact bodyPost_ret (v := .tuple #[.slice aq q.length cq, .agg #[.int .u64 (m.tm : Int), .int .i64 m.vo, .int .u64 (r9 : Int), .int .u64 (x.b : Int), .int .u64 (x.a : Int), .slice x.p x.d.length x.c, .slice none 0 0], .bool true]) (by simp [results, Tryd.results11, go_sem, g0, g1, g2, g3, g4, g5, g6]) rfl (⟨aq, q, cq, { m with si := r9, st := x.b, sv := x.a, sd := x.d, es := [] }, x.p, x.c, none, [], 0, by rw [HOK.out]; rfl, RQ.out, QB.out, by show _ = _; rw [HQM.out]; exact EQ.out, HM.out.symm, ⟨FF.out.row HX.out.row (by simp), HXD.out, ERow.nil _ _ _, rfl⟩, FF.out⟩)
set_option maxRecDepth 100000 in
set_option maxHeartbeats 800000 in
theorem lawb_1n (m : Img) (sa : Option Addr) (sc : Nat) (ea : Option Addr) (es : List En) (c : Nat) (x : Rc) (n : Nat) (w : World) (D : Nat → Prop) (h : ImV w D m sa sc ea es c) (hg : Good m n) (hn : n ≤ 1000) (hx : RcG w x) (hxd : x.d.length ≤ 200) (hnew : ∀ k, w.heap.size ≤ k → D k) (hxD : x.d ≠ [] → ∀ a, x.p = some a → D a.block) (hk : x.k % 4 = 1) (hv : x.v < -1) :
    Calls Tryd.prog 11 #[aggI m sa sc ea es.length c, .agg #[.int .u8 (x.k : Int), .int .u64 (x.a : Int), .int .u64 (x.b : Int), .int .i16 x.v, .slice x.p x.d.length x.c]] w fun e w' => BytesPost w D m x e w' := by
  have hel : es.length = m.es.length := by rw [← h.eq, List.length_map]
  have hml := hg.len
  have hen : es.length ≤ 1000 := by omega
  have hsi := hg.si
  have hka : (x.k : Int) % 4 = 1 := by omega
  have hk8 := hx.k
  have hv1 := hx.v.1
  have hv2 := hx.v.2
  have hxa := hx.a
  have hxb := hx.b
  have hxl := hx.row.1
  have hxc := hx.row.2.1
  unfold maxLen at hxc
  have HI : Hid (ImV w D m sa sc ea es c) := h
  have HG : Hid (Good m n) := hg
  have HX : Hid (RcG w x) := hx
  have HXD : Hid (x.d ≠ [] → ∀ a, x.p = some a → D a.block) := hxD
  have HN : Hid (∀ k, w.heap.size ≤ k → D k) := hnew
  have HK : Hid (x.k % 4 = 1) := hk
  have HEL : Hid (es.length = m.es.length) := hel
  have HXL : Hid (x.d.length ≤ 200) := hxd
  obtain ⟨ix, hix, Hix⟩ : ∃ ix : Nat, (x.a : Int) % 12 = (ix : Int) ∧ Hid (ix = ixOf m x) := ⟨x.a % 12, by omega, by show _ = _; unfold ixOf; rw [if_neg (by omega)]⟩
  have hixl : ix < 18446744073709551616 := by omega
  obtain ⟨kd, hkd, Hkd⟩ : ∃ kd : Nat, (x.k : Int) / 4 % 2 = (kd : Int) ∧ Hid (kd = x.k / 4 % 2) := ⟨x.k / 4 % 2, by omega, rfl⟩
  have hkd2 : kd < 2 := by rw [Hkd.out]; omega
  have hne0 : ¬ x.k % 4 = 0 := by omega
  have hE : isE x = true := by unfold isE; simp; omega
  have HEN : Hid (entOf m x = (ix, x.b, kd, x.d)) := by show _ = _; unfold entOf; rw [Hix.out, Hkd.out]
  have HOK : Hid (okOf m x = canE m ix) := by show _ = _; unfold okOf; rw [hE, if_pos rfl, Hix.out]
  have HM : Hid (nextOf m x = if canE m ix then putE m (ix, x.b, kd, x.d) else m) := by show _ = _; unfold nextOf; rw [if_neg hne0, hE, if_pos rfl, HEN.out, Hix.out]
  have HQM : Hid (bytesOf m x = entB (ix, x.b, kd, x.d)) := by show _ = _; unfold bytesOf; rw [if_neg hne0, hE, if_pos rfl, HEN.out]
  clear hne0 hE
  unfold aggI
  obtain ⟨W0, HW⟩ : ∃ W0, Hid (W0 = (((w.alloc (.cells #[.int .u64 (m.tm : Int), .int .i64 m.vo, .int .u64 (m.si : Int), .int .u64 (m.st : Int), .int .u64 (m.sv : Int), .slice sa m.sd.length sc, .slice ea es.length c] 34)).alloc (.cells #[.int .u8 (x.k : Int), .int .u64 (x.a : Int), .int .u64 (x.b : Int), .int .i16 x.v, .slice x.p x.d.length x.c] 41)).alloc (.cells #[.int .u64 0, .int .i64 0, .int .u64 0, .int .u64 0, .int .u64 0, .slice none 0 0, .slice none 0 0] 34)).alloc (.cells #[.int .u64 (ix : Int), .int .u64 (x.b : Int), .int .u8 (kd : Int), .slice x.p x.d.length x.c] 50)) := ⟨_, rfl⟩
  obtain ⟨b0, Hb0⟩ : ∃ b0, Hid (w.heap.size = b0) := ⟨_, rfl⟩
  obtain ⟨bx, Hbx⟩ : ∃ bx, Hid (b0 + 1 = bx) := ⟨_, rfl⟩
  obtain ⟨br, Hbr⟩ : ∃ br, Hid (bx + 1 = br) := ⟨_, rfl⟩
  obtain ⟨b4, Hb4⟩ : ∃ b4, Hid (br + 1 = b4) := ⟨_, rfl⟩
  have F0 : Hid (Fr (fun _ => False) w W0) := by show Fr _ _ _; rw [HW.out]; exact ((((Fr.refl _ _).alloc _).alloc _).alloc _).alloc _
  have HWS : Hid (W0.heap.size = b4 + 1) := by show _ = _; rw [HW.out, ← Hb4.out, ← Hbr.out, ← Hbx.out, ← Hb0.out]; simp
  have HC : Hid ((W0.cell? ⟨b0, 0, none⟩ = some (.int .u64 (m.tm : Int)) ∧ W0.cell? ⟨b0, 1, none⟩ = some (.int .i64 m.vo) ∧ W0.cell? ⟨b0, 2, none⟩ = some (.int .u64 (m.si : Int)) ∧ W0.cell? ⟨b0, 3, none⟩ = some (.int .u64 (m.st : Int))) ∧ (W0.cell? ⟨b0, 4, none⟩ = some (.int .u64 (m.sv : Int)) ∧ W0.cell? ⟨b0, 5, none⟩ = some (.slice sa m.sd.length sc) ∧ W0.cell? ⟨b0, 6, none⟩ = some (.slice ea es.length c))) := by
    rw [HW.out, ← Hb0.out]
    have f := (((Fr.refl (fun _ => False) (w.alloc (.cells #[.int .u64 (m.tm : Int), .int .i64 m.vo, .int .u64 (m.si : Int), .int .u64 (m.st : Int), .int .u64 (m.sv : Int), .slice sa m.sd.length sc, .slice ea es.length c] 34))).alloc (.cells #[.int .u8 (x.k : Int), .int .u64 (x.a : Int), .int .u64 (x.b : Int), .int .i16 x.v, .slice x.p x.d.length x.c] 41)).alloc (.cells #[.int .u64 0, .int .i64 0, .int .u64 0, .int .u64 0, .int .u64 0, .slice none 0 0, .slice none 0 0] 34)).alloc (.cells #[.int .u64 (ix : Int), .int .u64 (x.b : Int), .int .u8 (kd : Int), .slice x.p x.d.length x.c] 50)
    refine ⟨⟨f.cell ?_ (by simp), f.cell ?_ (by simp), f.cell ?_ (by simp), f.cell ?_ (by simp)⟩, f.cell ?_ (by simp), f.cell ?_ (by simp), f.cell ?_ (by simp)⟩
    all_goals simp
  have HTC : Hid (W0.cell? ⟨b4, 0, none⟩ = some (.int .u64 (ix : Int)) ∧ W0.cell? ⟨b4, 1, none⟩ = some (.int .u64 (x.b : Int)) ∧ W0.cell? ⟨b4, 2, none⟩ = some (.int .u8 (kd : Int)) ∧ W0.cell? ⟨b4, 3, none⟩ = some (.slice x.p x.d.length x.c)) := by
    rw [HW.out, ← Hb4.out, ← Hbr.out, ← Hbx.out, ← Hb0.out]
    generalize hG : ((w.alloc (.cells #[.int .u64 (m.tm : Int), .int .i64 m.vo, .int .u64 (m.si : Int), .int .u64 (m.st : Int), .int .u64 (m.sv : Int), .slice sa m.sd.length sc, .slice ea es.length c] 34)).alloc (.cells #[.int .u8 (x.k : Int), .int .u64 (x.a : Int), .int .u64 (x.b : Int), .int .i16 x.v, .slice x.p x.d.length x.c] 41)).alloc (.cells #[.int .u64 0, .int .i64 0, .int .u64 0, .int .u64 0, .int .u64 0, .slice none 0 0, .slice none 0 0] 34) = G
    have hgs : w.heap.size + 1 + 1 + 1 = G.heap.size := by rw [← hG]; simp
    rw [hgs]
    refine ⟨?_, ?_, ?_, ?_⟩
    all_goals simp
  have HZ : Hid (∀ i, i < 7 → (∃ u, W0.cell? ⟨br, i, none⟩ = some u) ∧ W0.frozen? ⟨br, i, none⟩ = false) := by
    intro i hi
    rw [HW.out, ← Hbr.out, ← Hbx.out, ← Hb0.out]
    generalize hG : (w.alloc (.cells #[.int .u64 (m.tm : Int), .int .i64 m.vo, .int .u64 (m.si : Int), .int .u64 (m.st : Int), .int .u64 (m.sv : Int), .slice sa m.sd.length sc, .slice ea es.length c] 34)).alloc (.cells #[.int .u8 (x.k : Int), .int .u64 (x.a : Int), .int .u64 (x.b : Int), .int .i16 x.v, .slice x.p x.d.length x.c] 41) = G
    have hgs : w.heap.size + 1 + 1 = G.heap.size := by rw [← hG]; simp
    rw [hgs]
    have f := (Fr.refl (fun _ => False) (G.alloc (.cells #[.int .u64 0, .int .i64 0, .int .u64 0, .int .u64 0, .int .u64 0, .slice none 0 0, .slice none 0 0] 34))).alloc (.cells #[.int .u64 (ix : Int), .int .u64 (x.b : Int), .int .u8 (kd : Int), .slice x.p x.d.length x.c] 50)
    have : i = 0 ∨ i = 1 ∨ i = 2 ∨ i = 3 ∨ i = 4 ∨ i = 5 ∨ i = 6 := by omega
    rcases this with rfl | rfl | rfl | rfl | rfl | rfl | rfl <;> exact ⟨⟨_, f.cell (by simp; rfl) (by simp)⟩, (f.frozenEq (by simp) (by simp)).trans (by simp)⟩
  obtain ⟨⟨c0, c1, c2, c3⟩, c4, c5, c6⟩ := HC.out
  obtain ⟨t0, t1, t2, t3⟩ := HTC.out
  have hrb : ¬ br = b0 := by have := Hbx.out; have := Hbr.out; omega
  have hrb4 : ¬ br = b4 := by have := Hb4.out; omega
  clear h hg hel hml hx hnew hxD
  go_enter Tryd.func11, Tryd.ntmps11
  go_wp2_with fail
  rw [← HW.out, Hb0.out, Hbx.out, Hbr.out, Hb4.out]
  have hm5 : ∀ v : Nat, True := fun _ => trivial
  clear hm5
  have KA : Hid (Calls _ _ _ _ _) := add_any m sa sc ea es c ⟨ix, x.b, kd, x.d, x.p, x.c⟩ n W0 (fun k => D k ∧ k ≠ br) ((HI.out.mono (E := fun k => D k ∧ k ≠ br) (fun k hk hd => ⟨hd, by have := Hb0.out; have := Hbx.out; have := Hbr.out; omega⟩)).fr F0.out (by simp)) HG.out hn ⟨hixl, hxb, by show kd < 256; omega, F0.out.row HX.out.row (by simp), fun hne a ha => ⟨HXD.out hne a ha, by have := row_blk HX.out.row hne a ha; have := Hb0.out; have := Hbx.out; have := Hbr.out; omega⟩⟩ (fun k hk => ⟨HN.out k (Nat.le_trans F0.out.size hk), by have := HWS.out; have := Hb4.out; omega⟩)
  clear hv1 hv2 hv hka hix hkd
  refine KA.out.mono ?_
  rintro e w2 ⟨m2, sa2, sc2, ea2, es2, cx2, rfl, HM2, hi2, f2⟩
  have HI2 : Hid (ImV w2 (fun k => D k ∧ k ≠ br) m2 sa2 sc2 ea2 es2 cx2) := hi2
  have FQ0 : Hid (Fr (fun _ => False) W0 w2) := f2
  obtain ⟨w3, HW3⟩ : ∃ w3, Hid (w3 = w2.alloc (.cells #[.int .u64 (m2.tm : Int), .int .i64 m2.vo, .int .u64 (m2.si : Int), .int .u64 (m2.st : Int), .int .u64 (m2.sv : Int), .slice sa2 m2.sd.length sc2, .slice ea2 es2.length cx2] 34)) := ⟨_, rfl⟩
  obtain ⟨b5, Hb5⟩ : ∃ b5, Hid (w2.heap.size = b5) := ⟨_, rfl⟩
  have FQ : Hid (Fr (fun _ => False) W0 w3) := by show Fr _ _ _; rw [HW3.out]; exact f2.alloc _
  have FQ3 : Hid (Fr (fun _ => False) w2 w3) := by show Fr _ _ _; rw [HW3.out]; exact (Fr.refl _ _).alloc _
  have HV5 : Hid (w3.cell? ⟨b5, 0, none⟩ = some (.int .u64 (m2.tm : Int)) ∧ w3.cell? ⟨b5, 1, none⟩ = some (.int .i64 m2.vo) ∧ w3.cell? ⟨b5, 2, none⟩ = some (.int .u64 (m2.si : Int)) ∧ w3.cell? ⟨b5, 3, none⟩ = some (.int .u64 (m2.st : Int)) ∧ w3.cell? ⟨b5, 4, none⟩ = some (.int .u64 (m2.sv : Int)) ∧ w3.cell? ⟨b5, 5, none⟩ = some (.slice sa2 m2.sd.length sc2) ∧ w3.cell? ⟨b5, 6, none⟩ = some (.slice ea2 es2.length cx2)) := by
    rw [HW3.out, ← Hb5.out]
    exact ⟨by simp, by simp, by simp, by simp, by simp, by simp, by simp⟩
  obtain ⟨bc, HBC⟩ : ∃ bc, Hid (canE m ix = bc) := ⟨_, rfl⟩
  rw [show canE m (En.p ⟨ix, x.b, kd, x.d, x.p, x.c⟩).1 = canE m ix from rfl, HBC.out]
  unfold aggI
  clear hi2 f2 KA
  go_wp2_with fail
  rw [← HW3.out, Hb5.out]
  obtain ⟨p0, p1, p2, p3, p4, p5, p6⟩ := HV5.out
  have t0' := FQ.out.cell t0 (by simp)
  have t1' := FQ.out.cell t1 (by simp)
  have t2' := FQ.out.cell t2 (by simp)
  have t3' := FQ.out.cell t3 (by simp)
  have hrb5 : ¬ br = b5 := by have := HWS.out; have := Hb4.out; have := Hb5.out; have := FQ0.out.size; omega
  have KH : Hid (∀ w1, Fr (fun _ => False) W0 w1 → Calls Tryd.prog 16 #[.agg #[.int .u64 (ix : Int), .int .u64 (x.b : Int), .int .u8 (kd : Int), .slice x.p x.d.length x.c]] w1 fun e w' => ∃ a1 c1 q, e = .returned (.slice a1 (q : List Nat).length c1) ∧ Own w' w1.heap.size (.slice a1 q.length c1) q ∧ Hid (q = entB (ix, x.b, kd, x.d)) ∧ Fr (fun _ => False) w1 w') := fun w1 f => refentry_step ⟨ix, x.b, kd, x.d, x.p, x.c⟩ w1 ((F0.out.trans f).row HX.out.row (by simp)) hixl hxb (by show kd < 256; omega) (by show x.d.length ≤ _; omega)
  have FD : Hid (Fr (fun _ => False) W0 w3.drew) := FQ.out.drew
  have HCD : Hid (w3.drew.cell? ⟨b5, 0, none⟩ = some (.int .u64 (m2.tm : Int)) ∧ w3.drew.cell? ⟨b5, 1, none⟩ = some (.int .i64 m2.vo) ∧ w3.drew.cell? ⟨b5, 2, none⟩ = some (.int .u64 (m2.si : Int)) ∧ w3.drew.cell? ⟨b5, 3, none⟩ = some (.int .u64 (m2.st : Int)) ∧ w3.drew.cell? ⟨b5, 4, none⟩ = some (.int .u64 (m2.sv : Int)) ∧ w3.drew.cell? ⟨b5, 5, none⟩ = some (.slice sa2 m2.sd.length sc2) ∧ w3.drew.cell? ⟨b5, 6, none⟩ = some (.slice ea2 es2.length cx2) ∧ w3.drew.cell? ⟨b4, 0, none⟩ = some (.int .u64 (ix : Int)) ∧ w3.drew.cell? ⟨b4, 1, none⟩ = some (.int .u64 (x.b : Int)) ∧ w3.drew.cell? ⟨b4, 2, none⟩ = some (.int .u8 (kd : Int)) ∧ w3.drew.cell? ⟨b4, 3, none⟩ = some (.slice x.p x.d.length x.c)) := ⟨p0, p1, p2, p3, p4, p5, p6, t0', t1', t2', t3'⟩
  clear c0 c1 c2 c3 c4 c5 c6 t0 t1 t2 t3
  go_region_held3 (fun w' => w'.cell? ⟨b5, 0, none⟩ = some (.int .u64 (m2.tm : Int)) ∧ w'.cell? ⟨b5, 1, none⟩ = some (.int .i64 m2.vo) ∧ w'.cell? ⟨b5, 2, none⟩ = some (.int .u64 (m2.si : Int)) ∧ w'.cell? ⟨b5, 3, none⟩ = some (.int .u64 (m2.st : Int)) ∧ w'.cell? ⟨b5, 4, none⟩ = some (.int .u64 (m2.sv : Int)) ∧ w'.cell? ⟨b5, 5, none⟩ = some (.slice sa2 m2.sd.length sc2) ∧ w'.cell? ⟨b5, 6, none⟩ = some (.slice ea2 es2.length cx2) ∧ w'.cell? ⟨b4, 0, none⟩ = some (.int .u64 (ix : Int)) ∧ w'.cell? ⟨b4, 1, none⟩ = some (.int .u64 (x.b : Int)) ∧ w'.cell? ⟨b4, 2, none⟩ = some (.int .u8 (kd : Int)) ∧ w'.cell? ⟨b4, 3, none⟩ = some (.slice x.p x.d.length x.c)) (first | (with_reducible exact ⟨p0, p1, p2, p3, p4, p5, p6, t0', t1', t2', t3'⟩) | (with_reducible exact HCD.out) | (with_reducible exact ⟨e0, e1, e2, e3, e4, e5, e6, s0, s1, s2, s3⟩) | go_keep) (first
    | (go_at_call 16; refine (KH.out _ FD.out).mono ?_; rintro e w4 ⟨aq, cq, q, rfl, oq, EQ, f4⟩; have FQ4 : Hid (Fr (fun _ => False) w3 w4) := (Fr.refl (fun _ => False) w3).drew.trans f4; have FR4 : Hid (Fr (fun _ => False) W0 w4) := FQ.out.trans FQ4.out; have OQ : Hid (Own w4 W0.heap.size (.slice aq q.length cq) q) := oq.rebase FQ.out.size; have e0 := FQ4.out.cell p0 (by simp); have e1 := FQ4.out.cell p1 (by simp); have e2 := FQ4.out.cell p2 (by simp); have e3 := FQ4.out.cell p3 (by simp); have e4 := FQ4.out.cell p4 (by simp); have e5 := FQ4.out.cell p5 (by simp); have e6 := FQ4.out.cell p6 (by simp); have s0 := FQ4.out.cell t0' (by simp); have s1 := FQ4.out.cell t1' (by simp); have s2 := FQ4.out.cell t2' (by simp); have s3 := FQ4.out.cell t3' (by simp); have zc : Hid (∀ i, i < 7 → (∃ u, w4.cell? ⟨br, i, none⟩ = some u) ∧ w4.frozen? ⟨br, i, none⟩ = false) := (fun i hi => by
        obtain ⟨⟨u, hu⟩, hz⟩ := HZ.out i hi
        exact ⟨⟨u, FR4.out.cell hu (by simp)⟩, (FR4.out.frozenEq (a := ⟨br, i, none⟩) (World.block_lt_of_cell? _ _ hu) (by simp)).trans hz⟩); obtain ⟨⟨u0, d0⟩, z0⟩ := zc.out 0 (by omega); obtain ⟨⟨u1, d1⟩, z1⟩ := zc.out 1 (by omega); obtain ⟨⟨u2, d2⟩, z2⟩ := zc.out 2 (by omega); obtain ⟨⟨u3, d3⟩, z3⟩ := zc.out 3 (by omega); obtain ⟨⟨u4, d4⟩, z4⟩ := zc.out 4 (by omega); obtain ⟨⟨u5, d5⟩, z5⟩ := zc.out 5 (by omega); obtain ⟨⟨u6, d6⟩, z6⟩ := zc.out 6 (by omega); clear oq f4))
  all_goals
    have HRQ : Hid (Row w4 aq q cq) := by obtain ⟨_, _, he, r, _⟩ := OQ.out.row; cases he; exact r
    have HQB : Hid (∀ a, aq = some a → W0.heap.size ≤ a.block) := by obtain ⟨_, _, he, _, hb⟩ := OQ.out.row; cases he; exact fun a ha => (hb a ha).1
    have FW2 : Hid (Fr (fun _ => False) w w4) := F0.out.trans FR4.out
    have FI4 : Hid (Fr (fun _ => False) w2 w4) := FQ3.out.trans FQ4.out
    have HI24 : ∀ W6, Fr (fun k => k = br) w4 W6 → ImV W6 D m2 sa2 sc2 ea2 es2 cx2 := fun W6 f6 => ((HI2.out.fr FI4.out (by simp)).fr f6 (fun k hk => hk.2)).mono (fun k _ hk => hk.1)
    go_wp2
    obtain ⟨W6, HW6⟩ : ∃ W6, Hid (W6 = (((((((w4.setCell ⟨br, 0, none⟩ (.int .u64 (m2.tm : Int))).setCell ⟨br, 1, none⟩ (.int .i64 m2.vo)).setCell ⟨br, 2, none⟩ (.int .u64 (m2.si : Int))).setCell ⟨br, 3, none⟩ (.int .u64 (m2.st : Int))).setCell ⟨br, 4, none⟩ (.int .u64 (m2.sv : Int))).setCell ⟨br, 5, none⟩ (.slice sa2 m2.sd.length sc2)).setCell ⟨br, 6, none⟩ (.slice ea2 es2.length cx2))) := ⟨_, rfl⟩
    have f6 : Fr (fun k => k = br) w4 W6 := by rw [HW6.out]; exact (((((((Fr.refl (fun k => k = br) w4).setCell (p := ⟨br, 0, none⟩) (Or.inl rfl) _).setCell (p := ⟨br, 1, none⟩) (Or.inl rfl) _).setCell (p := ⟨br, 2, none⟩) (Or.inl rfl) _).setCell (p := ⟨br, 3, none⟩) (Or.inl rfl) _).setCell (p := ⟨br, 4, none⟩) (Or.inl rfl) _).setCell (p := ⟨br, 5, none⟩) (Or.inl rfl) _).setCell (p := ⟨br, 6, none⟩) (Or.inl rfl) _
    have o : ∀ {W : World} {i j : Nat} {u x : Value}, i ≠ j → W.cell? ⟨br, j, none⟩ = some x → (W.setCell ⟨br, i, none⟩ u).cell? ⟨br, j, none⟩ = some x := fun _hij hc => (World.cell?_setCell_other _ _ _ _ (by simp)).trans hc
    have q' : ∀ {W : World} {i : Nat} {u x : Value}, W.cell? ⟨br, i, none⟩ = some x → (W.setCell ⟨br, i, none⟩ u).cell? ⟨br, i, none⟩ = some u := fun hc => World.cell?_setCell_same _ _ _ hc
    have g0 : W6.cell? ⟨br, 0, none⟩ = some (.int .u64 (m2.tm : Int)) := by rw [HW6.out]; exact o (by omega) (o (by omega) (o (by omega) (o (by omega) (o (by omega) (o (by omega) (q' (d0)))))))
    have g1 : W6.cell? ⟨br, 1, none⟩ = some (.int .i64 m2.vo) := by rw [HW6.out]; exact o (by omega) (o (by omega) (o (by omega) (o (by omega) (o (by omega) (q' (o (i := 0) (by omega) (d1)))))))
    have g2 : W6.cell? ⟨br, 2, none⟩ = some (.int .u64 (m2.si : Int)) := by rw [HW6.out]; exact o (by omega) (o (by omega) (o (by omega) (o (by omega) (q' (o (i := 1) (by omega) (o (i := 0) (by omega) (d2)))))))
    have g3 : W6.cell? ⟨br, 3, none⟩ = some (.int .u64 (m2.st : Int)) := by rw [HW6.out]; exact o (by omega) (o (by omega) (o (by omega) (q' (o (i := 2) (by omega) (o (i := 1) (by omega) (o (i := 0) (by omega) (d3)))))))
    have g4 : W6.cell? ⟨br, 4, none⟩ = some (.int .u64 (m2.sv : Int)) := by rw [HW6.out]; exact o (by omega) (o (by omega) (q' (o (i := 3) (by omega) (o (i := 2) (by omega) (o (i := 1) (by omega) (o (i := 0) (by omega) (d4)))))))
    have g5 : W6.cell? ⟨br, 5, none⟩ = some (.slice sa2 m2.sd.length sc2) := by rw [HW6.out]; exact o (by omega) (q' (o (i := 4) (by omega) (o (i := 3) (by omega) (o (i := 2) (by omega) (o (i := 1) (by omega) (o (i := 0) (by omega) (d5)))))))
    have g6 : W6.cell? ⟨br, 6, none⟩ = some (.slice ea2 es2.length cx2) := by rw [HW6.out]; exact q' (o (i := 5) (by omega) (o (i := 4) (by omega) (o (i := 3) (by omega) (o (i := 2) (by omega) (o (i := 1) (by omega) (o (i := 0) (by omega) (d6)))))))
    rw [← HW6.out]
    have FF : Hid (Fr (fun _ => False) w W6) := FW2.out.trans' f6 (fun i hi e => by have := Hb0.out; have := Hbx.out; have := Hbr.out; omega)
    have RQ : Hid (Row W6 aq q cq) := f6.row HRQ.out (fun _ a ha => by have := HQB.out a ha; have := HWS.out; have := Hb4.out; omega)
    have QB : Hid (∀ a, aq = some a → w.heap.size ≤ a.block) := fun a ha => by have := HQB.out a ha; have := HWS.out; have := Hb0.out; have := Hbx.out; have := Hbr.out; have := Hb4.out; omega
    have HI6 : ImV W6 D m2 sa2 sc2 ea2 es2 cx2 := HI24 W6 f6
    exact bodyPost_ret (v := .tuple #[.slice aq q.length cq, .agg #[.int .u64 (m2.tm : Int), .int .i64 m2.vo, .int .u64 (m2.si : Int), .int .u64 (m2.st : Int), .int .u64 (m2.sv : Int), .slice sa2 m2.sd.length sc2, .slice ea2 es2.length cx2], .bool bc]) (by simp [results, Tryd.results11, go_sem, g0, g1, g2, g3, g4, g5, g6]) rfl (⟨aq, q, cq, m2, sa2, sc2, ea2, es2, cx2, by rw [HOK.out, HBC.out]; rfl, RQ.out, QB.out, by show _ = _; rw [HQM.out]; exact EQ.out, by show _ = _; rw [HM2.out, HM.out]; rfl, HI6, FF.out⟩)
set_option maxRecDepth 100000 in
set_option maxHeartbeats 800000 in
theorem lawb_2n (m : Img) (sa : Option Addr) (sc : Nat) (ea : Option Addr) (es : List En) (c : Nat) (x : Rc) (n : Nat) (w : World) (D : Nat → Prop) (h : ImV w D m sa sc ea es c) (hg : Good m n) (hn : n ≤ 1000) (hx : RcG w x) (hxd : x.d.length ≤ 200) (hnew : ∀ k, w.heap.size ≤ k → D k) (hxD : x.d ≠ [] → ∀ a, x.p = some a → D a.block) (hk : x.k % 4 = 2) (hv : x.v < -1) :
    Calls Tryd.prog 11 #[aggI m sa sc ea es.length c, .agg #[.int .u8 (x.k : Int), .int .u64 (x.a : Int), .int .u64 (x.b : Int), .int .i16 x.v, .slice x.p x.d.length x.c]] w fun e w' => BytesPost w D m x e w' := by
  have hel : es.length = m.es.length := by rw [← h.eq, List.length_map]
  have hml := hg.len
  have hen : es.length ≤ 1000 := by omega
  have hsi := hg.si
  have hka : (x.k : Int) % 4 = 2 := by omega
  have hk8 := hx.k
  have hv1 := hx.v.1
  have hv2 := hx.v.2
  have hxa := hx.a
  have hxb := hx.b
  have hxl := hx.row.1
  have hxc := hx.row.2.1
  unfold maxLen at hxc
  have HI : Hid (ImV w D m sa sc ea es c) := h
  have HG : Hid (Good m n) := hg
  have HX : Hid (RcG w x) := hx
  have HXD : Hid (x.d ≠ [] → ∀ a, x.p = some a → D a.block) := hxD
  have HN : Hid (∀ k, w.heap.size ≤ k → D k) := hnew
  have HK : Hid (x.k % 4 = 2) := hk
  have HEL : Hid (es.length = m.es.length) := hel
  have HXL : Hid (x.d.length ≤ 200) := hxd
  obtain ⟨ix, hix, Hix⟩ : ∃ ix : Nat, (m.si : Int) + (es.length : Int) + 1 = (ix : Int) ∧ Hid (ix = ixOf m x) := ⟨m.si + es.length + 1, by omega, by show _ = _; unfold ixOf; rw [if_pos hk, hel]⟩
  have hixl : ix < 18446744073709551616 := by omega
  obtain ⟨kd, hkd, Hkd⟩ : ∃ kd : Nat, (x.k : Int) / 4 % 2 = (kd : Int) ∧ Hid (kd = x.k / 4 % 2) := ⟨x.k / 4 % 2, by omega, rfl⟩
  have hkd2 : kd < 2 := by rw [Hkd.out]; omega
  have hne0 : ¬ x.k % 4 = 0 := by omega
  have hE : isE x = true := by unfold isE; simp; omega
  have HEN : Hid (entOf m x = (ix, x.b, kd, x.d)) := by show _ = _; unfold entOf; rw [Hix.out, Hkd.out]
  have HOK : Hid (okOf m x = canE m ix) := by show _ = _; unfold okOf; rw [hE, if_pos rfl, Hix.out]
  have HM : Hid (nextOf m x = if canE m ix then putE m (ix, x.b, kd, x.d) else m) := by show _ = _; unfold nextOf; rw [if_neg hne0, hE, if_pos rfl, HEN.out, Hix.out]
  have HQM : Hid (bytesOf m x = entB (ix, x.b, kd, x.d)) := by show _ = _; unfold bytesOf; rw [if_neg hne0, hE, if_pos rfl, HEN.out]
  clear hne0 hE
  unfold aggI
  obtain ⟨W0, HW⟩ : ∃ W0, Hid (W0 = (((w.alloc (.cells #[.int .u64 (m.tm : Int), .int .i64 m.vo, .int .u64 (m.si : Int), .int .u64 (m.st : Int), .int .u64 (m.sv : Int), .slice sa m.sd.length sc, .slice ea es.length c] 34)).alloc (.cells #[.int .u8 (x.k : Int), .int .u64 (x.a : Int), .int .u64 (x.b : Int), .int .i16 x.v, .slice x.p x.d.length x.c] 41)).alloc (.cells #[.int .u64 0, .int .i64 0, .int .u64 0, .int .u64 0, .int .u64 0, .slice none 0 0, .slice none 0 0] 34)).alloc (.cells #[.int .u64 (ix : Int), .int .u64 (x.b : Int), .int .u8 (kd : Int), .slice x.p x.d.length x.c] 50)) := ⟨_, rfl⟩
  obtain ⟨b0, Hb0⟩ : ∃ b0, Hid (w.heap.size = b0) := ⟨_, rfl⟩
  obtain ⟨bx, Hbx⟩ : ∃ bx, Hid (b0 + 1 = bx) := ⟨_, rfl⟩
  obtain ⟨br, Hbr⟩ : ∃ br, Hid (bx + 1 = br) := ⟨_, rfl⟩
  obtain ⟨b4, Hb4⟩ : ∃ b4, Hid (br + 1 = b4) := ⟨_, rfl⟩
  have F0 : Hid (Fr (fun _ => False) w W0) := by show Fr _ _ _; rw [HW.out]; exact ((((Fr.refl _ _).alloc _).alloc _).alloc _).alloc _
  have HWS : Hid (W0.heap.size = b4 + 1) := by show _ = _; rw [HW.out, ← Hb4.out, ← Hbr.out, ← Hbx.out, ← Hb0.out]; simp
  have HC : Hid ((W0.cell? ⟨b0, 0, none⟩ = some (.int .u64 (m.tm : Int)) ∧ W0.cell? ⟨b0, 1, none⟩ = some (.int .i64 m.vo) ∧ W0.cell? ⟨b0, 2, none⟩ = some (.int .u64 (m.si : Int)) ∧ W0.cell? ⟨b0, 3, none⟩ = some (.int .u64 (m.st : Int))) ∧ (W0.cell? ⟨b0, 4, none⟩ = some (.int .u64 (m.sv : Int)) ∧ W0.cell? ⟨b0, 5, none⟩ = some (.slice sa m.sd.length sc) ∧ W0.cell? ⟨b0, 6, none⟩ = some (.slice ea es.length c))) := by
    rw [HW.out, ← Hb0.out]
    have f := (((Fr.refl (fun _ => False) (w.alloc (.cells #[.int .u64 (m.tm : Int), .int .i64 m.vo, .int .u64 (m.si : Int), .int .u64 (m.st : Int), .int .u64 (m.sv : Int), .slice sa m.sd.length sc, .slice ea es.length c] 34))).alloc (.cells #[.int .u8 (x.k : Int), .int .u64 (x.a : Int), .int .u64 (x.b : Int), .int .i16 x.v, .slice x.p x.d.length x.c] 41)).alloc (.cells #[.int .u64 0, .int .i64 0, .int .u64 0, .int .u64 0, .int .u64 0, .slice none 0 0, .slice none 0 0] 34)).alloc (.cells #[.int .u64 (ix : Int), .int .u64 (x.b : Int), .int .u8 (kd : Int), .slice x.p x.d.length x.c] 50)
    refine ⟨⟨f.cell ?_ (by simp), f.cell ?_ (by simp), f.cell ?_ (by simp), f.cell ?_ (by simp)⟩, f.cell ?_ (by simp), f.cell ?_ (by simp), f.cell ?_ (by simp)⟩
    all_goals simp
  have HTC : Hid (W0.cell? ⟨b4, 0, none⟩ = some (.int .u64 (ix : Int)) ∧ W0.cell? ⟨b4, 1, none⟩ = some (.int .u64 (x.b : Int)) ∧ W0.cell? ⟨b4, 2, none⟩ = some (.int .u8 (kd : Int)) ∧ W0.cell? ⟨b4, 3, none⟩ = some (.slice x.p x.d.length x.c)) := by
    rw [HW.out, ← Hb4.out, ← Hbr.out, ← Hbx.out, ← Hb0.out]
    generalize hG : ((w.alloc (.cells #[.int .u64 (m.tm : Int), .int .i64 m.vo, .int .u64 (m.si : Int), .int .u64 (m.st : Int), .int .u64 (m.sv : Int), .slice sa m.sd.length sc, .slice ea es.length c] 34)).alloc (.cells #[.int .u8 (x.k : Int), .int .u64 (x.a : Int), .int .u64 (x.b : Int), .int .i16 x.v, .slice x.p x.d.length x.c] 41)).alloc (.cells #[.int .u64 0, .int .i64 0, .int .u64 0, .int .u64 0, .int .u64 0, .slice none 0 0, .slice none 0 0] 34) = G
    have hgs : w.heap.size + 1 + 1 + 1 = G.heap.size := by rw [← hG]; simp
    rw [hgs]
    refine ⟨?_, ?_, ?_, ?_⟩
    all_goals simp
  have HZ : Hid (∀ i, i < 7 → (∃ u, W0.cell? ⟨br, i, none⟩ = some u) ∧ W0.frozen? ⟨br, i, none⟩ = false) := by
    intro i hi
    rw [HW.out, ← Hbr.out, ← Hbx.out, ← Hb0.out]
    generalize hG : (w.alloc (.cells #[.int .u64 (m.tm : Int), .int .i64 m.vo, .int .u64 (m.si : Int), .int .u64 (m.st : Int), .int .u64 (m.sv : Int), .slice sa m.sd.length sc, .slice ea es.length c] 34)).alloc (.cells #[.int .u8 (x.k : Int), .int .u64 (x.a : Int), .int .u64 (x.b : Int), .int .i16 x.v, .slice x.p x.d.length x.c] 41) = G
    have hgs : w.heap.size + 1 + 1 = G.heap.size := by rw [← hG]; simp
    rw [hgs]
    have f := (Fr.refl (fun _ => False) (G.alloc (.cells #[.int .u64 0, .int .i64 0, .int .u64 0, .int .u64 0, .int .u64 0, .slice none 0 0, .slice none 0 0] 34))).alloc (.cells #[.int .u64 (ix : Int), .int .u64 (x.b : Int), .int .u8 (kd : Int), .slice x.p x.d.length x.c] 50)
    have : i = 0 ∨ i = 1 ∨ i = 2 ∨ i = 3 ∨ i = 4 ∨ i = 5 ∨ i = 6 := by omega
    rcases this with rfl | rfl | rfl | rfl | rfl | rfl | rfl <;> exact ⟨⟨_, f.cell (by simp; rfl) (by simp)⟩, (f.frozenEq (by simp) (by simp)).trans (by simp)⟩
  obtain ⟨⟨c0, c1, c2, c3⟩, c4, c5, c6⟩ := HC.out
  obtain ⟨t0, t1, t2, t3⟩ := HTC.out
  have hrb : ¬ br = b0 := by have := Hbx.out; have := Hbr.out; omega
  have hrb4 : ¬ br = b4 := by have := Hb4.out; omega
  clear h hg hel hml hx hnew hxD
  go_enter Tryd.func11, Tryd.ntmps11
  go_wp2_with fail
  rw [← HW.out, Hb0.out, Hbx.out, Hbr.out, Hb4.out]
  have hm5 : ∀ v : Nat, True := fun _ => trivial
  clear hm5
  have KA : Hid (Calls _ _ _ _ _) := add_any m sa sc ea es c ⟨ix, x.b, kd, x.d, x.p, x.c⟩ n W0 (fun k => D k ∧ k ≠ br) ((HI.out.mono (E := fun k => D k ∧ k ≠ br) (fun k hk hd => ⟨hd, by have := Hb0.out; have := Hbx.out; have := Hbr.out; omega⟩)).fr F0.out (by simp)) HG.out hn ⟨hixl, hxb, by show kd < 256; omega, F0.out.row HX.out.row (by simp), fun hne a ha => ⟨HXD.out hne a ha, by have := row_blk HX.out.row hne a ha; have := Hb0.out; have := Hbx.out; have := Hbr.out; omega⟩⟩ (fun k hk => ⟨HN.out k (Nat.le_trans F0.out.size hk), by have := HWS.out; have := Hb4.out; omega⟩)
  clear hv1 hv2 hv hka hix hkd
  refine KA.out.mono ?_
  rintro e w2 ⟨m2, sa2, sc2, ea2, es2, cx2, rfl, HM2, hi2, f2⟩
  have HI2 : Hid (ImV w2 (fun k => D k ∧ k ≠ br) m2 sa2 sc2 ea2 es2 cx2) := hi2
  have FQ0 : Hid (Fr (fun _ => False) W0 w2) := f2
  obtain ⟨w3, HW3⟩ : ∃ w3, Hid (w3 = w2.alloc (.cells #[.int .u64 (m2.tm : Int), .int .i64 m2.vo, .int .u64 (m2.si : Int), .int .u64 (m2.st : Int), .int .u64 (m2.sv : Int), .slice sa2 m2.sd.length sc2, .slice ea2 es2.length cx2] 34)) := ⟨_, rfl⟩
  obtain ⟨b5, Hb5⟩ : ∃ b5, Hid (w2.heap.size = b5) := ⟨_, rfl⟩
  have FQ : Hid (Fr (fun _ => False) W0 w3) := by show Fr _ _ _; rw [HW3.out]; exact f2.alloc _
  have FQ3 : Hid (Fr (fun _ => False) w2 w3) := by show Fr _ _ _; rw [HW3.out]; exact (Fr.refl _ _).alloc _
  have HV5 : Hid (w3.cell? ⟨b5, 0, none⟩ = some (.int .u64 (m2.tm : Int)) ∧ w3.cell? ⟨b5, 1, none⟩ = some (.int .i64 m2.vo) ∧ w3.cell? ⟨b5, 2, none⟩ = some (.int .u64 (m2.si : Int)) ∧ w3.cell? ⟨b5, 3, none⟩ = some (.int .u64 (m2.st : Int)) ∧ w3.cell? ⟨b5, 4, none⟩ = some (.int .u64 (m2.sv : Int)) ∧ w3.cell? ⟨b5, 5, none⟩ = some (.slice sa2 m2.sd.length sc2) ∧ w3.cell? ⟨b5, 6, none⟩ = some (.slice ea2 es2.length cx2)) := by
    rw [HW3.out, ← Hb5.out]
    exact ⟨by simp, by simp, by simp, by simp, by simp, by simp, by simp⟩
  obtain ⟨bc, HBC⟩ : ∃ bc, Hid (canE m ix = bc) := ⟨_, rfl⟩
  rw [show canE m (En.p ⟨ix, x.b, kd, x.d, x.p, x.c⟩).1 = canE m ix from rfl, HBC.out]
  unfold aggI
  clear hi2 f2 KA
  go_wp2_with fail
  rw [← HW3.out, Hb5.out]
  obtain ⟨p0, p1, p2, p3, p4, p5, p6⟩ := HV5.out
  have t0' := FQ.out.cell t0 (by simp)
  have t1' := FQ.out.cell t1 (by simp)
  have t2' := FQ.out.cell t2 (by simp)
  have t3' := FQ.out.cell t3 (by simp)
  have hrb5 : ¬ br = b5 := by have := HWS.out; have := Hb4.out; have := Hb5.out; have := FQ0.out.size; omega
  have KH : Hid (∀ w1, Fr (fun _ => False) W0 w1 → Calls Tryd.prog 16 #[.agg #[.int .u64 (ix : Int), .int .u64 (x.b : Int), .int .u8 (kd : Int), .slice x.p x.d.length x.c]] w1 fun e w' => ∃ a1 c1 q, e = .returned (.slice a1 (q : List Nat).length c1) ∧ Own w' w1.heap.size (.slice a1 q.length c1) q ∧ Hid (q = entB (ix, x.b, kd, x.d)) ∧ Fr (fun _ => False) w1 w') := fun w1 f => refentry_step ⟨ix, x.b, kd, x.d, x.p, x.c⟩ w1 ((F0.out.trans f).row HX.out.row (by simp)) hixl hxb (by show kd < 256; omega) (by show x.d.length ≤ _; omega)
  have FD : Hid (Fr (fun _ => False) W0 w3.drew) := FQ.out.drew
  have HCD : Hid (w3.drew.cell? ⟨b5, 0, none⟩ = some (.int .u64 (m2.tm : Int)) ∧ w3.drew.cell? ⟨b5, 1, none⟩ = some (.int .i64 m2.vo) ∧ w3.drew.cell? ⟨b5, 2, none⟩ = some (.int .u64 (m2.si : Int)) ∧ w3.drew.cell? ⟨b5, 3, none⟩ = some (.int .u64 (m2.st : Int)) ∧ w3.drew.cell? ⟨b5, 4, none⟩ = some (.int .u64 (m2.sv : Int)) ∧ w3.drew.cell? ⟨b5, 5, none⟩ = some (.slice sa2 m2.sd.length sc2) ∧ w3.drew.cell? ⟨b5, 6, none⟩ = some (.slice ea2 es2.length cx2) ∧ w3.drew.cell? ⟨b4, 0, none⟩ = some (.int .u64 (ix : Int)) ∧ w3.drew.cell? ⟨b4, 1, none⟩ = some (.int .u64 (x.b : Int)) ∧ w3.drew.cell? ⟨b4, 2, none⟩ = some (.int .u8 (kd : Int)) ∧ w3.drew.cell? ⟨b4, 3, none⟩ = some (.slice x.p x.d.length x.c)) := ⟨p0, p1, p2, p3, p4, p5, p6, t0', t1', t2', t3'⟩
  clear c0 c1 c2 c3 c4 c5 c6 t0 t1 t2 t3
  go_region_held3 (fun w' => w'.cell? ⟨b5, 0, none⟩ = some (.int .u64 (m2.tm : Int)) ∧ w'.cell? ⟨b5, 1, none⟩ = some (.int .i64 m2.vo) ∧ w'.cell? ⟨b5, 2, none⟩ = some (.int .u64 (m2.si : Int)) ∧ w'.cell? ⟨b5, 3, none⟩ = some (.int .u64 (m2.st : Int)) ∧ w'.cell? ⟨b5, 4, none⟩ = some (.int .u64 (m2.sv : Int)) ∧ w'.cell? ⟨b5, 5, none⟩ = some (.slice sa2 m2.sd.length sc2) ∧ w'.cell? ⟨b5, 6, none⟩ = some (.slice ea2 es2.length cx2) ∧ w'.cell? ⟨b4, 0, none⟩ = some (.int .u64 (ix : Int)) ∧ w'.cell? ⟨b4, 1, none⟩ = some (.int .u64 (x.b : Int)) ∧ w'.cell? ⟨b4, 2, none⟩ = some (.int .u8 (kd : Int)) ∧ w'.cell? ⟨b4, 3, none⟩ = some (.slice x.p x.d.length x.c)) (first | (with_reducible exact ⟨p0, p1, p2, p3, p4, p5, p6, t0', t1', t2', t3'⟩) | (with_reducible exact HCD.out) | (with_reducible exact ⟨e0, e1, e2, e3, e4, e5, e6, s0, s1, s2, s3⟩) | go_keep) (first
    | (go_at_call 16; refine (KH.out _ FD.out).mono ?_; rintro e w4 ⟨aq, cq, q, rfl, oq, EQ, f4⟩; have FQ4 : Hid (Fr (fun _ => False) w3 w4) := (Fr.refl (fun _ => False) w3).drew.trans f4; have FR4 : Hid (Fr (fun _ => False) W0 w4) := FQ.out.trans FQ4.out; have OQ : Hid (Own w4 W0.heap.size (.slice aq q.length cq) q) := oq.rebase FQ.out.size; have e0 := FQ4.out.cell p0 (by simp); have e1 := FQ4.out.cell p1 (by simp); have e2 := FQ4.out.cell p2 (by simp); have e3 := FQ4.out.cell p3 (by simp); have e4 := FQ4.out.cell p4 (by simp); have e5 := FQ4.out.cell p5 (by simp); have e6 := FQ4.out.cell p6 (by simp); have s0 := FQ4.out.cell t0' (by simp); have s1 := FQ4.out.cell t1' (by simp); have s2 := FQ4.out.cell t2' (by simp); have s3 := FQ4.out.cell t3' (by simp); have zc : Hid (∀ i, i < 7 → (∃ u, w4.cell? ⟨br, i, none⟩ = some u) ∧ w4.frozen? ⟨br, i, none⟩ = false) := (fun i hi => by
        obtain ⟨⟨u, hu⟩, hz⟩ := HZ.out i hi
        exact ⟨⟨u, FR4.out.cell hu (by simp)⟩, (FR4.out.frozenEq (a := ⟨br, i, none⟩) (World.block_lt_of_cell? _ _ hu) (by simp)).trans hz⟩); obtain ⟨⟨u0, d0⟩, z0⟩ := zc.out 0 (by omega); obtain ⟨⟨u1, d1⟩, z1⟩ := zc.out 1 (by omega); obtain ⟨⟨u2, d2⟩, z2⟩ := zc.out 2 (by omega); obtain ⟨⟨u3, d3⟩, z3⟩ := zc.out 3 (by omega); obtain ⟨⟨u4, d4⟩, z4⟩ := zc.out 4 (by omega); obtain ⟨⟨u5, d5⟩, z5⟩ := zc.out 5 (by omega); obtain ⟨⟨u6, d6⟩, z6⟩ := zc.out 6 (by omega); clear oq f4))
  all_goals
    have HRQ : Hid (Row w4 aq q cq) := by obtain ⟨_, _, he, r, _⟩ := OQ.out.row; cases he; exact r
    have HQB : Hid (∀ a, aq = some a → W0.heap.size ≤ a.block) := by obtain ⟨_, _, he, _, hb⟩ := OQ.out.row; cases he; exact fun a ha => (hb a ha).1
    have FW2 : Hid (Fr (fun _ => False) w w4) := F0.out.trans FR4.out
    have FI4 : Hid (Fr (fun _ => False) w2 w4) := FQ3.out.trans FQ4.out
    have HI24 : ∀ W6, Fr (fun k => k = br) w4 W6 → ImV W6 D m2 sa2 sc2 ea2 es2 cx2 := fun W6 f6 => ((HI2.out.fr FI4.out (by simp)).fr f6 (fun k hk => hk.2)).mono (fun k _ hk => hk.1)
    go_wp2
    obtain ⟨W6, HW6⟩ : ∃ W6, Hid (W6 = (((((((w4.setCell ⟨br, 0, none⟩ (.int .u64 (m2.tm : Int))).setCell ⟨br, 1, none⟩ (.int .i64 m2.vo)).setCell ⟨br, 2, none⟩ (.int .u64 (m2.si : Int))).setCell ⟨br, 3, none⟩ (.int .u64 (m2.st : Int))).setCell ⟨br, 4, none⟩ (.int .u64 (m2.sv : Int))).setCell ⟨br, 5, none⟩ (.slice sa2 m2.sd.length sc2)).setCell ⟨br, 6, none⟩ (.slice ea2 es2.length cx2))) := ⟨_, rfl⟩
    have f6 : Fr (fun k => k = br) w4 W6 := by rw [HW6.out]; exact (((((((Fr.refl (fun k => k = br) w4).setCell (p := ⟨br, 0, none⟩) (Or.inl rfl) _).setCell (p := ⟨br, 1, none⟩) (Or.inl rfl) _).setCell (p := ⟨br, 2, none⟩) (Or.inl rfl) _).setCell (p := ⟨br, 3, none⟩) (Or.inl rfl) _).setCell (p := ⟨br, 4, none⟩) (Or.inl rfl) _).setCell (p := ⟨br, 5, none⟩) (Or.inl rfl) _).setCell (p := ⟨br, 6, none⟩) (Or.inl rfl) _
    have o : ∀ {W : World} {i j : Nat} {u x : Value}, i ≠ j → W.cell? ⟨br, j, none⟩ = some x → (W.setCell ⟨br, i, none⟩ u).cell? ⟨br, j, none⟩ = some x := fun _hij hc => (World.cell?_setCell_other _ _ _ _ (by simp)).trans hc
    have q' : ∀ {W : World} {i : Nat} {u x : Value}, W.cell? ⟨br, i, none⟩ = some x → (W.setCell ⟨br, i, none⟩ u).cell? ⟨br, i, none⟩ = some u := fun hc => World.cell?_setCell_same _ _ _ hc
    have g0 : W6.cell? ⟨br, 0, none⟩ = some (.int .u64 (m2.tm : Int)) := by rw [HW6.out]; exact o (by omega) (o (by omega) (o (by omega) (o (by omega) (o (by omega) (o (by omega) (q' (d0)))))))
    have g1 : W6.cell? ⟨br, 1, none⟩ = some (.int .i64 m2.vo) := by rw [HW6.out]; exact o (by omega) (o (by omega) (o (by omega) (o (by omega) (o (by omega) (q' (o (i := 0) (by omega) (d1)))))))
    have g2 : W6.cell? ⟨br, 2, none⟩ = some (.int .u64 (m2.si : Int)) := by rw [HW6.out]; exact o (by omega) (o (by omega) (o (by omega) (o (by omega) (q' (o (i := 1) (by omega) (o (i := 0) (by omega) (d2)))))))
    have g3 : W6.cell? ⟨br, 3, none⟩ = some (.int .u64 (m2.st : Int)) := by rw [HW6.out]; exact o (by omega) (o (by omega) (o (by omega) (q' (o (i := 2) (by omega) (o (i := 1) (by omega) (o (i := 0) (by omega) (d3)))))))
    have g4 : W6.cell? ⟨br, 4, none⟩ = some (.int .u64 (m2.sv : Int)) := by rw [HW6.out]; exact o (by omega) (o (by omega) (q' (o (i := 3) (by omega) (o (i := 2) (by omega) (o (i := 1) (by omega) (o (i := 0) (by omega) (d4)))))))
    have g5 : W6.cell? ⟨br, 5, none⟩ = some (.slice sa2 m2.sd.length sc2) := by rw [HW6.out]; exact o (by omega) (q' (o (i := 4) (by omega) (o (i := 3) (by omega) (o (i := 2) (by omega) (o (i := 1) (by omega) (o (i := 0) (by omega) (d5)))))))
    have g6 : W6.cell? ⟨br, 6, none⟩ = some (.slice ea2 es2.length cx2) := by rw [HW6.out]; exact q' (o (i := 5) (by omega) (o (i := 4) (by omega) (o (i := 3) (by omega) (o (i := 2) (by omega) (o (i := 1) (by omega) (o (i := 0) (by omega) (d6)))))))
    rw [← HW6.out]
    have FF : Hid (Fr (fun _ => False) w W6) := FW2.out.trans' f6 (fun i hi e => by have := Hb0.out; have := Hbx.out; have := Hbr.out; omega)
    have RQ : Hid (Row W6 aq q cq) := f6.row HRQ.out (fun _ a ha => by have := HQB.out a ha; have := HWS.out; have := Hb4.out; omega)
    have QB : Hid (∀ a, aq = some a → w.heap.size ≤ a.block) := fun a ha => by have := HQB.out a ha; have := HWS.out; have := Hb0.out; have := Hbx.out; have := Hbr.out; have := Hb4.out; omega
    have HI6 : ImV W6 D m2 sa2 sc2 ea2 es2 cx2 := HI24 W6 f6
    exact bodyPost_ret (v := .tuple #[.slice aq q.length cq, .agg #[.int .u64 (m2.tm : Int), .int .i64 m2.vo, .int .u64 (m2.si : Int), .int .u64 (m2.st : Int), .int .u64 (m2.sv : Int), .slice sa2 m2.sd.length sc2, .slice ea2 es2.length cx2], .bool bc]) (by simp [results, Tryd.results11, go_sem, g0, g1, g2, g3, g4, g5, g6]) rfl (⟨aq, q, cq, m2, sa2, sc2, ea2, es2, cx2, by rw [HOK.out, HBC.out]; rfl, RQ.out, QB.out, by show _ = _; rw [HQM.out]; exact EQ.out, by show _ = _; rw [HM2.out, HM.out]; rfl, HI6, FF.out⟩)
theorem lawb_any (m : Img) (sa : Option Addr) (sc : Nat) (ea : Option Addr) (es : List En) (c : Nat) (x : Rc) (n : Nat) (w : World) (D : Nat → Prop) (h : ImV w D m sa sc ea es c) (hg : Good m n) (hn : n ≤ 1000) (hx : RcG w x) (hxd : x.d.length ≤ 200) (hnew : ∀ k, w.heap.size ≤ k → D k) (hxD : x.d ≠ [] → ∀ a, x.p = some a → D a.block) :
    Calls Tryd.prog 11 #[aggI m sa sc ea es.length c, .agg #[.int .u8 (x.k : Int), .int .u64 (x.a : Int), .int .u64 (x.b : Int), .int .i16 x.v, .slice x.p x.d.length x.c]] w fun e w' => BytesPost w D m x e w' := by
  have h4 : x.k % 4 = 0 ∨ x.k % 4 = 1 ∨ x.k % 4 = 2 ∨ x.k % 4 = 3 := by omega
  by_cases hv : x.v < -1
  · rcases h4 with hk | hk | hk | hk
    · exact lawb_0n m sa sc ea es c x n w D h hg hn hx hxd hnew hxD hk hv
    · exact lawb_1n m sa sc ea es c x n w D h hg hn hx hxd hnew hxD hk hv
    · exact lawb_2n m sa sc ea es c x n w D h hg hn hx hxd hnew hxD hk hv
    · exact lawb_3n m sa sc ea es c x n w D h hg hn hx hxd hnew hxD hk hv
  · rcases h4 with hk | hk | hk | hk
    · exact lawb_0p m sa sc ea es c x n w D h hg hn hx hxd hnew hxD hk hv
    · exact lawb_1p m sa sc ea es c x n w D h hg hn hx hxd hnew hxD hk hv
    · exact lawb_2p m sa sc ea es c x n w D h hg hn hx hxd hnew hxD hk hv
    · exact lawb_3p m sa sc ea es c x n w D h hg hn hx hxd hnew hxD hk hv
end Go.Proofs.YtlcakglmheleeaaDoor
