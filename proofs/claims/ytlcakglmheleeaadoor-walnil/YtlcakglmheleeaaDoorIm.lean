/- An image in memory; what it takes. -/
import Derived.Test.YtlcakglmheleeaaDoorFirst
namespace Go.Proofs.YtlcakglmheleeaaDoor
open Go.RowKit

/-- AN IMAGE at block mb; its snapshot's data and its entries lie in blocks of D. -/
structure Im (w : World) (mb : Nat) (D : Nat → Prop) (m : Img) (sa : Option Addr) (sc : Nat) (v : Value) (es : List En) : Prop where
  c0 : w.cell? ⟨mb, 0, none⟩ = some (.int .u64 (m.tm : Int))
  c1 : w.cell? ⟨mb, 1, none⟩ = some (.int .i64 m.vo)
  c2 : w.cell? ⟨mb, 2, none⟩ = some (.int .u64 (m.si : Int))
  c3 : w.cell? ⟨mb, 3, none⟩ = some (.int .u64 (m.st : Int))
  c4 : w.cell? ⟨mb, 4, none⟩ = some (.int .u64 (m.sv : Int))
  c5 : w.cell? ⟨mb, 5, none⟩ = some (.slice sa m.sd.length sc)
  c6 : w.cell? ⟨mb, 6, none⟩ = some v
  z : ∀ i, i < 7 → w.frozen? ⟨mb, i, none⟩ = false
  srow : Row w sa m.sd sc
  sblk : m.sd ≠ [] → ∀ a, sa = some a → D a.block
  sap : m.sd ≠ [] → ∀ a, sa = some a → v.ownBlock ≠ some a.block
  own : OwnE w D v es
  eq : es.map En.p = m.es
  apart : ¬ D mb
  b0 : m.tm < 18446744073709551616
  b1 : -1 ≤ m.vo ∧ m.vo < 65535
  b2 : m.si < 18446744073709551616
  b3 : m.st < 18446744073709551616
  b4 : m.sv < 18446744073709551616
section
variable {w w1 : World} {mb : Nat} {D : Nat → Prop} {m : Img} {sa : Option Addr} {sc : Nat} {v : Value} {es : List En}
theorem Im.lt (h : Im w mb D m sa sc v es) : mb < w.heap.size := World.block_lt_of_cell? _ _ h.c0
theorem Im.fr {S : Nat → Prop} (h : Im w mb D m sa sc v es) (f : Fr S w w1) (hb : ¬ S mb) (hs : ∀ k, D k → ¬ S k) : Im w1 mb D m sa sc v es :=
  ⟨f.cell h.c0 hb, f.cell h.c1 hb, f.cell h.c2 hb, f.cell h.c3 hb, f.cell h.c4 hb, f.cell h.c5 hb, f.cell h.c6 hb, fun i hi => (f.frozenEq (a := ⟨mb, i, none⟩) h.lt hb).trans (h.z i hi), f.row h.srow (fun hne a ha => hs _ (h.sblk hne a ha)), h.sblk, h.sap, h.own.fr f hs, h.eq, h.apart, h.b0, h.b1, h.b2, h.b3, h.b4⟩
set_option maxHeartbeats 400000 in
theorem takeHard_any (h : Im w mb D m sa sc v es) (t : Nat) (vo : Int) (ht : t < 18446744073709551616) (hvo : -1 ≤ vo ∧ vo < 65535) :
    Calls Tryd.prog 51 #[.pointer (some ⟨mb, 0, none⟩), .agg #[.int .u64 (t : Int), .int .i64 vo]] w fun e w' => e = .returned (.bool true) ∧ Im w' mb D { m with tm := t, vo := vo } sa sc v es ∧ Fr (fun k => k = mb) w w' := by
  have HI : Hid (Im w mb D m sa sc v es) := h
  have HL := h.lt
  have c0 := h.c0
  have c1 := h.c1
  have z0 := h.z 0 (by omega)
  have z1 := h.z 1 (by omega)
  clear h
  go_enter Tryd.func51, Tryd.ntmps51
  go_wp2
  go_ret
  have h := HI.out
  have f := ((Fr.refl (fun k => k = mb) w).setCell (p := ⟨mb, 0, none⟩) (Or.inl rfl) (.int .u64 (t : Int))).setCell (p := ⟨mb, 1, none⟩) (Or.inl rfl) (.int .i64 vo)
  have d0 := World.cell?_setCell_same w ⟨mb, 0, none⟩ (.int .u64 (t : Int)) h.c0
  have o : ∀ {W : World} {i j : Nat} {u x : Value}, i ≠ j → W.cell? ⟨mb, j, none⟩ = some x → (W.setCell ⟨mb, i, none⟩ u).cell? ⟨mb, j, none⟩ = some x := fun _hij hc => (World.cell?_setCell_other _ _ _ _ (by simp)).trans hc
  refine ⟨rfl, Im.fr (S := fun _ => False) (w := (w.setCell ⟨mb, 0, none⟩ (.int .u64 (t : Int))).setCell ⟨mb, 1, none⟩ (.int .i64 vo)) ⟨o (by omega) d0, World.cell?_setCell_same _ _ _ (o (by omega) h.c1), o (by omega) (o (by omega) h.c2), o (by omega) (o (by omega) h.c3), o (by omega) (o (by omega) h.c4), o (by omega) (o (by omega) h.c5), o (by omega) (o (by omega) h.c6), fun i hi => by simpa using h.z i hi, f.row h.srow (fun hne a ha e => h.apart (e ▸ h.sblk hne a ha)), h.sblk, h.sap, h.own.fr f (fun k hk e => h.apart (e ▸ hk)), h.eq, h.apart, ht, hvo, h.b2, h.b3, h.b4⟩ ((Fr.refl _ _).alloc _) (by simp) (by simp), f.alloc _⟩
set_option maxHeartbeats 400000 in
theorem takeSnap_any (h : Im w mb D m sa sc v es) (i t k : Nat) (ao : Option Addr) (d : List Nat) (cap : Nat) (hr : Row w ao d cap) (hD : d ≠ [] → ∀ a, ao = some a → D a.block) (hi : i < 18446744073709551616) (ht : t < 18446744073709551616) (hk : k < 18446744073709551616) :
    Calls Tryd.prog 55 #[.pointer (some ⟨mb, 0, none⟩), .agg #[.int .u64 (i : Int), .int .u64 (t : Int), .int .u64 (k : Int), .slice ao d.length cap]] w fun e w' => e = .returned (.bool true) ∧ Im w' mb D { m with si := i, st := t, sv := k, sd := d, es := [] } ao cap (.slice none 0 0) [] ∧ Fr (fun k => k = mb) w w' := by
  have HI : Hid (Im w mb D m sa sc v es) := h
  have HL := h.lt
  have c2 := h.c2
  have c3 := h.c3
  have c4 := h.c4
  have c5 := h.c5
  have c6 := h.c6
  have z2 := h.z 2 (by omega)
  have z3 := h.z 3 (by omega)
  have z4 := h.z 4 (by omega)
  have z5 := h.z 5 (by omega)
  have z6 := h.z 6 (by omega)
  clear h
  go_enter Tryd.func55, Tryd.ntmps55
  go_wp2
  go_ret
  have h := HI.out
  have f := (((((Fr.refl (fun k => k = mb) w).setCell (p := ⟨mb, 2, none⟩) (Or.inl rfl) (.int .u64 (i : Int))).setCell (p := ⟨mb, 3, none⟩) (Or.inl rfl) (.int .u64 (t : Int))).setCell (p := ⟨mb, 4, none⟩) (Or.inl rfl) (.int .u64 (k : Int))).setCell (p := ⟨mb, 5, none⟩) (Or.inl rfl) (.slice ao d.length cap)).setCell (p := ⟨mb, 6, none⟩) (Or.inl rfl) (.slice none 0 0)
  have o : ∀ {W : World} {i j : Nat} {u x : Value}, i ≠ j → W.cell? ⟨mb, j, none⟩ = some x → (W.setCell ⟨mb, i, none⟩ u).cell? ⟨mb, j, none⟩ = some x := fun _hij hc => (World.cell?_setCell_other _ _ _ _ (by simp)).trans hc
  have q : ∀ {W : World} {i : Nat} {u x : Value}, W.cell? ⟨mb, i, none⟩ = some x → (W.setCell ⟨mb, i, none⟩ u).cell? ⟨mb, i, none⟩ = some u := fun hc => World.cell?_setCell_same _ _ _ hc
  have a2 := q (u := .int .u64 (i : Int)) h.c2
  have b0 := o (i := 2) (u := .int .u64 (i : Int)) (by omega) h.c0
  have b1 := o (i := 2) (u := .int .u64 (i : Int)) (by omega) h.c1
  have b3 := o (i := 2) (u := .int .u64 (i : Int)) (by omega) h.c3
  have b4 := o (i := 2) (u := .int .u64 (i : Int)) (by omega) h.c4
  have b5 := o (i := 2) (u := .int .u64 (i : Int)) (by omega) h.c5
  have b6 := o (i := 2) (u := .int .u64 (i : Int)) (by omega) h.c6
  refine ⟨rfl, Im.fr (S := fun _ => False) (w := ((((w.setCell ⟨mb, 2, none⟩ (.int .u64 (i : Int))).setCell ⟨mb, 3, none⟩ (.int .u64 (t : Int))).setCell ⟨mb, 4, none⟩ (.int .u64 (k : Int))).setCell ⟨mb, 5, none⟩ (.slice ao d.length cap)).setCell ⟨mb, 6, none⟩ (.slice none 0 0)) ⟨o (by omega) (o (by omega) (o (by omega) (o (by omega) b0))), o (by omega) (o (by omega) (o (by omega) (o (by omega) b1))), o (by omega) (o (by omega) (o (by omega) (o (by omega) a2))), o (by omega) (o (by omega) (o (by omega) (q b3))), o (by omega) (o (by omega) (q (o (by omega) b4))), o (by omega) (q (o (by omega) (o (by omega) b5))), q (o (by omega) (o (by omega) (o (by omega) b6))), fun i hi => by simpa using h.z i hi, f.row hr (fun hne a ha e => h.apart (e ▸ hD hne a ha)), hD, fun _ _ _ e => (by cases e), OwnE.nil _ _, rfl, h.apart, h.b0, h.b1, hi, ht, hk⟩ ((Fr.refl _ _).alloc _) (by simp) (by simp), f.alloc _⟩
end
end Go.Proofs.YtlcakglmheleeaaDoor
