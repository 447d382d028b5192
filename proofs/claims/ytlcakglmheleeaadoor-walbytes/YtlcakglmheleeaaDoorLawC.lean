/- An image in a box of the law's; a byte of a row written over. -/
import Derived.Test.YtlcakglmheleeaaDoorLawB
namespace Go.Proofs.YtlcakglmheleeaaDoor
open Go.RowKit

structure IBox (w : World) (b : Nat) (m : Img) (sa : Option Addr) (sc : Nat) (ea : Option Addr) (n c : Nat) : Prop where
  c0 : w.cell? ⟨b, 0, none⟩ = some (.int .u64 (m.tm : Int))
  c1 : w.cell? ⟨b, 1, none⟩ = some (.int .i64 m.vo)
  c2 : w.cell? ⟨b, 2, none⟩ = some (.int .u64 (m.si : Int))
  c3 : w.cell? ⟨b, 3, none⟩ = some (.int .u64 (m.st : Int))
  c4 : w.cell? ⟨b, 4, none⟩ = some (.int .u64 (m.sv : Int))
  c5 : w.cell? ⟨b, 5, none⟩ = some (.slice sa m.sd.length sc)
  c6 : w.cell? ⟨b, 6, none⟩ = some (.slice ea n c)
  z : ∀ i, i < 7 → w.frozen? ⟨b, i, none⟩ = false
section
variable {w w1 : World} {b : Nat} {m m2 : Img} {sa sa2 ea ea2 : Option Addr} {sc sc2 n n2 c cc2 : Nat}
theorem IBox.lt (h : IBox w b m sa sc ea n c) : b < w.heap.size := World.block_lt_of_cell? _ _ h.c0
theorem IBox.fr {S : Nat → Prop} (h : IBox w b m sa sc ea n c) (f : Fr S w w1) (hb : ¬ S b) : IBox w1 b m sa sc ea n c :=
  ⟨f.cell h.c0 hb, f.cell h.c1 hb, f.cell h.c2 hb, f.cell h.c3 hb, f.cell h.c4 hb, f.cell h.c5 hb, f.cell h.c6 hb, fun i hi => (f.frozenEq (a := ⟨b, i, none⟩) h.lt hb).trans (h.z i hi)⟩
theorem IBox.store (h : IBox w b m sa sc ea n c) :
    IBox (((((((w.setCell ⟨b, 0, none⟩ (.int .u64 (m2.tm : Int))).setCell ⟨b, 1, none⟩ (.int .i64 m2.vo)).setCell ⟨b, 2, none⟩ (.int .u64 (m2.si : Int))).setCell ⟨b, 3, none⟩ (.int .u64 (m2.st : Int))).setCell ⟨b, 4, none⟩ (.int .u64 (m2.sv : Int))).setCell ⟨b, 5, none⟩ (.slice sa2 m2.sd.length sc2)).setCell ⟨b, 6, none⟩ (.slice ea2 n2 cc2)) b m2 sa2 sc2 ea2 n2 cc2 ∧ Fr (fun k => k = b) w (((((((w.setCell ⟨b, 0, none⟩ (.int .u64 (m2.tm : Int))).setCell ⟨b, 1, none⟩ (.int .i64 m2.vo)).setCell ⟨b, 2, none⟩ (.int .u64 (m2.si : Int))).setCell ⟨b, 3, none⟩ (.int .u64 (m2.st : Int))).setCell ⟨b, 4, none⟩ (.int .u64 (m2.sv : Int))).setCell ⟨b, 5, none⟩ (.slice sa2 m2.sd.length sc2)).setCell ⟨b, 6, none⟩ (.slice ea2 n2 cc2)) := by
  have o : ∀ {W : World} {i j : Nat} {u x : Value}, i ≠ j → W.cell? ⟨b, j, none⟩ = some x → (W.setCell ⟨b, i, none⟩ u).cell? ⟨b, j, none⟩ = some x := fun _hij hc => (World.cell?_setCell_other _ _ _ _ (by simp)).trans hc
  have q' : ∀ {W : World} {i : Nat} {u x : Value}, W.cell? ⟨b, i, none⟩ = some x → (W.setCell ⟨b, i, none⟩ u).cell? ⟨b, i, none⟩ = some u := fun hc => World.cell?_setCell_same _ _ _ hc
  refine ⟨⟨o (by omega) (o (by omega) (o (by omega) (o (by omega) (o (by omega) (o (by omega) (q' (h.c0))))))), o (by omega) (o (by omega) (o (by omega) (o (by omega) (o (by omega) (q' (o (i := 0) (by omega) (h.c1))))))), o (by omega) (o (by omega) (o (by omega) (o (by omega) (q' (o (i := 1) (by omega) (o (i := 0) (by omega) (h.c2))))))), o (by omega) (o (by omega) (o (by omega) (q' (o (i := 2) (by omega) (o (i := 1) (by omega) (o (i := 0) (by omega) (h.c3))))))), o (by omega) (o (by omega) (q' (o (i := 3) (by omega) (o (i := 2) (by omega) (o (i := 1) (by omega) (o (i := 0) (by omega) (h.c4))))))), o (by omega) (q' (o (i := 4) (by omega) (o (i := 3) (by omega) (o (i := 2) (by omega) (o (i := 1) (by omega) (o (i := 0) (by omega) (h.c5))))))), q' (o (i := 5) (by omega) (o (i := 4) (by omega) (o (i := 3) (by omega) (o (i := 2) (by omega) (o (i := 1) (by omega) (o (i := 0) (by omega) (h.c6))))))), fun i hi => by simpa using h.z i hi⟩, ((((((((Fr.refl (fun k => k = b) w).setCell (p := ⟨b, 0, none⟩) (Or.inl rfl) _).setCell (p := ⟨b, 1, none⟩) (Or.inl rfl) _).setCell (p := ⟨b, 2, none⟩) (Or.inl rfl) _).setCell (p := ⟨b, 3, none⟩) (Or.inl rfl) _).setCell (p := ⟨b, 4, none⟩) (Or.inl rfl) _).setCell (p := ⟨b, 5, none⟩) (Or.inl rfl) _).setCell (p := ⟨b, 6, none⟩) (Or.inl rfl) _)⟩
end
theorem row_set {w : World} {b off cap i x : Nat} {l : List Nat} (h : Row w (some ⟨b, off, none⟩) l cap) (hi : i < l.length) (hx : x < 256) : Row (w.setCell ⟨b, off + i, none⟩ (.int .u8 (x : Int))) (some ⟨b, off, none⟩) (l.set i x) cap := by
  obtain ⟨h1, h2, h3, h4, h5⟩ := h
  refine ⟨by rw [List.length_set]; exact h1, h2, fun y hy => ?_, h4, fun _ => ⟨b, off, rfl, fun j hj => ?_⟩⟩
  · rcases List.mem_or_eq_of_mem_set hy with hy | rfl
    · exact h3 y hy
    · exact hx
  · rw [List.length_set] at hj
    obtain ⟨b', off', he, hc⟩ := h5 (fun e => by rw [e] at hi; simp at hi)
    cases he
    by_cases hji : j = i
    · subst hji
      rw [World.cell?_setCell_same _ _ _ (hc j hj)]
      simp [List.getD_eq_getElem?_getD, hj]
    · rw [World.cell?_setCell_other _ _ _ _ (by simp), hc j hj]
      simp [List.getD_eq_getElem?_getD, Ne.symm hji]
theorem xor_u8 (a b : Nat) (ha : a < 256) (hb : b < 256) : bits .xor .u8 (a : Int) (b : Int) = ((a ^^^ b : Nat) : Int) ∧ a ^^^ b < 256 :=
  ⟨bits_xor_nat .u8 8 (by decide) wrap_u8_small a b (by simpa using ha) (by simpa using hb), Nat.xor_lt_two_pow (n := 8) ha hb⟩
end Go.Proofs.YtlcakglmheleeaaDoor
