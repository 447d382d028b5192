/- The program's New. -/
import Derived.Test.YtkkpdnholnkeoabReset
namespace Go.Proofs.Ytkkpdnholnkeoab
open Go.RowKit

/-- do entries stand behind an index of a term, one behind the other, no term falling? -/
def inOrder : Nat → Nat → List En → Bool
  | _, _, [] => true
  | i, t, x :: r => follow i x.i && decide (t ≤ x.t) && inOrder x.i x.t r
theorem drop_cons {es : List En} {k : Nat} (hk : k < es.length) : es.drop k = es.getD k default :: es.drop (k + 1) := by
  rw [List.drop_eq_getElem_cons hk]
  simp [List.getD_eq_getElem?_getD, hk]
/-- four cells that may be written. -/
structure Box4 (w : World) (b : Nat) (i t k : Nat) (v : Value) : Prop where
  c0 : w.cell? ⟨b, 0, none⟩ = some (.int .u64 (i : Int))
  c1 : w.cell? ⟨b, 1, none⟩ = some (.int .u64 (t : Int))
  c2 : w.cell? ⟨b, 2, none⟩ = some (.int .u8 (k : Int))
  c3 : w.cell? ⟨b, 3, none⟩ = some v
  z0 : w.frozen? ⟨b, 0, none⟩ = false
  z1 : w.frozen? ⟨b, 1, none⟩ = false
  z2 : w.frozen? ⟨b, 2, none⟩ = false
  z3 : w.frozen? ⟨b, 3, none⟩ = false
theorem Box4.lt {w : World} {b i t k : Nat} {v : Value} (h : Box4 w b i t k v) : b < w.heap.size := World.block_lt_of_cell? _ _ h.c0
theorem Box4.fr {S : Nat → Prop} {w w1 : World} {b i t k : Nat} {v : Value} (h : Box4 w b i t k v) (f : Fr S w w1) (hb : ¬ S b) : Box4 w1 b i t k v :=
  ⟨f.cell h.c0 hb, f.cell h.c1 hb, f.cell h.c2 hb, f.cell h.c3 hb, (f.frozenEq h.lt hb).trans h.z0, (f.frozenEq h.lt hb).trans h.z1, (f.frozenEq h.lt hb).trans h.z2, (f.frozenEq h.lt hb).trans h.z3⟩
theorem Box4.set {w : World} {b i t k : Nat} {v : Value} (h : Box4 w b i t k v) (i' t' k' : Nat) (v' : Value) :
    Box4 ((((w.setCell ⟨b, 0, none⟩ (.int .u64 (i' : Int))).setCell ⟨b, 1, none⟩ (.int .u64 (t' : Int))).setCell ⟨b, 2, none⟩ (.int .u8 (k' : Int))).setCell ⟨b, 3, none⟩ v') b i' t' k' v' := by
  obtain ⟨c0, c1, c2, c3, z0, z1, z2, z3⟩ := h
  refine ⟨?_, ?_, ?_, ?_, by simpa using z0, by simpa using z1, by simpa using z2, by simpa using z3⟩
  · simp [World.cell?_setCell_other, World.cell?_setCell_same _ _ _ c0]
  · simp [World.cell?_setCell_other, World.cell?_setCell_same, c1]
  · simp [World.cell?_setCell_other, World.cell?_setCell_same, c2]
  · simp [World.cell?_setCell_other, World.cell?_setCell_same, c3]
set_option maxRecDepth 100000 in
set_option maxHeartbeats 2000000 in
theorem new_any (i t n : Nat) (dv : Value) (ao : Option Addr) (es : List En) (cap : Nat) (w : World) (R D : Nat → Prop) (hr : ERow w R D ao es cap) (hR : ∀ k, R k → k < w.heap.size) (hD : ∀ k, D k → k < w.heap.size) (hlen : es.length ≤ 100000) (hd : ∀ x ∈ es, x.d.length ≤ 1000000) (hi : i < 18446744073709551616) (ht : t < 18446744073709551616) (hn : n < 18446744073709551616) :
    Calls Try.prog 12 #[.agg #[.int .u64 (i : Int), .int .u64 (t : Int), .int .u64 (n : Int), dv], .slice ao es.length cap] w fun e w' => Fr (fun _ => False) w w' ∧
      ((inOrder i t es = false ∧ e = .returned (.tuple #[.pointer none, .int .i64 1])) ∨
       (inOrder i t es = true ∧ ∃ gb v ys, e = .returned (.tuple #[.pointer (some ⟨gb, 0, none⟩), .int .i64 0]) ∧ w.heap.size ≤ gb ∧ Lg w' gb (fun k => w.heap.size ≤ k ∧ k ≠ gb) i t n ys v ∧ ys.map En.p = es.map En.p)) := by
  have hl := hr.len
  obtain ⟨sb, Hsb⟩ : ∃ sb, Hid (w.heap.size = sb) := ⟨_, rfl⟩
  obtain ⟨W, HW⟩ : ∃ W, Hid (W = (w.alloc (.cells #[.int .u64 (i : Int), .int .u64 (t : Int), .int .u64 (n : Int), dv] 26)).alloc (.cells #[.int .u64 (i : Int), .int .u64 (t : Int), .int .u8 0, .slice none 0 0] 36)) := ⟨_, rfl⟩
  have FW : Hid (Fr (fun _ => False) w W) := by show Fr _ _ _; rw [HW.out]; exact ((Fr.refl (fun _ => False) w).alloc _).alloc _
  have BW : Hid (Box4 W (sb + 1) i t 0 (.slice none 0 0)) := by show Box4 _ _ _ _ _ _; rw [HW.out, ← Hsb.out]; constructor <;> simp
  have SW : Hid (W.cell? ⟨sb, 0, none⟩ = some (.int .u64 (i : Int)) ∧ W.cell? ⟨sb, 1, none⟩ = some (.int .u64 (t : Int)) ∧ W.cell? ⟨sb, 2, none⟩ = some (.int .u64 (n : Int)) ∧ W.cell? ⟨sb, 3, none⟩ = some dv) := by
    show _ ∧ _; rw [HW.out, ← Hsb.out]; refine ⟨?_, ?_, ?_, ?_⟩ <;> simp
  have HR : Hid (ERow w R D ao es cap) := hr
  have HRl : Hid (∀ k, R k → k < sb) := fun k hk => by have := hR k hk; have := Hsb.out; omega
  have HDl : Hid (∀ k, D k → k < sb) := fun k hk => by have := hD k hk; have := Hsb.out; omega
  have HL : Hid (∀ x ∈ es, x.d.length ≤ 1000000) := hd
  clear hr hR hD hd
  go_enter Try.func12, Try.ntmps12
  go_wp2
  rw [← HW.out, Hsb.out]
  go_loopw [17] (fun j wr => ∃ (k i' t' k' : Nat) (v' : Value), k ≤ es.length ∧ j = .int .i64 (k : Int) ∧ (i' < 18446744073709551616 ∧ t' < 18446744073709551616) ∧ (∃ a' n' c', v' = .slice a' n' c') ∧ Box4 wr (sb + 1) i' t' k' v' ∧ inOrder i' t' (es.drop k) = inOrder i t es ∧ Fr (fun b => b = sb + 1) W wr) (fun j _ => es.length - (intOf j).toNat)
  case atStart => exact ⟨0, i, t, 0, .slice none 0 0, Nat.zero_le _, rfl, ⟨hi, ht⟩, ⟨_, _, _, rfl⟩, BW.out, by simp, Fr.refl _ _⟩
  case round =>
    obtain ⟨k, i', t', k', v', hk, rfl, ⟨hi', ht'⟩, ⟨a', n', c', rfl⟩, hbox, hord, hfr⟩ := hrel
    have HB : Hid (Box4 wr (sb + 1) i' t' k' (.slice a' n' c')) := hbox
    have HO : Hid (inOrder i' t' (es.drop k) = inOrder i t es) := hord
    have HF : Hid (Fr (fun b => b = sb + 1) W wr) := hfr
    have HSb : Hid (sb + 1 < wr.heap.size) := hbox.lt
    by_cases hlt : k < es.length
    · have hrr : ERow wr R D ao es cap := (HR.out.fr FW.out (by simp) (by simp)).fr hfr (fun b hb e => by have := HRl.out b hb; omega) (fun b hb e => by have := HDl.out b hb; omega)
      obtain ⟨b, off, x, rfl, hb, x0, x1, x2, x3, hg, Hx⟩ := hrr.at hlt
      have hd := drop_cons hlt
      have hbl : b < sb := HRl.out b hb
      have xi := hg.i
      have xt := hg.t
      have HG : Hid (EG wr D x) := hg
      have HD2 : Hid (inOrder i t es = (follow i' x.i && decide (t' ≤ x.t) && inOrder x.i x.t (es.drop (k + 1)))) := by
        show _ = _
        rw [← hord, hd, ← Hx.out]; rfl
      have k1 : (0 : Int) ≤ (k : Int) := by omega
      have k2 : (k : Int) < (es.length : Int) := by omega
      obtain ⟨W1, HW1⟩ : ∃ W1, Hid (W1 = wr.alloc (.cells #[.int .u64 (x.i : Int), .int .u64 (x.t : Int), .int .u8 (x.k : Int), .slice x.a x.d.length x.c] 36)) := ⟨_, rfl⟩
      have f1 : Fr (fun _ => False) wr W1 := by rw [HW1.out]; exact (Fr.refl (fun _ => False) wr).alloc _
      have hb1 : Box4 W1 wr.heap.size x.i x.t x.k (.slice x.a x.d.length x.c) := by rw [HW1.out]; constructor <;> simp
      have hA1 := hbox.fr f1 (by simp)
      have F1 : Hid (Fr (fun _ => False) wr W1) := f1
      have B1 : Hid (Box4 W1 wr.heap.size x.i x.t x.k (.slice x.a x.d.length x.c)) := hb1
      have A1 : Hid (Box4 W1 (sb + 1) i' t' k' (.slice a' n' c')) := hA1
      have y0 := hb1.c0
      have y1 := hb1.c1
      have y2 := hb1.c2
      have y3 := hb1.c3
      have u0 := hA1.c0
      have u1 := hA1.c1
      have u2 := hA1.c2
      have u3 := hA1.c3
      have K : Hid (Calls _ _ _ _ _) := follows_any (i' : Int) (t' : Int) (k' : Int) (.slice a' n' c') x.i (x.t : Int) (x.k : Int) (.slice x.a x.d.length x.c) i' rfl hi' xi W1
      have r0 : (wr.alloc (.cells #[.int .u64 (x.i : Int), .int .u64 (x.t : Int), .int .u8 (x.k : Int), .slice x.a x.d.length x.c] 36)).cell? ⟨sb + 1, 0, none⟩ = some (.int .u64 (i' : Int)) := by rw [← HW1.out]; exact u0
      have r1 : (wr.alloc (.cells #[.int .u64 (x.i : Int), .int .u64 (x.t : Int), .int .u8 (x.k : Int), .slice x.a x.d.length x.c] 36)).cell? ⟨sb + 1, 1, none⟩ = some (.int .u64 (t' : Int)) := by rw [← HW1.out]; exact u1
      have r2 : (wr.alloc (.cells #[.int .u64 (x.i : Int), .int .u64 (x.t : Int), .int .u8 (x.k : Int), .slice x.a x.d.length x.c] 36)).cell? ⟨sb + 1, 2, none⟩ = some (.int .u8 (k' : Int)) := by rw [← HW1.out]; exact u2
      have r3 : (wr.alloc (.cells #[.int .u64 (x.i : Int), .int .u64 (x.t : Int), .int .u8 (x.k : Int), .slice x.a x.d.length x.c] 36)).cell? ⟨sb + 1, 3, none⟩ = some (.slice a' n' c') := by rw [← HW1.out]; exact u3
      have L1 : Hid (wr.heap.size < W1.heap.size) := hb1.lt
      clear hrr hd hg hbox hord hfr hb1 hA1 f1 u0 u1 u2 u3 y0 y1 y2 y3
      go_wp2_with fail
      rw [← HW1.out]
      refine K.out.mono ?_
      rintro e w2 ⟨rfl, f2⟩
      have B2 := B1.out.fr f2 (by simp)
      have A2 := A1.out.fr f2 (by simp)
      have y0 := B2.c0
      have y1 := B2.c1
      have y2 := B2.c2
      have y3 := B2.c3
      have u0 := A2.c0
      have u1 := A2.c1
      have u2 := A2.c2
      have u3 := A2.c3
      have z0 := A2.z0
      have z1 := A2.z1
      have z2 := A2.z2
      have z3 := A2.z3
      have HA2 : Hid (Box4 w2 (sb + 1) i' t' k' (.slice a' n' c')) := A2
      have F2 : Hid (Fr (fun b => b = sb + 1) W w2) := (HF.out.trans (F1.out.mono (fun _ _ h => h.elim))).trans (f2.mono (fun _ _ h => h.elim))
      clear B2 A2 f2 r0 r1 r2 r3 x0 x1 x2 x3 B1 A1 K
      have FW2 : Hid (Fr (fun _ => False) w w2) := FW.out.trans' F2.out (fun b hb e => by have := Hsb.out; omega)
      by_cases hf : follow i' x.i = true
      · by_cases htt : t' ≤ x.t
        · have htt' : ¬ (x.t : Int) < (t' : Int) := by omega
          rw [hf]
          obtain ⟨xb, Hxb⟩ : ∃ xb, Hid (wr.heap.size = xb) := ⟨_, rfl⟩
          rw [Hxb.out] at y0 y1 y2 y3 ⊢
          go_wp2
          go_roundw
          case rel =>
            have hset := HA2.out.set x.i x.t x.k (.slice x.a x.d.length x.c)
            refine ⟨k + 1, x.i, x.t, x.k, .slice x.a x.d.length x.c, by omega, by go_num, ⟨xi, xt⟩, ⟨_, _, _, rfl⟩, hset, ?_, (((F2.out.setCell (p := ⟨sb + 1, _, none⟩) (Or.inl rfl) _).setCell (p := ⟨sb + 1, _, none⟩) (Or.inl rfl) _).setCell (p := ⟨sb + 1, _, none⟩) (Or.inl rfl) _).setCell (p := ⟨sb + 1, _, none⟩) (Or.inl rfl) _⟩
            rw [HD2.out, hf]
            simp [htt]
          case measure => simp [intOf]; omega
        · have htt' : (x.t : Int) < (t' : Int) := by omega
          rw [hf]
          obtain ⟨xb, Hxb⟩ : ∃ xb, Hid (wr.heap.size = xb) := ⟨_, rfl⟩
          rw [Hxb.out] at y0 y1 y2 y3 ⊢
          go_wp2
          go_ret2
          exact ⟨FW2.out, .inl ⟨by rw [HD2.out]; simp [htt], rfl⟩⟩
      · have hf' : follow i' x.i = false := by simpa using hf
        rw [hf']
        obtain ⟨xb, Hxb⟩ : ∃ xb, Hid (wr.heap.size = xb) := ⟨_, rfl⟩
        rw [Hxb.out] at y0 y1 y2 y3 ⊢
        go_wp2
        go_ret2
        exact ⟨FW2.out, .inl ⟨by rw [HD2.out, hf']; rfl, rfl⟩⟩
    · have hkn : k = es.length := by omega
      subst hkn
      have HOT : Hid (inOrder i t es = true) := by show _ = _; rw [← hord, List.drop_length]; rfl
      obtain ⟨s0, s1, s2, s3⟩ := SW.out
      have q0 := hfr.cell s0 (show ¬ sb = sb + 1 by omega)
      have q1 := hfr.cell s1 (show ¬ sb = sb + 1 by omega)
      have q2 := hfr.cell s2 (show ¬ sb = sb + 1 by omega)
      have q3 := hfr.cell s3 (show ¬ sb = sb + 1 by omega)
      have hsl : sb < wr.heap.size := World.block_lt_of_cell? _ _ q0
      obtain ⟨W1, HW1⟩ : ∃ W1, Hid (W1 = wr.alloc (.cells #[.int .u64 0, .int .u64 0, .int .u64 0, .slice none 0 0] 53)) := ⟨_, rfl⟩
      have f1 : Fr (fun _ => False) wr W1 := by rw [HW1.out]; exact (Fr.refl (fun _ => False) wr).alloc _
      have g0 : Lg W1 wr.heap.size (fun b => sb ≤ b ∧ b ≠ wr.heap.size) 0 0 0 [] (.slice none 0 0) := by
        rw [HW1.out]
        constructor <;> first | (simp; done) | exact OwnE.nil _ _ | omega
      have K1 : Hid (Calls _ _ _ _ _) := reset_any g0 i t n dv hi ht hn
      have FW1 : Hid (Fr (fun _ => False) w W1) := (FW.out.trans' hfr (fun b hb e => by have := Hsb.out; omega)).trans f1
      have r0 : (wr.alloc (.cells #[.int .u64 0, .int .u64 0, .int .u64 0, .slice none 0 0] 53)).cell? ⟨sb, 0, none⟩ = some (.int .u64 (i : Int)) := by rw [← HW1.out]; exact f1.cell q0 (by simp)
      have r1 : (wr.alloc (.cells #[.int .u64 0, .int .u64 0, .int .u64 0, .slice none 0 0] 53)).cell? ⟨sb, 1, none⟩ = some (.int .u64 (t : Int)) := by rw [← HW1.out]; exact f1.cell q1 (by simp)
      have r2 : (wr.alloc (.cells #[.int .u64 0, .int .u64 0, .int .u64 0, .slice none 0 0] 53)).cell? ⟨sb, 2, none⟩ = some (.int .u64 (n : Int)) := by rw [← HW1.out]; exact f1.cell q2 (by simp)
      have r3 : (wr.alloc (.cells #[.int .u64 0, .int .u64 0, .int .u64 0, .slice none 0 0] 53)).cell? ⟨sb, 3, none⟩ = some dv := by rw [← HW1.out]; exact f1.cell q3 (by simp)
      have hgs : w.heap.size ≤ wr.heap.size := by have := Hsb.out; omega
      have HGS : Hid (sb ≤ wr.heap.size) := by show _ ≤ _; omega
      clear hbox hord q0 q1 q2 q3 s0 s1 s2 s3 g0 f1 hfr
      go_wp2_with fail
      rw [← HW1.out]
      refine K1.out.mono ?_
      rintro e w2 ⟨rfl, g2, f2⟩
      have hrr : ERow w2 R D ao es cap := (HR.out.fr FW1.out (by simp) (by simp)).fr f2 (fun b hb e => by have := HRl.out b hb; omega) (fun b hb e => by have := HDl.out b hb; omega)
      have FW2 : Hid (Fr (fun _ => False) w w2) := FW1.out.trans' f2 (fun b hb e => by omega)
      have hs2 : wr.heap.size < w2.heap.size := g2.lt
      have K2 : Hid (Calls _ _ _ _ _) := copies_any ao es cap w2 R D hrr (fun b hb => by have := HDl.out b hb; omega) hlen HL.out
      have G2 : Hid (Lg w2 wr.heap.size (fun b => sb ≤ b ∧ b ≠ wr.heap.size) i t n [] (.slice none 0 0)) := g2
      clear g2 f2 hrr r0 r1 r2 r3 K1
      obtain ⟨gb, Hgb⟩ : ∃ gb, Hid (wr.heap.size = gb) := ⟨_, rfl⟩
      rw [Hgb.out] at G2 hs2 HGS ⊢
      go_wp2_with fail
      refine K2.out.mono ?_
      rintro e w3 ⟨v, ys, rfl, oy, hyp, f3⟩
      have g3 := G2.out.fr f3 (by simp) (by simp)
      have c3 := g3.c3
      have z3 := g3.z3
      have HG3 : Hid (Lg w3 gb (fun b => sb ≤ b ∧ b ≠ gb) i t n [] (.slice none 0 0)) := g3
      have HOY : Hid (OwnE w3 (fun k => w2.heap.size ≤ k) v ys) := oy
      have HYP : Hid (ys.map En.p = es.map En.p) := hyp
      have FW3 : Hid (Fr (fun _ => False) w w3) := FW2.out.trans f3
      obtain ⟨a3, cp3, hv3, _⟩ := oy.form
      rw [hv3]
      clear g3 oy hyp f3
      go_wp2
      go_ret2
      have hsb := Hsb.out
      have fl := (Fr.refl (fun b => b = gb) w3).setCell (p := ⟨gb, 3, none⟩) (Or.inl rfl) (.slice a3 ys.length cp3)
      have hgb := HGS.out
      refine ⟨FW3.out.setCell (p := ⟨gb, 3, none⟩) (Or.inr (show w.heap.size ≤ gb by omega)) _, .inr ⟨HOT.out, gb, .slice a3 ys.length cp3, ys, rfl, by omega, ⟨?_, ?_, ?_, ?_, ?_, ?_, ?_, ?_, ?_, ?_, hi, ht, hn⟩, HYP.out⟩⟩
      · exact (World.cell?_setCell_other _ _ _ _ (by simp)).trans HG3.out.c0
      · exact (World.cell?_setCell_other _ _ _ _ (by simp)).trans HG3.out.c1
      · exact (World.cell?_setCell_other _ _ _ _ (by simp)).trans HG3.out.c2
      · exact World.cell?_setCell_same _ _ _ c3
      · simpa using HG3.out.z0
      · simpa using HG3.out.z1
      · simpa using HG3.out.z2
      · simpa using z3
      · have HOY : Hid (OwnE w3 (fun k => w2.heap.size ≤ k) (.slice a3 ys.length cp3) ys) := by show OwnE _ _ _ _; rw [← hv3]; exact HOY.out
        exact (HOY.out.mono (fun b _ hb => ⟨by omega, by omega⟩)).fr fl (fun b hb e => hb.2 e)
      · exact fun h => h.2 rfl
end Go.Proofs.Ytkkpdnholnkeoab
