/- The law's records, as they came in. -/
import Derived.Test.YtlcakglmheleeaaDoorFrame
import Derived.Test.YtlcakglmheleeaaDoorEnt
import Derived.Deep.Slices
namespace Go.Proofs.YtlcakglmheleeaaDoor
open Go.ChangeShapes Go.WideShapes Go.ChangeAt Go.RowKit

/-- a record that came in: of which kind, its numbers, its bytes, and where these lie. -/
structure Rc where
  k : Nat
  a : Nat
  b : Nat
  v : Int
  d : List Nat
  p : Option Addr
  c : Nat
instance : Inhabited Rc := ⟨⟨0, 0, 0, 0, [], none, 0⟩⟩
def Rc.cells (x : Rc) : List Value := [.int .u8 (x.k : Int), .int .u64 (x.a : Int), .int .u64 (x.b : Int), .int .i16 x.v, .slice x.p x.d.length x.c]
structure RcG (w : World) (x : Rc) : Prop where
  k : x.k < 256
  a : x.a < 18446744073709551616
  b : x.b < 18446744073709551616
  v : -32768 ≤ x.v ∧ x.v < 32768
  row : Row w x.p x.d x.c
theorem RcG.fr {w w1 : World} {x : Rc} (h : RcG w x) (f : Fr (fun _ => False) w w1) : RcG w1 x := ⟨h.k, h.a, h.b, h.v, f.row h.row (by simp)⟩
def RRow (w : World) (ao : Option Addr) (rs : List Rc) (cap : Nat) : Prop :=
  rs.length ≤ cap ∧ cap ≤ maxLen ∧ (∀ x ∈ rs, RcG w x) ∧
  (rs ≠ [] → ∃ b off, ao = some ⟨b, off, none⟩ ∧ ∀ i, i < rs.length → ∀ f, f < 5 → w.cell? ⟨b, off + (i * 5 + f), none⟩ = (rs.getD i default).cells[f]?)
theorem RRow.fr {w w1 : World} {ao : Option Addr} {rs : List Rc} {cap : Nat} (h : RRow w ao rs cap) (f : Fr (fun _ => False) w w1) : RRow w1 ao rs cap := by
  obtain ⟨h1, h2, h4, h5⟩ := h
  refine ⟨h1, h2, fun x hx => (h4 x hx).fr f, fun hne => ?_⟩
  obtain ⟨b, off, he, hc⟩ := h5 hne
  refine ⟨b, off, he, fun i hi g hg => ?_⟩
  have hcell := hc i hi g hg
  have hsome : ∃ v, (rs.getD i default).cells[g]? = some v := ⟨_, List.getElem?_eq_getElem (by show g < 5; exact hg)⟩
  obtain ⟨v, hv⟩ := hsome
  rw [hv] at hcell ⊢
  exact f.cell hcell (by simp)
theorem RRow.at {w : World} {ao : Option Addr} {rs : List Rc} {cap k : Nat} (h : RRow w ao rs cap) (hk : k < rs.length) :
    ∃ b off x, ao = some ⟨b, off, none⟩ ∧ w.cell? ⟨b, off + k * 5, none⟩ = some (.int .u8 (x.k : Int)) ∧ w.cell? ⟨b, off + k * 5 + 1, none⟩ = some (.int .u64 (x.a : Int)) ∧ w.cell? ⟨b, off + k * 5 + 2, none⟩ = some (.int .u64 (x.b : Int)) ∧ w.cell? ⟨b, off + k * 5 + 3, none⟩ = some (.int .i16 x.v) ∧ w.cell? ⟨b, off + k * 5 + 4, none⟩ = some (.slice x.p x.d.length x.c) ∧ RcG w x ∧ Hid (x = rs.getD k default) := by
  obtain ⟨b, off, he, hc⟩ := h.2.2.2 (fun e => by rw [e] at hk; simp at hk)
  have hm : rs.getD k default ∈ rs := by rw [List.getD_eq_getElem?_getD, List.getElem?_eq_getElem hk]; exact List.getElem_mem _
  refine ⟨b, off, rs.getD k default, he, hc k hk 0 (by omega), ?_, ?_, ?_, ?_, h.2.2.1 _ hm, rfl⟩
  · exact hc k hk 1 (by omega)
  · exact hc k hk 2 (by omega)
  · exact hc k hk 3 (by omega)
  · exact hc k hk 4 (by omega)
theorem RRow.len {w : World} {ao : Option Addr} {rs : List Rc} {cap : Nat} (h : RRow w ao rs cap) : rs.length ≤ 9223372036854775807 ∧ cap ≤ 9223372036854775807 ∧ rs.length ≤ cap := by
  have := h.1; have := h.2.1; unfold maxLen at this; omega

theorem addr_add (b off i : Nat) : (⟨b, off, none⟩ : Addr).add i = ⟨b, off + i, none⟩ := by
  unfold Addr.add; split <;> simp_all
theorem trod_slice_value {H : Type} {enc : TypeId × Value → H} {P : Program} {t e : TypeId} {W : World} {base : Nat} {spare : Nat → Bool} {held : Bool} {fuel : Nat} {cs : List Value} {x : DataW H × List MemPlace} (ht : P.underlying t = some (.slice e)) (h : DataW.trod enc P W base spare held fuel t cs = some x) : ∃ a n c, cs = [.slice a n c] := by
  rcases Deep.open_slice ht h with ⟨hcs, _⟩ | ⟨a, len, cap, m, n, D, Pl, hcs, _⟩
  · cases hcs; exact ⟨_, _, _, rfl⟩
  · cases hcs; exact ⟨_, _, _, rfl⟩
theorem get_of_take {cs : List Value} {i : Nat} {v : Value} (h : (cs.drop i).take 1 = [v]) : cs[i]? = some v := by
  have := congrArg (fun l => l[0]?) h
  simpa using this
theorem rc_of_cells {H : Type} {enc : TypeId × Value → H} {W : World} {cs : List Value} {x : DataW H × List MemPlace} {m : Nat} (h : DataW.trod enc Tryd.prog W 0 (fun _ => true) true m 41 cs = some x) : ∃ r : Rc, cs = r.cells ∧ RcG W r := by
  obtain ⟨xs, n, _, _, hl, hlen, hf⟩ := DataW.trod_struct Tryd.underlying41 h
  have c5 : Tryd.prog.cellsOf 5 = 1 := by kernel_rfl
  have c27 : Tryd.prog.cellsOf 27 = 1 := by kernel_rfl
  have c39 : Tryd.prog.cellsOf 39 = 1 := by kernel_rfl
  have c23 : Tryd.prog.cellsOf 23 = 1 := by kernel_rfl
  have c41 : Tryd.prog.cellsOf 41 = 5 := by kernel_rfl
  rw [c41] at hl
  have g0 := hf 0 _ rfl
  change DataW.trod _ _ _ _ _ _ n 5 ((cs.drop 0).take (Tryd.prog.cellsOf 5)) = _ at g0
  rw [c5] at g0
  have g1 := hf 1 _ rfl
  change DataW.trod _ _ _ _ _ _ n 27 ((cs.drop 1).take (Tryd.prog.cellsOf 27)) = _ at g1
  rw [c27] at g1
  have g2 := hf 2 _ rfl
  change DataW.trod _ _ _ _ _ _ n 27 ((cs.drop 2).take (Tryd.prog.cellsOf 27)) = _ at g2
  rw [c27] at g2
  have g3 := hf 3 _ rfl
  change DataW.trod _ _ _ _ _ _ n 39 ((cs.drop 3).take (Tryd.prog.cellsOf 39)) = _ at g3
  rw [c39] at g3
  have g4 := hf 4 _ rfl
  change DataW.trod _ _ _ _ _ _ n 23 ((cs.drop 4).take (Tryd.prog.cellsOf 23)) = _ at g4
  rw [c23] at g4
  have hx : ∀ i, i < 5 → ∃ x, xs[i]? = some x := fun i hi => ⟨_, List.getElem?_eq_getElem (by simp at hlen; omega)⟩
  obtain ⟨x0, e0⟩ := hx 0 (by omega)
  obtain ⟨x1, e1⟩ := hx 1 (by omega)
  obtain ⟨x2, e2⟩ := hx 2 (by omega)
  obtain ⟨x3, e3⟩ := hx 3 (by omega)
  obtain ⟨x4, e4⟩ := hx 4 (by omega)
  rw [e0] at g0
  rw [e1] at g1
  rw [e2] at g2
  rw [e3] at g3
  rw [e4] at g4
  obtain ⟨k, k0, _, w0⟩ := DataW.trod_int Tryd.underlying5 g0
  obtain ⟨a, k1, _, w1⟩ := DataW.trod_int Tryd.underlying27 g1
  obtain ⟨b, k2, _, w2⟩ := DataW.trod_int Tryd.underlying27 g2
  obtain ⟨v, k3, _, w3⟩ := DataW.trod_int Tryd.underlying39 g3
  obtain ⟨p, ln, c, k4⟩ := trod_slice_value Tryd.underlying23 g4
  rw [k4] at g4
  obtain ⟨d, hd1, hd2⟩ := row_of_arg (d := x4.1) (p := x4.2) ⟨n, g4⟩
  simp [Lit.wf, IntKind.min, IntKind.max, IntKind.signed, IntKind.bits] at w0 w1 w2 w3
  have h0 := get_of_take k0
  have h1 := get_of_take k1
  have h2 := get_of_take k2
  have h3 := get_of_take k3
  have h4 := get_of_take k4
  refine ⟨⟨k.toNat, a.toNat, b.toNat, v, d, p, c⟩, ?_, ⟨by show k.toNat < 256; omega, by show a.toNat < _; omega, by show b.toNat < _; omega, by show -32768 ≤ v ∧ v < 32768; omega, hd2⟩⟩
  apply List.ext_getElem?
  intro i
  by_cases hi : i < 5
  · match i, hi with
    | 0, _ => rw [h0]; show _ = some (Value.int .u8 ((k.toNat : Nat) : Int)); rw [show ((k.toNat : Nat) : Int) = k by omega]
    | 1, _ => rw [h1]; show _ = some (Value.int .u64 ((a.toNat : Nat) : Int)); rw [show ((a.toNat : Nat) : Int) = a by omega]
    | 2, _ => rw [h2]; show _ = some (Value.int .u64 ((b.toNat : Nat) : Int)); rw [show ((b.toNat : Nat) : Int) = b by omega]
    | 3, _ => rw [h3]; rfl
    | 4, _ => rw [h4, ← hd1]; rfl
  · rw [List.getElem?_eq_none (by omega), List.getElem?_eq_none (by show 5 ≤ i; omega)]
theorem rrow_of_arg {H : Type} {enc : TypeId × Value → H} {W : World} {a0 : Option Addr} {len0 cap0 : Nat} {d : DataW H} {p : List MemPlace} (h : DataW.Trod enc Tryd.prog W 0 (fun _ => true) true 22 (.slice a0 len0 cap0) d p) :
    ∃ l : List Rc, l.length = len0 ∧ RRow W a0 l cap0 := by
  obtain ⟨fuel, hf⟩ := h
  have c41 : Tryd.prog.cellsOf 41 = 5 := by kernel_rfl
  rcases Deep.open_slice Tryd.underlying22 hf with ⟨hcs, _⟩ | ⟨a, len, cap, m, n, D, Pl, hcs, _, hl, hm, hmm, _, hx⟩
  · simp [Value.cells] at hcs
    obtain ⟨rfl, rfl, rfl⟩ := hcs
    exact ⟨[], rfl, Nat.le_refl _, Nat.zero_le _, by simp, fun h => absurd rfl h⟩
  · simp [Value.cells] at hcs
    obtain ⟨rfl, rfl, rfl⟩ := hcs
    have hmc : m = cap0 := by simpa using hmm
    subst hmc
    have hall : ∀ i, i < len0 → ∃ r : Rc, (∀ f, f < 5 → W.cell? ((a.add (i * 5)).add f) = r.cells[f]?) ∧ RcG W r := fun i hi => by
      obtain ⟨cs', h1, h2⟩ := hx i (by omega)
      rw [c41] at h1
      obtain ⟨r, hr, hg⟩ := rc_of_cells h2
      subst hr
      refine ⟨r, fun f hf => ?_, hg⟩
      have := World.cells?_some h1
      first
        | exact this.2.2 f hf
        | exact this.2 f hf
        | exact this.2.2.2 f hf
    obtain ⟨F, hF⟩ := Deep.choose_lt (p := fun i r => (∀ f, f < 5 → W.cell? ((a.add (i * 5)).add f) = (r : Rc).cells[f]?) ∧ RcG W r) hall
    refine ⟨(List.range len0).map F, by simp, by simpa using hl, hm, ?_, fun hne => ?_⟩
    · intro x hx
      obtain ⟨i, hi, rfl⟩ := List.mem_map.1 hx
      exact (hF i (by simpa using hi)).2
    · have hpos : 0 < len0 := by
        rcases Nat.eq_zero_or_pos len0 with h0 | h0
        · subst h0; simp at hne
        · exact h0
      obtain ⟨b, off, spot⟩ := a
      have h0 := (hF 0 hpos).1 0 (by omega)
      have hspot : spot = none := by
        have h0' : W.cell? (((⟨b, off, spot⟩ : Addr).add (0 * 5)).add 0) = some (.int .u8 ((F 0).k : Int)) := h0
        simpa [Addr.add] using World.cell?_spot h0'
      subst hspot
      refine ⟨b, off, rfl, fun i hi f hf => ?_⟩
      have hi' : i < len0 := by simpa using hi
      have hg : ((List.range len0).map F).getD i default = F i := by simp [List.getD, hi']
      rw [hg, ← (hF i hi').1 f hf, addr_add, addr_add, Nat.add_assoc]
end Go.Proofs.YtlcakglmheleeaaDoor
