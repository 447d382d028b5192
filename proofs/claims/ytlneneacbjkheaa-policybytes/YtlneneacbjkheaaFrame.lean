/- How arguments are opened: bytes, a rule, a release, a row of rules. -/
import Derived.Test.YtlneneacbjkheaaBook
import Derived.ProofKit
import Derived.OpenShut
import Derived.Lay
import Derived.ChangeOld
import Derived.Deep.Slices
import Derived.Laws.Cover2
namespace Go.Proofs.Ytlneneacbjkheaa
open Go.ChangeShapes Go.WideShapes Go.ChangeAt Go.RowKit

/-- A RELEASE. -/
structure Re where
  se : Nat
  sq : Nat
  la : Int
  x : Nat
  tt : Int
  ru : Nat
  au : Nat
def Re.cells (s : Re) : List Value := [.int .u64 (s.se : Int), .int .u64 (s.sq : Int), .int .i64 s.la, .float .f64 s.x, .int .i64 s.tt, .int .u64 (s.ru : Int), .int .u64 (s.au : Int)]
instance : Enc Re := ⟨Re.cells, 7, ⟨0, 0, 0, 0, 0, 0, 0⟩, by decide, fun _ => rfl, fun x u hu => by
  simp [Re.cells] at hu
  rcases hu with rfl | rfl | rfl | rfl | rfl | rfl | rfl <;> rfl⟩
structure Re.Ok (s : Re) : Prop where
  x : s.x < 18446744073709551616
instance : Inhabited Rl := ⟨Enc.dflt⟩
theorem ownK : ownKnob Try.prog.godebug = none := by kernel_rfl
theorem laidOut : laidOutB Try.prog = true := by kernel_rfl
theorem trod_float {H : Type} {enc : TypeId × Value → H} {P : Program} {w : World} {base : Nat} {spare : Nat → Bool} {held : Bool} {fuel : Nat} {t : TypeId} {cs : List Value} {x : DataW H × List MemPlace} {k : FloatKind} (ht : P.underlying t = some (.float k)) (h : DataW.trod enc P w base spare held fuel t cs = some x) : ∃ b, cs = [.float k b] ∧ x = (.lit (.float k b), []) ∧ (Lit.float k b).wf = true := by
  cases fuel with
  | zero => simp [DataW.trod] at h
  | succ n =>
    unfold DataW.trod at h
    rw [ht] at h
    split at h <;> simp_all
theorem f64_lt {b : Nat} (h : (Lit.float .f64 b).wf = true) : b < 18446744073709551616 := by
  simp [Lit.wf] at h; omega
theorem addr_add (b off i : Nat) : (⟨b, off, none⟩ : Addr).add i = ⟨b, off + i, none⟩ := by
  unfold Addr.add; split <;> simp_all
theorem get_of_take {cs : List Value} {i : Nat} {v : Value} (h : (cs.drop i).take 1 = [v]) : cs[i]? = some v := by
  have := congrArg (fun l => l[0]?) h
  simpa using this
/-- WHAT A WALK IS TOLD OF BYTES THAT CAME IN. -/
theorem row_of_arg {H : Type} {enc : TypeId × Value → H} {W : World} {a0 : Option Addr} {len0 cap0 : Nat} {d : DataW H} {p : List MemPlace} (h : DataW.Trod enc Try.prog W 0 (fun _ => true) true 22 (.slice a0 len0 cap0) d p) :
    ∃ l : List Nat, l.length = len0 ∧ Row W a0 l cap0 := by
  obtain ⟨fuel, hf⟩ := h
  rcases open_ints Try.underlying22 Try.underlying5 (by kernel_rfl) hf with ⟨hcs, _⟩ | ⟨x, l, c, zs, hcs, _, hl, hm, hz, _, hcell, hwz⟩
  · simp [Value.cells] at hcs
    obtain ⟨rfl, rfl, rfl⟩ := hcs
    exact ⟨[], rfl, Nat.le_refl _, Nat.zero_le _, by simp, fun _ => rfl, fun h => absurd rfl h⟩
  · simp [Value.cells] at hcs
    obtain ⟨rfl, rfl, rfl⟩ := hcs
    have hzl : zs.length = cap0 := by simpa using hz
    have hb : ∀ z ∈ zs, 0 ≤ z ∧ z < 256 := fun z hz => by
      have := hwz z hz
      simp [Lit.wf, IntKind.min, IntKind.max, IntKind.signed, IntKind.bits] at this
      omega
    refine ⟨(zs.take len0).map Int.toNat, by simp; omega, by simp; omega, hm, ?_, fun e => (by cases e), fun hne => ?_⟩
    · intro y hy
      obtain ⟨z, hz1, rfl⟩ := List.mem_map.1 hy
      have := hb z (List.mem_of_mem_take hz1)
      omega
    · have hpos : 0 < zs.length := by
        rcases Nat.eq_zero_or_pos zs.length with h0 | h0
        · have : zs = [] := List.eq_nil_of_length_eq_zero h0
          subst this; simp at hne
        · exact h0
      obtain ⟨b, off, spot⟩ := x
      have h0 := hcell 0 hpos
      have hspot : spot = none := by simpa [Addr.add] using World.cell?_spot h0
      subst hspot
      refine ⟨b, off, rfl, fun i hi => ?_⟩
      have hi' : i < zs.length ∧ i < len0 := by simp at hi; omega
      have h1 := hcell i hi'.1
      rw [show (⟨b, off, none⟩ : Addr).add i = ⟨b, off + i, none⟩ from by unfold Addr.add; split <;> simp_all] at h1
      rw [h1]
      have hz0 := hb (zs.getD i 0) (by rw [List.getD_eq_getElem?_getD, List.getElem?_eq_getElem hi'.1]; exact List.getElem_mem _)
      have e : (((zs.take len0).map Int.toNat).getD i 0 : Nat) = (zs.getD i 0).toNat := by
        simp [List.getD_eq_getElem?_getD, hi'.2, hi'.1]
      rw [e]
      congr 2
      omega
theorem rule_of_cells {H : Type} {enc : TypeId × Value → H} {W : World} {cs : List Value} {x : DataW H × List MemPlace} {m : Nat} (h : DataW.trod enc Try.prog W 0 (fun _ => true) true m 34 cs = some x) : ∃ r : Rl, cs = Enc.cells r ∧ r.Ok := by
  obtain ⟨xs, n, _, _, hl, hlen, hf⟩ := DataW.trod_struct Try.underlying34 h
  have c3 : Try.prog.cellsOf 3 = 1 := by kernel_rfl
  have c30 : Try.prog.cellsOf 30 = 1 := by kernel_rfl
  have c32 : Try.prog.cellsOf 32 = 1 := by kernel_rfl
  have c34 : Try.prog.cellsOf 34 = 7 := by kernel_rfl
  rw [c34] at hl
  have g0 := hf 0 _ rfl
  change DataW.trod _ _ _ _ _ _ n 30 ((cs.drop 0).take (Try.prog.cellsOf 30)) = _ at g0
  rw [c30] at g0
  have g1 := hf 1 _ rfl
  change DataW.trod _ _ _ _ _ _ n 3 ((cs.drop 1).take (Try.prog.cellsOf 3)) = _ at g1
  rw [c3] at g1
  have g2 := hf 2 _ rfl
  change DataW.trod _ _ _ _ _ _ n 3 ((cs.drop 2).take (Try.prog.cellsOf 3)) = _ at g2
  rw [c3] at g2
  have g3 := hf 3 _ rfl
  change DataW.trod _ _ _ _ _ _ n 32 ((cs.drop 3).take (Try.prog.cellsOf 32)) = _ at g3
  rw [c32] at g3
  have g4 := hf 4 _ rfl
  change DataW.trod _ _ _ _ _ _ n 32 ((cs.drop 4).take (Try.prog.cellsOf 32)) = _ at g4
  rw [c32] at g4
  have g5 := hf 5 _ rfl
  change DataW.trod _ _ _ _ _ _ n 30 ((cs.drop 5).take (Try.prog.cellsOf 30)) = _ at g5
  rw [c30] at g5
  have g6 := hf 6 _ rfl
  change DataW.trod _ _ _ _ _ _ n 3 ((cs.drop 6).take (Try.prog.cellsOf 3)) = _ at g6
  rw [c3] at g6
  have hx : ∀ i, i < 7 → ∃ x, xs[i]? = some x := fun i hi => ⟨_, List.getElem?_eq_getElem (by simp at hlen; omega)⟩
  obtain ⟨x0, e0⟩ := hx 0 (by omega)
  obtain ⟨x1, e1⟩ := hx 1 (by omega)
  obtain ⟨x2, e2⟩ := hx 2 (by omega)
  obtain ⟨x3, e3⟩ := hx 3 (by omega)
  obtain ⟨x4, e4⟩ := hx 4 (by omega)
  obtain ⟨x5, e5⟩ := hx 5 (by omega)
  obtain ⟨x6, e6⟩ := hx 6 (by omega)
  rw [e0] at g0
  rw [e1] at g1
  rw [e2] at g2
  rw [e3] at g3
  rw [e4] at g4
  rw [e5] at g5
  rw [e6] at g6
  obtain ⟨id, k0, _, w0⟩ := DataW.trod_int Try.underlying30 g0
  obtain ⟨fr, k1, _, w1⟩ := DataW.trod_int Try.underlying3 g1
  obtain ⟨tt, k2, _, w2⟩ := DataW.trod_int Try.underlying3 g2
  obtain ⟨lo, k3, _, w3⟩ := trod_float Try.underlying32 g3
  obtain ⟨hi, k4, _, w4⟩ := trod_float Try.underlying32 g4
  obtain ⟨au, k5, _, w5⟩ := DataW.trod_int Try.underlying30 g5
  obtain ⟨qu, k6, _, w6⟩ := DataW.trod_int Try.underlying3 g6
  simp [Lit.wf, IntKind.min, IntKind.max, IntKind.signed, IntKind.bits] at w0 w1 w2 w5 w6
  replace w3 := f64_lt w3
  replace w4 := f64_lt w4
  have h0 := get_of_take k0
  have h1 := get_of_take k1
  have h2 := get_of_take k2
  have h3 := get_of_take k3
  have h4 := get_of_take k4
  have h5 := get_of_take k5
  have h6 := get_of_take k6
  refine ⟨⟨id.toNat, fr, tt, lo, hi, au.toNat, qu⟩, ?_, ⟨by show id.toNat < _; omega, w3, w4⟩⟩
  apply List.ext_getElem?
  intro i
  by_cases hi : i < 7
  · match i, hi with
    | 0, _ => rw [h0]; show _ = some (Value.int .u64 ((id.toNat : Nat) : Int)); rw [show ((id.toNat : Nat) : Int) = id by omega]
    | 1, _ => rw [h1]; rfl
    | 2, _ => rw [h2]; rfl
    | 3, _ => rw [h3]; rfl
    | 4, _ => rw [h4]; rfl
    | 5, _ => rw [h5]; show _ = some (Value.int .u64 ((au.toNat : Nat) : Int)); rw [show ((au.toNat : Nat) : Int) = au by omega]
    | 6, _ => rw [h6]; rfl
  · rw [List.getElem?_eq_none (by omega), List.getElem?_eq_none (by rw [Enc.len]; show 7 ≤ i; omega)]
theorem rule_of_arg {H : Type} {enc : TypeId × Value → H} {W : World} {cs : Array Value} {d : DataW H} {p : List MemPlace} (h : DataW.Trod enc Try.prog W 0 (fun _ => true) true 34 (.agg cs) d p) : ∃ s : Rl, cs = #[.int .u64 (s.id : Int), .int .i64 s.fr, .int .i64 s.tt, .float .f64 s.lo, .float .f64 s.hi, .int .u64 (s.au : Int), .int .i64 s.qu] ∧ s.Ok := by
  obtain ⟨m, hm⟩ := h
  obtain ⟨r, hr, hg⟩ := rule_of_cells (cs := cs.toList) hm
  exact ⟨r, by apply Array.ext'; exact hr, hg⟩
theorem release_of_cells {H : Type} {enc : TypeId × Value → H} {W : World} {cs : List Value} {x : DataW H × List MemPlace} {m : Nat} (h : DataW.trod enc Try.prog W 0 (fun _ => true) true m 45 cs = some x) : ∃ r : Re, cs = Enc.cells r ∧ r.Ok := by
  obtain ⟨xs, n, _, _, hl, hlen, hf⟩ := DataW.trod_struct Try.underlying45 h
  have c3 : Try.prog.cellsOf 3 = 1 := by kernel_rfl
  have c30 : Try.prog.cellsOf 30 = 1 := by kernel_rfl
  have c32 : Try.prog.cellsOf 32 = 1 := by kernel_rfl
  have c45 : Try.prog.cellsOf 45 = 7 := by kernel_rfl
  rw [c45] at hl
  have g0 := hf 0 _ rfl
  change DataW.trod _ _ _ _ _ _ n 30 ((cs.drop 0).take (Try.prog.cellsOf 30)) = _ at g0
  rw [c30] at g0
  have g1 := hf 1 _ rfl
  change DataW.trod _ _ _ _ _ _ n 30 ((cs.drop 1).take (Try.prog.cellsOf 30)) = _ at g1
  rw [c30] at g1
  have g2 := hf 2 _ rfl
  change DataW.trod _ _ _ _ _ _ n 3 ((cs.drop 2).take (Try.prog.cellsOf 3)) = _ at g2
  rw [c3] at g2
  have g3 := hf 3 _ rfl
  change DataW.trod _ _ _ _ _ _ n 32 ((cs.drop 3).take (Try.prog.cellsOf 32)) = _ at g3
  rw [c32] at g3
  have g4 := hf 4 _ rfl
  change DataW.trod _ _ _ _ _ _ n 3 ((cs.drop 4).take (Try.prog.cellsOf 3)) = _ at g4
  rw [c3] at g4
  have g5 := hf 5 _ rfl
  change DataW.trod _ _ _ _ _ _ n 30 ((cs.drop 5).take (Try.prog.cellsOf 30)) = _ at g5
  rw [c30] at g5
  have g6 := hf 6 _ rfl
  change DataW.trod _ _ _ _ _ _ n 30 ((cs.drop 6).take (Try.prog.cellsOf 30)) = _ at g6
  rw [c30] at g6
  have hx : ∀ i, i < 7 → ∃ x, xs[i]? = some x := fun i hi => ⟨_, List.getElem?_eq_getElem (by simp at hlen; omega)⟩
  obtain ⟨x0, e0⟩ := hx 0 (by omega)
  obtain ⟨x1, e1⟩ := hx 1 (by omega)
  obtain ⟨x2, e2⟩ := hx 2 (by omega)
  obtain ⟨x3, e3⟩ := hx 3 (by omega)
  obtain ⟨x4, e4⟩ := hx 4 (by omega)
  obtain ⟨x5, e5⟩ := hx 5 (by omega)
  obtain ⟨x6, e6⟩ := hx 6 (by omega)
  rw [e0] at g0
  rw [e1] at g1
  rw [e2] at g2
  rw [e3] at g3
  rw [e4] at g4
  rw [e5] at g5
  rw [e6] at g6
  obtain ⟨se, k0, _, w0⟩ := DataW.trod_int Try.underlying30 g0
  obtain ⟨sq, k1, _, w1⟩ := DataW.trod_int Try.underlying30 g1
  obtain ⟨la, k2, _, w2⟩ := DataW.trod_int Try.underlying3 g2
  obtain ⟨fx, k3, _, w3⟩ := trod_float Try.underlying32 g3
  obtain ⟨tt, k4, _, w4⟩ := DataW.trod_int Try.underlying3 g4
  obtain ⟨ru, k5, _, w5⟩ := DataW.trod_int Try.underlying30 g5
  obtain ⟨au, k6, _, w6⟩ := DataW.trod_int Try.underlying30 g6
  simp [Lit.wf, IntKind.min, IntKind.max, IntKind.signed, IntKind.bits] at w0 w1 w2 w4 w5 w6
  replace w3 := f64_lt w3
  have h0 := get_of_take k0
  have h1 := get_of_take k1
  have h2 := get_of_take k2
  have h3 := get_of_take k3
  have h4 := get_of_take k4
  have h5 := get_of_take k5
  have h6 := get_of_take k6
  refine ⟨⟨se.toNat, sq.toNat, la, fx, tt, ru.toNat, au.toNat⟩, ?_, ⟨w3⟩⟩
  apply List.ext_getElem?
  intro i
  by_cases hi : i < 7
  · match i, hi with
    | 0, _ => rw [h0]; show _ = some (Value.int .u64 ((se.toNat : Nat) : Int)); rw [show ((se.toNat : Nat) : Int) = se by omega]
    | 1, _ => rw [h1]; show _ = some (Value.int .u64 ((sq.toNat : Nat) : Int)); rw [show ((sq.toNat : Nat) : Int) = sq by omega]
    | 2, _ => rw [h2]; rfl
    | 3, _ => rw [h3]; rfl
    | 4, _ => rw [h4]; rfl
    | 5, _ => rw [h5]; show _ = some (Value.int .u64 ((ru.toNat : Nat) : Int)); rw [show ((ru.toNat : Nat) : Int) = ru by omega]
    | 6, _ => rw [h6]; show _ = some (Value.int .u64 ((au.toNat : Nat) : Int)); rw [show ((au.toNat : Nat) : Int) = au by omega]
  · rw [List.getElem?_eq_none (by omega), List.getElem?_eq_none (by rw [Enc.len]; show 7 ≤ i; omega)]
theorem release_of_arg {H : Type} {enc : TypeId × Value → H} {W : World} {cs : Array Value} {d : DataW H} {p : List MemPlace} (h : DataW.Trod enc Try.prog W 0 (fun _ => true) true 45 (.agg cs) d p) : ∃ s : Re, cs = #[.int .u64 (s.se : Int), .int .u64 (s.sq : Int), .int .i64 s.la, .float .f64 s.x, .int .i64 s.tt, .int .u64 (s.ru : Int), .int .u64 (s.au : Int)] ∧ s.Ok := by
  obtain ⟨m, hm⟩ := h
  obtain ⟨r, hr, hg⟩ := release_of_cells (cs := cs.toList) hm
  exact ⟨r, by apply Array.ext'; exact hr, hg⟩
theorem rules_of_arg {H : Type} {enc : TypeId × Value → H} {W : World} {a0 : Option Addr} {len0 cap0 : Nat} {d : DataW H} {p : List MemPlace} (h : DataW.Trod enc Try.prog W 0 (fun _ => true) true 49 (.slice a0 len0 cap0) d p) :
    ∃ l : List Rl, l.length = len0 ∧ RowF W a0 l cap0 ∧ ∀ x ∈ l, x.Ok := by
  obtain ⟨fuel, hf⟩ := h
  have c34 : Try.prog.cellsOf 34 = 7 := by kernel_rfl
  rcases Deep.open_slice Try.underlying49 hf with ⟨hcs, _⟩ | ⟨a, len, cap, m, n, D, Pl, hcs, _, hl, hm, hmm, _, hx⟩
  · simp [Value.cells] at hcs
    obtain ⟨rfl, rfl, rfl⟩ := hcs
    exact ⟨[], rfl, RowF.nil _, by simp⟩
  · simp [Value.cells] at hcs
    obtain ⟨rfl, rfl, rfl⟩ := hcs
    have hmc : m = cap0 := by simpa using hmm
    subst hmc
    have hall : ∀ i, i < len0 → ∃ r : Rl, (∀ f, f < 7 → W.cell? ((a.add (i * 7)).add f) = (Enc.cells r)[f]?) ∧ r.Ok := fun i hi => by
      obtain ⟨cs', h1, h2⟩ := hx i (by omega)
      rw [c34] at h1
      obtain ⟨r, hr, hg⟩ := rule_of_cells h2
      subst hr
      refine ⟨r, fun f hf => ?_, hg⟩
      have := World.cells?_some h1
      first
        | exact this.2.2 f hf
        | exact this.2 f hf
        | exact this.2.2.2 f hf
    obtain ⟨F, hF⟩ := Deep.choose_lt (p := fun i r => (∀ f, f < 7 → W.cell? ((a.add (i * 7)).add f) = (Enc.cells (r : Rl))[f]?) ∧ r.Ok) hall
    refine ⟨(List.range len0).map F, by simp, ⟨by simpa using hl, hm, fun e => (by cases e), fun hne => ?_⟩, ?_⟩
    · have hpos : 0 < len0 := by
        rcases Nat.eq_zero_or_pos len0 with h0 | h0
        · subst h0; simp at hne
        · exact h0
      obtain ⟨b, off, spot⟩ := a
      have h0 := (hF 0 hpos).1 0 (by omega)
      have hspot : spot = none := by
        have h0' : W.cell? (((⟨b, off, spot⟩ : Addr).add (0 * 7)).add 0) = some (.int .u64 ((F 0).id : Int)) := h0
        simpa [Addr.add] using World.cell?_spot h0'
      subst hspot
      refine ⟨b, off, rfl, fun i hi f hf => ?_⟩
      have hi' : i < len0 := by simpa using hi
      have hg : ((List.range len0).map F).getD i Enc.dflt = F i := by simp [List.getD, hi']
      have hE : Enc.sz Rl = 7 := rfl
      rw [hE] at hf ⊢
      rw [hg, ← (hF i hi').1 f hf, addr_add, addr_add, Nat.add_assoc]
    · intro x hx
      obtain ⟨i, hi, rfl⟩ := List.mem_map.1 hx
      exact (hF i (by simpa using hi)).2
end Go.Proofs.Ytlneneacbjkheaa
