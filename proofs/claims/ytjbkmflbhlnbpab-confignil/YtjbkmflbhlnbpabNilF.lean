/- ConfigNil is true for every number, index, transaction and rule, and leaves them as they were. -/
import Derived.Test.YtjbkmflbhlnbpabNilWalk
import Derived.ProofKit
import Derived.OpenShut
import Derived.Lay
import Derived.ChangeOld
import Derived.Laws.Cover2
namespace Go.Proofs.Ytjbkmflbhlnbpab
open Go.ChangeShapes Go.WideShapes Go.ChangeAt Go.RowKit

theorem ownK : ownKnob Try.prog.godebug = none := by kernel_rfl
theorem laidOut : laidOutB Try.prog = true := by kernel_rfl
theorem trod_float {H : Type} {enc : TypeId × Value → H} {P : Program} {w : World} {base : Nat} {spare : Nat → Bool} {held : Bool} {fuel : Nat} {t : TypeId} {cs : List Value} {x : DataW H × List MemPlace} {k : FloatKind} (ht : P.underlying t = some (.float k)) (h : DataW.trod enc P w base spare held fuel t cs = some x) : ∃ b, cs = [.float k b] ∧ x = (.lit (.float k b), []) ∧ (Lit.float k b).wf = true := by
  cases fuel with
  | zero => simp [DataW.trod] at h
  | succ n =>
    unfold DataW.trod at h
    rw [ht] at h
    split at h <;> simp_all
theorem f64_lt {b : Nat} (h : (Lit.float .f64 b).wf = true) : b < 18446744073709551616 := by
  simp [Lit.wf] at h; omega
theorem one_of {cs : Array Value} {i : Nat} {v : Value} (h : (cs.toList.drop i).take 1 = [v]) : cs[i]? = some v := by
  have := congrArg (fun l => l[0]?) h
  simpa using this
/-- a rule that came in. -/
theorem rule_of_arg {H : Type} {enc : TypeId × Value → H} {W : World} {cs : Array Value} {d : DataW H} {p : List MemPlace} (hs : cs.size = 7) (h : DataW.Trod enc Try.prog W 0 (fun _ => true) true 30 (.agg cs) d p) :
    ∃ (id fr tt : Int) (lo hi : Nat) (au qu : Int), cs = #[.int .u64 id, .int .i64 fr, .int .i64 tt, .float .f64 lo, .float .f64 hi, .int .u64 au, .int .i64 qu] ∧ lo < 18446744073709551616 ∧ hi < 18446744073709551616 := by
  obtain ⟨m, hm⟩ := h
  obtain ⟨xs, n, _, _, hl, hlen, hf⟩ := DataW.trod_struct Try.underlying30 hm
  have c23 : Try.prog.cellsOf 23 = 1 := by kernel_rfl
  have c3 : Try.prog.cellsOf 3 = 1 := by kernel_rfl
  have c22 : Try.prog.cellsOf 22 = 1 := by kernel_rfl
  have g0 := hf 0 _ rfl
  change DataW.trod _ _ _ _ _ _ n 23 ((cs.toList.drop 0).take (Try.prog.cellsOf 23)) = _ at g0
  rw [c23] at g0
  have g1 := hf 1 _ rfl
  change DataW.trod _ _ _ _ _ _ n 3 ((cs.toList.drop 1).take (Try.prog.cellsOf 3)) = _ at g1
  rw [c3] at g1
  have g2 := hf 2 _ rfl
  change DataW.trod _ _ _ _ _ _ n 3 ((cs.toList.drop 2).take (Try.prog.cellsOf 3)) = _ at g2
  rw [c3] at g2
  have g3 := hf 3 _ rfl
  change DataW.trod _ _ _ _ _ _ n 22 ((cs.toList.drop 3).take (Try.prog.cellsOf 22)) = _ at g3
  rw [c22] at g3
  have g4 := hf 4 _ rfl
  change DataW.trod _ _ _ _ _ _ n 22 ((cs.toList.drop 4).take (Try.prog.cellsOf 22)) = _ at g4
  rw [c22] at g4
  have g5 := hf 5 _ rfl
  change DataW.trod _ _ _ _ _ _ n 23 ((cs.toList.drop 5).take (Try.prog.cellsOf 23)) = _ at g5
  rw [c23] at g5
  have g6 := hf 6 _ rfl
  change DataW.trod _ _ _ _ _ _ n 3 ((cs.toList.drop 6).take (Try.prog.cellsOf 3)) = _ at g6
  rw [c3] at g6
  have hx : ∀ i, i < 7 → ∃ x, xs[i]? = some x := fun i hi => ⟨_, List.getElem?_eq_getElem (by simp at hlen; omega)⟩
  obtain ⟨x0, e0⟩ := hx 0 (by omega)
  obtain ⟨x1, e1⟩ := hx 1 (by omega)
  obtain ⟨x2, e2⟩ := hx 2 (by omega)
  obtain ⟨x3, e3⟩ := hx 3 (by omega)
  obtain ⟨x4, e4⟩ := hx 4 (by omega)
  obtain ⟨x5, e5⟩ := hx 5 (by omega)
  obtain ⟨x6, e6⟩ := hx 6 (by omega)
  rw [e0] at g0
  rw [e1] at g1
  rw [e2] at g2
  rw [e3] at g3
  rw [e4] at g4
  rw [e5] at g5
  rw [e6] at g6
  obtain ⟨id, k0, _, _⟩ := DataW.trod_int Try.underlying23 g0
  obtain ⟨fr, k1, _, _⟩ := DataW.trod_int Try.underlying3 g1
  obtain ⟨tt, k2, _, _⟩ := DataW.trod_int Try.underlying3 g2
  obtain ⟨lo, k3, _, w3⟩ := trod_float Try.underlying22 g3
  obtain ⟨hi, k4, _, w4⟩ := trod_float Try.underlying22 g4
  obtain ⟨au, k5, _, _⟩ := DataW.trod_int Try.underlying23 g5
  obtain ⟨qu, k6, _, _⟩ := DataW.trod_int Try.underlying3 g6
  refine ⟨id, fr, tt, lo, hi, au, qu, ?_, f64_lt w3, f64_lt w4⟩
  apply Array.ext_getElem?
  intro i
  by_cases h7 : i < 7
  · match i, h7 with
    | 0, _ => exact one_of k0
    | 1, _ => exact one_of k1
    | 2, _ => exact one_of k2
    | 3, _ => exact one_of k3
    | 4, _ => exact one_of k4
    | 5, _ => exact one_of k5
    | 6, _ => exact one_of k6
  · rw [Array.getElem?_eq_none (by omega), Array.getElem?_eq_none (by simp; omega)]
theorem slice_one {H : Type} {enc : TypeId × Value → H} {P : Program} {w : World} {base : Nat} {spare : Nat → Bool} {held : Bool} {fuel : Nat} {t e : TypeId} {cs : List Value} {x : DataW H × List MemPlace} (ht : P.underlying t = some (.slice e)) (h : DataW.trod enc P w base spare held fuel t cs = some x) : ∃ a n c, cs = [.slice a n c] := by
  rcases DataW.trod_slice ht h with ⟨h, _⟩ | ⟨a, n, c, _, _, _, _, h, _⟩
  · exact ⟨_, _, _, h⟩
  · exact ⟨_, _, _, h⟩
/-- a transaction that came in. -/
theorem txn_of_arg {H : Type} {enc : TypeId × Value → H} {W : World} {cs : Array Value} {d : DataW H} {p : List MemPlace} (hs : cs.size = 6) (h : DataW.Trod enc Try.prog W 0 (fun _ => true) true 28 (.agg cs) d p) :
    ∃ (a b c : Int) (o1 o2 o3 : Option Addr) (n1 n2 n3 c1 c2 c3 : Nat), cs = #[.int .u64 a, .int .u64 b, .int .i64 c, .slice o1 n1 c1, .slice o2 n2 c2, .slice o3 n3 c3] := by
  obtain ⟨m, hm⟩ := h
  obtain ⟨xs, n, _, _, hl, hlen, hf⟩ := DataW.trod_struct Try.underlying28 hm
  have cc3 : Try.prog.cellsOf 3 = 1 := by kernel_rfl
  have c23 : Try.prog.cellsOf 23 = 1 := by kernel_rfl
  have c24 : Try.prog.cellsOf 24 = 1 := by kernel_rfl
  have c25 : Try.prog.cellsOf 25 = 1 := by kernel_rfl
  have c26 : Try.prog.cellsOf 26 = 1 := by kernel_rfl
  have g0 := hf 0 _ rfl
  change DataW.trod _ _ _ _ _ _ n 23 ((cs.toList.drop 0).take (Try.prog.cellsOf 23)) = _ at g0
  rw [c23] at g0
  have g1 := hf 1 _ rfl
  change DataW.trod _ _ _ _ _ _ n 23 ((cs.toList.drop 1).take (Try.prog.cellsOf 23)) = _ at g1
  rw [c23] at g1
  have g2 := hf 2 _ rfl
  change DataW.trod _ _ _ _ _ _ n 3 ((cs.toList.drop 2).take (Try.prog.cellsOf 3)) = _ at g2
  rw [cc3] at g2
  have g3 := hf 3 _ rfl
  change DataW.trod _ _ _ _ _ _ n 24 ((cs.toList.drop 3).take (Try.prog.cellsOf 24)) = _ at g3
  rw [c24] at g3
  have g4 := hf 4 _ rfl
  change DataW.trod _ _ _ _ _ _ n 25 ((cs.toList.drop 4).take (Try.prog.cellsOf 25)) = _ at g4
  rw [c25] at g4
  have g5 := hf 5 _ rfl
  change DataW.trod _ _ _ _ _ _ n 26 ((cs.toList.drop 5).take (Try.prog.cellsOf 26)) = _ at g5
  rw [c26] at g5
  have hx : ∀ i, i < 6 → ∃ x, xs[i]? = some x := fun i hi => ⟨_, List.getElem?_eq_getElem (by simp at hlen; omega)⟩
  obtain ⟨x0, e0⟩ := hx 0 (by omega)
  rw [e0] at g0
  obtain ⟨x1, e1⟩ := hx 1 (by omega)
  rw [e1] at g1
  obtain ⟨x2, e2⟩ := hx 2 (by omega)
  rw [e2] at g2
  obtain ⟨x3, e3⟩ := hx 3 (by omega)
  rw [e3] at g3
  obtain ⟨x4, e4⟩ := hx 4 (by omega)
  rw [e4] at g4
  obtain ⟨x5, e5⟩ := hx 5 (by omega)
  rw [e5] at g5
  obtain ⟨a, k0, _, _⟩ := DataW.trod_int Try.underlying23 g0
  obtain ⟨b, k1, _, _⟩ := DataW.trod_int Try.underlying23 g1
  obtain ⟨c, k2, _, _⟩ := DataW.trod_int Try.underlying3 g2
  obtain ⟨o1, n1, c1, k3⟩ := slice_one Try.underlying24 g3
  obtain ⟨o2, n2, c2, k4⟩ := slice_one Try.underlying25 g4
  obtain ⟨o3, n3, c3, k5⟩ := slice_one Try.underlying26 g5
  refine ⟨a, b, c, o1, o2, o3, n1, n2, n3, c1, c2, c3, ?_⟩
  apply Array.ext_getElem?
  intro i
  by_cases h7 : i < 6
  · match i, h7 with
    | 0, _ => exact one_of k0
    | 1, _ => exact one_of k1
    | 2, _ => exact one_of k2
    | 3, _ => exact one_of k3
    | 4, _ => exact one_of k4
    | 5, _ => exact one_of k5
  · rw [Array.getElem?_eq_none (by omega), Array.getElem?_eq_none (by simp; omega)]
end Go.Proofs.Ytjbkmflbhlnbpab
namespace Go.Proofs.Ytjbkmflbhlnbpab.configNil
open Go.ChangeShapes Go.WideShapes Go.ChangeAt Go.RowKit

set_option maxRecDepth 100000 in
theorem lifted (os : Os) (started : os.Started) (H : Type) (enc : TypeId × Value → H) :
    ReturnsInHanded {} Try.checked os 3 .any (Rows.configNilSpec.pre6 enc Try.prog Try.f3 Rows.configNilRow.domain false) (Rows.configNilSpec.post enc Try.prog Try.f3 false true false false) := by
  refine returnsInHanded_of_change (C := Try.checked) ownK started (by kernel_rfl) Try.func3
    (ChangeSpec.witness6 (enc := enc) (C := Try.checked) false ⟨#[], #[.float .f64 0, .int .i64 0, .agg #[.int .u64 0, .int .u64 0, .int .i64 0, .slice none 0 0, .slice none 0 0, .slice none 0 0], .agg #[.int .u64 0, .int .i64 0, .int .i64 0, .float .f64 0, .float .f64 0, .int .u64 0, .int .i64 0]], []⟩ 8 (by kernel_rfl) (by kernel_rfl) (by kernel_rfl) (by kernel_rfl)) ?_
  intro W base args ds gs before hval0 hW _ _
  have hval : ∀ (j : Nat) t v, Try.f3.params[j]? = some t → args[j]? = some v → Value.okWide Try.prog W .any base t v := hval0
  have hW' := hW
  obtain ⟨p, q, hA0, hV, rfl, _, _⟩ := hW
  have hA : DataW.TrodAll enc Try.prog W 0 (fun _ => true) true Try.f3.params.toList args.toList ds p := hA0
  rw [Try.params3] at hA hval
  obtain ⟨v0, vs0, d0, ds0, p0, q0, hargs, rfl, rfl, h0, r0⟩ := trodAll_cons hA
  obtain ⟨v1, vs1, d1, ds1, p1, q1, rfl, rfl, rfl, h1, r1⟩ := trodAll_cons r0
  obtain ⟨v2, vs2, d2, ds2, p2, q2, rfl, rfl, rfl, h2, r2⟩ := trodAll_cons r1
  obtain ⟨v3, vs3, d3, ds3, p3, q3, rfl, rfl, rfl, h3, r3⟩ := trodAll_cons r2
  obtain ⟨rfl, rfl, rfl⟩ := trodAll_nil r3
  obtain rfl : args = #[v0, v1, v2, v3] := by cases args; simp_all
  obtain ⟨rfl, rfl⟩ := trodVars_none hV
  obtain ⟨x0, rfl, rfl, rfl, w0⟩ := open_float Try.underlying22 (hval 0 22 v0 rfl rfl) h0
  obtain ⟨a1, rfl, rfl, rfl, w1⟩ := open_int Try.underlying3 (hval 1 3 v1 rfl rfl) h1
  obtain ⟨cs2, rfl, hsz2⟩ := okWide_struct Try.underlying28 (hval 2 28 v2 rfl rfl)
  have k2 := h2
  have lt2 : ∀ x ∈ p2, x.block < W.heap.size := by obtain ⟨m, hm⟩ := k2; exact DataW.trod_lt m _ _ _ hm
  obtain ⟨a, b, c, o1, o2, o3, n1, n2, n3, c1, c2, c3, rfl⟩ := txn_of_arg (hsz2.trans (by kernel_rfl)) h2
  obtain ⟨cs3, rfl, hsz3⟩ := okWide_struct Try.underlying30 (hval 3 30 v3 rfl rfl)
  have k3 := h3
  have lt3 : ∀ x ∈ p3, x.block < W.heap.size := by obtain ⟨m, hm⟩ := k3; exact DataW.trod_lt m _ _ _ hm
  obtain ⟨id, fr, tt, lo, hi, au, qu, rfl, hlo, hhi⟩ := rule_of_arg (hsz3.trans (by kernel_rfl)) h3
  clear hA0 hval0
  refine (nil_walk x0 a1 a b c o1 o2 o3 n1 n2 n3 c1 c2 c3 id fr tt lo hi au qu W).mono fun e W' ⟨he, hf⟩ => ?_
  have bel : Below W.heap.size W W' := hf.below (Nat.le_refl _) (fun _ _ h => h.elim)
  subst he
  exact ⟨_, rfl, _, _, _, [], _, [], hW', trodAll_mk1 (shut_bool Try.underlying4 _), (trodAll_cons_mk (shut_float Try.underlying22 w0) (trodAll_cons_mk (shut_int Try.underlying3 w1) (trodAll_cons_mk (Below.trod laidOut (by kernel_rfl) (of_decide_eq_true (by kernel_rfl)) k2 bel lt2) (trodAll_cons_mk (Below.trod laidOut (by kernel_rfl) (of_decide_eq_true (by kernel_rfl)) k3 bel lt3) trodAll_mk0)))), rfl, bel.frame _, fun h => by cases h⟩

theorem over : Rows.configNilRow.holds Try.pinned (OpenSpec.ofChange Rows.configNilSpec) :=
  OpenClaim.holds_of_wide 3 Try.f3 rfl rfl rfl rfl rfl rfl rfl ⟨rfl, rfl, rfl, rfl, rfl⟩ rfl rfl rfl rfl rfl (by kernel_rfl) Try.func3 (by kernel_rfl)
    (of_decide_eq_true (by kernel_rfl)) (by unfold Func.isWrapper; first | (rw [if_pos (by decide +kernel)]; kernel_rfl) | (rw [if_neg (by decide +kernel)]; exact ⟨rfl, rfl⟩))
    (fun os started H enc _ => lifted os started H enc)
end Go.Proofs.Ytjbkmflbhlnbpab.configNil
namespace Go.Proofs.Ytjbkmflbhlnbpab
/-- THE STATEMENT. -/
theorem configNil_holds : Rows.ConfigNilSaid := configNil.over
#print axioms configNil_holds
end Go.Proofs.Ytjbkmflbhlnbpab
