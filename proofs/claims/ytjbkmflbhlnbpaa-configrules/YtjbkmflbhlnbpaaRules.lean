/- ConfigRules is true for every byte and every rule, and leaves them as they were. -/
import Derived.Test.YtjbkmflbhlnbpaaRulesWalk
import Derived.ProofKit
import Derived.OpenShut
import Derived.Lay
import Derived.ChangeOld
import Derived.Laws.Cover2
namespace Go.Proofs.Ytjbkmflbhlnbpaa
open Go.ChangeShapes Go.WideShapes Go.ChangeAt Go.RowKit

theorem rules_all (k : Int) (hk : (Lit.int .u8 k).wf = true) (id fr tt : Int) (lo hi : Nat) (au qu : Int) (hlo : lo < 18446744073709551616) (hhi : hi < 18446744073709551616) (w : World) :
    Calls Try.prog 7 #[.int .u8 k, .agg #[.int .u64 id, .int .i64 fr, .int .i64 tt, .float .f64 lo, .float .f64 hi, .int .u64 au, .int .i64 qu]] w fun e w' => e = .returned (.bool true) ∧ Fr (fun _ => False) w w' := by
  obtain ⟨k, rfl, hk'⟩ : ∃ n : Nat, k = n ∧ n < 256 := by
    simp [Lit.wf, IntKind.min, IntKind.max, IntKind.signed, IntKind.bits] at hk
    exact ⟨k.toNat, by omega, by omega⟩
  have en : 1 + (k : Int) / 5 % 3 = ((1 + k / 5 % 3 : Nat) : Int) := by omega
  have hnd : 1 ≤ 1 + k / 5 % 3 ∧ 1 + k / 5 % 3 ≤ 7 := by omega
  by_cases h5 : (k : Int) % 5 = 4 <;> by_cases hc : (k : Int) / 16 % 2 = 1
  · exact rules_of k _ [3, 2] [0] (lats_fine 0) hnd (by decide) (fun w => small_d k _ hk' en h5 hc w) id fr tt lo hi au qu hlo hhi w
  · exact rules_of k _ [3, 2] [] (lats_fine 0) hnd (by decide) (fun w => small_c k _ hk' en h5 (beq_eq_false_iff_ne.2 hc) w) id fr tt lo hi au qu hlo hhi w
  · exact rules_of k _ (lats k) [0] (lats_fine k) hnd (by decide) (fun w => small_b k _ hk' en (beq_eq_false_iff_ne.2 h5) hc w) id fr tt lo hi au qu hlo hhi w
  · exact rules_of k _ (lats k) [] (lats_fine k) hnd (by decide) (fun w => small_a k _ hk' en (beq_eq_false_iff_ne.2 h5) (beq_eq_false_iff_ne.2 hc) w) id fr tt lo hi au qu hlo hhi w

theorem ownK : ownKnob Try.prog.godebug = none := by kernel_rfl
theorem laidOut : laidOutB Try.prog = true := by kernel_rfl
theorem trod_float {H : Type} {enc : TypeId × Value → H} {P : Program} {w : World} {base : Nat} {spare : Nat → Bool} {held : Bool} {fuel : Nat} {t : TypeId} {cs : List Value} {x : DataW H × List MemPlace} {k : FloatKind} (ht : P.underlying t = some (.float k)) (h : DataW.trod enc P w base spare held fuel t cs = some x) : ∃ b, cs = [.float k b] ∧ x = (.lit (.float k b), []) ∧ (Lit.float k b).wf = true := by
  cases fuel with
  | zero => simp [DataW.trod] at h
  | succ n =>
    unfold DataW.trod at h
    rw [ht] at h
    split at h <;> simp_all
theorem f64_lt {b : Nat} (h : (Lit.float .f64 b).wf = true) : b < 18446744073709551616 := by
  simp [Lit.wf] at h; omega
theorem one_of {cs : Array Value} {i : Nat} {v : Value} (h : (cs.toList.drop i).take 1 = [v]) : cs[i]? = some v := by
  have := congrArg (fun l => l[0]?) h
  simpa using this
/-- a rule that came in. -/
theorem rule_of_arg {H : Type} {enc : TypeId × Value → H} {W : World} {cs : Array Value} {d : DataW H} {p : List MemPlace} (hs : cs.size = 7) (h : DataW.Trod enc Try.prog W 0 (fun _ => true) true 54 (.agg cs) d p) :
    ∃ (id fr tt : Int) (lo hi : Nat) (au qu : Int), cs = #[.int .u64 id, .int .i64 fr, .int .i64 tt, .float .f64 lo, .float .f64 hi, .int .u64 au, .int .i64 qu] ∧ lo < 18446744073709551616 ∧ hi < 18446744073709551616 := by
  obtain ⟨m, hm⟩ := h
  obtain ⟨xs, n, _, _, hl, hlen, hf⟩ := DataW.trod_struct Try.underlying54 hm
  have c42 : Try.prog.cellsOf 42 = 1 := by kernel_rfl
  have c3 : Try.prog.cellsOf 3 = 1 := by kernel_rfl
  have c34 : Try.prog.cellsOf 34 = 1 := by kernel_rfl
  have g0 := hf 0 _ rfl
  change DataW.trod _ _ _ _ _ _ n 42 ((cs.toList.drop 0).take (Try.prog.cellsOf 42)) = _ at g0
  rw [c42] at g0
  have g1 := hf 1 _ rfl
  change DataW.trod _ _ _ _ _ _ n 3 ((cs.toList.drop 1).take (Try.prog.cellsOf 3)) = _ at g1
  rw [c3] at g1
  have g2 := hf 2 _ rfl
  change DataW.trod _ _ _ _ _ _ n 3 ((cs.toList.drop 2).take (Try.prog.cellsOf 3)) = _ at g2
  rw [c3] at g2
  have g3 := hf 3 _ rfl
  change DataW.trod _ _ _ _ _ _ n 34 ((cs.toList.drop 3).take (Try.prog.cellsOf 34)) = _ at g3
  rw [c34] at g3
  have g4 := hf 4 _ rfl
  change DataW.trod _ _ _ _ _ _ n 34 ((cs.toList.drop 4).take (Try.prog.cellsOf 34)) = _ at g4
  rw [c34] at g4
  have g5 := hf 5 _ rfl
  change DataW.trod _ _ _ _ _ _ n 42 ((cs.toList.drop 5).take (Try.prog.cellsOf 42)) = _ at g5
  rw [c42] at g5
  have g6 := hf 6 _ rfl
  change DataW.trod _ _ _ _ _ _ n 3 ((cs.toList.drop 6).take (Try.prog.cellsOf 3)) = _ at g6
  rw [c3] at g6
  have hx : ∀ i, i < 7 → ∃ x, xs[i]? = some x := fun i hi => ⟨_, List.getElem?_eq_getElem (by simp at hlen; omega)⟩
  obtain ⟨x0, e0⟩ := hx 0 (by omega)
  obtain ⟨x1, e1⟩ := hx 1 (by omega)
  obtain ⟨x2, e2⟩ := hx 2 (by omega)
  obtain ⟨x3, e3⟩ := hx 3 (by omega)
  obtain ⟨x4, e4⟩ := hx 4 (by omega)
  obtain ⟨x5, e5⟩ := hx 5 (by omega)
  obtain ⟨x6, e6⟩ := hx 6 (by omega)
  rw [e0] at g0
  rw [e1] at g1
  rw [e2] at g2
  rw [e3] at g3
  rw [e4] at g4
  rw [e5] at g5
  rw [e6] at g6
  obtain ⟨id, k0, _, _⟩ := DataW.trod_int Try.underlying42 g0
  obtain ⟨fr, k1, _, _⟩ := DataW.trod_int Try.underlying3 g1
  obtain ⟨tt, k2, _, _⟩ := DataW.trod_int Try.underlying3 g2
  obtain ⟨lo, k3, _, w3⟩ := trod_float Try.underlying34 g3
  obtain ⟨hi, k4, _, w4⟩ := trod_float Try.underlying34 g4
  obtain ⟨au, k5, _, _⟩ := DataW.trod_int Try.underlying42 g5
  obtain ⟨qu, k6, _, _⟩ := DataW.trod_int Try.underlying3 g6
  refine ⟨id, fr, tt, lo, hi, au, qu, ?_, f64_lt w3, f64_lt w4⟩
  apply Array.ext_getElem?
  intro i
  by_cases h7 : i < 7
  · match i, h7 with
    | 0, _ => exact one_of k0
    | 1, _ => exact one_of k1
    | 2, _ => exact one_of k2
    | 3, _ => exact one_of k3
    | 4, _ => exact one_of k4
    | 5, _ => exact one_of k5
    | 6, _ => exact one_of k6
  · rw [Array.getElem?_eq_none (by omega), Array.getElem?_eq_none (by simp; omega)]
end Go.Proofs.Ytjbkmflbhlnbpaa
namespace Go.Proofs.Ytjbkmflbhlnbpaa.configRules
open Go.ChangeShapes Go.WideShapes Go.ChangeAt Go.RowKit

set_option maxRecDepth 100000 in
theorem lifted (os : Os) (started : os.Started) (H : Type) (enc : TypeId × Value → H) :
    ReturnsInHanded {} Try.checked os 7 .any (Rows.configRulesSpec.pre6 enc Try.prog Try.f7 Rows.configRulesRow.domain false) (Rows.configRulesSpec.post enc Try.prog Try.f7 false true false false) := by
  refine returnsInHanded_of_change (C := Try.checked) ownK started (by kernel_rfl) Try.func7
    (ChangeSpec.witness6 (enc := enc) (C := Try.checked) false ⟨#[], #[.int .u8 0, .agg #[.int .u64 0, .int .i64 0, .int .i64 0, .float .f64 0, .float .f64 0, .int .u64 0, .int .i64 0]], []⟩ 8 (by kernel_rfl) (by kernel_rfl) (by kernel_rfl) (by kernel_rfl)) ?_
  intro W base args ds gs before hval0 hW _ _
  have hval : ∀ (j : Nat) t v, Try.f7.params[j]? = some t → args[j]? = some v → Value.okWide Try.prog W .any base t v := hval0
  have hW' := hW
  obtain ⟨p, q, hA0, hV, rfl, _, _⟩ := hW
  have hA : DataW.TrodAll enc Try.prog W 0 (fun _ => true) true Try.f7.params.toList args.toList ds p := hA0
  rw [Try.params7] at hA hval
  obtain ⟨v0, vs0, d0, ds0, p0, q0, hargs, rfl, rfl, h0, r0⟩ := trodAll_cons hA
  obtain ⟨v1, vs1, d1, ds1, p1, q1, rfl, rfl, rfl, h1, r1⟩ := trodAll_cons r0
  obtain ⟨rfl, rfl, rfl⟩ := trodAll_nil r1
  obtain rfl : args = #[v0, v1] := by cases args; simp_all
  obtain ⟨rfl, rfl⟩ := trodVars_none hV
  obtain ⟨a0, rfl, rfl, rfl, w0⟩ := open_int Try.underlying5 (hval 0 5 v0 rfl rfl) h0
  obtain ⟨cs, rfl, hsz⟩ := okWide_struct Try.underlying54 (hval 1 54 v1 rfl rfl)
  have k1 := h1
  have lt1 : ∀ x ∈ p1, x.block < W.heap.size := by obtain ⟨m, hm⟩ := k1; exact DataW.trod_lt m _ _ _ hm
  obtain ⟨id, fr, tt, lo, hi, au, qu, rfl, hlo, hhi⟩ := rule_of_arg (hsz.trans (by kernel_rfl)) h1
  clear hA0 hval0
  refine (rules_all a0 w0 id fr tt lo hi au qu hlo hhi W).mono fun e W' ⟨he, hf⟩ => ?_
  have bel : Below W.heap.size W W' := hf.below (Nat.le_refl _) (fun _ _ h => h.elim)
  subst he
  exact ⟨_, rfl, _, _, _, [], _, [], hW', trodAll_mk1 (shut_bool Try.underlying4 _), (trodAll_cons_mk (shut_int Try.underlying5 w0) (trodAll_cons_mk (Below.trod laidOut (by kernel_rfl) (of_decide_eq_true (by kernel_rfl)) k1 bel lt1) trodAll_mk0)), rfl, bel.frame _, fun h => by cases h⟩

theorem over : Rows.configRulesRow.holds Try.pinned (OpenSpec.ofChange Rows.configRulesSpec) :=
  OpenClaim.holds_of_wide 7 Try.f7 rfl rfl rfl rfl rfl rfl rfl ⟨rfl, rfl, rfl, rfl, rfl⟩ rfl rfl rfl rfl rfl (by kernel_rfl) Try.func7 (by kernel_rfl)
    (of_decide_eq_true (by kernel_rfl)) (by unfold Func.isWrapper; first | (rw [if_pos (by decide +kernel)]; kernel_rfl) | (rw [if_neg (by decide +kernel)]; exact ⟨rfl, rfl⟩))
    (fun os started H enc _ => lifted os started H enc)
end Go.Proofs.Ytjbkmflbhlnbpaa.configRules
namespace Go.Proofs.Ytjbkmflbhlnbpaa
/-- THE STATEMENT. -/
theorem configRules_holds : Rows.ConfigRulesSaid := configRules.over
#print axioms configRules_holds
end Go.Proofs.Ytjbkmflbhlnbpaa
