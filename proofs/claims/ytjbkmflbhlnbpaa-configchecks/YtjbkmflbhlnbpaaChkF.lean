/- ConfigChecks is true for every config, and leaves it as it was. -/
import Derived.Test.YtjbkmflbhlnbpaaChkW
import Derived.Test.YtjbkmflbhlnbpaaFloats
namespace Go.Proofs.Ytjbkmflbhlnbpaa
open Go.ChangeShapes Go.WideShapes Go.ChangeAt Go.RowKit

theorem addr_add9 (b off i : Nat) : (⟨b, off, none⟩ : Addr).add i = ⟨b, off + i, none⟩ := by
  unfold Addr.add; split <;> simp_all
theorem came_of_arg {H : Type} {enc : TypeId × Value → H} {W : World} {t e : TypeId} {k : IntKind} {M : Nat} (hs : Try.prog.underlying t = some (.slice e)) (he : Try.prog.underlying e = some (.int k)) (hz1 : Try.prog.cellsOf e = 1) (hM : ∀ z : Int, (Lit.int k z).wf = true → 0 ≤ z ∧ z < M)
    {a0 : Option Addr} {len0 cap0 : Nat} {d : DataW H} {p : List MemPlace} (h : DataW.Trod enc Try.prog W 0 (fun _ => true) true t (.slice a0 len0 cap0) d p) :
    ∃ l : List Nat, l.length = len0 ∧ (∀ x ∈ l, x < M) ∧ l.length ≤ maxLen ∧ (l ≠ [] → ∃ b off, a0 = some ⟨b, off, none⟩ ∧ At k W b off l) := by
  obtain ⟨fuel, hf⟩ := h
  rcases open_ints hs he hz1 hf with ⟨hcs, _⟩ | ⟨x, l, c, zs, hcs, _, hl, hm, hz, _, hcell, hwz⟩
  · simp [Value.cells] at hcs
    obtain ⟨rfl, rfl, rfl⟩ := hcs
    exact ⟨[], rfl, by simp, by simp, fun h => absurd rfl h⟩
  · simp [Value.cells] at hcs
    obtain ⟨rfl, rfl, rfl⟩ := hcs
    have hzl : zs.length = cap0 := by simpa using hz
    have hb : ∀ z ∈ zs, 0 ≤ z ∧ z < M := fun z hz => hM z (hwz z hz)
    refine ⟨(zs.take len0).map Int.toNat, by simp; omega, ?_, by simp; omega, fun hne => ?_⟩
    · intro y hy
      obtain ⟨z, hz1, rfl⟩ := List.mem_map.1 hy
      have := hb z (List.mem_of_mem_take hz1)
      omega
    · have hpos : 0 < zs.length := by
        rcases Nat.eq_zero_or_pos zs.length with h0 | h0
        · have : zs = [] := List.eq_nil_of_length_eq_zero h0
          subst this; simp at hne
        · exact h0
      obtain ⟨b, off, spot⟩ := x
      have h0 := hcell 0 hpos
      have hspot : spot = none := by simpa [Addr.add] using World.cell?_spot h0
      subst hspot
      refine ⟨b, off, rfl, fun i hi => ?_⟩
      have hi' : i < zs.length ∧ i < len0 := by simp at hi; omega
      have h1 := hcell i hi'.1
      rw [addr_add9] at h1
      rw [h1]
      have hz0 := hb (zs.getD i 0) (by rw [List.getD_eq_getElem?_getD, List.getElem?_eq_getElem hi'.1]; exact List.getElem_mem _)
      have e : (((zs.take len0).map Int.toNat).getD i 0 : Nat) = (zs.getD i 0).toNat := by
        simp [List.getD_eq_getElem?_getD, hi'.2, hi'.1]
      rw [e, Int.toNat_of_nonneg hz0.1]
theorem wf_u64 (z : Int) (h : (Lit.int .u64 z).wf = true) : 0 ≤ z ∧ z < (18446744073709551616 : Nat) := by
  simp [Lit.wf, IntKind.min, IntKind.max, IntKind.signed, IntKind.bits] at h
  omega
theorem slice_one {H : Type} {enc : TypeId × Value → H} {P : Program} {w : World} {base : Nat} {spare : Nat → Bool} {held : Bool} {fuel : Nat} {t e : TypeId} {cs : List Value} {x : DataW H × List MemPlace} (ht : P.underlying t = some (.slice e)) (h : DataW.trod enc P w base spare held fuel t cs = some x) : ∃ a n c, cs = [.slice a n c] := by
  rcases DataW.trod_slice ht h with ⟨h, _⟩ | ⟨a, n, c, _, _, _, _, h, _⟩
  · exact ⟨_, _, _, h⟩
  · exact ⟨_, _, _, h⟩
theorem one_of9 {cs : Array Value} {i : Nat} {v : Value} (h : (cs.toList.drop i).take 1 = [v]) : cs[i]? = some v := by
  have := congrArg (fun l => l[0]?) h
  simpa using this
/-- a config that came in. -/
theorem cfg_of_arg {H : Type} {enc : TypeId × Value → H} {W : World} {cs : Array Value} {d : DataW H} {p : List MemPlace} (hs : cs.size = 9) (h : DataW.Trod enc Try.prog W 0 (fun _ => true) true 25 (.agg cs) d p) :
    ∃ (ao2 : Option Addr) (cap2 : Nat) (L cl : List Nat) (ao : Option Addr) (cap : Nat) (z1 z3 z4 z5 z6 z7 z8 : Int), cs = cfg (.slice ao2 L.length cap2) z1 (.slice ao cl.length cap) z3 z4 z5 z6 z7 z8 ∧ CameU W ao2 L ∧ FRow W ao cl cap ∧ (ao = none → cap = 0) := by
  obtain ⟨m, hm⟩ := h
  obtain ⟨xs, f, _, _, hl, hlen, hf⟩ := DataW.trod_struct Try.underlying25 hm
  have t22 : Try.prog.cellsOf 22 = 1 := by kernel_rfl
  have t3 : Try.prog.cellsOf 3 = 1 := by kernel_rfl
  have t23 : Try.prog.cellsOf 23 = 1 := by kernel_rfl
  have t42 : Try.prog.cellsOf 42 = 1 := by kernel_rfl
  have g0 := hf 0 _ rfl
  change DataW.trod _ _ _ _ _ _ f 22 ((cs.toList.drop 0).take (Try.prog.cellsOf 22)) = _ at g0
  rw [t22] at g0
  have g1 := hf 1 _ rfl
  change DataW.trod _ _ _ _ _ _ f 3 ((cs.toList.drop 1).take (Try.prog.cellsOf 3)) = _ at g1
  rw [t3] at g1
  have g2 := hf 2 _ rfl
  change DataW.trod _ _ _ _ _ _ f 23 ((cs.toList.drop 2).take (Try.prog.cellsOf 23)) = _ at g2
  rw [t23] at g2
  have g3 := hf 3 _ rfl
  change DataW.trod _ _ _ _ _ _ f 3 ((cs.toList.drop 3).take (Try.prog.cellsOf 3)) = _ at g3
  rw [t3] at g3
  have g4 := hf 4 _ rfl
  change DataW.trod _ _ _ _ _ _ f 3 ((cs.toList.drop 4).take (Try.prog.cellsOf 3)) = _ at g4
  rw [t3] at g4
  have g5 := hf 5 _ rfl
  change DataW.trod _ _ _ _ _ _ f 3 ((cs.toList.drop 5).take (Try.prog.cellsOf 3)) = _ at g5
  rw [t3] at g5
  have g6 := hf 6 _ rfl
  change DataW.trod _ _ _ _ _ _ f 3 ((cs.toList.drop 6).take (Try.prog.cellsOf 3)) = _ at g6
  rw [t3] at g6
  have g7 := hf 7 _ rfl
  change DataW.trod _ _ _ _ _ _ f 3 ((cs.toList.drop 7).take (Try.prog.cellsOf 3)) = _ at g7
  rw [t3] at g7
  have g8 := hf 8 _ rfl
  change DataW.trod _ _ _ _ _ _ f 3 ((cs.toList.drop 8).take (Try.prog.cellsOf 3)) = _ at g8
  rw [t3] at g8
  have hx : ∀ i, i < 9 → ∃ x, xs[i]? = some x := fun i hi => ⟨_, List.getElem?_eq_getElem (by simp at hlen; omega)⟩
  obtain ⟨x0, e0⟩ := hx 0 (by omega)
  rw [e0] at g0
  obtain ⟨x1, e1⟩ := hx 1 (by omega)
  rw [e1] at g1
  obtain ⟨x2, e2⟩ := hx 2 (by omega)
  rw [e2] at g2
  obtain ⟨x3, e3⟩ := hx 3 (by omega)
  rw [e3] at g3
  obtain ⟨x4, e4⟩ := hx 4 (by omega)
  rw [e4] at g4
  obtain ⟨x5, e5⟩ := hx 5 (by omega)
  rw [e5] at g5
  obtain ⟨x6, e6⟩ := hx 6 (by omega)
  rw [e6] at g6
  obtain ⟨x7, e7⟩ := hx 7 (by omega)
  rw [e7] at g7
  obtain ⟨x8, e8⟩ := hx 8 (by omega)
  rw [e8] at g8
  obtain ⟨z1, k1, _, _⟩ := DataW.trod_int Try.underlying3 g1
  obtain ⟨z3, k3, _, _⟩ := DataW.trod_int Try.underlying3 g3
  obtain ⟨z4, k4, _, _⟩ := DataW.trod_int Try.underlying3 g4
  obtain ⟨z5, k5, _, _⟩ := DataW.trod_int Try.underlying3 g5
  obtain ⟨z6, k6, _, _⟩ := DataW.trod_int Try.underlying3 g6
  obtain ⟨z7, k7, _, _⟩ := DataW.trod_int Try.underlying3 g7
  obtain ⟨z8, k8, _, _⟩ := DataW.trod_int Try.underlying3 g8
  obtain ⟨ao2, n2, cap2, k0⟩ := slice_one Try.underlying22 g0
  obtain ⟨ao, n, cap, k2⟩ := slice_one Try.underlying23 g2
  rw [k0] at g0
  rw [k2] at g2
  obtain ⟨L, rfl, hb, hL, hA⟩ := came_of_arg (enc := enc) (d := x0.1) (p := x0.2) Try.underlying22 Try.underlying42 t42 wf_u64 ⟨f, g0⟩
  obtain ⟨cl, rfl, hF, hno⟩ := frow_of_arg (enc := enc) (d := x2.1) (p := x2.2) ⟨f, g2⟩
  refine ⟨ao2, cap2, L, cl, ao, cap, z1, z3, z4, z5, z6, z7, z8, ?_, ⟨hL, hb, hA⟩, hF, hno⟩
  unfold cfg
  apply Array.ext_getElem?
  intro i
  by_cases h7 : i < 9
  · match i, h7 with
    | 0, _ => exact one_of9 k0
    | 1, _ => exact one_of9 k1
    | 2, _ => exact one_of9 k2
    | 3, _ => exact one_of9 k3
    | 4, _ => exact one_of9 k4
    | 5, _ => exact one_of9 k5
    | 6, _ => exact one_of9 k6
    | 7, _ => exact one_of9 k7
    | 8, _ => exact one_of9 k8
  · rw [Array.getElem?_eq_none (by omega), Array.getElem?_eq_none (by simp; omega)]
end Go.Proofs.Ytjbkmflbhlnbpaa
namespace Go.Proofs.Ytjbkmflbhlnbpaa.configChecks
open Go.ChangeShapes Go.WideShapes Go.ChangeAt Go.RowKit

set_option maxRecDepth 100000 in
theorem lifted (os : Os) (started : os.Started) (H : Type) (enc : TypeId × Value → H) :
    ReturnsInHanded {} Try.checked os 3 .any (Rows.configChecksSpec.pre6 enc Try.prog Try.f3 Rows.configChecksRow.domain false) (Rows.configChecksSpec.post enc Try.prog Try.f3 false true false false) := by
  refine returnsInHanded_of_change (C := Try.checked) ownK2 started (by kernel_rfl) Try.func3
    (ChangeSpec.witness6 (enc := enc) (C := Try.checked) false ⟨#[], #[.agg #[.slice none 0 0, .int .i64 0, .slice none 0 0, .int .i64 0, .int .i64 0, .int .i64 0, .int .i64 0, .int .i64 0, .int .i64 0]], []⟩ 8 (by kernel_rfl) (by kernel_rfl) (by kernel_rfl) (by kernel_rfl)) ?_
  intro W base args ds gs before hval0 hW _ _
  have hval : ∀ (j : Nat) t v, Try.f3.params[j]? = some t → args[j]? = some v → Value.okWide Try.prog W .any base t v := hval0
  have hW' := hW
  obtain ⟨p, q, hA0, hV, rfl, _, _⟩ := hW
  have hA : DataW.TrodAll enc Try.prog W 0 (fun _ => true) true Try.f3.params.toList args.toList ds p := hA0
  rw [Try.params3] at hA hval
  obtain ⟨v0, vs0, d0, ds0, p0, q0, hargs, rfl, rfl, h0, r0⟩ := trodAll_cons hA
  obtain ⟨rfl, rfl, rfl⟩ := trodAll_nil r0
  obtain rfl : args = #[v0] := by cases args; simp_all
  obtain ⟨rfl, rfl⟩ := trodVars_none hV
  obtain ⟨cs, rfl, hsz⟩ := okWide_struct Try.underlying25 (hval 0 25 v0 rfl rfl)
  have k0 := h0
  have lt0 : ∀ x ∈ p0, x.block < W.heap.size := by obtain ⟨m, hm⟩ := k0; exact DataW.trod_lt m _ _ _ hm
  obtain ⟨ao2, cap2, L, cl, ao, cap, z1, z3, z4, z5, z6, z7, z8, rfl, hU, hF, hno⟩ := cfg_of_arg (hsz.trans (by kernel_rfl)) h0
  clear hA0 hval0
  refine (checks_walk ao2 cap2 L cl ao cap z1 z3 z4 z5 z6 z7 z8 W hU hF hno).mono fun e W' ⟨he, hf⟩ => ?_
  have bel : Below W.heap.size W W' := hf.below (Nat.le_refl _) (fun _ _ h => h.elim)
  subst he
  exact ⟨_, rfl, _, _, _, [], _, [], hW', trodAll_mk1 (shut_bool Try.underlying4 _), (trodAll_cons_mk (Below.trod laidOut2 (by kernel_rfl) (of_decide_eq_true (by kernel_rfl)) k0 bel lt0) trodAll_mk0), rfl, bel.frame _, fun h => by cases h⟩

theorem over : Rows.configChecksRow.holds Try.pinned (OpenSpec.ofChange Rows.configChecksSpec) :=
  OpenClaim.holds_of_wide 3 Try.f3 rfl rfl rfl rfl rfl rfl rfl ⟨rfl, rfl, rfl, rfl, rfl⟩ rfl rfl rfl rfl rfl (by kernel_rfl) Try.func3 (by kernel_rfl)
    (of_decide_eq_true (by kernel_rfl)) (by unfold Func.isWrapper; first | (rw [if_pos (by decide +kernel)]; kernel_rfl) | (rw [if_neg (by decide +kernel)]; exact ⟨rfl, rfl⟩))
    (fun os started H enc _ => lifted os started H enc)
end Go.Proofs.Ytjbkmflbhlnbpaa.configChecks
namespace Go.Proofs.Ytjbkmflbhlnbpaa
/-- THE STATEMENT. -/
theorem configChecks_holds : Rows.ConfigChecksSaid := configChecks.over
#print axioms configChecks_holds
end Go.Proofs.Ytjbkmflbhlnbpaa
