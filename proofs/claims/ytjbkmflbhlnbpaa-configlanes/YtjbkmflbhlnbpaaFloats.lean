/- What a walk is told of a slice of numbers that came in. -/
import Derived.Test.YtjbkmflbhlnbpaaShard
import Derived.ProofKit
import Derived.OpenShut
import Derived.Lay
import Derived.ChangeOld
import Derived.Laws.Cover2
import Derived.Deep.Slices
namespace Go.Proofs.Ytjbkmflbhlnbpaa
open Go.ChangeShapes Go.WideShapes Go.ChangeAt Go.RowKit

theorem ownK2 : ownKnob Try.prog.godebug = none := by kernel_rfl
theorem laidOut2 : laidOutB Try.prog = true := by kernel_rfl
theorem f64_lt2 {b : Nat} (h : (Lit.float .f64 b).wf = true) : b < 18446744073709551616 := by
  simp [Lit.wf] at h; omega
theorem trod_f64 {H : Type} {enc : TypeId × Value → H} {P : Program} {t : TypeId} {W : World} {base : Nat} {spare : Nat → Bool} {held : Bool} {fuel : Nat} {v : Value} {x : DataW H × List MemPlace} (ht : P.underlying t = some (.float .f64)) (h : DataW.trod enc P W base spare held fuel t [v] = some x) : ∃ n, v = .float .f64 n ∧ n < 18446744073709551616 := by
  cases fuel with
  | zero => simp [DataW.trod] at h
  | succ n =>
    unfold DataW.trod at h
    rw [ht] at h
    cases v <;> simp at h
    obtain ⟨⟨hk, hw⟩, _⟩ := h
    subst hk
    exact ⟨_, rfl, f64_lt2 hw⟩
theorem frow_of_arg {H : Type} {enc : TypeId × Value → H} {W : World} {a0 : Option Addr} {len0 cap0 : Nat} {d : DataW H} {p : List MemPlace} (h : DataW.Trod enc Try.prog W 0 (fun _ => true) true 23 (.slice a0 len0 cap0) d p) :
    ∃ l : List Nat, l.length = len0 ∧ FRow W a0 l cap0 ∧ (a0 = none → cap0 = 0) := by
  obtain ⟨fuel, hf⟩ := h
  rcases Deep.open_slice1 Try.underlying23 (by kernel_rfl) hf with ⟨hcs, _⟩ | ⟨a, len, cap, m, n, V, D, Pl, hcs, _, hl, hm, hmm, _, hx⟩
  · simp [Value.cells] at hcs
    obtain ⟨rfl, rfl, rfl⟩ := hcs
    exact ⟨[], rfl, ⟨Nat.le_refl _, Nat.zero_le _, by simp, fun h => absurd rfl h⟩, fun _ => rfl⟩
  · simp [Value.cells] at hcs
    obtain ⟨rfl, rfl, rfl⟩ := hcs
    have hmc : m = cap0 := by simpa using hmm
    subst hmc
    have hall : ∀ i, i < len0 → ∃ c, W.cell? (a.add i) = some (.float .f64 c) ∧ c < 18446744073709551616 := fun i hi => by
      obtain ⟨h1, h2⟩ := hx i (by omega)
      obtain ⟨c, hv, hc⟩ := trod_f64 Try.underlying34 h2
      exact ⟨c, by rw [h1, hv], hc⟩
    obtain ⟨F, hF⟩ := Deep.choose_lt (p := fun i c => W.cell? (a.add i) = some (.float .f64 c) ∧ c < 18446744073709551616) hall
    refine ⟨(List.range len0).map F, by simp, ⟨by simpa using hl, hm, ?_, fun hne => ?_⟩, fun e => by cases e⟩
    · intro y hy
      obtain ⟨i, hi, rfl⟩ := List.mem_map.1 hy
      exact (hF i (by simpa using hi)).2
    · have hpos : 0 < len0 := by
        rcases Nat.eq_zero_or_pos len0 with h0 | h0
        · subst h0; simp at hne
        · exact h0
      obtain ⟨b, off, spot⟩ := a
      have h0 := (hF 0 hpos).1
      have hspot : spot = none := by simpa [Addr.add] using World.cell?_spot h0
      subst hspot
      refine ⟨b, off, rfl, fun i hi => ?_⟩
      have hi' : i < len0 := by simpa using hi
      have h1 := (hF i hi').1
      have hg : ((List.range len0).map F).getD i 0 = F i := by simp [List.getD, hi']
      rw [hg, ← h1]
      by_cases h0 : i = 0
      · subst h0; rfl
      · simp [Addr.add, h0]
end Go.Proofs.Ytjbkmflbhlnbpaa
