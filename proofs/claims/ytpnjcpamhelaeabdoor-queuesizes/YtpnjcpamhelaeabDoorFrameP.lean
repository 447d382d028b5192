/- What a walk is told of slices of bytes that came in. -/
import Derived.Test.YtpnjcpamhelaeabDoorSplit2
import Derived.Test.YtpnjcpamhelaeabDoorFrame
import Derived.Deep.Slices
namespace Go.Proofs.YtpnjcpamhelaeabDoor
open Go.ChangeShapes Go.WideShapes Go.ChangeAt Go.RowKit

theorem addr_add (b off i : Nat) : (⟨b, off, none⟩ : Addr).add i = ⟨b, off + i, none⟩ := by
  unfold Addr.add; split <;> simp_all
theorem trod_slice_value {H : Type} {enc : TypeId × Value → H} {P : Program} {t e : TypeId} {W : World} {base : Nat} {spare : Nat → Bool} {held : Bool} {fuel : Nat} {v : Value} {x : DataW H × List MemPlace} (ht : P.underlying t = some (.slice e)) (h : DataW.trod enc P W base spare held fuel t [v] = some x) : ∃ a n c, v = .slice a n c := by
  rcases Deep.open_slice ht h with ⟨hcs, _⟩ | ⟨a, len, cap, m, n, D, Pl, hcs, _⟩
  · cases hcs; exact ⟨_, _, _, rfl⟩
  · cases hcs; exact ⟨_, _, _, rfl⟩
theorem prow_of_arg {H : Type} {enc : TypeId × Value → H} {W : World} {a0 : Option Addr} {len0 cap0 : Nat} {d : DataW H} {p : List MemPlace} (h : DataW.Trod enc Tryd.prog W 0 (fun _ => true) true 23 (.slice a0 len0 cap0) d p) :
    ∃ l : List (List Nat), l.length = len0 ∧ PRow W a0 l cap0 := by
  obtain ⟨fuel, hf⟩ := h
  rcases Deep.open_slice1 Tryd.underlying23 (by kernel_rfl) hf with ⟨hcs, _⟩ | ⟨a, len, cap, m, n, V, D, Pl, hcs, _, hl, hm, hmm, _, hx⟩
  · simp [Value.cells] at hcs
    obtain ⟨rfl, rfl, rfl⟩ := hcs
    exact ⟨[], rfl, Nat.le_refl _, Nat.zero_le _, fun h => absurd rfl h⟩
  · simp [Value.cells] at hcs
    obtain ⟨rfl, rfl, rfl⟩ := hcs
    have hmc : m = cap0 := by simpa using hmm
    subst hmc
    have hall : ∀ i, i < len0 → ∃ c : List Nat, ∃ ai ci, W.cell? (a.add i) = some (.slice ai c.length ci) ∧ Row W ai c ci := fun i hi => by
      obtain ⟨h1, h2⟩ := hx i (by omega)
      obtain ⟨ai, ni, ci, hv⟩ := trod_slice_value Tryd.underlying30 h2
      rw [hv] at h1 h2
      obtain ⟨c, hc1, hc2⟩ := row_of_arg (d := D i) (p := Pl i) ⟨n, h2⟩
      exact ⟨c, ai, ci, by rw [h1, hc1], hc2⟩
    obtain ⟨F, hF⟩ := Deep.choose_lt (p := fun i c => ∃ ai ci, W.cell? (a.add i) = some (.slice ai c.length ci) ∧ Row W ai c ci) hall
    refine ⟨(List.range len0).map F, by simp, by simpa using hl, hm, fun hne => ?_⟩
    have hpos : 0 < len0 := by
      rcases Nat.eq_zero_or_pos len0 with h0 | h0
      · subst h0; simp at hne
      · exact h0
    obtain ⟨b, off, spot⟩ := a
    obtain ⟨_, _, h0, _⟩ := hF 0 hpos
    have hspot : spot = none := by simpa [Addr.add] using World.cell?_spot h0
    subst hspot
    refine ⟨b, off, rfl, fun i hi => ?_⟩
    have hi' : i < len0 := by simpa using hi
    obtain ⟨ai, ci, h1, h2⟩ := hF i hi'
    have hg : ((List.range len0).map F).getD i [] = F i := by simp [List.getD, hi']
    rw [hg]
    rw [addr_add] at h1
    exact ⟨ai, ci, h1, h2⟩
end Go.Proofs.YtpnjcpamhelaeabDoor
