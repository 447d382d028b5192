/- The program's reader: what each of its calls answers and leaves, for every reader, also a nil one. -/
import Derived.Test.YtpnjcpamhelaeabDoorDone
namespace Go.Proofs.YtpnjcpamhelaeabDoor
open Go.RowKit

theorem row_nil (w : World) : Row w none [] 0 := ⟨Nat.le_refl _, Nat.zero_le _, by simp, fun _ => rfl, fun h => absurd rfl h⟩
theorem Row.take {w : World} {ao : Option Addr} {l : List Nat} {cap n : Nat} (h : Row w ao l cap) (hn : n ≤ l.length) : Row w ao (l.take n) n := by
  obtain ⟨h1, h2, h3, h4, h5⟩ := h
  refine ⟨by simp; omega, by omega, fun x hx => h3 x (List.mem_of_mem_take hx), fun e => by have := h4 e; omega, fun hl => ?_⟩
  obtain ⟨b, off, rfl, hc⟩ := h5 (fun e => hl (by rw [e]; simp))
  refine ⟨b, off, rfl, fun i hi => ?_⟩
  have hi' : i < n := by simp at hi; omega
  rw [hc i (by omega)]
  simp [List.getD_eq_getElem?_getD, hi']
theorem Row.drop {w : World} {a : Addr} {l : List Nat} {cap n : Nat} (h : Row w (some a) l cap) (hn : n ≤ l.length) (a1 : Addr) (ha : n < cap → a1 = a.add n) : Row w (some a1) (l.drop n) (cap - n) := by
  obtain ⟨h1, h2, h3, h4, h5⟩ := h
  refine ⟨by simp; omega, by omega, fun x hx => h3 x (List.mem_of_mem_drop hx), fun e => (by cases e), fun hl => ?_⟩
  have hlt : n < l.length := by
    rcases Nat.lt_or_ge n l.length with h | h
    · exact h
    · exact absurd (List.drop_eq_nil_of_le h) hl
  obtain ⟨b, off, he, hc⟩ := h5 (fun e => by rw [e] at hlt; simp at hlt)
  cases he
  refine ⟨b, off + n, ?_, fun i hi => ?_⟩
  · rw [ha (by omega)]
    congr 1
    unfold Addr.add; split <;> simp_all
  · have hi' : n + i < l.length := by simp at hi; omega
    rw [Nat.add_assoc, hc (n + i) hi']
    simp [List.getD_eq_getElem?_getD]
theorem wrap_u64_small (n : Int) (h0 : 0 ≤ n) (h1 : n < 2 ^ 64) : IntKind.u64.wrap n = n := by
  simp [IntKind.wrap, IntKind.bits, IntKind.signed]; omega
end Go.Proofs.YtpnjcpamhelaeabDoor
