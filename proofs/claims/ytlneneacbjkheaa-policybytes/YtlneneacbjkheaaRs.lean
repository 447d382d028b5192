/- What a reader has, as plain lists. -/
import Derived.Test.YtlneneacbjkheaaCrc
namespace Go.Proofs.Ytlneneacbjkheaa
/-- what a reader has: the bytes that are left, and whether it has a fault. -/
structure Rs where
  l : List Nat
  bad : Bool
def Rs.has (s : Rs) (n : Nat) : Prop := s.bad = false ∧ n ≤ s.l.length
instance (s : Rs) (n : Nat) : Decidable (s.has n) := by unfold Rs.has; infer_instance
def numV (s : Rs) (n : Nat) : Nat := if s.has n then Crc.num (s.l.take n) else 0
def numS (s : Rs) (n : Nat) : Rs := if s.has n then ⟨s.l.drop n, false⟩ else ⟨[], true⟩
/-- a count of at most m. -/
def Rs.cnt (s : Rs) (m : Nat) : Prop := s.has 4 ∧ Crc.num (s.l.take 4) ≤ m
instance (s : Rs) (m : Nat) : Decidable (s.cnt m) := by unfold Rs.cnt; infer_instance
def cntV (s : Rs) (m : Nat) : Nat := if s.cnt m then Crc.num (s.l.take 4) else 0
def cntS (s : Rs) (m : Nat) : Rs := if s.cnt m then ⟨s.l.drop 4, false⟩ else ⟨[], true⟩
/-- bytes, at most m. -/
def Rs.byt (s : Rs) (m : Nat) : Prop := s.cnt m ∧ Crc.num (s.l.take 4) ≤ s.l.length - 4
instance (s : Rs) (m : Nat) : Decidable (s.byt m) := by unfold Rs.byt; infer_instance
def bytV (s : Rs) (m : Nat) : List Nat := if s.byt m then (s.l.drop 4).take (Crc.num (s.l.take 4)) else []
def bytS (s : Rs) (m : Nat) : Rs := if s.byt m then ⟨(s.l.drop 4).drop (Crc.num (s.l.take 4)), false⟩ else ⟨[], true⟩
def endV (s : Rs) : Bool := !s.bad && ((s.l.length : Int) == 0)

theorem take_app {l r : List Nat} {n : Nat} (h : l.length = n) : (l ++ r).take n = l := by rw [← h]; simp
theorem drop_app {l r : List Nat} {n : Nat} (h : l.length = n) : (l ++ r).drop n = r := by rw [← h]; simp
theorem num_front (n x : Nat) (r : List Nat) : numV ⟨Crc.le n x ++ r, false⟩ n = x % 256 ^ n ∧ numS ⟨Crc.le n x ++ r, false⟩ n = ⟨r, false⟩ := by
  have hh : (⟨Crc.le n x ++ r, false⟩ : Rs).has n := ⟨rfl, by simp [Crc.le_length]⟩
  unfold numV numS
  rw [if_pos hh, if_pos hh]
  simp only [take_app (Crc.le_length n x), drop_app (Crc.le_length n x), Crc.num_le]
  exact ⟨trivial, trivial⟩
end Go.Proofs.Ytlneneacbjkheaa
