/- The plain mathematics of turned bits: a turned bit of bytes is a turned bit of their number. -/
import Derived.Test.YtonhkmcjfggnlaaDoorSeal
namespace Go.Proofs.YtonhkmcjfggnlaaDoor
open Go.RowKit

theorem pow_xor (k x y : Nat) : 2 ^ k * (x ^^^ y) = 2 ^ k * x ^^^ 2 ^ k * y := by
  apply Nat.eq_of_testBit_eq; intro i
  simp only [Nat.testBit_xor, Nat.testBit_two_pow_mul]
  cases decide (k ≤ i) <;> simp
theorem two_pow_byte (m : Nat) (hm : m < 8) : 2 ^ m < 256 := by
  have := Nat.pow_lt_pow_right (a := 2) (by omega) hm
  simpa using this
theorem xor_byte (x m : Nat) (hx : x < 256) (hm : m < 8) : x ^^^ 2 ^ m < 256 := Nat.xor_lt_two_pow (n := 8) hx (two_pow_byte m hm)
theorem num_set (l : List Nat) (j m : Nat) (hj : j < l.length) (hm : m < 8) (hb : ∀ x ∈ l, x < 256) : Crc.num (l.set j (l.getD j 0 ^^^ 2 ^ m)) = Crc.num l ^^^ 2 ^ (8 * j + m) := by
  induction l generalizing j with
  | nil => simp at hj
  | cons b l ih =>
    have hb0 : b < 256 := hb b (by simp)
    cases j with
    | zero =>
      have h1 : b ^^^ 2 ^ m < 256 := xor_byte b m hb0 hm
      simp only [List.set_cons_zero, List.getD_cons_zero, Crc.num]
      have e1 := Crc.add_eq_xor 8 (b ^^^ 2 ^ m) (Crc.num l) h1
      have e2 := Crc.add_eq_xor 8 b (Crc.num l) hb0
      rw [show (256 : Nat) = 2 ^ 8 from rfl, e1, e2, Nat.mul_zero, Nat.zero_add, Nat.xor_assoc, Nat.xor_comm (2 ^ m), ← Nat.xor_assoc]
    | succ j =>
      simp only [List.set_cons_succ, List.getD_cons_succ, Crc.num]
      rw [ih j (by simpa using hj) (fun x hx => hb x (by simp [hx]))]
      have e1 := Crc.add_eq_xor 8 b (Crc.num l ^^^ 2 ^ (8 * j + m)) hb0
      have e2 := Crc.add_eq_xor 8 b (Crc.num l) hb0
      rw [show (256 : Nat) = 2 ^ 8 from rfl, e1, e2, pow_xor, ← Nat.xor_assoc, ← Nat.pow_add, show 8 + (8 * j + m) = 8 * (j + 1) + m by omega]
theorem mod_step (p j : Nat) : p % 2 ^ (j + 1) = p % 2 ^ j ^^^ 2 ^ j * (p / 2 ^ j % 2) := by
  rw [← Crc.add_eq_xor j _ _ (Nat.mod_lt _ (Nat.two_pow_pos j)), Nat.pow_succ]
  exact Nat.mod_mul
theorem turn_step (S k p j n : Nat) (h : n = S ^^^ 2 ^ k * (p % 2 ^ j)) (hq : p / 2 ^ j % 2 = 1) : n ^^^ 2 ^ (k + j) = S ^^^ 2 ^ k * (p % 2 ^ (j + 1)) := by
  rw [mod_step, hq, Nat.mul_one, pow_xor, ← Nat.pow_add, h, Nat.xor_assoc]
theorem still_step (S k p j n : Nat) (h : n = S ^^^ 2 ^ k * (p % 2 ^ j)) (hq : p / 2 ^ j % 2 = 0) : n = S ^^^ 2 ^ k * (p % 2 ^ (j + 1)) := by
  rw [mod_step, hq, Nat.mul_zero, Nat.xor_zero, h]
theorem xor_u8 (x m : Nat) (hx : x < 256) (hm : m < 8) : bits .xor .u8 (x : Int) (2 ^ m % 256) = ((x ^^^ 2 ^ m : Nat) : Int) := by
  have h1 := two_pow_byte m hm
  have := bits_xor_nat .u8 8 (by decide) wrap_u8_small x (2 ^ m) hx (by simpa using h1)
  rw [← this]
  congr 1
  have e : ((2 : Int) ^ m) = ((2 ^ m : Nat) : Int) := by push_cast; rfl
  rw [e]
  generalize 2 ^ m = z at h1
  omega
theorem bit_u32 (p j : Nat) (hp : p < 4294967296) : bits .and .u32 ((p : Int) / 2 ^ j) 1 = ((p / 2 ^ j % 2 : Nat) : Int) := by
  have h1 : p / 2 ^ j < 4294967296 := Nat.lt_of_le_of_lt (Nat.div_le_self _ _) hp
  have := and_u32 (p / 2 ^ j) 1 h1 (by omega)
  rw [show (1 : Nat) = 2 ^ 1 - 1 from rfl, Nat.and_two_pow_sub_one_eq_mod] at this
  have e : ((p / 2 ^ j : Nat) : Int) = (p : Int) / 2 ^ j := by push_cast; rfl
  rw [e] at this
  exact this
/-- a cell of bytes that is written. -/
theorem set_cells {w : World} {g : Nat} {t : List Nat} {d x : Nat} (h : ∀ i, i < t.length → w.cell? ⟨g, i, none⟩ = some (.int .u8 ((t.getD i 0 : Nat) : Int))) (hd : d < t.length) :
    ∀ i, i < (t.set d x).length → (w.setCell ⟨g, d, none⟩ (.int .u8 (x : Int))).drew.cell? ⟨g, i, none⟩ = some (.int .u8 (((t.set d x).getD i 0 : Nat) : Int)) := by
  intro i hi
  rw [List.length_set] at hi
  by_cases e : i = d
  · subst e
    rw [show (w.setCell ⟨g, i, none⟩ (.int .u8 (x : Int))).drew.cell? ⟨g, i, none⟩ = (w.setCell ⟨g, i, none⟩ (.int .u8 (x : Int))).cell? ⟨g, i, none⟩ from rfl, World.cell?_setCell_same _ _ _ (h i hi)]
    simp [List.getD_eq_getElem?_getD, hi]
  · have hne : (⟨g, d, none⟩ : Addr) ≠ ⟨g, i, none⟩ := fun h => e (by cases h; rfl)
    rw [show (w.setCell ⟨g, d, none⟩ (.int .u8 (x : Int))).drew.cell? ⟨g, i, none⟩ = (w.setCell ⟨g, d, none⟩ (.int .u8 (x : Int))).cell? ⟨g, i, none⟩ from rfl, World.cell?_setCell_other _ _ _ _ hne, h i hi]
    simp [List.getD_eq_getElem?_getD, Ne.symm e]
end Go.Proofs.YtonhkmcjfggnlaaDoor
