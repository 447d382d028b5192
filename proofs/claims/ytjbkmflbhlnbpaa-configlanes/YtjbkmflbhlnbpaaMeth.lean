/- A lattice in memory, and what each question about it answers. -/
import Derived.Test.YtjbkmflbhlnbpaaOwn
import Derived.Test.YtjbkmflbhlnbpaaRef
namespace Go.Proofs.Ytjbkmflbhlnbpaa
open Go.RowKit

/-- A LATTICE AS IT LIES. -/
structure LatAt (w : World) (p bu cu bd bo : Nat) (l : List Nat) : Prop where
  c0 : w.cell? ⟨p, 0, none⟩ = some (.slice (some ⟨bu, 0, none⟩) l.length cu)
  c1 : w.cell? ⟨p, 1, none⟩ = some (.slice (some ⟨bd, 0, none⟩) l.length l.length)
  c2 : w.cell? ⟨p, 2, none⟩ = some (.slice (some ⟨bo, 0, none⟩) l.length l.length)
  ru : At .u64 w bu 0 l
  rd : At .u64 w bd 0 (Lat.turn l)
  ro : At .i64 w bo 0 (Lat.order l)
/-- WHAT IS ASKED OF THE LABELS. -/
structure Fine (l : List Nat) : Prop where
  pos : 0 < l.length
  le : l.length ≤ 16
  lt : ∀ x ∈ l, x < 18446744073709551616
  alone : Lat.alone l = true
section
variable {w w1 : World} {p bu cu bd bo : Nat} {l : List Nat} {S : Nat → Prop}
theorem LatAt.fr (h : LatAt w p bu cu bd bo l) (f : Fr (fun _ => False) w w1) : LatAt w1 p bu cu bd bo l :=
  ⟨f.cell h.c0 (by simp), f.cell h.c1 (by simp), f.cell h.c2 (by simp), h.ru.fr f (by simp), h.rd.fr f (by simp), h.ro.fr f (by simp)⟩
end
def isI (l : List Nat) (a : Int) : Bool := decide (0 ≤ a) && decide (a < l.length)
def joinI (l : List Nat) (a b : Int) : Int := if isI l a && isI l b then Lat.join l a.toNat b.toNat else -1
def meetI (l : List Nat) (a b : Int) : Int := if isI l a && isI l b then Lat.meet l a.toNat b.toNat else -1
def rankI (l : List Nat) (a : Int) : Int := if isI l a then Lat.first (fun i => (Lat.order l).getD i 0 == a.toNat) l.length else -1
theorem isI_in (l : List Nat) (a : Nat) (h : a < l.length) : isI l (a : Int) = true := by simp [isI, h]
theorem isI_nat {l : List Nat} {a : Int} (h : isI l a = true) : ∃ n : Nat, a = n ∧ n < l.length := by
  simp [isI] at h
  exact ⟨a.toNat, by omega, by omega⟩
theorem leq_isI (l : List Nat) (a b : Int) (h : (isI l a && isI l b) = false) : Lat.leq l a b = false := by
  apply leq_out
  simp only [isI, Bool.and_eq_false_iff, decide_eq_false_iff_not] at h
  omega

set_option maxHeartbeats 400000 in
theorem len_any (w : World) (p bu cu : Nat) (l : List Nat) (c0 : w.cell? ⟨p, 0, none⟩ = some (.slice (some ⟨bu, 0, none⟩) l.length cu)) :
    Calls Try.prog 38 #[.pointer (some ⟨p, 0, none⟩)] w fun e w' => e = .returned (.int .i64 (l.length : Int)) ∧ w' = w := by
  go_enter Try.func38, Try.ntmps38
  go_wp2
  go_ret
  exact ⟨rfl, rfl⟩
set_option maxHeartbeats 400000 in
theorem is_any (w : World) (p bu cu : Nat) (l : List Nat) (a : Int) (c0 : w.cell? ⟨p, 0, none⟩ = some (.slice (some ⟨bu, 0, none⟩) l.length cu)) :
    Calls Try.prog 46 #[.pointer (some ⟨p, 0, none⟩), .int .i64 a] w fun e w' => e = .returned (.bool (isI l a)) ∧ w' = w := by
  have h1 := len_any w p bu cu l c0
  clear c0
  by_cases ha : 0 ≤ a
  · by_cases hb : a < l.length
    · have : isI l a = true := by simp [isI, ha, hb]
      rw [this]
      go_enter Try.func46, Try.ntmps46
      go_wp2_with fail
      refine h1.mono ?_
      rintro e w2 ⟨rfl, hw⟩
      subst w2
      go_wp2
      go_ret
      exact ⟨rfl, rfl⟩
    · have : isI l a = false := by simp [isI, hb]
      rw [this]
      go_enter Try.func46, Try.ntmps46
      go_wp2_with fail
      refine h1.mono ?_
      rintro e w2 ⟨rfl, hw⟩
      subst w2
      go_wp2
      go_ret
      exact ⟨ret_bool (decide_eq_false (by omega)), rfl⟩
  · have : isI l a = false := by simp [isI, ha]
    rw [this]
    go_enter Try.func46, Try.ntmps46
    go_wp2
    go_ret
    exact ⟨rfl, rfl⟩
set_option maxHeartbeats 400000 in
theorem bottom_any (w : World) (p bu cu bd bo : Nat) (l : List Nat) (hf : Fine l) (h : LatAt w p bu cu bd bo l) :
    Calls Try.prog 40 #[.pointer (some ⟨p, 0, none⟩)] w fun e w' => e = .returned (.int .i64 (((Lat.order l).getD 0 0 : Nat) : Int)) ∧ w' = w := by
  have h1 := len_any w p bu cu l h.c0
  have hp := hf.pos
  have c2 := h.c2
  have hcell := h.ro 0 (by rw [Lat.order_length]; exact hp)
  obtain ⟨x, Hx⟩ : ∃ x, Hid ((Lat.order l).getD 0 0 = x) := ⟨_, rfl⟩
  rw [Hx.out] at hcell ⊢
  clear h
  go_enter Try.func40, Try.ntmps40
  go_wp2_with fail
  refine h1.mono ?_
  rintro e w2 ⟨rfl, hw⟩
  subst w2
  go_wp2
  go_ret
  exact ⟨rfl, rfl⟩
end Go.Proofs.Ytjbkmflbhlnbpaa
