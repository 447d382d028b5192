/- How a number is rounded to a whole one keeps the order: laws on Ieee's 'cut' and 'nearest', for NumberDraws. -/
import Ieee.Arith
namespace Go.Proofs.YtkabmjeeficfhaaDoor.Draws
open Ieee

/-- n / g to the nearest, between two the even one. -/
def near (n g : Nat) : Nat := n / g + (decide (g < 2 * (n % g)) || (g == 2 * (n % g) && n / g % 2 == 1)).toNat
theorem near_le (n g : Nat) : near n g ≤ n / g + 1 := by
  unfold near
  have : ∀ b : Bool, b.toNat ≤ 1 := by decide
  have := this (decide (g < 2 * (n % g)) || (g == 2 * (n % g) && n / g % 2 == 1))
  omega
theorem le_near (n g : Nat) : n / g ≤ near n g := Nat.le_add_right _ _
theorem near_up {n g : Nat} (h : n / g < near n g) : g < 2 * (n % g) ∨ (g = 2 * (n % g) ∧ n / g % 2 = 1) := by
  unfold near at h
  cases hb : (decide (g < 2 * (n % g)) || (g == 2 * (n % g) && n / g % 2 == 1))
  · rw [hb] at h; simp at h
  · simpa using hb
theorem near_of_up {n g : Nat} (h : g < 2 * (n % g) ∨ (g = 2 * (n % g) ∧ n / g % 2 = 1)) : near n g = n / g + 1 := by
  unfold near
  have : (decide (g < 2 * (n % g)) || (g == 2 * (n % g) && n / g % 2 == 1)) = true := by simpa using h
  rw [this]; rfl
/-- a greater number isn't rounded to a lower one. -/
theorem near_mono (n g m k : Nat) (hg : 0 < g) (hk : 0 < k) (h : n * k ≤ m * g) : near n g ≤ near m k := by
  have en := Nat.div_add_mod n g
  have em := Nat.div_add_mod m k
  have hq : n / g ≤ m / k := by
    rw [Nat.le_div_iff_mul_le hk]
    have h1 : n / g * g ≤ n := Nat.div_mul_le_self n g
    have h2 : n / g * k * g ≤ m * g := by
      calc n / g * k * g = n / g * g * k := by rw [Nat.mul_assoc, Nat.mul_comm k g, ← Nat.mul_assoc]
        _ ≤ n * k := Nat.mul_le_mul_right _ h1
        _ ≤ m * g := h
    exact Nat.le_of_mul_le_mul_right h2 hg
  rcases Nat.lt_or_ge (n / g) (m / k) with hlt | hge
  · have := near_le n g; have := le_near m k; omega
  · have he : n / g = m / k := Nat.le_antisymm hq hge
    rcases Nat.lt_or_ge (n / g) (near n g) with hu | hu
    · have hr : (n % g) * k ≤ (m % k) * g := by
        have e1 : n * k = n / g * (g * k) + (n % g) * k := by
          conv => lhs; rw [← en]
          rw [Nat.add_mul, Nat.mul_comm g (n / g), Nat.mul_assoc]
        have e2 : m * g = m / k * (g * k) + (m % k) * g := by
          conv => lhs; rw [← em]
          rw [Nat.add_mul, Nat.mul_comm k (m / k), Nat.mul_assoc, Nat.mul_comm k g]
        rw [e1, e2, he] at h
        omega
      have hm : near m k = m / k + 1 := by
        apply near_of_up
        have key : g * k ≤ 2 * (m % k) * g ∧ (g < 2 * (n % g) → g * k < 2 * (m % k) * g) := by
          have a1 : 2 * (n % g) * k ≤ 2 * (m % k) * g := by rw [Nat.mul_assoc, Nat.mul_assoc]; omega
          refine ⟨?_, fun hlt => ?_⟩
          · rcases near_up hu with h1 | ⟨h1, _⟩
            · exact Nat.le_trans (Nat.mul_le_mul_right k (Nat.le_of_lt h1)) a1
            · exact Nat.le_trans (Nat.mul_le_mul_right k (Nat.le_of_eq h1)) a1
          · exact Nat.lt_of_lt_of_le (Nat.mul_lt_mul_of_pos_right hlt hk) a1
        have k1 : k ≤ 2 * (m % k) := by
          have := key.1; rw [Nat.mul_comm g k] at this; exact Nat.le_of_mul_le_mul_right this hg
        rcases near_up hu with h1 | ⟨h1, h2⟩
        · left
          have := key.2 h1; rw [Nat.mul_comm g k] at this; exact Nat.lt_of_mul_lt_mul_right this
        · rcases Nat.lt_or_ge k (2 * (m % k)) with h3 | h3
          · exact .inl h3
          · exact .inr ⟨by omega, by rw [← he]; exact h2⟩
      rw [hm, ← he]; exact near_le n g
    · have := le_near m k; omega
/-- the model's cut is this. -/
theorem cut_even (s : Bool) (n d : Nat) : Toward.even.cut s n d = near n (2 ^ d) := by
  have h0 : Toward.even.cut s n d = near n (2 ^ min d (n.log2 + 2)) := by
    simp [Toward.cut, near, Nat.shiftLeft_eq]
  rw [h0]
  rcases Nat.le_total d (n.log2 + 2) with h | h
  · rw [Nat.min_eq_left h]
  · rw [Nat.min_eq_right h]
    have small : ∀ e, n.log2 + 2 ≤ e → near n (2 ^ e) = 0 := fun e he => by
      have h1 : n < 2 ^ (n.log2 + 1) := Nat.lt_log2_self
      have h2 : 2 ^ (n.log2 + 2) ≤ 2 ^ e := Nat.pow_le_pow_right (by decide) he
      have h3 : 2 ^ (n.log2 + 2) = 2 * 2 ^ (n.log2 + 1) := by rw [Nat.pow_succ, Nat.mul_comm]
      have h4 : n < 2 ^ e := by omega
      unfold near
      rw [Nat.div_eq_of_lt h4, Nat.mod_eq_of_lt h4]
      have : decide (2 ^ e < 2 * n) = false := by simp; omega
      rw [this]; simp
    rw [small _ (Nat.le_refl _), small d h]
theorem near_scale (n g m k : Nat) (hg : 0 < g) (hk : 0 < k) (h : n * k = m * g) : near n g = near m k :=
  Nat.le_antisymm (near_mono n g m k hg hk (Nat.le_of_eq h)) (near_mono m k n g hk hg (Nat.le_of_eq h.symm))
theorem near_one (n : Nat) : near n 1 = n := by
  unfold near
  rw [Nat.div_one, Nat.mod_one]
  simp
def infR : Nat := 9218868437227405312
theorem d_lp : double.leastPlace = -1074 := by decide
theorem d_fb : double.fractionBits = 52 := rfl
theorem d_bin : double.binade = 2 ^ 52 := rfl
theorem d_inf : double.infRung = infR := by decide
/-- WHERE A NUMBER IS ROUNDED TO: X / 2 ^ s of the least steps. -/
theorem nearest_spec (m s t : Nat) (p : Int) (hp : p = -1074 + (t : Int) - (s : Int)) (hm : 0 < m) :
    ∃ L, double.nearest false m p = min (L * 2 ^ 52 + near (m * 2 ^ t) (2 ^ s * 2 ^ L)) infR ∧ (L = 0 ∨ 2 ^ s * 2 ^ (L + 52) ≤ m * 2 ^ t) ∧ m * 2 ^ t < 2 ^ s * 2 ^ (L + 53) := by
  have h1 : m < 2 ^ (m.log2 + 1) := Nat.lt_log2_self
  have h2 : 2 ^ m.log2 ≤ m := Nat.log2_self_le (by omega)
  generalize hl : m.log2 = l at *
  obtain ⟨L, hL⟩ : ∃ L : Nat, max (p + (l : Int) - 52) (-1074) = (L : Int) - 1074 := ⟨(max (p + (l : Int) - 52) (-1074) + 1074).toNat, by omega⟩
  refine ⟨L, ?_, ?_, ?_⟩
  · have e0 : double.nearest false m p = min ((max (p + (l : Int) - 52) (-1074) - (-1074)).toNat * 2 ^ 52 + Toward.even.cut false (m <<< (p - max (p + (l : Int) - 52) (-1074)).toNat) (max (p + (l : Int) - 52) (-1074) - p).toNat) infR := by
      unfold Format.nearest
      rw [if_neg (by omega), hl, d_fb, d_lp, d_bin, d_inf]
      simp only [Format.word, Bool.false_eq_true, if_false]
      rfl
    rw [e0, hL, cut_even, Nat.shiftLeft_eq]
    have e1 : ((L : Int) - 1074 - -1074).toNat = L := by omega
    have e2 : near (m * 2 ^ (p - ((L : Int) - 1074)).toNat) (2 ^ ((L : Int) - 1074 - p).toNat) = near (m * 2 ^ t) (2 ^ s * 2 ^ L) := by
      apply near_scale
      · exact Nat.pow_pos (by decide)
      · exact Nat.mul_pos (Nat.pow_pos (by decide)) (Nat.pow_pos (by decide))
      · rw [Nat.mul_assoc, ← Nat.pow_add, ← Nat.pow_add, Nat.mul_assoc, ← Nat.pow_add, show (p - ((L : Int) - 1074)).toNat + (s + L) = t + ((L : Int) - 1074 - p).toNat by omega]
    rw [e1, e2]
  · by_cases h0 : L = 0
    · exact .inl h0
    · right
      have e : s + (L + 52) = l + t := by omega
      rw [← Nat.pow_add, e, Nat.pow_add]
      exact Nat.mul_le_mul_right _ h2
  · have e : l + 1 + t ≤ s + (L + 53) := by omega
    rw [← Nat.pow_add]
    refine Nat.lt_of_lt_of_le ?_ (Nat.pow_le_pow_right (by decide) e)
    rw [Nat.pow_add]
    exact Nat.mul_lt_mul_of_pos_right h1 (Nat.pow_pos (by decide))
theorem kept_le (X G : Nat) (hG : 0 < G) (h : X ≤ G * 2 ^ 53) : near X G ≤ 2 ^ 53 := by
  have := near_mono X G (2 ^ 53) 1 hG (by decide) (by rw [Nat.mul_one, Nat.mul_comm]; exact h)
  rwa [near_one] at this
theorem le_kept (X G : Nat) (hG : 0 < G) (h : G * 2 ^ 52 ≤ X) : 2 ^ 52 ≤ near X G := by
  have := near_mono (2 ^ 52) 1 X G (by decide) hG (by rw [Nat.mul_one, Nat.mul_comm]; exact h)
  rwa [near_one] at this
/-- a greater number isn't rounded to a lower one. -/
theorem nearest_mono (m s t n u v : Nat) (p q : Int) (hp : p = -1074 + (t : Int) - (s : Int)) (hq : q = -1074 + (v : Int) - (u : Int)) (h : m * 2 ^ t * 2 ^ u ≤ n * 2 ^ v * 2 ^ s) :
    double.nearest false m p ≤ double.nearest false n q := by
  by_cases hm : m = 0
  · have : double.nearest false m p = 0 := by unfold Format.nearest; rw [if_pos hm]; rfl
    omega
  by_cases hn : n = 0
  · subst hn
    have : 0 < m * 2 ^ t * 2 ^ u := Nat.mul_pos (Nat.mul_pos (by omega) (Nat.pow_pos (by decide))) (Nat.pow_pos (by decide))
    simp at h
    omega
  obtain ⟨L, e1, a1, b1⟩ := nearest_spec m s t p hp (by omega)
  obtain ⟨M, e2, a2, b2⟩ := nearest_spec n u v q hq (by omega)
  rw [e1, e2]
  have ps : 0 < 2 ^ s := Nat.pow_pos (by decide)
  have pu : 0 < 2 ^ u := Nat.pow_pos (by decide)
  have pL : 0 < 2 ^ L := Nat.pow_pos (by decide)
  have pM : 0 < 2 ^ M := Nat.pow_pos (by decide)
  generalize m * 2 ^ t = X at *
  generalize n * 2 ^ v = Y at *
  generalize 2 ^ s = S at *
  generalize 2 ^ u = U at *
  have key : L * 2 ^ 52 + near X (S * 2 ^ L) ≤ M * 2 ^ 52 + near Y (U * 2 ^ M) := by
    rcases Nat.lt_trichotomy L M with hlt | heq | hgt
    · have k1 := kept_le X (S * 2 ^ L) (Nat.mul_pos ps pL) (by rw [Nat.mul_assoc, ← Nat.pow_add]; omega)
      have k2 := le_kept Y (U * 2 ^ M) (Nat.mul_pos pu pM) (by rw [Nat.mul_assoc, ← Nat.pow_add]; rcases a2 with h0 | h0; omega; exact h0)
      omega
    · subst heq
      have := near_mono X (S * 2 ^ L) Y (U * 2 ^ L) (Nat.mul_pos ps pL) (Nat.mul_pos pu pL) (by rw [← Nat.mul_assoc, ← Nat.mul_assoc]; exact Nat.mul_le_mul_right _ h)
      omega
    · exfalso
      have h1 : S * 2 ^ (L + 52) ≤ X := by rcases a1 with h0 | h0; omega; exact h0
      have h2 : U * 2 ^ (M + 53) ≤ U * 2 ^ (L + 52) := Nat.mul_le_mul_left _ (Nat.pow_le_pow_right (by decide) (by omega))
      have h3 : Y < U * 2 ^ (L + 52) := Nat.lt_of_lt_of_le b2 h2
      have h4 : Y * S < U * 2 ^ (L + 52) * S := Nat.mul_lt_mul_of_pos_right h3 ps
      have h5 : S * 2 ^ (L + 52) * U ≤ X * U := Nat.mul_le_mul_right _ h1
      have h6 : U * 2 ^ (L + 52) * S = S * 2 ^ (L + 52) * U := by rw [Nat.mul_right_comm, Nat.mul_comm U S, Nat.mul_right_comm]
      omega
  exact Nat.le_min.2 ⟨Nat.le_trans (Nat.min_le_left _ _) key, Nat.min_le_right _ _⟩
/-- a rung's number, in the least steps. -/
def mag (r : Nat) : Nat := if r < 4503599627370496 then r else (4503599627370496 + r % 4503599627370496) * 2 ^ (r / 4503599627370496 - 1)
/-- what the format has is rounded to itself. -/
theorem nearest_mag (r : Nat) (hr : r ≤ infR) (s : Nat) (p : Int) (hp : p = -1074 - (s : Int)) : double.nearest false (mag r * 2 ^ s) p = r := by
  by_cases h0 : r = 0
  · subst h0
    have : mag 0 * 2 ^ s = 0 := by simp [mag]
    unfold Format.nearest; rw [if_pos this]; rfl
  have p52 : (2 : Nat) ^ 52 = 4503599627370496 := by decide
  have ps : 0 < 2 ^ s := Nat.pow_pos (by decide)
  have hm : 0 < mag r := by
    unfold mag; split
    · omega
    · exact Nat.mul_pos (by omega) (Nat.pow_pos (by decide))
  obtain ⟨L, e1, a1, b1⟩ := nearest_spec (mag r * 2 ^ s) s 0 p (by rw [hp]; omega) (Nat.mul_pos hm ps)
  rw [e1, Nat.pow_zero, Nat.mul_one]
  rw [Nat.pow_zero, Nat.mul_one] at a1 b1
  have a2 : L = 0 ∨ 2 ^ (L + 52) ≤ mag r := a1.imp id fun h => by rw [Nat.mul_comm] at h; exact Nat.le_of_mul_le_mul_right h ps
  have b2 : mag r < 2 ^ (L + 53) := by rw [Nat.mul_comm (2 ^ s)] at b1; exact Nat.lt_of_mul_lt_mul_right b1
  have key : L * 2 ^ 52 + near (mag r * 2 ^ s) (2 ^ s * 2 ^ L) = r := by
    have pL : 0 < 2 ^ L := Nat.pow_pos (by decide)
    have en : near (mag r * 2 ^ s) (2 ^ s * 2 ^ L) = near (mag r) (2 ^ L) := near_scale _ _ _ _ (Nat.mul_pos ps pL) pL (by rw [Nat.mul_assoc])
    rw [en, p52]
    by_cases hb : r < 4503599627370496
    · have hmr : mag r = r := by unfold mag; rw [if_pos hb]
      rw [hmr] at a2 ⊢
      have hL : L = 0 := by
        rcases a2 with h | h
        · exact h
        · have : 2 ^ 52 ≤ 2 ^ (L + 52) := Nat.pow_le_pow_right (by decide) (by omega)
          omega
      rw [hL, Nat.pow_zero, near_one]; omega
    · have hmr : mag r = (4503599627370496 + r % 4503599627370496) * 2 ^ (r / 4503599627370496 - 1) := by unfold mag; rw [if_neg hb]
      rw [hmr] at a2 b2 ⊢
      have hc1 : 4503599627370496 ≤ 4503599627370496 + r % 4503599627370496 := Nat.le_add_right _ _
      have hc2 : 4503599627370496 + r % 4503599627370496 < 9007199254740992 := by omega
      obtain ⟨e, he⟩ : ∃ e, r / 4503599627370496 - 1 = e := ⟨_, rfl⟩
      have hre : e * 4503599627370496 + (4503599627370496 + r % 4503599627370496) = r := by omega
      rw [he] at a2 b2 ⊢
      generalize 4503599627370496 + r % 4503599627370496 = c at *
      have pe : 0 < 2 ^ e := Nat.pow_pos (by decide)
      have lo : 2 ^ (e + 52) ≤ c * 2 ^ e := by rw [Nat.pow_add, p52, Nat.mul_comm]; exact Nat.mul_le_mul_right _ hc1
      have hi : c * 2 ^ e < 2 ^ (e + 53) := by rw [Nat.pow_add, show (2 : Nat) ^ 53 = 9007199254740992 by decide, Nat.mul_comm (2 ^ e)]; exact Nat.mul_lt_mul_of_pos_right hc2 pe
      have hL : L = e := by
        rcases Nat.lt_trichotomy L e with h | h | h
        · have : 2 ^ (L + 53) ≤ 2 ^ (e + 52) := Nat.pow_le_pow_right (by decide) (by omega)
          exact absurd (Nat.lt_of_lt_of_le b2 this) (Nat.not_lt.2 lo)
        · exact h
        · rcases a2 with h1 | h1
          · omega
          · have : 2 ^ (e + 53) ≤ 2 ^ (L + 52) := Nat.pow_le_pow_right (by decide) (by omega)
            exact absurd (Nat.lt_of_lt_of_le hi this) (Nat.not_lt.2 h1)
      rw [hL, near_scale (c * 2 ^ e) (2 ^ e) c 1 pe (by decide) (by rw [Nat.mul_one]), near_one]
      exact hre
  rw [key]; exact Nat.min_eq_left hr
/-- BETWEEN TWO OF THE FORMAT's IT STAYS BETWEEN THEM. -/
theorem nearest_ge (m s t r : Nat) (p : Int) (hp : p = -1074 + (t : Int) - (s : Int)) (hr : r ≤ infR) (h : mag r * 2 ^ s ≤ m * 2 ^ t) : r ≤ double.nearest false m p := by
  have := nearest_mono (mag r) 0 0 m s t (-1074) p (by omega) hp (by rw [Nat.pow_zero, Nat.mul_one, Nat.mul_one]; exact h)
  have e := nearest_mag r hr 0 (-1074) (by omega)
  rw [Nat.pow_zero, Nat.mul_one] at e
  omega
theorem nearest_le (m s t r : Nat) (p : Int) (hp : p = -1074 + (t : Int) - (s : Int)) (hr : r ≤ infR) (h : m * 2 ^ t ≤ mag r * 2 ^ s) : double.nearest false m p ≤ r := by
  have := nearest_mono m s t (mag r) 0 0 p (-1074) hp (by omega) (by rw [Nat.pow_zero, Nat.mul_one, Nat.mul_one]; exact h)
  have e := nearest_mag r hr 0 (-1074) (by omega)
  rw [Nat.pow_zero, Nat.mul_one] at e
  omega
theorem mag_rung (L c : Nat) (h1 : 2 ^ 52 ≤ c) (h2 : c ≤ 2 ^ 53) : mag (L * 2 ^ 52 + c) = c * 2 ^ L := by
  have p52 : (2 : Nat) ^ 52 = 4503599627370496 := by decide
  have p53 : (2 : Nat) ^ 53 = 9007199254740992 := by decide
  rw [p52] at h1 ⊢
  rw [p53] at h2
  unfold mag
  rw [if_neg (by omega)]
  by_cases hc : c < 9007199254740992
  · have e1 : (L * 4503599627370496 + c) / 4503599627370496 - 1 = L := by omega
    have e2 : 4503599627370496 + (L * 4503599627370496 + c) % 4503599627370496 = c := by omega
    rw [e1, e2]
  · have hc' : c = 9007199254740992 := by omega
    have e1 : (L * 4503599627370496 + c) / 4503599627370496 - 1 = L + 1 := by omega
    have e2 : 4503599627370496 + (L * 4503599627370496 + c) % 4503599627370496 = 4503599627370496 := by omega
    rw [e1, e2, hc', Nat.pow_succ, Nat.mul_comm (2 ^ L) 2, ← Nat.mul_assoc]
theorem near_ub (X G : Nat) : near X G * G ≤ X + G := by
  have h := Nat.mul_le_mul_right G (near_le X G)
  have h1 := Nat.div_mul_le_self X G
  rw [Nat.add_mul, Nat.one_mul] at h
  omega
theorem near_lb (X G : Nat) (hG : 0 < G) : X ≤ near X G * G + G := by
  have h := Nat.mul_le_mul_right G (le_near X G)
  have h1 : X < (X / G + 1) * G := by
    have := Nat.lt_mul_div_succ X hG
    rwa [Nat.mul_comm] at this
  rw [Nat.add_mul, Nat.one_mul] at h1
  omega
/-- HOW FAR OFF: at most one part of 2 ^ 52. -/
theorem nearest_err (m s t : Nat) (p : Int) (hp : p = -1074 + (t : Int) - (s : Int)) (hX : 2 ^ s * 2 ^ 52 ≤ m * 2 ^ t) (hY : m * 2 ^ t < 2 ^ s * 2 ^ 2000) :
    double.nearest false m p < infR ∧ mag (double.nearest false m p) * 2 ^ s * 2 ^ 52 ≤ m * 2 ^ t * (2 ^ 52 + 1) ∧ m * 2 ^ t * (2 ^ 52 - 1) ≤ mag (double.nearest false m p) * 2 ^ s * 2 ^ 52 := by
  have ps : 0 < 2 ^ s := Nat.pow_pos (by decide)
  have hm : 0 < m := by
    rcases Nat.eq_zero_or_pos m with h | h
    · subst h
      have : 0 < 2 ^ s * 2 ^ 52 := Nat.mul_pos ps (Nat.pow_pos (by decide))
      simp at hX
      omega
    · exact h
  obtain ⟨L, e1, a1, b1⟩ := nearest_spec m s t p hp hm
  have pL : 0 < 2 ^ L := Nat.pow_pos (by decide)
  have pG : 0 < 2 ^ s * 2 ^ L := Nat.mul_pos ps pL
  rw [e1]
  generalize m * 2 ^ t = X at *
  have hlo : 2 ^ s * 2 ^ L * 2 ^ 52 ≤ X := by
    rcases a1 with h | h
    · rw [h, Nat.pow_zero, Nat.mul_one]; exact hX
    · rw [Nat.mul_assoc, ← Nat.pow_add]; exact h
  have hhi : X ≤ 2 ^ s * 2 ^ L * 2 ^ 53 := by rw [Nat.mul_assoc, ← Nat.pow_add]; exact Nat.le_of_lt b1
  have k1 := kept_le X _ pG hhi
  have k2 := le_kept X _ pG hlo
  have hL : L < 1948 := by
    have h1 : 2 ^ s * 2 ^ (L + 52) < 2 ^ s * 2 ^ 2000 := by
      refine Nat.lt_of_le_of_lt ?_ hY
      rw [Nat.pow_add, ← Nat.mul_assoc]; exact hlo
    have h2 := Nat.lt_of_mul_lt_mul_left h1
    have h3 := (Nat.pow_lt_pow_iff_right (by decide : 1 < 2)).1 h2
    omega
  have ub := near_ub X (2 ^ s * 2 ^ L)
  have lb := near_lb X (2 ^ s * 2 ^ L) pG
  have hmr := mag_rung L _ k2 k1
  have hfin : L * 2 ^ 52 + near X (2 ^ s * 2 ^ L) < infR := by
    unfold infR
    have p52 : (2 : Nat) ^ 52 = 4503599627370496 := by decide
    have p53 : (2 : Nat) ^ 53 = 9007199254740992 := by decide
    rw [p53] at k1
    rw [p52]
    omega
  rw [Nat.min_eq_left (Nat.le_of_lt hfin), hmr]
  have eG : near X (2 ^ s * 2 ^ L) * 2 ^ L * 2 ^ s = near X (2 ^ s * 2 ^ L) * (2 ^ s * 2 ^ L) := by rw [Nat.mul_assoc, Nat.mul_comm (2 ^ L) (2 ^ s)]
  rw [eG]
  generalize near X (2 ^ s * 2 ^ L) * (2 ^ s * 2 ^ L) = N at *
  generalize 2 ^ s * 2 ^ L = G at *
  refine ⟨hfin, ?_, ?_⟩
  · have h1 : N * 2 ^ 52 ≤ (X + G) * 2 ^ 52 := Nat.mul_le_mul_right _ ub
    rw [Nat.add_mul] at h1
    rw [Nat.mul_add, Nat.mul_one]
    exact Nat.le_trans h1 (Nat.add_le_add_left hlo _)
  · have h1 : X * 2 ^ 52 ≤ (N + G) * 2 ^ 52 := Nat.mul_le_mul_right _ lb
    rw [Nat.add_mul] at h1
    rw [Nat.mul_sub, Nat.mul_one]
    exact Nat.sub_le_of_le_add (Nat.le_trans h1 (Nat.add_le_add_left hlo _))
/-- a rung below infinity, read. -/
theorem read_rung (r : Nat) (h : r < infR) : ∃ m k : Nat, double.read r = .number false m (-1074 + (k : Int)) ∧ m * 2 ^ k = mag r := by
  have hs : r / double.signWeight % 2 = 0 := by
    have : double.signWeight = 9223372036854775808 := by decide
    rw [this]; unfold infR at h; omega
  have hr : r % double.signWeight = r := by
    have : double.signWeight = 9223372036854775808 := by decide
    rw [this]; unfold infR at h; omega
  have hb : double.binade = 4503599627370496 := by decide
  have hn : (r / double.signWeight % 2 == 1) = false := by rw [hs]; rfl
  unfold Format.read mag
  rw [hn, hr, d_inf, hb, d_lp]
  by_cases h1 : r < 4503599627370496
  · refine ⟨r, 0, ?_, ?_⟩
    · simp only [if_pos h1]; rfl
    · rw [if_pos h1, Nat.pow_zero, Nat.mul_one]
  · refine ⟨4503599627370496 + r % 4503599627370496, r / 4503599627370496 - 1, ?_, ?_⟩
    · simp only [if_neg h1, if_pos h]
    · rw [if_neg h1]
/-- a product. -/
theorem mul_rung (r q : Nat) (hr : r < infR) (hq : q < infR) : ∃ m t : Nat, double.mul r q = some (double.nearest false m (-1074 + (t : Int) - (1074 : Nat))) ∧ m * 2 ^ t = mag r * mag q := by
  obtain ⟨m, k, h1, h2⟩ := read_rung r hr
  obtain ⟨n, l, h3, h4⟩ := read_rung q hq
  refine ⟨m * n, k + l, ?_, ?_⟩
  · unfold Format.mul
    rw [h1, h3]
    simp only [Datum.product, Option.map_some, Format.write]
    congr 2
    omega
  · rw [← h2, ← h4, Nat.pow_add]
    simp only [Nat.mul_assoc, Nat.mul_left_comm]
/-- a sum. -/
theorem add_rung (r q : Nat) (hr : r < infR) (hq : q < infR) : ∃ m t : Nat, double.add r q = some (double.nearest false m (-1074 + (t : Int) - (0 : Nat))) ∧ m * 2 ^ t = mag r + mag q := by
  obtain ⟨m, k, h1, h2⟩ := read_rung r hr
  obtain ⟨n, l, h3, h4⟩ := read_rung q hq
  have hmin : min (-1074 + (k : Int)) (-1074 + (l : Int)) = -1074 + ((min k l : Nat) : Int) := by omega
  have e1 : (-1074 + (k : Int) - (-1074 + ((min k l : Nat) : Int))).toNat = k - min k l := by omega
  have e2 : (-1074 + (l : Int) - (-1074 + ((min k l : Nat) : Int))).toNat = l - min k l := by omega
  refine ⟨m * 2 ^ (k - min k l) + n * 2 ^ (l - min k l), min k l, ?_, ?_⟩
  · unfold Format.add
    rw [h1, h3]
    simp only [Datum.sum, Option.map_some, Format.write, signed, hmin, e1, e2, Nat.shiftLeft_eq, Bool.false_eq_true, if_false]
    rw [show ((m * 2 ^ (k - min k l) : Nat) : Int) + ((n * 2 ^ (l - min k l) : Nat) : Int) = ((m * 2 ^ (k - min k l) + n * 2 ^ (l - min k l) : Nat) : Int) by omega]
    generalize m * 2 ^ (k - min k l) + n * 2 ^ (l - min k l) = z
    have hneg : (if (z : Int) = 0 then (false && false) else decide ((z : Int) < 0)) = false := by
      split
      · rfl
      · simp
    rw [hneg, Int.natAbs_natCast]
    congr 2
    omega
  · rw [Nat.add_mul, Nat.mul_assoc, Nat.mul_assoc, ← Nat.pow_add, ← Nat.pow_add, Nat.sub_add_cancel (Nat.min_le_left _ _), Nat.sub_add_cancel (Nat.min_le_right _ _), h2, h4]
theorem cut_zero (s : Bool) (n d : Nat) : Toward.zero.cut s n d = n / 2 ^ d := by
  have h0 : Toward.zero.cut s n d = n / 2 ^ min d (n.log2 + 2) := by
    simp [Toward.cut, Nat.shiftLeft_eq]
  rw [h0]
  rcases Nat.le_total d (n.log2 + 2) with h | h
  · rw [Nat.min_eq_left h]
  · rw [Nat.min_eq_right h]
    have h1 : n < 2 ^ (n.log2 + 1) := Nat.lt_log2_self
    have h2 : 2 ^ (n.log2 + 1) ≤ 2 ^ (n.log2 + 2) := Nat.pow_le_pow_right (by decide) (by omega)
    have h3 : 2 ^ (n.log2 + 2) ≤ 2 ^ d := Nat.pow_le_pow_right (by decide) h
    rw [Nat.div_eq_of_lt (by omega), Nat.div_eq_of_lt (by omega)]
/-- made whole, towards nought. -/
theorem trunc_rung (r : Nat) (hr : r < infR) : (double.read r).toInt .zero = some ((mag r / 2 ^ 1074 : Nat) : Int) := by
  obtain ⟨m, k, h1, h2⟩ := read_rung r hr
  rw [h1, ← h2]
  simp only [Datum.toInt, Datum.integral, signed, cut_zero, Nat.shiftLeft_eq, Bool.false_eq_true, if_false, Nat.pow_zero, Nat.mul_one]
  congr 2
  rcases Nat.le_total 1074 k with h | h
  · have e1 : (-1074 + (k : Int)).toNat = k - 1074 := by omega
    have e2 : (-(-1074 + (k : Int))).toNat = 0 := by omega
    rw [e1, e2, Nat.pow_zero, Nat.div_one]
    have e3 : ∀ c, c ≤ k → m * 2 ^ k / 2 ^ c = m * 2 ^ (k - c) := fun c hc => by
      rw [show m * 2 ^ k = m * 2 ^ (k - c) * 2 ^ c by rw [Nat.mul_assoc, ← Nat.pow_add, Nat.sub_add_cancel hc], Nat.mul_div_cancel _ (Nat.pow_pos (by decide))]
    exact (e3 1074 h).symm
  · have e1 : (-1074 + (k : Int)).toNat = 0 := by omega
    have e2 : (-(-1074 + (k : Int))).toNat = 1074 - k := by omega
    rw [e1, e2, Nat.pow_zero, Nat.mul_one]
    have e3 : ∀ c, k ≤ c → m * 2 ^ k / 2 ^ c = m / 2 ^ (c - k) := fun c hc => by
      rw [show 2 ^ c = 2 ^ (c - k) * 2 ^ k by rw [← Nat.pow_add, Nat.sub_add_cancel hc], Nat.mul_div_mul_right _ _ (Nat.pow_pos (by decide))]
    exact (e3 1074 h).symm
/-- a quotient: what is rounded is off by less than one part of 2 ^ 53 of the true one. -/
theorem div_rung (r q : Nat) (hr : r < infR) (hq : q < infR) (hr0 : mag r ≠ 0) (hq0 : mag q ≠ 0) :
    ∃ Q t s g : Nat, double.div r q = some (double.nearest false Q (-1074 + (t : Int) - (s : Int))) ∧
      ∃ d n, Q * n ≤ 2 * d + n ∧ 2 * d ≤ Q * n + n ∧ n * 2 ^ 53 ≤ d ∧ Q * 2 ^ t * mag q = Q * n * g ∧ ∀ c, c = 1074 → mag r * 2 ^ c * 2 ^ s = 2 * d * g := by
  obtain ⟨m, k, h1, h2⟩ := read_rung r hr
  obtain ⟨n, l, h3, h4⟩ := read_rung q hq
  have hm : m ≠ 0 := fun e => hr0 (by rw [← h2, e, Nat.zero_mul])
  have hn : n ≠ 0 := fun e => hq0 (by rw [← h4, e, Nat.zero_mul])
  obtain ⟨more, hmore⟩ : ∃ e, 54 + n.log2 - m.log2 = e := ⟨_, rfl⟩
  obtain ⟨d, hd⟩ : ∃ d, m * 2 ^ more = d := ⟨_, rfl⟩
  obtain ⟨Q, hQ⟩ : ∃ Q, 2 * (d / n) + (d % n != 0).toNat = Q := ⟨_, rfl⟩
  refine ⟨Q, k + 1074, l + more + 1, 2 ^ (k + 1074) * 2 ^ l, ?_, d, n, ?_, ?_, ?_, ?_, ?_⟩
  · unfold Format.div
    rw [h1, h3]
    simp only [Datum.quotient, if_neg hn, d_fb, Nat.shiftLeft_eq]
    rw [hmore, hd, hQ]
    simp only [Option.map_some, Format.write]
    have hpl : (-1074 + (k : Int) - (-1074 + (l : Int)) - (more : Int) - 1) = -1074 + ((k + 1074 : Nat) : Int) - ((l + more + 1 : Nat) : Int) := by omega
    rw [hpl, Bool.xor_false]
  · have e := Nat.div_add_mod d n
    have hlt := Nat.mod_lt d (Nat.pos_of_ne_zero hn)
    rw [← hQ, Nat.add_mul]
    have e2 : 2 * (d / n) * n = 2 * (n * (d / n)) := by rw [Nat.mul_assoc, Nat.mul_comm (d / n)]
    rw [e2]
    have hb : (d % n != 0).toNat * n ≤ n := by
      cases (d % n != 0)
      · simp
      · simp
    omega
  · have e := Nat.div_add_mod d n
    have hlt := Nat.mod_lt d (Nat.pos_of_ne_zero hn)
    rw [← hQ, Nat.add_mul]
    have e2 : 2 * (d / n) * n = 2 * (n * (d / n)) := by rw [Nat.mul_assoc, Nat.mul_comm (d / n)]
    rw [e2]
    by_cases h0 : d % n = 0
    · omega
    · have hb : (d % n != 0).toNat * n = n := by
        have : (d % n != 0) = true := by simpa using h0
        rw [this]; simp
      omega
  · have a1 : 2 ^ m.log2 ≤ m := Nat.log2_self_le hm
    have a2 : n < 2 ^ (n.log2 + 1) := Nat.lt_log2_self
    have a3 : 2 ^ (n.log2 + 1) * 2 ^ 53 ≤ 2 ^ m.log2 * 2 ^ more := by
      rw [← Nat.pow_add, ← Nat.pow_add]; exact Nat.pow_le_pow_right (by decide) (by omega)
    rw [← hd]
    exact Nat.le_trans (Nat.mul_le_mul_right _ (Nat.le_of_lt a2)) (Nat.le_trans a3 (Nat.mul_le_mul_right _ a1))
  · rw [← h4]
    simp only [Nat.mul_assoc, Nat.mul_left_comm]
  · intro c hc
    rw [← hc, ← h2, ← hd]
    simp only [Nat.pow_add, Nat.pow_one]
    generalize 2 ^ k = A
    generalize 2 ^ c = B
    generalize 2 ^ l = C
    generalize 2 ^ more = D
    simp only [Nat.mul_assoc, Nat.mul_left_comm, Nat.mul_comm]
/-! With what error: a product, a sum, a quotient; c is 1074. -/
theorem mul_err (r q c : Nat) (hc : c = 1074) (hr : r < infR) (hq : q < infR) (hX : 2 ^ c * 2 ^ 52 ≤ mag r * mag q) (hY : mag r * mag q < 2 ^ c * 2 ^ 2000) :
    ∃ P, double.mul r q = some P ∧ P < infR ∧ mag P * 2 ^ c * 2 ^ 52 ≤ mag r * mag q * (2 ^ 52 + 1) ∧ mag r * mag q * (2 ^ 52 - 1) ≤ mag P * 2 ^ c * 2 ^ 52 := by
  obtain ⟨m, t, h1, h2⟩ := mul_rung r q hr hq
  rw [← h2] at hX hY ⊢
  subst hc
  exact ⟨_, h1, nearest_err m 1074 t _ rfl hX hY⟩
theorem add_err (r q : Nat) (hr : r < infR) (hq : q < infR) (hX : 2 ^ 52 ≤ mag r + mag q) (hY : mag r + mag q < 2 ^ 2000) :
    ∃ P, double.add r q = some P ∧ P < infR ∧ mag P * 2 ^ 52 ≤ (mag r + mag q) * (2 ^ 52 + 1) ∧ (mag r + mag q) * (2 ^ 52 - 1) ≤ mag P * 2 ^ 52 := by
  obtain ⟨m, t, h1, h2⟩ := add_rung r q hr hq
  rw [← h2] at hX hY ⊢
  have key := nearest_err m 0 t (-1074 + (t : Int) - ((0 : Nat) : Int)) rfl
  generalize (2 : Nat) ^ 2000 = b at key hY
  rw [Nat.pow_zero, Nat.mul_one, Nat.one_mul, Nat.one_mul] at key
  exact ⟨_, h1, key hX hY⟩
theorem fin_up (Z V N M c1 c2 : Nat) (hM : 0 < M) (g1 : Z ≤ V + N) (g3 : N * M ≤ V) (h : (M + 1) * c1 ≤ M * c2) : Z * c1 ≤ V * c2 := by
  refine Nat.le_of_mul_le_mul_left (c := M) ?_ hM
  have a1 : M * Z ≤ (M + 1) * V := by
    have := Nat.mul_le_mul_left M g1
    rw [Nat.mul_add, Nat.mul_comm M N] at this
    rw [Nat.add_mul, Nat.one_mul]; omega
  calc M * (Z * c1) = M * Z * c1 := by ac_rfl
    _ ≤ (M + 1) * V * c1 := Nat.mul_le_mul_right _ a1
    _ = V * ((M + 1) * c1) := by ac_rfl
    _ ≤ V * (M * c2) := Nat.mul_le_mul_left _ h
    _ = M * (V * c2) := by ac_rfl
theorem fin_dn (Z V N M c1 c2 : Nat) (g1 : V ≤ Z + N) (g3 : N * (M + 1) ≤ V) (h : (M + 1) * c1 ≤ M * c2) : V * c1 ≤ Z * c2 := by
  refine Nat.le_of_mul_le_mul_left (c := M + 1) ?_ (Nat.succ_pos _)
  have a1 : M * V ≤ (M + 1) * Z := by
    have := Nat.mul_le_mul_left (M + 1) g1
    rw [Nat.mul_add, Nat.mul_comm (M + 1) N, Nat.add_mul M 1 V, Nat.one_mul] at this
    omega
  calc (M + 1) * (V * c1) = V * ((M + 1) * c1) := by ac_rfl
    _ ≤ V * (M * c2) := Nat.mul_le_mul_left _ h
    _ = M * V * c2 := by ac_rfl
    _ ≤ (M + 1) * Z * c2 := Nat.mul_le_mul_right _ a1
    _ = (M + 1) * (Z * c2) := by ac_rfl
theorem div_err (r q c : Nat) (hc : c = 1074) (hr : r < infR) (hq : q < infR) (hr0 : mag r ≠ 0) (hq0 : mag q ≠ 0) (h1 : mag q * 2 ^ 53 ≤ mag r * 2 ^ c) (h2 : 2 * (mag r * 2 ^ c) < mag q * 2 ^ 2000) :
    ∃ A, double.div r q = some A ∧ A < infR ∧ mag A * mag q * 2 ^ 50 ≤ mag r * 2 ^ c * (2 ^ 50 + 1) ∧ mag r * 2 ^ c * (2 ^ 50 - 1) ≤ mag A * mag q * 2 ^ 50 := by
  obtain ⟨Q, t, s, g, e1, d, n, f1, f2, f3, f4, f5⟩ := div_rung r q hr hq hr0 hq0
  have f5 := f5 c hc
  generalize mag r * 2 ^ c = R at *
  generalize mag q = k at *
  have hk : 0 < k := Nat.pos_of_ne_zero hq0
  have ps : 0 < 2 ^ s := Nat.pow_pos (by decide)
  have g1 : Q * 2 ^ t * k ≤ R * 2 ^ s + n * g := by
    rw [f4, f5, ← Nat.add_mul]; exact Nat.mul_le_mul_right _ f1
  have g2 : R * 2 ^ s ≤ Q * 2 ^ t * k + n * g := by
    rw [f4, f5, ← Nat.add_mul]; exact Nat.mul_le_mul_right _ f2
  have g3 : n * g * 2 ^ 54 ≤ R * 2 ^ s := by
    have h := Nat.mul_le_mul_right (2 * g) f3
    have e2 : n * 2 ^ 53 * (2 * g) = n * g * 2 ^ 54 := by rw [show (2 : Nat) ^ 54 = 2 ^ 53 * 2 by decide]; ac_rfl
    have e3 : d * (2 * g) = 2 * d * g := by ac_rfl
    rw [e2, e3] at h
    rw [f5]; exact h
  have hX : 2 ^ s * 2 ^ 52 ≤ Q * 2 ^ t := by
    have a1 : k * (2 ^ s * 2 ^ 53) ≤ R * 2 ^ s := by
      have := Nat.mul_le_mul_right (2 ^ s) h1
      have e2 : k * (2 ^ s * 2 ^ 53) = k * 2 ^ 53 * 2 ^ s := by rw [Nat.mul_assoc, Nat.mul_comm (2 ^ s)]
      rw [e2]; exact this
    have a2 : R * 2 ^ s ≤ 2 * (Q * 2 ^ t * k) := by
      generalize R * 2 ^ s = V at *
      generalize n * g = N at *
      generalize Q * 2 ^ t * k = Z at *
      rw [show (2 : Nat) ^ 54 = 18014398509481984 by decide] at g3
      omega
    have a3 : k * (2 ^ s * 2 ^ 53) ≤ k * (2 * (Q * 2 ^ t)) := by
      refine Nat.le_trans a1 (Nat.le_trans a2 (Nat.le_of_eq ?_))
      ac_rfl
    have a4 := Nat.le_of_mul_le_mul_left a3 hk
    have e3 : 2 ^ s * 2 ^ 53 = 2 * (2 ^ s * 2 ^ 52) := by rw [show (2 : Nat) ^ 53 = 2 * 2 ^ 52 by decide, Nat.mul_left_comm]
    rw [e3] at a4
    exact Nat.le_of_mul_le_mul_left a4 (by decide)
  have hY : Q * 2 ^ t < 2 ^ s * 2 ^ 2000 := by
    have a1 : Q * 2 ^ t * k ≤ 2 * R * 2 ^ s := by
      rw [Nat.mul_assoc 2]
      generalize R * 2 ^ s = V at *
      generalize n * g = N at *
      generalize Q * 2 ^ t * k = Z at *
      rw [show (2 : Nat) ^ 54 = 18014398509481984 by decide] at g3
      omega
    have a2 : 2 * R * 2 ^ s < k * 2 ^ 2000 * 2 ^ s := Nat.mul_lt_mul_of_pos_right h2 ps
    have a3 : Q * 2 ^ t * k < 2 ^ s * 2 ^ 2000 * k := by
      refine Nat.lt_of_le_of_lt a1 (Nat.lt_of_lt_of_le a2 (Nat.le_of_eq ?_))
      generalize 2 ^ 2000 = B
      ac_rfl
    exact Nat.lt_of_mul_lt_mul_right a3
  obtain ⟨b1, b2, b3⟩ := nearest_err Q s t _ rfl hX hY
  refine ⟨_, e1, b1, ?_, ?_⟩
  · generalize mag (double.nearest false Q (-1074 + (t : Int) - (s : Int))) = A at *
    have c1 : A * k * 2 ^ 50 * (2 ^ s * 2 ^ 52) ≤ R * (2 ^ 50 + 1) * (2 ^ s * 2 ^ 52) := by
      have d1 := Nat.mul_le_mul_right (k * 2 ^ 50) b2
      have d2 : A * 2 ^ s * 2 ^ 52 * (k * 2 ^ 50) = A * k * 2 ^ 50 * (2 ^ s * 2 ^ 52) := by
        generalize 2 ^ 50 = x; generalize 2 ^ 52 = y; generalize 2 ^ s = z
        ac_rfl
      have d3 : Q * 2 ^ t * (2 ^ 52 + 1) * (k * 2 ^ 50) = Q * 2 ^ t * k * ((2 ^ 52 + 1) * 2 ^ 50) := by
        generalize 2 ^ 50 = x; generalize 2 ^ 52 + 1 = y; generalize 2 ^ t = z
        ac_rfl
      have d4 : R * (2 ^ 50 + 1) * (2 ^ s * 2 ^ 52) = R * 2 ^ s * ((2 ^ 50 + 1) * 2 ^ 52) := by
        generalize 2 ^ 50 + 1 = x; generalize 2 ^ 52 = y; generalize 2 ^ s = z
        ac_rfl
      rw [d2, d3] at d1
      rw [d4]
      refine Nat.le_trans d1 ?_
      generalize R * 2 ^ s = V at *
      generalize n * g = N at *
      generalize Q * 2 ^ t * k = Z at *
      exact fin_up Z V N (2 ^ 54) _ _ (by decide) g1 g3 (by decide)
    exact Nat.le_of_mul_le_mul_right c1 (Nat.mul_pos ps (Nat.pow_pos (by decide)))
  · generalize mag (double.nearest false Q (-1074 + (t : Int) - (s : Int))) = A at *
    have c1 : R * (2 ^ 50 - 1) * (2 ^ s * 2 ^ 52) ≤ A * k * 2 ^ 50 * (2 ^ s * 2 ^ 52) := by
      have d1 := Nat.mul_le_mul_right (k * 2 ^ 50) b3
      have d2 : A * 2 ^ s * 2 ^ 52 * (k * 2 ^ 50) = A * k * 2 ^ 50 * (2 ^ s * 2 ^ 52) := by
        generalize 2 ^ 50 = x; generalize 2 ^ 52 = y; generalize 2 ^ s = z
        ac_rfl
      have d3 : Q * 2 ^ t * (2 ^ 52 - 1) * (k * 2 ^ 50) = Q * 2 ^ t * k * ((2 ^ 52 - 1) * 2 ^ 50) := by
        generalize 2 ^ 50 = x; generalize 2 ^ 52 - 1 = y; generalize 2 ^ t = z
        ac_rfl
      have d4 : R * (2 ^ 50 - 1) * (2 ^ s * 2 ^ 52) = R * 2 ^ s * ((2 ^ 50 - 1) * 2 ^ 52) := by
        generalize 2 ^ 50 - 1 = x; generalize 2 ^ 52 = y; generalize 2 ^ s = z
        ac_rfl
      rw [d2, d3] at d1
      rw [d4]
      refine Nat.le_trans ?_ d1
      generalize R * 2 ^ s = V at *
      generalize n * g = N at *
      generalize Q * 2 ^ t * k = Z at *
      exact fin_dn Z V N (2 ^ 54 - 1) _ _ g2 g3 (by decide)
    exact Nat.le_of_mul_le_mul_right c1 (Nat.mul_pos ps (Nat.pow_pos (by decide)))
/-! A drawn one, back. -/
theorem pw (a b : Nat) (h : a ≤ b) : 2 ^ a ≤ 2 ^ b := Nat.pow_le_pow_right (by decide) h
theorem divk (r q c u k α : Nat) (hc : c = 1074) (hu : 2 ^ c = u) (hr : r < infR) (hq : q < infR) (hmr : mag r = α) (hmq : mag q = k * u) (hk : 0 < k) (hk2 : k < 1000) (h1 : u ≤ 2 * α) (h2 : α ≤ 1000 * u) :
    ∃ A, double.div r q = some A ∧ A < infR ∧ mag A * k * 2 ^ 50 ≤ α * (2 ^ 50 + 1) ∧ α * (2 ^ 50 - 1) ≤ mag A * k * 2 ^ 50 := by
  have hu0 : 2 ^ 64 ≤ u := by rw [← hu]; exact Nat.pow_le_pow_right (by decide) (by omega)
  have hub : u * 2 ^ 20 ≤ 2 ^ 2000 := Nat.le_trans (Nat.le_of_eq (by rw [← hu, ← Nat.pow_add] : u * 2 ^ 20 = 2 ^ (c + 20))) (pw (c + 20) 2000 (by omega))
  have p70 : (2 : Nat) ^ 64 = 18446744073709551616 := by decide
  have p20 : (2 : Nat) ^ 20 = 1048576 := by decide
  have p53 : (2 : Nat) ^ 53 = 9007199254740992 := by decide
  rw [p70] at hu0
  rw [p20] at hub
  have h9 : k * 9007199254740992 ≤ α := by
    refine Nat.le_of_mul_le_mul_left (c := 2) (Nat.le_trans ?_ h1) (by decide)
    calc 2 * (k * 9007199254740992) ≤ 2 * (1024 * 9007199254740992) := Nat.mul_le_mul_left _ (Nat.mul_le_mul_right _ (by omega))
      _ = 18446744073709551616 := by decide
      _ ≤ u := hu0
  have hu1 : 0 < u := Nat.lt_of_lt_of_le (by decide) hu0
  clear hu0
  have h := div_err r q c hc hr hq (by omega) (by rw [hmq]; exact Nat.ne_of_gt (Nat.mul_pos hk (by omega)))
  generalize (2 : Nat) ^ 2000 = B at *
  rw [hmr, hmq, hu] at h
  obtain ⟨A, e, hA, b1, b2⟩ := h (by
    rw [p53]
    calc k * u * 9007199254740992 = k * 9007199254740992 * u := by ac_rfl
      _ ≤ α * u := Nat.mul_le_mul_right _ h9) (by
    have a1 : 2 * (α * u) < 1048576 * u * u := by
      rw [← Nat.mul_assoc]
      exact Nat.mul_lt_mul_of_pos_right (by omega) (by omega)
    calc 2 * (α * u) < 1048576 * u * u := a1
      _ = u * (u * 1048576) := by ac_rfl
      _ ≤ u * B := Nat.mul_le_mul_left _ hub
      _ = 1 * u * B := by rw [Nat.one_mul]
      _ ≤ k * u * B := Nat.mul_le_mul_right _ (Nat.mul_le_mul_right _ hk))
  have pu := hu1
  refine ⟨A, e, hA, Nat.le_of_mul_le_mul_right (c := u) ?_ pu, Nat.le_of_mul_le_mul_right (c := u) ?_ pu⟩
  · calc mag A * k * 2 ^ 50 * u = mag A * (k * u) * 2 ^ 50 := by ac_rfl
      _ ≤ α * u * (2 ^ 50 + 1) := b1
      _ = α * (2 ^ 50 + 1) * u := by ac_rfl
  · calc α * (2 ^ 50 - 1) * u = α * u * (2 ^ 50 - 1) := by ac_rfl
      _ ≤ mag A * (k * u) * 2 ^ 50 := b2
      _ = mag A * k * 2 ^ 50 * u := by ac_rfl
theorem num_up : ∀ a, a < 1000 → (2 ^ 52 + 1) * (2 ^ 52 + 1) * (2 ^ 50 + 1) * (2 * a + 1) < 2 * 2 ^ 52 * 2 ^ 52 * 2 ^ 50 * (a + 1) := by decide +kernel
theorem num_dn : ∀ a, a < 1000 → 2 * 2 ^ 52 * 2 ^ 52 * 2 ^ 50 * a ≤ (2 ^ 52 - 1) * (2 ^ 52 - 1) * (2 ^ 50 - 1) * (2 * a + 1) := by decide +kernel
theorem num_one : ∀ k, k < 1000 → 0 < k → (2 ^ 52 + 1) * (2 ^ 50 + 1) * (2 * k - 1) * 2 ^ 53 < 2 * 2 ^ 52 * 2 ^ 50 * k * (2 ^ 53 - 1) := by decide +kernel
/-- the four roundings together. -/
theorem four (a k u mA mH mW mP D E D1 E1 D2 E2 : Nat)
    (b1 : mA * k * D ≤ a * u * D1) (b2 : a * u * D2 ≤ mA * k * D) (c1 : 2 * (mH * k * D) ≤ u * D1) (c2 : u * D2 ≤ 2 * (mH * k * D))
    (d1 : mW * E ≤ (mA + mH) * E1) (d2 : (mA + mH) * E2 ≤ mW * E) (e1 : mP * E ≤ mW * k * E1) (e2 : mW * k * E2 ≤ mP * E) :
    mP * (2 * E * E * D) ≤ E1 * E1 * D1 * (2 * a + 1) * u ∧ E2 * E2 * D2 * (2 * a + 1) * u ≤ mP * (2 * E * E * D) ∧ mW * (2 * E * D * k) ≤ E1 * D1 * (2 * a + 1) * u := by
  have s1 : 2 * ((mA + mH) * k * D) ≤ (2 * a + 1) * u * D1 := by
    have x1 : 2 * ((mA + mH) * k * D) = 2 * (mA * k * D) + 2 * (mH * k * D) := by rw [Nat.add_mul, Nat.add_mul, Nat.mul_add]
    have x2 : (2 * a + 1) * u * D1 = 2 * (a * u * D1) + u * D1 := by rw [Nat.add_mul, Nat.add_mul, Nat.one_mul]; congr 1; ac_rfl
    omega
  have s2 : (2 * a + 1) * u * D2 ≤ 2 * ((mA + mH) * k * D) := by
    have x1 : 2 * ((mA + mH) * k * D) = 2 * (mA * k * D) + 2 * (mH * k * D) := by rw [Nat.add_mul, Nat.add_mul, Nat.mul_add]
    have x2 : (2 * a + 1) * u * D2 = 2 * (a * u * D2) + u * D2 := by rw [Nat.add_mul, Nat.add_mul, Nat.one_mul]; congr 1; ac_rfl
    omega
  generalize mA + mH = S at *
  generalize 2 * a + 1 = a2 at *
  refine ⟨?_, ?_, ?_⟩
  · calc mP * (2 * E * E * D) = mP * E * (2 * E * D) := by ac_rfl
      _ ≤ mW * k * E1 * (2 * E * D) := Nat.mul_le_mul_right _ e1
      _ = mW * E * (2 * k * D * E1) := by ac_rfl
      _ ≤ S * E1 * (2 * k * D * E1) := Nat.mul_le_mul_right _ d1
      _ = 2 * (S * k * D) * (E1 * E1) := by ac_rfl
      _ ≤ a2 * u * D1 * (E1 * E1) := Nat.mul_le_mul_right _ s1
      _ = E1 * E1 * D1 * a2 * u := by ac_rfl
  · calc E2 * E2 * D2 * a2 * u = a2 * u * D2 * (E2 * E2) := by ac_rfl
      _ ≤ 2 * (S * k * D) * (E2 * E2) := Nat.mul_le_mul_right _ s2
      _ = S * E2 * (2 * k * D * E2) := by ac_rfl
      _ ≤ mW * E * (2 * k * D * E2) := Nat.mul_le_mul_right _ d2
      _ = mW * k * E2 * (2 * E * D) := by ac_rfl
      _ ≤ mP * E * (2 * E * D) := Nat.mul_le_mul_right _ e2
      _ = mP * (2 * E * E * D) := by ac_rfl
  · calc mW * (2 * E * D * k) = mW * E * (2 * D * k) := by ac_rfl
      _ ≤ S * E1 * (2 * D * k) := Nat.mul_le_mul_right _ d1
      _ = 2 * (S * k * D) * E1 := by ac_rfl
      _ ≤ a2 * u * D1 * E1 := Nat.mul_le_mul_right _ s1
      _ = E1 * D1 * a2 * u := by ac_rfl
theorem mag_half (c : Nat) (hc : c = 1074) : 2 * mag 4602678819172646912 = 2 ^ c := by subst hc; decide +kernel
theorem mag_below (c : Nat) (hc : c = 1074) : mag 4607182418800017407 * 2 ^ 53 = 2 ^ c * (2 ^ 53 - 1) := by subst hc; decide +kernel
theorem int_rung (c : Nat) (hc : c = 1074) : ∀ n, n < 1000 → double.nearest false n 0 < infR ∧ mag (double.nearest false n 0) = n * 2 ^ c := by subst hc; decide +kernel
theorem div_zero : ∀ k, k < 1000 → 0 < k → double.div (double.nearest false 0 0) (double.nearest false k 0) = some 0 := by decide +kernel
theorem bnd1 (a k u mA mH D D1 D2 : Nat) (hD : 0 < D) (x1 : D1 ≤ 2 * D) (x2 : D ≤ 2 * D2)
    (b1 : mA * k * D ≤ a * u * D1) (c1 : 2 * (mH * k * D) ≤ u * D1) (c2 : u * D2 ≤ 2 * (mH * k * D)) :
    u ≤ 4 * (mH * k) ∧ (mA + mH) * k ≤ (2 * a + 1) * u := by
  refine ⟨Nat.le_of_mul_le_mul_right (c := D) ?_ hD, Nat.le_of_mul_le_mul_right (c := D) ?_ hD⟩
  · calc u * D ≤ u * (2 * D2) := Nat.mul_le_mul_left _ x2
      _ = 2 * (u * D2) := by ac_rfl
      _ ≤ 2 * (2 * (mH * k * D)) := Nat.mul_le_mul_left _ c2
      _ = 4 * (mH * k) * D := by rw [← Nat.mul_assoc, Nat.mul_assoc 4]
  · have y1 : mA * k * D ≤ 2 * a * u * D := by
      calc mA * k * D ≤ a * u * D1 := b1
        _ ≤ a * u * (2 * D) := Nat.mul_le_mul_left _ x1
        _ = 2 * a * u * D := by ac_rfl
    have y2 : mH * k * D ≤ u * D := by
      refine Nat.le_of_mul_le_mul_left (c := 2) ?_ (by decide)
      calc 2 * (mH * k * D) ≤ u * D1 := c1
        _ ≤ u * (2 * D) := Nat.mul_le_mul_left _ x1
        _ = 2 * (u * D) := by ac_rfl
    calc (mA + mH) * k * D = mA * k * D + mH * k * D := by rw [Nat.add_mul, Nat.add_mul]
      _ ≤ 2 * a * u * D + u * D := Nat.add_le_add y1 y2
      _ = (2 * a + 1) * u * D := by rw [← Nat.add_mul, Nat.add_mul (2 * a), Nat.one_mul]
theorem bnd2 (S mW E E1 E2 : Nat) (hE : 0 < E) (x1 : E1 ≤ 2 * E) (x2 : E ≤ 2 * E2) (d1 : mW * E ≤ S * E1) (d2 : S * E2 ≤ mW * E) : mW ≤ 2 * S ∧ S ≤ 2 * mW := by
  refine ⟨Nat.le_of_mul_le_mul_right (c := E) ?_ hE, Nat.le_of_mul_le_mul_right (c := E) ?_ hE⟩
  · calc mW * E ≤ S * E1 := d1
      _ ≤ S * (2 * E) := Nat.mul_le_mul_left _ x1
      _ = 2 * S * E := by ac_rfl
  · calc S * E ≤ S * (2 * E2) := Nat.mul_le_mul_left _ x2
      _ = 2 * (S * E2) := by ac_rfl
      _ ≤ 2 * (mW * E) := Nat.mul_le_mul_left _ d2
      _ = 2 * mW * E := by ac_rfl
def fl (n : Nat) : Nat := double.nearest false n 0
theorem big_lt (u c : Nat) (hc : c = 1074) (hu : 2 ^ c = u) (X : Nat) (h : X ≤ 100000 * u) : X < 2 ^ 2000 := by
  have hub : u * 2 ^ 20 ≤ 2 ^ 2000 := Nat.le_trans (Nat.le_of_eq (by rw [← hu, ← Nat.pow_add] : u * 2 ^ 20 = 2 ^ (c + 20))) (pw (c + 20) 2000 (by omega))
  have p20 : (2 : Nat) ^ 20 = 1048576 := by decide
  have hu0 : 0 < u := by rw [← hu]; exact Nat.pow_pos (by decide)
  rw [p20] at hub
  generalize (2 : Nat) ^ 2000 = B at *
  omega
theorem big_le (u c : Nat) (hc : c = 1074) (hu : 2 ^ c = u) (X : Nat) (h : u ≤ 4096 * X) : 2 ^ 52 ≤ X := by
  refine Nat.le_of_mul_le_mul_left (c := 4096) (Nat.le_trans ?_ h) (by decide)
  rw [← hu]
  calc 4096 * 2 ^ 52 = 2 ^ 64 := by decide
    _ ≤ 2 ^ c := pw 64 c (by omega)
theorem lt_mag (r s : Nat) (h : mag r < mag s) (mono : ∀ r s, r < s → mag r < mag s) : r < s := by
  rcases Nat.lt_trichotomy r s with h1 | h1 | h1
  · exact h1
  · subst h1; omega
  · have := mono _ _ h1; omega
theorem o1 (u mA mH k : Nat) (l1 : u ≤ 4 * (mH * k)) (h : mH * k ≤ mH * 1000) : u ≤ 4096 * (mA + mH) := by omega
theorem o2 (u S x k : Nat) (l2 : S * k ≤ x * u) (h1 : S ≤ S * k) (h2 : x * u ≤ 2000 * u) : S ≤ 100000 * u := by omega
theorem o3 (u Sk Wk x : Nat) (l2 : Sk ≤ x * u) (h1 : Wk ≤ 2 * Sk) (h2 : x * u ≤ 2000 * u) : Wk ≤ 4000 * u := by omega
theorem o4 (u Hk Wk : Nat) (l1 : u ≤ 4 * Hk) (h1 : Hk ≤ 2 * Wk) : u ≤ 8 * Wk := by omega
theorem o5 (u W : Nat) (h : u ≤ 8 * W) : u ≤ 4096 * W := by omega
theorem o6 (u W : Nat) (h : W ≤ 4000 * u) : W ≤ 100000 * u := by omega
theorem o7 (u k : Nat) (h0 : 0 < u) (h : u ≤ 8 * (0 * k)) : False := by omega
theorem o8 (u x : Nat) (h : 2 * x = u) : u ≤ 2 * x ∧ x ≤ 1000 * u := by omega
theorem o9 (a u : Nat) (ha : a < 1000) : (2 * a + 1) * u ≤ 2000 * u := Nat.mul_le_mul_right _ (by omega)
theorem o10 (a u : Nat) (ha : ¬ a = 0) : u ≤ 2 * (a * u) := by rw [← Nat.mul_assoc]; exact Nat.le_mul_of_pos_left _ (by omega)
theorem o11 (a k : Nat) (hk : a < k) (hk2 : k < 1000) : a < 1000 ∧ a ≤ 1000 ∧ 2 * a + 1 ≤ 2 * k - 1 ∧ k ≤ 1000 := by omega
theorem cx1 (a u z : Nat) : z * a * u = a * u * z := by ac_rfl
theorem cx3 (z y u : Nat) : z * y * u = u * y * z := by ac_rfl
theorem cx4 (m p z : Nat) : m * (p * z) = m * z * p := by ac_rfl
theorem o12 (a u P : Nat) (h0 : 0 < u) (up : P < (a + 1) * u) (dn : a * u ≤ P) : P / u = a := by
  rw [Nat.div_eq_iff h0]
  rw [Nat.add_mul, Nat.one_mul] at up
  omega
theorem back (mono : ∀ r s, r < s → mag r < mag s) (k a : Nat) (hk : 0 < k) (hk2 : k < 1000) (ha : a < k) :
    ∃ A H W P, double.div (fl a) (fl k) = some A ∧ double.div 4602678819172646912 (fl k) = some H ∧ double.add A H = some W ∧ 0 < W ∧ W < 4607182418800017407 ∧ double.mul W (fl k) = some P ∧ P < infR ∧ (double.read P).toInt .zero = some (a : Int) := by
  obtain ⟨c, hc⟩ : ∃ c, c = 1074 := ⟨_, rfl⟩
  obtain ⟨u, hu⟩ : ∃ u, 2 ^ c = u := ⟨_, rfl⟩
  have hu0 : 0 < u := by rw [← hu]; exact Nat.pow_pos (by decide)
  obtain ⟨ik, mk⟩ := int_rung c hc k hk2
  obtain ⟨q1, q2, q3, q4⟩ := o11 a k ha hk2
  obtain ⟨ia, ma⟩ := int_rung c hc a q1
  have mh := mag_half c hc
  have mb := mag_below c hc
  rw [hu] at mk ma mh mb
  have hA : ∃ A, double.div (fl a) (fl k) = some A ∧ A < infR ∧ mag A * k * 2 ^ 50 ≤ a * u * (2 ^ 50 + 1) ∧ a * u * (2 ^ 50 - 1) ≤ mag A * k * 2 ^ 50 := by
    by_cases h0 : a = 0
    · subst h0
      have m0 : mag 0 = 0 := rfl
      exact ⟨0, div_zero k hk2 hk, by decide, by rw [m0]; simp, by simp⟩
    · exact divk (fl a) (fl k) c u k (a * u) hc hu ia ik ma mk hk hk2 (o10 a u h0) (Nat.mul_le_mul_right _ q2)
  obtain ⟨A, eA, iA, b1, b2⟩ := hA
  obtain ⟨H, eH, iH, c1, c2⟩ := divk 4602678819172646912 (fl k) c u k (mag 4602678819172646912) hc hu (by decide) ik rfl mk hk hk2 (o8 _ _ mh).1 (o8 _ _ mh).2
  have c1' : 2 * (mag H * k * 2 ^ 50) ≤ u * (2 ^ 50 + 1) := by
    rw [← mh, Nat.mul_assoc 2]; exact Nat.mul_le_mul_left _ c1
  have c2' : u * (2 ^ 50 - 1) ≤ 2 * (mag H * k * 2 ^ 50) := by
    rw [← mh, Nat.mul_assoc 2]; exact Nat.mul_le_mul_left _ c2
  obtain ⟨l1, l2⟩ := bnd1 a k u (mag A) (mag H) (2 ^ 50) (2 ^ 50 + 1) (2 ^ 50 - 1) (by decide) (by decide) (by decide) b1 c1' c2'
  have hSk : mag A + mag H ≤ (mag A + mag H) * k := Nat.le_mul_of_pos_right _ hk
  have hau : (2 * a + 1) * u ≤ 2000 * u := o9 a u q1
  have hHk : mag H * k ≤ mag H * 1000 := Nat.mul_le_mul_left _ q4
  obtain ⟨W, eW, iW, d1, d2⟩ := add_err A H iA iH (big_le u c hc hu _ (o1 u _ _ k l1 hHk)) (big_lt u c hc hu _ (o2 u _ _ k l2 hSk hau))
  obtain ⟨l3, l4⟩ := bnd2 (mag A + mag H) (mag W) (2 ^ 52) (2 ^ 52 + 1) (2 ^ 52 - 1) (by decide) (by decide) (by decide) d1 d2
  have hWk1 : mag W * k ≤ 4000 * u := by
    have := Nat.mul_le_mul_right k l3
    rw [Nat.mul_assoc] at this
    exact o3 u _ _ _ l2 this hau
  have hWk2 : u ≤ 8 * (mag W * k) := by
    have h1 := Nat.mul_le_mul_right k (Nat.le_trans (Nat.le_add_left (mag H) (mag A)) l4)
    rw [Nat.mul_assoc] at h1
    exact o4 u _ _ l1 h1
  have hP := mul_err W (fl k) c hc iW ik
  rw [show mag (fl k) = k * u from mk, hu, ← Nat.mul_assoc] at hP
  have hB := big_lt u c hc hu _ (o6 u _ hWk1)
  generalize (2 : Nat) ^ 2000 = B at hP hB
  obtain ⟨P, eP, iP, e1, e2⟩ := hP (Nat.le_trans (Nat.le_of_eq (Nat.mul_comm _ _)) (Nat.mul_le_mul_right _ (big_le u c hc hu _ (o5 u _ hWk2)))) (Nat.lt_of_lt_of_eq (Nat.mul_lt_mul_of_pos_right hB hu0) (Nat.mul_comm _ _))
  have e1' : mag P * 2 ^ 52 ≤ mag W * k * (2 ^ 52 + 1) := by
    refine Nat.le_of_mul_le_mul_right (c := u) ?_ hu0
    calc mag P * 2 ^ 52 * u = mag P * u * 2 ^ 52 := by ac_rfl
      _ ≤ mag W * k * u * (2 ^ 52 + 1) := e1
      _ = mag W * k * (2 ^ 52 + 1) * u := by ac_rfl
  have e2' : mag W * k * (2 ^ 52 - 1) ≤ mag P * 2 ^ 52 := by
    refine Nat.le_of_mul_le_mul_right (c := u) ?_ hu0
    calc mag W * k * (2 ^ 52 - 1) * u = mag W * k * u * (2 ^ 52 - 1) := by ac_rfl
      _ ≤ mag P * u * 2 ^ 52 := e2
      _ = mag P * 2 ^ 52 * u := by ac_rfl
  obtain ⟨f1, f2, f3⟩ := four a k u (mag A) (mag H) (mag W) (mag P) (2 ^ 50) (2 ^ 52) (2 ^ 50 + 1) (2 ^ 52 + 1) (2 ^ 50 - 1) (2 ^ 52 - 1) b1 b2 c1' c2' d1 d2 e1' e2'
  have up : mag P < (a + 1) * u := by
    refine Nat.lt_of_mul_lt_mul_right (a := 2 * 2 ^ 52 * 2 ^ 52 * 2 ^ 50) (Nat.lt_of_le_of_lt f1 ?_)
    calc (2 ^ 52 + 1) * (2 ^ 52 + 1) * (2 ^ 50 + 1) * (2 * a + 1) * u < 2 * 2 ^ 52 * 2 ^ 52 * 2 ^ 50 * (a + 1) * u := Nat.mul_lt_mul_of_pos_right (num_up a q1) hu0
      _ = (a + 1) * u * (2 * 2 ^ 52 * 2 ^ 52 * 2 ^ 50) := cx1 _ _ _
  have dn : a * u ≤ mag P := by
    refine Nat.le_of_mul_le_mul_right (c := 2 * 2 ^ 52 * 2 ^ 52 * 2 ^ 50) (Nat.le_trans ?_ f2) (by decide)
    calc a * u * (2 * 2 ^ 52 * 2 ^ 52 * 2 ^ 50) = 2 * 2 ^ 52 * 2 ^ 52 * 2 ^ 50 * a * u := (cx1 _ _ _).symm
      _ ≤ (2 ^ 52 - 1) * (2 ^ 52 - 1) * (2 ^ 50 - 1) * (2 * a + 1) * u := Nat.mul_le_mul_right _ (num_dn a q1)
  have hW1 : mag W < mag 4607182418800017407 := by
    refine Nat.lt_of_mul_lt_mul_right (a := 2 ^ 53 * (2 * 2 ^ 52 * 2 ^ 50 * k)) ?_
    calc mag W * (2 ^ 53 * (2 * 2 ^ 52 * 2 ^ 50 * k)) = mag W * (2 * 2 ^ 52 * 2 ^ 50 * k) * 2 ^ 53 := cx4 _ _ _
      _ ≤ (2 ^ 52 + 1) * (2 ^ 50 + 1) * (2 * a + 1) * u * 2 ^ 53 := Nat.mul_le_mul_right _ f3
      _ ≤ (2 ^ 52 + 1) * (2 ^ 50 + 1) * (2 * k - 1) * u * 2 ^ 53 := Nat.mul_le_mul_right _ (Nat.mul_le_mul_right _ (Nat.mul_le_mul_left _ q3))
      _ = (2 ^ 52 + 1) * (2 ^ 50 + 1) * (2 * k - 1) * 2 ^ 53 * u := Nat.mul_right_comm _ _ _
      _ < 2 * 2 ^ 52 * 2 ^ 50 * k * (2 ^ 53 - 1) * u := Nat.mul_lt_mul_of_pos_right (num_one k hk2 hk) hu0
      _ = u * (2 ^ 53 - 1) * (2 * 2 ^ 52 * 2 ^ 50 * k) := cx3 _ _ _
      _ = mag 4607182418800017407 * (2 ^ 53 * (2 * 2 ^ 52 * 2 ^ 50 * k)) := by rw [← mb, Nat.mul_assoc]
  have hW0 : 0 < W := by
    rcases Nat.eq_zero_or_pos W with h | h
    · exfalso
      have m0 : mag W = 0 := by rw [h]; rfl
      rw [m0] at hWk2
      exact o7 u k hu0 hWk2
    · exact h
  refine ⟨A, H, W, P, eA, eH, eW, hW0, lt_mag _ _ hW1 mono, eP, iP, ?_⟩
  rw [trunc_rung P iP]
  have : mag P / 2 ^ c = a := by
    rw [hu]; exact o12 a u _ hu0 up dn
  rw [← hc, this]
/-- in order: a greater number isn't drawn below; and it is at most the count. -/
theorem mul_mono (mono : ∀ r s, r < s → mag r < mag s) (r s k : Nat) (hk2 : k < 1000) (hr : r ≤ 4607182418800017407) (hs : s ≤ 4607182418800017407) (h : r ≤ s) :
    ∃ P R, double.mul r (fl k) = some P ∧ double.mul s (fl k) = some R ∧ P ≤ R ∧ R ≤ fl k := by
  obtain ⟨c, hc⟩ : ∃ c, c = 1074 := ⟨_, rfl⟩
  obtain ⟨ik, mk⟩ := int_rung c hc k hk2
  have mb := mag_below c hc
  have i1 : (4607182418800017407 : Nat) < infR := by decide
  obtain ⟨m, t, e1, e2⟩ := mul_rung r (fl k) (by omega) ik
  obtain ⟨n, v, e3, e4⟩ := mul_rung s (fl k) (by omega) ik
  have mle : ∀ x y, x ≤ y → mag x ≤ mag y := fun x y hxy => by
    rcases Nat.lt_or_ge x y with h1 | h1
    · exact Nat.le_of_lt (mono _ _ h1)
    · rw [Nat.le_antisymm hxy h1]; exact Nat.le_refl _
  refine ⟨_, _, e1, e3, nearest_mono m 1074 t n 1074 v _ _ rfl rfl ?_, nearest_le n 1074 v (fl k) _ rfl (Nat.le_of_lt ik) ?_⟩
  · rw [e2, e4]
    exact Nat.mul_le_mul_right _ (Nat.mul_le_mul_right _ (mle _ _ h))
  · rw [e4, Nat.mul_comm]
    refine Nat.mul_le_mul_left _ ?_
    rw [← hc]
    refine Nat.le_trans (mle _ _ hs) (Nat.le_of_mul_le_mul_right (c := 2 ^ 53) ?_ (by decide))
    rw [mb]
    exact Nat.mul_le_mul_left _ (by decide)
theorem trunc_mono (mono : ∀ r s, r < s → mag r < mag s) (P R k : Nat) (hk2 : k < 1000) (h : P ≤ R) (hR : R ≤ fl k) :
    ∃ p r : Nat, (double.read P).toInt .zero = some (p : Int) ∧ (double.read R).toInt .zero = some (r : Int) ∧ p ≤ r ∧ r ≤ k := by
  obtain ⟨c, hc⟩ : ∃ c, c = 1074 := ⟨_, rfl⟩
  obtain ⟨ik, mk⟩ := int_rung c hc k hk2
  have ik' : fl k < infR := ik
  have mle : ∀ x y, x ≤ y → mag x ≤ mag y := fun x y hxy => by
    rcases Nat.lt_or_ge x y with h1 | h1
    · exact Nat.le_of_lt (mono _ _ h1)
    · rw [Nat.le_antisymm hxy h1]; exact Nat.le_refl _
  refine ⟨_, _, trunc_rung P (by omega), trunc_rung R (by omega), Nat.div_le_div_right (mle _ _ h), ?_⟩
  have h1 : mag R ≤ k * 2 ^ c := by rw [← mk]; exact mle _ _ hR
  rw [← hc]
  exact Nat.div_le_of_le_mul (by rw [Nat.mul_comm]; exact h1)
end Go.Proofs.YtkabmjeeficfhaaDoor.Draws
