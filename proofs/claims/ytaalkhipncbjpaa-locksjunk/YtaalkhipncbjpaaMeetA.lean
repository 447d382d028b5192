/- Rows of floats, and whether any of them is so (for LocksMeet). -/
import Derived.Test.YtaalkhipncbjpaaTape
namespace Go.Proofs.Ytaalkhipncbjpaa
open Go.RowKit
/-- floats in memory. -/
def FRow (w : World) (ao : Option Addr) (l : List Nat) (cap : Nat) : Prop :=
  l.length ≤ cap ∧ cap ≤ maxLen ∧ (∀ x ∈ l, x < 18446744073709551616) ∧ (l ≠ [] → ∃ b off, ao = some ⟨b, off, none⟩ ∧ ∀ i, i < l.length → w.cell? ⟨b, off + i, none⟩ = some (.float .f64 (l.getD i 0)))
theorem FRow.fr {S : Nat → Prop} {w w1 : World} {ao : Option Addr} {l : List Nat} {cap : Nat} (h : FRow w ao l cap) (f : Fr S w w1) (hs : l ≠ [] → ∀ a : Addr, ao = some a → ¬ S a.block) : FRow w1 ao l cap := by
  obtain ⟨h1, h2, h3, h4⟩ := h
  refine ⟨h1, h2, h3, fun hl => ?_⟩
  obtain ⟨b, off, rfl, hc⟩ := h4 hl
  exact ⟨b, off, rfl, fun i hi => f.cell (hc i hi) (hs hl ⟨b, off, none⟩ rfl)⟩
theorem same_any (a b : Nat) (ha : a < 18446744073709551616) (hb : b < 18446744073709551616) (w : World) : Calls Try.prog 40 #[.float .f64 a, .float .f64 b] w fun e w' => e = .returned (.bool (decide (Fl.rk a = Fl.rk b))) ∧ w' = w := by
  have KA := rank_any a w ha
  have KB := rank_any b w hb
  obtain ⟨r, Hr⟩ : ∃ r, Hid (Fl.rk a = r) := ⟨_, rfl⟩
  obtain ⟨s, Hs⟩ : ∃ s, Hid (Fl.rk b = s) := ⟨_, rfl⟩
  rw [Hr.out] at KA ⊢
  rw [Hs.out] at KB ⊢
  by_cases h : r = s
  · subst h
    rw [show decide (r = r) = true from by simp]
    go_enter Try.func40, Try.ntmps40
    go_wp2_with fail
    refine KA.mono ?_
    rintro e w1 ⟨rfl, hw1⟩
    subst hw1
    go_wp2_with fail
    refine KB.mono ?_
    rintro e w2 ⟨rfl, hw2⟩
    subst hw2
    go_wp2
    go_ret
    exact ⟨rfl, rfl⟩
  · rw [show decide (r = s) = false from by simpa using h]
    have h2 : ((r : Int) == (s : Int)) = false := by simp; omega
    go_enter Try.func40, Try.ntmps40
    go_wp2_with fail
    refine KA.mono ?_
    rintro e w1 ⟨rfl, hw1⟩
    subst hw1
    go_wp2_with fail
    refine KB.mono ?_
    rintro e w2 ⟨rfl, hw2⟩
    subst hw2
    go_wp2
    go_ret
    exact ⟨rfl, rfl⟩
set_option maxRecDepth 100000 in
theorem at1_any (x y pb : Nat) (hx : x < 18446744073709551616) (hy : y < 18446744073709551616) (w : World) (h : w.cell? ⟨pb, 0, none⟩ = some (.float .f64 x)) : Calls Try.prog 103 #[.float .f64 y, .pointer (some ⟨pb, 0, none⟩)] w fun e w' => e = .returned (.bool (decide (Fl.rk x = Fl.rk y))) ∧ w' = w := by
  go_enter Try.func103, Try.ntmps103
  go_wp2_with fail
  refine (same_any x y hx hy _).mono ?_
  rintro e w1 ⟨rfl, hw1⟩
  subst hw1
  go_wp2
  go_ret
  exact ⟨rfl, rfl⟩
set_option maxRecDepth 100000 in
set_option maxHeartbeats 2000000 in
theorem around1_any (x a b pb : Nat) (hx : x < 18446744073709551616) (ha : a < 18446744073709551616) (hb : b < 18446744073709551616) (w : World) (h : w.cell? ⟨pb, 0, none⟩ = some (.float .f64 x)) : Calls Try.prog 105 #[.agg #[.float .f64 a, .float .f64 b], .pointer (some ⟨pb, 0, none⟩)] w fun e w' => e = .returned (.bool (!decide (Fl.rk x < Fl.rk a) && !decide (Fl.rk b < Fl.rk x))) ∧ Fr (fun _ => False) w w' := by
  have F0 : Hid (Fr (fun _ => False) w (w.alloc (.cells #[.float .f64 a, .float .f64 b] 75))) := (Fr.refl (fun _ => False) w).alloc _
  have h1 := F0.out.cell h (by simp)
  have K := within_any x a b hx ha hb
  obtain ⟨t, Ht⟩ : ∃ t : Bool, Hid ((!decide (Fl.rk x < Fl.rk a) && !decide (Fl.rk b < Fl.rk x)) = t) := ⟨_, rfl⟩
  rw [Ht.out] at K ⊢
  go_enter Try.func105, Try.ntmps105
  go_wp2_with fail
  refine (K _).mono ?_
  rintro e w1 ⟨rfl, hw1⟩
  subst hw1
  go_wp2
  go_ret
  exact ⟨rfl, F0.out⟩
theorem any_take_succ {α : Type} (l : List α) (f : α → Bool) (d : α) (k : Nat) (hk : k < l.length) (h : (l.take k).any f = false) (hf : f (l.getD k d) = false) : (l.take (k + 1)).any f = false := by
  rw [List.take_add_one, List.any_append, h, List.getElem?_eq_getElem hk]
  simpa [List.getD_eq_getElem?_getD, List.getElem?_eq_getElem hk] using hf
theorem any_at {α : Type} (l : List α) (f : α → Bool) (d : α) (k : Nat) (hk : k < l.length) (hf : f (l.getD k d) = true) : l.any f = true := by
  rw [List.any_eq_true]
  exact ⟨l.getD k d, by rw [List.getD_eq_getElem?_getD, List.getElem?_eq_getElem hk]; exact List.getElem_mem _, hf⟩
set_option maxRecDepth 100000 in
set_option maxHeartbeats 4000000 in
theorem indexF_101 (f : Nat → Bool) (pb : Value) (ao : Option Addr) (l : List Nat) (cap : Nat) (w : World) (hr : FRow w ao l cap)
    (hf : ∀ W x, Fr (fun _ => False) w W → x ∈ l → Calls Try.prog 103 #[.float .f64 x, pb] W fun e w' => e = .returned (.bool (f x)) ∧ Fr (fun _ => False) W w') :
    Calls Try.prog 79 #[.slice ao l.length cap, .func (.func 103) #[] #[pb]] w fun e w' => ∃ n : Int, e = .returned (.int .i64 n) ∧ decide (0 ≤ n) = l.any f ∧ Fr (fun _ => False) w w' := by
  have HR : Hid (FRow w ao l cap) := hr
  have KF : Hid (∀ W x, Fr (fun _ => False) w W → x ∈ l → Calls _ _ _ _ _) := hf
  have hl1 : l.length ≤ 9223372036854775807 := by have := hr.1; have := hr.2.1; unfold maxLen at this; omega
  clear hr hf
  go_enter Try.func79, Try.ntmps79
  go_wp2
  go_loopw [8] (fun iv wr => ∃ k : Nat, k ≤ l.length ∧ iv = .int .i64 (k : Int) ∧ Hid ((l.take k).any f = false) ∧ Hid (Fr (fun _ => False) w wr)) (fun iv _ => l.length - (intOf iv).toNat)
  case atStart => exact ⟨0, Nat.zero_le _, rfl, (by show (List.take 0 l).any f = false; simp), Fr.refl _ _⟩
  case round =>
    obtain ⟨k, hk, rfl, HA, HF⟩ := hrel
    by_cases hlt : k < l.length
    · have hne : l ≠ [] := fun e => by rw [e] at hlt; simp at hlt
      obtain ⟨b, off, hao, hc⟩ := (HR.out.fr HF.out (by simp)).2.2.2 hne
      have hy := hc k hlt
      have hmem : l.getD k 0 ∈ l := by rw [List.getD_eq_getElem?_getD, List.getElem?_eq_getElem hlt]; exact List.getElem_mem _
      have KC := KF.out wr (l.getD k 0) HF.out hmem
      have HN : Hid (f (l.getD k 0) = false → (l.take (k + 1)).any f = false) := any_take_succ l f 0 k hlt HA.out
      have HT : Hid (f (l.getD k 0) = true → l.any f = true) := any_at l f 0 k hlt
      obtain ⟨y, Hy⟩ : ∃ y, Hid (l.getD k 0 = y) := ⟨_, rfl⟩
      rw [Hy.out] at hy KC HN HT
      have HK : Hid (Calls _ _ _ _ _) := KC
      subst hao
      have z1 : (0 : Int) ≤ (k : Int) := by omega
      have z2 : (k : Int) < (l.length : Int) := by omega
      clear hc hmem KC
      go_wp2_with fail
      refine HK.out.mono ?_
      rintro e w1 ⟨rfl, f1⟩
      have HF1 : Hid (Fr (fun _ => False) w w1) := HF.out.trans f1
      clear f1 hy
      cases hfy : f y with
      | true =>
        go_wp2
        go_ret
        exact ⟨k, rfl, by rw [HT.out hfy]; simp, HF1.out⟩
      | false =>
        go_wp2
        go_roundw
        case rel => exact ⟨k + 1, by omega, by go_num, HN.out hfy, HF1.out⟩
        case measure => simp [intOf]; omega
    · have hlt' : ¬ (k : Int) < (l.length : Int) := by omega
      have hall : l.any f = false := by have := HA.out; rwa [List.take_of_length_le (by omega)] at this
      go_wp2
      go_ret
      exact ⟨-1, rfl, (by first | (rw [hall]; rfl) | decide | simp), HF.out⟩
set_option maxRecDepth 100000 in
theorem contF_101 (f : Nat → Bool) (pb : Value) (ao : Option Addr) (l : List Nat) (cap : Nat) (w : World) (hr : FRow w ao l cap)
    (hf : ∀ W x, Fr (fun _ => False) w W → x ∈ l → Calls Try.prog 103 #[.float .f64 x, pb] W fun e w' => e = .returned (.bool (f x)) ∧ Fr (fun _ => False) W w') :
    Calls Try.prog 45 #[.slice ao l.length cap, .func (.func 103) #[] #[pb]] w fun e w' => e = .returned (.bool (l.any f)) ∧ Fr (fun _ => False) w w' := by
  have K : Hid (Calls _ _ _ _ _) := indexF_101 f pb ao l cap w hr hf
  obtain ⟨t, Ht⟩ : ∃ t, Hid (l.any f = t) := ⟨_, rfl⟩
  clear hr hf
  rw [Ht.out] at K ⊢
  go_enter Try.func45, Try.ntmps45
  go_wp2_with fail
  refine K.out.mono ?_
  rintro e w1 ⟨n, rfl, hn, f1⟩
  cases t with
  | true =>
    have h : (0 : Int) ≤ n := by simpa using hn
    go_wp2
    go_ret
    exact ⟨rfl, f1⟩
  | false =>
    have h : ¬ (0 : Int) ≤ n := by simpa using hn
    go_wp2
    go_ret
    exact ⟨rfl, f1⟩
set_option maxRecDepth 100000 in
set_option maxHeartbeats 4000000 in
theorem indexF_78 (f : Nat → Bool) (pb : Value) (ao : Option Addr) (l : List Nat) (cap : Nat) (w : World) (hr : FRow w ao l cap)
    (hf : ∀ W x, Fr (fun _ => False) w W → x ∈ l → Calls Try.prog 80 #[.float .f64 x, pb] W fun e w' => e = .returned (.bool (f x)) ∧ Fr (fun _ => False) W w') :
    Calls Try.prog 79 #[.slice ao l.length cap, .func (.func 80) #[] #[pb]] w fun e w' => ∃ n : Int, e = .returned (.int .i64 n) ∧ decide (0 ≤ n) = l.any f ∧ Fr (fun _ => False) w w' := by
  have HR : Hid (FRow w ao l cap) := hr
  have KF : Hid (∀ W x, Fr (fun _ => False) w W → x ∈ l → Calls _ _ _ _ _) := hf
  have hl1 : l.length ≤ 9223372036854775807 := by have := hr.1; have := hr.2.1; unfold maxLen at this; omega
  clear hr hf
  go_enter Try.func79, Try.ntmps79
  go_wp2
  go_loopw [8] (fun iv wr => ∃ k : Nat, k ≤ l.length ∧ iv = .int .i64 (k : Int) ∧ Hid ((l.take k).any f = false) ∧ Hid (Fr (fun _ => False) w wr)) (fun iv _ => l.length - (intOf iv).toNat)
  case atStart => exact ⟨0, Nat.zero_le _, rfl, (by show (List.take 0 l).any f = false; simp), Fr.refl _ _⟩
  case round =>
    obtain ⟨k, hk, rfl, HA, HF⟩ := hrel
    by_cases hlt : k < l.length
    · have hne : l ≠ [] := fun e => by rw [e] at hlt; simp at hlt
      obtain ⟨b, off, hao, hc⟩ := (HR.out.fr HF.out (by simp)).2.2.2 hne
      have hy := hc k hlt
      have hmem : l.getD k 0 ∈ l := by rw [List.getD_eq_getElem?_getD, List.getElem?_eq_getElem hlt]; exact List.getElem_mem _
      have KC := KF.out wr (l.getD k 0) HF.out hmem
      have HN : Hid (f (l.getD k 0) = false → (l.take (k + 1)).any f = false) := any_take_succ l f 0 k hlt HA.out
      have HT : Hid (f (l.getD k 0) = true → l.any f = true) := any_at l f 0 k hlt
      obtain ⟨y, Hy⟩ : ∃ y, Hid (l.getD k 0 = y) := ⟨_, rfl⟩
      rw [Hy.out] at hy KC HN HT
      have HK : Hid (Calls _ _ _ _ _) := KC
      subst hao
      have z1 : (0 : Int) ≤ (k : Int) := by omega
      have z2 : (k : Int) < (l.length : Int) := by omega
      clear hc hmem KC
      go_wp2_with fail
      refine HK.out.mono ?_
      rintro e w1 ⟨rfl, f1⟩
      have HF1 : Hid (Fr (fun _ => False) w w1) := HF.out.trans f1
      clear f1 hy
      cases hfy : f y with
      | true =>
        go_wp2
        go_ret
        exact ⟨k, rfl, by rw [HT.out hfy]; simp, HF1.out⟩
      | false =>
        go_wp2
        go_roundw
        case rel => exact ⟨k + 1, by omega, by go_num, HN.out hfy, HF1.out⟩
        case measure => simp [intOf]; omega
    · have hlt' : ¬ (k : Int) < (l.length : Int) := by omega
      have hall : l.any f = false := by have := HA.out; rwa [List.take_of_length_le (by omega)] at this
      go_wp2
      go_ret
      exact ⟨-1, rfl, (by first | (rw [hall]; rfl) | decide | simp), HF.out⟩
set_option maxRecDepth 100000 in
theorem contF_78 (f : Nat → Bool) (pb : Value) (ao : Option Addr) (l : List Nat) (cap : Nat) (w : World) (hr : FRow w ao l cap)
    (hf : ∀ W x, Fr (fun _ => False) w W → x ∈ l → Calls Try.prog 80 #[.float .f64 x, pb] W fun e w' => e = .returned (.bool (f x)) ∧ Fr (fun _ => False) W w') :
    Calls Try.prog 45 #[.slice ao l.length cap, .func (.func 80) #[] #[pb]] w fun e w' => e = .returned (.bool (l.any f)) ∧ Fr (fun _ => False) w w' := by
  have K : Hid (Calls _ _ _ _ _) := indexF_78 f pb ao l cap w hr hf
  obtain ⟨t, Ht⟩ : ∃ t, Hid (l.any f = t) := ⟨_, rfl⟩
  clear hr hf
  rw [Ht.out] at K ⊢
  go_enter Try.func45, Try.ntmps45
  go_wp2_with fail
  refine K.out.mono ?_
  rintro e w1 ⟨n, rfl, hn, f1⟩
  cases t with
  | true =>
    have h : (0 : Int) ≤ n := by simpa using hn
    go_wp2
    go_ret
    exact ⟨rfl, f1⟩
  | false =>
    have h : ¬ (0 : Int) ≤ n := by simpa using hn
    go_wp2
    go_ret
    exact ⟨rfl, f1⟩
set_option maxRecDepth 100000 in
set_option maxHeartbeats 4000000 in
theorem indexF_80 (f : Nat → Bool) (pb : Value) (ao : Option Addr) (l : List Nat) (cap : Nat) (w : World) (hr : FRow w ao l cap)
    (hf : ∀ W x, Fr (fun _ => False) w W → x ∈ l → Calls Try.prog 82 #[.float .f64 x, pb] W fun e w' => e = .returned (.bool (f x)) ∧ Fr (fun _ => False) W w') :
    Calls Try.prog 79 #[.slice ao l.length cap, .func (.func 82) #[] #[pb]] w fun e w' => ∃ n : Int, e = .returned (.int .i64 n) ∧ decide (0 ≤ n) = l.any f ∧ Fr (fun _ => False) w w' := by
  have HR : Hid (FRow w ao l cap) := hr
  have KF : Hid (∀ W x, Fr (fun _ => False) w W → x ∈ l → Calls _ _ _ _ _) := hf
  have hl1 : l.length ≤ 9223372036854775807 := by have := hr.1; have := hr.2.1; unfold maxLen at this; omega
  clear hr hf
  go_enter Try.func79, Try.ntmps79
  go_wp2
  go_loopw [8] (fun iv wr => ∃ k : Nat, k ≤ l.length ∧ iv = .int .i64 (k : Int) ∧ Hid ((l.take k).any f = false) ∧ Hid (Fr (fun _ => False) w wr)) (fun iv _ => l.length - (intOf iv).toNat)
  case atStart => exact ⟨0, Nat.zero_le _, rfl, (by show (List.take 0 l).any f = false; simp), Fr.refl _ _⟩
  case round =>
    obtain ⟨k, hk, rfl, HA, HF⟩ := hrel
    by_cases hlt : k < l.length
    · have hne : l ≠ [] := fun e => by rw [e] at hlt; simp at hlt
      obtain ⟨b, off, hao, hc⟩ := (HR.out.fr HF.out (by simp)).2.2.2 hne
      have hy := hc k hlt
      have hmem : l.getD k 0 ∈ l := by rw [List.getD_eq_getElem?_getD, List.getElem?_eq_getElem hlt]; exact List.getElem_mem _
      have KC := KF.out wr (l.getD k 0) HF.out hmem
      have HN : Hid (f (l.getD k 0) = false → (l.take (k + 1)).any f = false) := any_take_succ l f 0 k hlt HA.out
      have HT : Hid (f (l.getD k 0) = true → l.any f = true) := any_at l f 0 k hlt
      obtain ⟨y, Hy⟩ : ∃ y, Hid (l.getD k 0 = y) := ⟨_, rfl⟩
      rw [Hy.out] at hy KC HN HT
      have HK : Hid (Calls _ _ _ _ _) := KC
      subst hao
      have z1 : (0 : Int) ≤ (k : Int) := by omega
      have z2 : (k : Int) < (l.length : Int) := by omega
      clear hc hmem KC
      go_wp2_with fail
      refine HK.out.mono ?_
      rintro e w1 ⟨rfl, f1⟩
      have HF1 : Hid (Fr (fun _ => False) w w1) := HF.out.trans f1
      clear f1 hy
      cases hfy : f y with
      | true =>
        go_wp2
        go_ret
        exact ⟨k, rfl, by rw [HT.out hfy]; simp, HF1.out⟩
      | false =>
        go_wp2
        go_roundw
        case rel => exact ⟨k + 1, by omega, by go_num, HN.out hfy, HF1.out⟩
        case measure => simp [intOf]; omega
    · have hlt' : ¬ (k : Int) < (l.length : Int) := by omega
      have hall : l.any f = false := by have := HA.out; rwa [List.take_of_length_le (by omega)] at this
      go_wp2
      go_ret
      exact ⟨-1, rfl, (by first | (rw [hall]; rfl) | decide | simp), HF.out⟩
set_option maxRecDepth 100000 in
theorem contF_80 (f : Nat → Bool) (pb : Value) (ao : Option Addr) (l : List Nat) (cap : Nat) (w : World) (hr : FRow w ao l cap)
    (hf : ∀ W x, Fr (fun _ => False) w W → x ∈ l → Calls Try.prog 82 #[.float .f64 x, pb] W fun e w' => e = .returned (.bool (f x)) ∧ Fr (fun _ => False) W w') :
    Calls Try.prog 45 #[.slice ao l.length cap, .func (.func 82) #[] #[pb]] w fun e w' => e = .returned (.bool (l.any f)) ∧ Fr (fun _ => False) w w' := by
  have K : Hid (Calls _ _ _ _ _) := indexF_80 f pb ao l cap w hr hf
  obtain ⟨t, Ht⟩ : ∃ t, Hid (l.any f = t) := ⟨_, rfl⟩
  clear hr hf
  rw [Ht.out] at K ⊢
  go_enter Try.func45, Try.ntmps45
  go_wp2_with fail
  refine K.out.mono ?_
  rintro e w1 ⟨n, rfl, hn, f1⟩
  cases t with
  | true =>
    have h : (0 : Int) ≤ n := by simpa using hn
    go_wp2
    go_ret
    exact ⟨rfl, f1⟩
  | false =>
    have h : ¬ (0 : Int) ≤ n := by simpa using hn
    go_wp2
    go_ret
    exact ⟨rfl, f1⟩
end Go.Proofs.Ytaalkhipncbjpaa
