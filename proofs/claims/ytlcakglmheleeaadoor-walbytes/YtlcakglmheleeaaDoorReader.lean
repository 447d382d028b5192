/- The program's reader: what each of its calls answers and leaves, for every reader, also a nil one. -/
import Derived.Test.YtlcakglmheleeaaDoorDone
namespace Go.Proofs.YtlcakglmheleeaaDoor
open Go.RowKit

/-- A READER at block rb, of which the bytes l are left. -/
structure Rd (w : World) (rb : Nat) (ao : Option Addr) (l : List Nat) (cap : Nat) (bad : Bool) : Prop where
  c0 : w.cell? ⟨rb, 0, none⟩ = some (.slice ao l.length cap)
  c1 : w.cell? ⟨rb, 1, none⟩ = some (.bool bad)
  f0 : w.frozen? ⟨rb, 0, none⟩ = false
  f1 : w.frozen? ⟨rb, 1, none⟩ = false
  row : Row w ao l cap
  apart : l ≠ [] → ∀ a, ao = some a → a.block ≠ rb
  none : bad = true → l = []
theorem Rd.lt {w : World} {rb : Nat} {ao : Option Addr} {l : List Nat} {cap : Nat} {bad : Bool} (h : Rd w rb ao l cap bad) : rb < w.heap.size := World.block_lt_of_cell? _ _ h.c0
theorem Rd.fr {S : Nat → Prop} {w w1 : World} {rb : Nat} {ao : Option Addr} {l : List Nat} {cap : Nat} {bad : Bool} (h : Rd w rb ao l cap bad) (f : Fr S w w1) (hs : ¬ S rb) (hr : l ≠ [] → ∀ a, ao = some a → ¬ S a.block) : Rd w1 rb ao l cap bad :=
  ⟨f.cell h.c0 hs, f.cell h.c1 hs, (f.frozenEq h.lt hs).trans h.f0, (f.frozenEq h.lt hs).trans h.f1, f.row h.row hr, h.apart, h.none⟩

theorem row_nil (w : World) : Row w none [] 0 := ⟨Nat.le_refl _, Nat.zero_le _, by simp, fun _ => rfl, fun h => absurd rfl h⟩
theorem Row.take {w : World} {ao : Option Addr} {l : List Nat} {cap n : Nat} (h : Row w ao l cap) (hn : n ≤ l.length) : Row w ao (l.take n) n := by
  obtain ⟨h1, h2, h3, h4, h5⟩ := h
  refine ⟨by simp; omega, by omega, fun x hx => h3 x (List.mem_of_mem_take hx), fun e => by have := h4 e; omega, fun hl => ?_⟩
  obtain ⟨b, off, rfl, hc⟩ := h5 (fun e => hl (by rw [e]; simp))
  refine ⟨b, off, rfl, fun i hi => ?_⟩
  have hi' : i < n := by simp at hi; omega
  rw [hc i (by omega)]
  simp [List.getD_eq_getElem?_getD, hi']
theorem Row.drop {w : World} {a : Addr} {l : List Nat} {cap n : Nat} (h : Row w (some a) l cap) (hn : n ≤ l.length) (a1 : Addr) (ha : n < cap → a1 = a.add n) : Row w (some a1) (l.drop n) (cap - n) := by
  obtain ⟨h1, h2, h3, h4, h5⟩ := h
  refine ⟨by simp; omega, by omega, fun x hx => h3 x (List.mem_of_mem_drop hx), fun e => (by cases e), fun hl => ?_⟩
  have hlt : n < l.length := by
    rcases Nat.lt_or_ge n l.length with h | h
    · exact h
    · exact absurd (List.drop_eq_nil_of_le h) hl
  obtain ⟨b, off, he, hc⟩ := h5 (fun e => by rw [e] at hlt; simp at hlt)
  cases he
  refine ⟨b, off + n, ?_, fun i hi => ?_⟩
  · rw [ha (by omega)]
    congr 1
    unfold Addr.add; split <;> simp_all
  · have hi' : n + i < l.length := by simp at hi; omega
    rw [Nat.add_assoc, hc (n + i) hi']
    simp [List.getD_eq_getElem?_getD]
theorem Rd.set {w : World} {rb : Nat} {ao : Option Addr} {l : List Nat} {cap : Nat} (h : Rd w rb ao l cap false) (a1 : Option Addr) (m : List Nat) (c : Nat) (hr : Row w a1 m c) (hap : m ≠ [] → ∀ a, a1 = some a → a.block ≠ rb) :
    Rd (w.setCell ⟨rb, 0, Option.none⟩ (.slice a1 m.length c)) rb a1 m c false ∧ Fr (fun k => k = rb) w (w.setCell ⟨rb, 0, Option.none⟩ (.slice a1 m.length c)) := by
  have f := (Fr.refl (fun k => k = rb) w).setCell (p := ⟨rb, 0, Option.none⟩) (Or.inl rfl) (.slice a1 m.length c)
  exact ⟨⟨World.cell?_setCell_same _ _ _ h.c0, (World.cell?_setCell_other _ _ _ _ (by simp)).trans h.c1, by simpa using h.f0, by simpa using h.f1, f.row hr (fun hm a ha => hap hm a ha), hap, fun e => by cases e⟩, f⟩
theorem left_nil (w : World) : Calls Tryd.prog 47 #[.pointer none] w fun e w' => e = .returned (.int .i64 0) ∧ w' = w := by
  go_enter Tryd.func47, Tryd.ntmps47
  go_wp2
  go_ret
  exact ⟨rfl, rfl⟩
theorem left_any (w : World) (rb : Nat) (v : Value) (a : Option Addr) (n c : Nat) (h : w.cell? ⟨rb, 0, none⟩ = some v) (hv : v = .slice a n c) : Calls Tryd.prog 47 #[.pointer (some ⟨rb, 0, none⟩)] w fun e w' => e = .returned (.int .i64 (n : Int)) ∧ w' = w := by
  subst hv
  go_enter Tryd.func47, Tryd.ntmps47
  go_wp2
  go_ret
  exact ⟨rfl, rfl⟩
theorem bad_nil (w : World) : Calls Tryd.prog 46 #[.pointer none] w fun e w' => e = .returned (.bool true) ∧ w' = w := by
  go_enter Tryd.func46, Tryd.ntmps46
  go_wp2
  go_ret
  exact ⟨rfl, rfl⟩
theorem bad_any (w : World) (rb : Nat) (b : Bool) (h : w.cell? ⟨rb, 1, none⟩ = some (.bool b)) : Calls Tryd.prog 46 #[.pointer (some ⟨rb, 0, none⟩)] w fun e w' => e = .returned (.bool b) ∧ w' = w := by
  go_enter Tryd.func46, Tryd.ntmps46
  go_wp2
  go_ret
  exact ⟨rfl, rfl⟩
theorem fail_nil (w : World) : Calls Tryd.prog 61 #[.pointer none] w fun e w' => e = .returned (.tuple #[]) ∧ w' = w := by
  go_enter Tryd.func61, Tryd.ntmps61
  go_wp2
  go_end0
  exact ⟨rfl, rfl⟩
theorem fail_any (w : World) (rb : Nat) (ao : Option Addr) (l : List Nat) (cap : Nat) (bad : Bool) (h : Rd w rb ao l cap bad) : Calls Tryd.prog 61 #[.pointer (some ⟨rb, 0, none⟩)] w fun e w' =>
    e = .returned (.tuple #[]) ∧ Rd w' rb none [] 0 true ∧ Fr (fun k => k = rb) w w' := by
  obtain ⟨c0, c1, f0, f1, _, _, _⟩ := h
  go_enter Tryd.func61, Tryd.ntmps61
  go_wp2
  go_end0
  have h00 : (w.setCell ⟨rb, 0, none⟩ (.slice none 0 0)).cell? ⟨rb, 0, none⟩ = some (.slice none 0 0) := World.cell?_setCell_same _ _ _ c0
  have h01 : (w.setCell ⟨rb, 0, none⟩ (.slice none 0 0)).cell? ⟨rb, 1, none⟩ = some (.bool bad) := (World.cell?_setCell_other _ _ _ _ (by simp)).trans c1
  exact ⟨rfl, ⟨(World.cell?_setCell_other _ _ _ _ (by simp)).trans h00, World.cell?_setCell_same _ _ _ h01, by simpa using f0, by simpa using f1, row_nil _, fun _ a h => (by cases h), fun _ => rfl⟩,
    ((Fr.refl (fun k => k = rb) w).setCell (Or.inl rfl) _).setCell (Or.inl rfl) _⟩

theorem take_nilr (w : World) (n : Int) : Calls Tryd.prog 64 #[.pointer none, .int .i64 n] w fun e w' => e = .returned (.slice none 0 0) ∧ w' = w := by
  by_cases hn : n < 0
  · go_enter Tryd.func64, Tryd.ntmps64
    go_wp2
    go_end0
    go_wp2
    go_ret
    exact ⟨rfl, rfl⟩
  · by_cases hz : 0 < n
    · go_enter Tryd.func64, Tryd.ntmps64
      go_wp2
      go_end0
      go_wp2
      go_ret
      exact ⟨rfl, rfl⟩
    · go_enter Tryd.func64, Tryd.ntmps64
      go_wp2
      go_ret
      exact ⟨rfl, rfl⟩
theorem take_bad (w : World) (rb : Nat) (ao : Option Addr) (l : List Nat) (cap : Nat) (bad : Bool) (n : Int) (h : Rd w rb ao l cap bad) (hn : n < 0 ∨ (l.length : Int) < n) : Calls Tryd.prog 64 #[.pointer (some ⟨rb, 0, none⟩), .int .i64 n] w fun e w' =>
    e = .returned (.slice none 0 0) ∧ Rd w' rb none [] 0 true ∧ Fr (fun k => k = rb) w w' := by
  have hc := h.c0
  by_cases hz : n < 0
  · clear hc
    go_enter Tryd.func64, Tryd.ntmps64
    go_wp2_with fail
    refine (fail_any w rb ao l cap bad h).mono ?_
    rintro e w1 ⟨rfl, h1, h2⟩
    go_wp2
    go_ret
    exact ⟨rfl, h1, h2⟩
  · have hz2 : (l.length : Int) < n := by omega
    clear hn
    go_enter Tryd.func64, Tryd.ntmps64
    go_wp2_with fail
    refine (left_any w rb _ ao l.length cap hc rfl).mono ?_
    rintro e w1 ⟨rfl, hw1⟩
    subst w1
    clear hc
    go_wp2_with fail
    refine (fail_any w rb ao l cap bad h).mono ?_
    rintro e w1 ⟨rfl, h1, h2⟩
    go_wp2
    go_ret
    exact ⟨rfl, h1, h2⟩
theorem take_none (w : World) (rb : Nat) (ao : Option Addr) (l : List Nat) (cap : Nat) (h : Rd w rb ao l cap true) : Calls Tryd.prog 64 #[.pointer (some ⟨rb, 0, none⟩), .int .i64 0] w fun e w' =>
    e = .returned (.slice none 0 0) ∧ w' = w := by
  have hc := h.c0
  have hb := h.c1
  have hl := h.none rfl
  subst hl
  clear h
  go_enter Tryd.func64, Tryd.ntmps64
  go_wp2
  go_ret
  exact ⟨rfl, rfl⟩
set_option maxHeartbeats 400000 in
theorem take_ok (w : World) (rb : Nat) (ao : Option Addr) (l : List Nat) (cap : Nat) (n : Nat) (h : Rd w rb ao l cap false) (hn : n ≤ l.length) : Calls Tryd.prog 64 #[.pointer (some ⟨rb, 0, none⟩), .int .i64 (n : Int)] w fun e w' =>
    e = .returned (.slice ao n n) ∧ ∃ a1, Rd w' rb a1 (l.drop n) (cap - n) false ∧ Row w' ao (l.take n) n ∧ Fr (fun k => k = rb) w w' ∧ ∀ a, a1 = some a → ∃ a0, ao = some a0 ∧ a.block = a0.block := by
  have hc := h.c0
  have hb := h.c1
  have f0 := h.f0
  have r1 := h.row.1
  have r2 := h.row.2.1
  have h4 := h.row.2.2.2.1
  have hH : Hid (Rd w rb ao l cap false) := h
  clear h
  unfold maxLen at r2
  cases ao with
  | none =>
    have := h4 rfl
    subst this
    have hl : l = [] := List.eq_nil_of_length_eq_zero (by omega)
    subst hl
    simp at hn
    subst hn
    clear h4 r1 r2
    go_enter Tryd.func64, Tryd.ntmps64
    go_wp2
    go_ret
    have hs := hH.out.set none [] 0 (row_nil w) (fun _ a h => by cases h)
    exact ⟨rfl, none, hs.1, row_nil _, hs.2, fun a h => by cases h⟩
  | some a =>
    clear h4
    by_cases hcap : cap = n
    · subst hcap
      have hd : (l.drop cap).length = 0 := by simp; omega
      have hs := hH.out.set (some a) (l.drop cap) (cap - cap) (hH.out.row.drop hn a (by omega)) (fun hd => hH.out.apart (fun e => hd (by rw [e]; simp)))
      have ht := hs.2.row (hH.out.row.take hn) (fun hd => hH.out.apart (fun e => hd (by rw [e]; simp)))
      rw [hd] at hs ht
      rw [Nat.sub_self] at hs ht
      have HS := hs
      have HT := ht
      clear hs ht hd
      go_enter Tryd.func64, Tryd.ntmps64
      go_wp2
      go_ret
      exact ⟨rfl, some a, by rw [Nat.sub_self]; exact HS.1, HT, HS.2, fun a' h => ⟨a, rfl, by cases h; rfl⟩⟩
    · have hd : (l.drop n).length = l.length - n := by simp
      have hap : l.drop n ≠ [] → ∀ a', some (a.add n) = some a' → a'.block ≠ rb := fun hd a' e => by cases e; exact (show (a.add n).block = a.block by unfold Addr.add; split <;> rfl) ▸ hH.out.apart (fun e => hd (by rw [e]; simp)) a rfl
      have hs := hH.out.set (some (a.add n)) (l.drop n) (cap - n) (hH.out.row.drop hn (a.add n) (fun _ => rfl)) hap
      have ht := hs.2.row (hH.out.row.take hn) (fun hd => hH.out.apart (fun e => hd (by rw [e]; simp)))
      rw [hd] at hs ht
      have HS : Hid _ := hs
      have HT : Hid _ := ht
      clear hs ht hd hap
      go_enter Tryd.func64, Tryd.ntmps64
      go_wp2
      go_ret
      exact ⟨rfl, some (a.add n), HS.out.1, HT.out, HS.out.2, fun a' h => ⟨a, rfl, by cases h; unfold Addr.add; split <;> rfl⟩⟩
end Go.Proofs.YtlcakglmheleeaaDoor
