/- The program's reader: what each of its calls answers and leaves, for every reader, also a nil one. The program's reader reads a number of at most eight bytes, the lowest first; at a fault 0. The program's reader: counts, bytes, truths, its end, and how one is made. The program's reader: the rest of what its calls answer and leave. The reader's calls, whatever it has: each in one contract. -/
import Derived.Test.YtaalkhipncbjpaaOLaid
import Derived.Test.YtaalkhipncbjpaaNum
import Derived.Test.YtaalkhipncbjpaaOPure
namespace Go.Proofs.Ytaalkhipncbjpaa
open Go.RowKit

/-- A READER at block rb, of which the bytes l are left. -/
structure Rd (w : World) (rb : Nat) (ao : Option Addr) (l : List Nat) (cap : Nat) (bad : Bool) : Prop where
  c0 : w.cell? ⟨rb, 0, none⟩ = some (.slice ao l.length cap)
  c1 : w.cell? ⟨rb, 1, none⟩ = some (.bool bad)
  f0 : w.frozen? ⟨rb, 0, none⟩ = false
  f1 : w.frozen? ⟨rb, 1, none⟩ = false
  row : Row w ao l cap
  apart : l ≠ [] → ∀ a, ao = some a → a.block ≠ rb
  none : bad = true → l = []
theorem Rd.lt {w : World} {rb : Nat} {ao : Option Addr} {l : List Nat} {cap : Nat} {bad : Bool} (h : Rd w rb ao l cap bad) : rb < w.heap.size := World.block_lt_of_cell? _ _ h.c0
theorem Rd.fr {S : Nat → Prop} {w w1 : World} {rb : Nat} {ao : Option Addr} {l : List Nat} {cap : Nat} {bad : Bool} (h : Rd w rb ao l cap bad) (f : Fr S w w1) (hs : ¬ S rb) (hr : l ≠ [] → ∀ a, ao = some a → ¬ S a.block) : Rd w1 rb ao l cap bad :=
  ⟨f.cell h.c0 hs, f.cell h.c1 hs, (f.frozenEq h.lt hs).trans h.f0, (f.frozenEq h.lt hs).trans h.f1, f.row h.row hr, h.apart, h.none⟩

theorem row_nilO (w : World) : Row w none [] 0 := ⟨Nat.le_refl _, Nat.zero_le _, by simp, fun _ => rfl, fun h => absurd rfl h⟩
theorem Row.take {w : World} {ao : Option Addr} {l : List Nat} {cap n : Nat} (h : Row w ao l cap) (hn : n ≤ l.length) : Row w ao (l.take n) n := by
  obtain ⟨h1, h2, h3, h4, h5⟩ := h
  refine ⟨by simp; omega, by omega, fun x hx => h3 x (List.mem_of_mem_take hx), fun e => by have := h4 e; omega, fun hl => ?_⟩
  obtain ⟨b, off, rfl, hc⟩ := h5 (fun e => hl (by rw [e]; simp))
  refine ⟨b, off, rfl, fun i hi => ?_⟩
  have hi' : i < n := by simp at hi; omega
  rw [hc i (by omega)]
  simp [List.getD_eq_getElem?_getD, hi']
theorem Row.drop {w : World} {a : Addr} {l : List Nat} {cap n : Nat} (h : Row w (some a) l cap) (hn : n ≤ l.length) (a1 : Addr) (ha : n < cap → a1 = a.add n) : Row w (some a1) (l.drop n) (cap - n) := by
  obtain ⟨h1, h2, h3, h4, h5⟩ := h
  refine ⟨by simp; omega, by omega, fun x hx => h3 x (List.mem_of_mem_drop hx), fun e => (by cases e), fun hl => ?_⟩
  have hlt : n < l.length := by
    rcases Nat.lt_or_ge n l.length with h | h
    · exact h
    · exact absurd (List.drop_eq_nil_of_le h) hl
  obtain ⟨b, off, he, hc⟩ := h5 (fun e => by rw [e] at hlt; simp at hlt)
  cases he
  refine ⟨b, off + n, ?_, fun i hi => ?_⟩
  · rw [ha (by omega)]
    congr 1
    unfold Addr.add; split <;> simp_all
  · have hi' : n + i < l.length := by simp at hi; omega
    rw [Nat.add_assoc, hc (n + i) hi']
    simp [List.getD_eq_getElem?_getD]
theorem Rd.set {w : World} {rb : Nat} {ao : Option Addr} {l : List Nat} {cap : Nat} (h : Rd w rb ao l cap false) (a1 : Option Addr) (m : List Nat) (c : Nat) (hr : Row w a1 m c) (hap : m ≠ [] → ∀ a, a1 = some a → a.block ≠ rb) :
    Rd (w.setCell ⟨rb, 0, Option.none⟩ (.slice a1 m.length c)) rb a1 m c false ∧ Fr (fun k => k = rb) w (w.setCell ⟨rb, 0, Option.none⟩ (.slice a1 m.length c)) := by
  have f := (Fr.refl (fun k => k = rb) w).setCell (p := ⟨rb, 0, Option.none⟩) (Or.inl rfl) (.slice a1 m.length c)
  exact ⟨⟨World.cell?_setCell_same _ _ _ h.c0, (World.cell?_setCell_other _ _ _ _ (by simp)).trans h.c1, by simpa using h.f0, by simpa using h.f1, f.row hr (fun hm a ha => hap hm a ha), hap, fun e => by cases e⟩, f⟩
theorem left_nil (w : World) : Calls Try.prog 73 #[.pointer none] w fun e w' => e = .returned (.int .i64 0) ∧ w' = w := by
  go_enter Try.func73, Try.ntmps73
  go_wp2
  go_ret
  exact ⟨rfl, rfl⟩
theorem left_any (w : World) (rb : Nat) (v : Value) (a : Option Addr) (n c : Nat) (h : w.cell? ⟨rb, 0, none⟩ = some v) (hv : v = .slice a n c) : Calls Try.prog 73 #[.pointer (some ⟨rb, 0, none⟩)] w fun e w' => e = .returned (.int .i64 (n : Int)) ∧ w' = w := by
  subst hv
  go_enter Try.func73, Try.ntmps73
  go_wp2
  go_ret
  exact ⟨rfl, rfl⟩
theorem bad_nil (w : World) : Calls Try.prog 68 #[.pointer none] w fun e w' => e = .returned (.bool true) ∧ w' = w := by
  go_enter Try.func68, Try.ntmps68
  go_wp2
  go_ret
  exact ⟨rfl, rfl⟩
theorem bad_any (w : World) (rb : Nat) (b : Bool) (h : w.cell? ⟨rb, 1, none⟩ = some (.bool b)) : Calls Try.prog 68 #[.pointer (some ⟨rb, 0, none⟩)] w fun e w' => e = .returned (.bool b) ∧ w' = w := by
  go_enter Try.func68, Try.ntmps68
  go_wp2
  go_ret
  exact ⟨rfl, rfl⟩
theorem fail_nil (w : World) : Calls Try.prog 97 #[.pointer none] w fun e w' => e = .returned (.tuple #[]) ∧ w' = w := by
  go_enter Try.func97, Try.ntmps97
  go_wp2
  go_end0
  exact ⟨rfl, rfl⟩
theorem fail_any (w : World) (rb : Nat) (ao : Option Addr) (l : List Nat) (cap : Nat) (bad : Bool) (h : Rd w rb ao l cap bad) : Calls Try.prog 97 #[.pointer (some ⟨rb, 0, none⟩)] w fun e w' =>
    e = .returned (.tuple #[]) ∧ Rd w' rb none [] 0 true ∧ Fr (fun k => k = rb) w w' := by
  obtain ⟨c0, c1, f0, f1, _, _, _⟩ := h
  go_enter Try.func97, Try.ntmps97
  go_wp2
  go_end0
  have h00 : (w.setCell ⟨rb, 0, none⟩ (.slice none 0 0)).cell? ⟨rb, 0, none⟩ = some (.slice none 0 0) := World.cell?_setCell_same _ _ _ c0
  have h01 : (w.setCell ⟨rb, 0, none⟩ (.slice none 0 0)).cell? ⟨rb, 1, none⟩ = some (.bool bad) := (World.cell?_setCell_other _ _ _ _ (by simp)).trans c1
  exact ⟨rfl, ⟨(World.cell?_setCell_other _ _ _ _ (by simp)).trans h00, World.cell?_setCell_same _ _ _ h01, by simpa using f0, by simpa using f1, row_nilO _, fun _ a h => (by cases h), fun _ => rfl⟩,
    ((Fr.refl (fun k => k = rb) w).setCell (Or.inl rfl) _).setCell (Or.inl rfl) _⟩

theorem take_nilr (w : World) (n : Int) : Calls Try.prog 96 #[.pointer none, .int .i64 n] w fun e w' => e = .returned (.slice none 0 0) ∧ w' = w := by
  by_cases hn : n < 0
  · go_enter Try.func96, Try.ntmps96
    go_wp2
    go_end0
    go_wp2
    go_ret
    exact ⟨rfl, rfl⟩
  · by_cases hz : 0 < n
    · go_enter Try.func96, Try.ntmps96
      go_wp2
      go_end0
      go_wp2
      go_ret
      exact ⟨rfl, rfl⟩
    · go_enter Try.func96, Try.ntmps96
      go_wp2
      go_ret
      exact ⟨rfl, rfl⟩
theorem take_bad (w : World) (rb : Nat) (ao : Option Addr) (l : List Nat) (cap : Nat) (bad : Bool) (n : Int) (h : Rd w rb ao l cap bad) (hn : n < 0 ∨ (l.length : Int) < n) : Calls Try.prog 96 #[.pointer (some ⟨rb, 0, none⟩), .int .i64 n] w fun e w' =>
    e = .returned (.slice none 0 0) ∧ Rd w' rb none [] 0 true ∧ Fr (fun k => k = rb) w w' := by
  have hc := h.c0
  by_cases hz : n < 0
  · clear hc
    go_enter Try.func96, Try.ntmps96
    go_wp2_with fail
    refine (fail_any w rb ao l cap bad h).mono ?_
    rintro e w1 ⟨rfl, h1, h2⟩
    go_wp2
    go_ret
    exact ⟨rfl, h1, h2⟩
  · have hz2 : (l.length : Int) < n := by omega
    clear hn
    go_enter Try.func96, Try.ntmps96
    go_wp2_with fail
    refine (left_any w rb _ ao l.length cap hc rfl).mono ?_
    rintro e w1 ⟨rfl, hw1⟩
    subst w1
    clear hc
    go_wp2_with fail
    refine (fail_any w rb ao l cap bad h).mono ?_
    rintro e w1 ⟨rfl, h1, h2⟩
    go_wp2
    go_ret
    exact ⟨rfl, h1, h2⟩
theorem take_none (w : World) (rb : Nat) (ao : Option Addr) (l : List Nat) (cap : Nat) (h : Rd w rb ao l cap true) : Calls Try.prog 96 #[.pointer (some ⟨rb, 0, none⟩), .int .i64 0] w fun e w' =>
    e = .returned (.slice none 0 0) ∧ w' = w := by
  have hc := h.c0
  have hb := h.c1
  have hl := h.none rfl
  subst hl
  clear h
  go_enter Try.func96, Try.ntmps96
  go_wp2
  go_ret
  exact ⟨rfl, rfl⟩
set_option maxHeartbeats 400000 in
theorem take_ok (w : World) (rb : Nat) (ao : Option Addr) (l : List Nat) (cap : Nat) (n : Nat) (h : Rd w rb ao l cap false) (hn : n ≤ l.length) : Calls Try.prog 96 #[.pointer (some ⟨rb, 0, none⟩), .int .i64 (n : Int)] w fun e w' =>
    e = .returned (.slice ao n n) ∧ ∃ a1, Rd w' rb a1 (l.drop n) (cap - n) false ∧ Row w' ao (l.take n) n ∧ Fr (fun k => k = rb) w w' ∧ ∀ a, a1 = some a → ∃ a0, ao = some a0 ∧ a.block = a0.block := by
  have hc := h.c0
  have hb := h.c1
  have f0 := h.f0
  have r1 := h.row.1
  have r2 := h.row.2.1
  have h4 := h.row.2.2.2.1
  have hH : Hid (Rd w rb ao l cap false) := h
  clear h
  unfold maxLen at r2
  cases ao with
  | none =>
    have := h4 rfl
    subst this
    have hl : l = [] := List.eq_nil_of_length_eq_zero (by omega)
    subst hl
    simp at hn
    subst hn
    clear h4 r1 r2
    go_enter Try.func96, Try.ntmps96
    go_wp2
    go_ret
    have hs := hH.out.set none [] 0 (row_nilO w) (fun _ a h => by cases h)
    exact ⟨rfl, none, hs.1, row_nilO _, hs.2, fun a h => by cases h⟩
  | some a =>
    clear h4
    by_cases hcap : cap = n
    · subst hcap
      have hd : (l.drop cap).length = 0 := by simp; omega
      have hs := hH.out.set (some a) (l.drop cap) (cap - cap) (hH.out.row.drop hn a (by omega)) (fun hd => hH.out.apart (fun e => hd (by rw [e]; simp)))
      have ht := hs.2.row (hH.out.row.take hn) (fun hd => hH.out.apart (fun e => hd (by rw [e]; simp)))
      rw [hd] at hs ht
      rw [Nat.sub_self] at hs ht
      have HS := hs
      have HT := ht
      clear hs ht hd
      go_enter Try.func96, Try.ntmps96
      go_wp2
      go_ret
      exact ⟨rfl, some a, by rw [Nat.sub_self]; exact HS.1, HT, HS.2, fun a' h => ⟨a, rfl, by cases h; rfl⟩⟩
    · have hd : (l.drop n).length = l.length - n := by simp
      have hap : l.drop n ≠ [] → ∀ a', some (a.add n) = some a' → a'.block ≠ rb := fun hd a' e => by cases e; exact (show (a.add n).block = a.block by unfold Addr.add; split <;> rfl) ▸ hH.out.apart (fun e => hd (by rw [e]; simp)) a rfl
      have hs := hH.out.set (some (a.add n)) (l.drop n) (cap - n) (hH.out.row.drop hn (a.add n) (fun _ => rfl)) hap
      have ht := hs.2.row (hH.out.row.take hn) (fun hd => hH.out.apart (fun e => hd (by rw [e]; simp)))
      rw [hd] at hs ht
      have HS : Hid _ := hs
      have HT : Hid _ := ht
      clear hs ht hd hap
      go_enter Try.func96, Try.ntmps96
      go_wp2
      go_ret
      exact ⟨rfl, some (a.add n), HS.out.1, HT.out, HS.out.2, fun a' h => ⟨a, rfl, by cases h; unfold Addr.add; split <;> rfl⟩⟩
end Go.Proofs.Ytaalkhipncbjpaa
namespace Go.Proofs.Ytaalkhipncbjpaa
open Go.RowKit

theorem or_shift (t x k : Nat) (ht : t < 256 ^ k) (hx : x < 256) (hk : k < 8) : bits .or .u64 (t : Int) (IntKind.u64.wrap ((x : Int) * 2 ^ (8 * k))) = ((t + 256 ^ k * x : Nat) : Int) ∧ t + 256 ^ k * x < 256 ^ (k + 1) := by
  have hlt : t + 256 ^ k * x < 256 ^ (k + 1) := by
    have h1 : 256 ^ k * (x + 1) ≤ 256 ^ k * 256 := Nat.mul_le_mul_left _ (by omega)
    rw [Nat.pow_succ]; rw [Nat.mul_add] at h1; omega
  have h64 : 256 ^ (k + 1) ≤ 2 ^ 64 := by
    rw [Crc.p256]; exact Nat.pow_le_pow_right (by decide) (by omega)
  have hX : 2 ^ (8 * k) * x < 2 ^ 64 := by rw [Crc.p256] at hlt; omega
  have ht' : t < 2 ^ (8 * k) := by rw [← Crc.p256]; exact ht
  have e1 : ((x : Int) * 2 ^ (8 * k)) = ((2 ^ (8 * k) * x : Nat) : Int) := by push_cast; exact Int.mul_comm _ _
  refine ⟨?_, hlt⟩
  rw [e1, wrap_u64_small _ (Int.natCast_nonneg _) (by exact_mod_cast hX), (bits_nat .u64 64 (by decide) wrap_u64_small t _ (by omega) hX).2, Nat.or_comm, ← Nat.two_pow_add_eq_or_of_lt ht' x, Crc.p256, Nat.add_comm]
theorem num_take (l : List Nat) (k : Nat) (h : k < l.length) : Crc.num (l.take (k + 1)) = Crc.num (l.take k) + 256 ^ k * l.getD k 0 := by
  rw [List.take_succ_eq_append_getElem h, Crc.num_append]
  have : (l.take k).length = k := by simp; omega
  rw [this]
  simp [Crc.num, h]
set_option maxHeartbeats 400000 in
theorem rnum_some (w : World) (rb : Nat) (b off : Nat) (l : List Nat) (cap : Nat) (n : Nat) (h : Rd w rb (some ⟨b, off, none⟩) l cap false) (hn : n ≤ l.length) (h8 : n ≤ 8) : Calls Try.prog 63 #[.pointer (some ⟨rb, 0, none⟩), .int .i64 (n : Int)] w fun e w' =>
    e = .returned (.int .u64 ((Crc.num (l.take n) : Nat) : Int)) ∧ ∃ a1, Rd w' rb a1 (l.drop n) (cap - n) false ∧ Fr (fun k => k = rb) w w' ∧ ∀ a, a1 = some a → a.block = b := by
  go_enter Try.func63, Try.ntmps63
  go_wp2_with fail
  refine (take_ok w rb _ l cap n h hn).mono ?_
  rintro e w1 ⟨rfl, a1, h1, hrow, h2, h3⟩
  go_wp2
  go_loop [5, 12] (fun s i => ∃ k t : Nat, k ≤ n ∧ i = .int .i64 k ∧ s = .int .u64 (t : Int) ∧ t < 256 ^ k ∧ Hid (t = Crc.num (l.take k))) (fun _ i => n - (intOf i).toNat)
  case atStart => exact ⟨0, 0, Nat.zero_le _, rfl, rfl, by omega, rfl⟩
  case round =>
    obtain ⟨k, t, hk, rfl, rfl, ht, Ht⟩ := hrel
    by_cases hlt : k < n
    · have hc : ∃ x : Nat, x < 256 ∧ w1.cell? ⟨b, off + k, none⟩ = some (.int .u8 (x : Int)) ∧ Hid (x = l.getD k 0) := by
        obtain ⟨r1, r2, r3, r4, r5⟩ := hrow
        have hlen : (l.take n).length = n := by simp; omega
        obtain ⟨b', off', he, hc⟩ := r5 (fun e => by rw [e] at hlen; simp at hlen; omega)
        cases he
        have := hc k (by omega)
        refine ⟨(l.take n).getD k 0, ?_, this, ?_⟩
        · rw [List.getD_eq_getElem?_getD, List.getElem?_eq_getElem (by omega)]; exact r3 _ (List.getElem_mem _)
        · show _ = _; simp [List.getD_eq_getElem?_getD, hlt]
      obtain ⟨x, hx, hcell, Hx⟩ := hc
      have hrow' : Hid _ := hrow
      clear hrow
      obtain ⟨t2, e1, e2, Ht2⟩ : ∃ t2 : Nat, bits .or .u64 (t : Int) (IntKind.u64.wrap ((x : Int) * 2 ^ (8 * k))) = (t2 : Int) ∧ t2 < 256 ^ (k + 1) ∧ Hid (t2 = t + 256 ^ k * x) := ⟨_, (or_shift t x k ht hx (by omega)).1, (or_shift t x k ht hx (by omega)).2, rfl⟩
      have E2 : Hid _ := e2
      have HT : Hid _ := ht
      clear e2 ht
      go_wp2
      go_round
      case rel => exact ⟨k + 1, t2, by omega, by go_num, rfl, E2.out, by show _ = _; rw [num_take l k (by omega), Ht2.out, Ht.out, Hx.out]⟩
      case measure => simp [intOf]; omega
    · have hkn : k = n := by omega
      subst hkn
      go_wp2
      go_ret
      exact ⟨ret_int (by rw [Ht.out]), a1, h1, h2, fun a ha => by obtain ⟨a0, e0, e1⟩ := h3 a ha; cases e0; exact e1⟩
set_option maxHeartbeats 400000 in
/-- no bytes are asked for. -/
theorem rnum_zero (w : World) (rb : Nat) (ao : Option Addr) (l : List Nat) (cap : Nat) (h : Rd w rb ao l cap false) : Calls Try.prog 63 #[.pointer (some ⟨rb, 0, none⟩), .int .i64 0] w fun e w' =>
    e = .returned (.int .u64 0) ∧ ∃ a1, Rd w' rb a1 l cap false ∧ Fr (fun k => k = rb) w w' ∧ ∀ a, a1 = some a → ∃ a0, ao = some a0 ∧ a.block = a0.block := by
  go_enter Try.func63, Try.ntmps63
  go_wp2_with fail
  refine (take_ok w rb _ l cap 0 h (Nat.zero_le _)).mono ?_
  rintro e w1 ⟨rfl, a1, h1, hrow, h2, h3⟩
  have H1 : Hid _ := h1
  clear h1 hrow
  go_wp2
  refine wp_loop_rounds 1 ?_; rw [rounds_succ]
  go_wp2
  go_ret
  exact ⟨rfl, a1, H1.out, h2, h3⟩
set_option maxHeartbeats 400000 in
theorem rnum_bad (w : World) (rb : Nat) (ao : Option Addr) (l : List Nat) (cap : Nat) (bad : Bool) (n : Int) (h : Rd w rb ao l cap bad) (hn : n < 0 ∨ (l.length : Int) < n) : Calls Try.prog 63 #[.pointer (some ⟨rb, 0, none⟩), .int .i64 n] w fun e w' =>
    e = .returned (.int .u64 0) ∧ Rd w' rb none [] 0 true ∧ Fr (fun k => k = rb) w w' := by
  go_enter Try.func63, Try.ntmps63
  go_wp2_with fail
  refine (take_bad w rb _ l cap bad n h hn).mono ?_
  rintro e w1 ⟨rfl, h1, h2⟩
  clear hn
  go_wp2
  refine wp_loop_rounds 1 ?_; rw [rounds_succ]
  go_wp2
  go_ret
  exact ⟨rfl, h1, h2⟩
set_option maxHeartbeats 400000 in
theorem rnum_none (w : World) (rb : Nat) (ao : Option Addr) (l : List Nat) (cap : Nat) (h : Rd w rb ao l cap true) : Calls Try.prog 63 #[.pointer (some ⟨rb, 0, none⟩), .int .i64 0] w fun e w' =>
    e = .returned (.int .u64 0) ∧ w' = w := by
  go_enter Try.func63, Try.ntmps63
  go_wp2_with fail
  refine (take_none w rb _ l cap h).mono ?_
  rintro e w1 ⟨rfl, hw1⟩
  subst w1
  go_wp2
  refine wp_loop_rounds 1 ?_; rw [rounds_succ]
  go_wp2
  go_ret
  exact ⟨rfl, rfl⟩
set_option maxHeartbeats 400000 in
theorem rnum_nil (w : World) (n : Int) : Calls Try.prog 63 #[.pointer none, .int .i64 n] w fun e w' => e = .returned (.int .u64 0) ∧ w' = w := by
  go_enter Try.func63, Try.ntmps63
  go_wp2_with fail
  refine (take_nilr w n).mono ?_
  rintro e w1 ⟨rfl, hw1⟩
  subst w1
  go_wp2
  refine wp_loop_rounds 1 ?_; rw [rounds_succ]
  go_wp2
  go_ret
  exact ⟨rfl, rfl⟩
/-- a number that is there. -/
theorem rnum_ok (w : World) (rb : Nat) (ao : Option Addr) (l : List Nat) (cap : Nat) (n : Nat) (h : Rd w rb ao l cap false) (hn : n ≤ l.length) (h8 : n ≤ 8) : Calls Try.prog 63 #[.pointer (some ⟨rb, 0, none⟩), .int .i64 (n : Int)] w fun e w' =>
    e = .returned (.int .u64 ((Crc.num (l.take n) : Nat) : Int)) ∧ ∃ a1, Rd w' rb a1 (l.drop n) (cap - n) false ∧ Fr (fun k => k = rb) w w' ∧ ∀ a, a1 = some a → ∃ a0, ao = some a0 ∧ a.block = a0.block := by
  by_cases h0 : n = 0
  · subst h0
    exact rnum_zero w rb ao l cap h
  · obtain ⟨b, off, rfl, _⟩ := h.row.2.2.2.2 (fun e => by subst e; simp at hn; omega)
    refine (rnum_some w rb b off l cap n h hn h8).mono ?_
    rintro e w1 ⟨he, a1, h1, h2, h3⟩
    exact ⟨he, a1, h1, h2, fun a ha => ⟨_, rfl, h3 a ha⟩⟩
end Go.Proofs.Ytaalkhipncbjpaa
namespace Go.Proofs.Ytaalkhipncbjpaa
open Go.RowKit

theorem count_nil (w : World) (most : Int) (_hi : most ≤ 9223372036854775807) : Calls Try.prog 65 #[.pointer none, .int .i64 most] w fun e w' => e = .returned (.int .i64 0) ∧ w' = w := by
  by_cases hm : most < 0
  · go_enter Try.func65, Try.ntmps65
    go_wp2_with fail
    refine (rnum_nil w 4).mono ?_
    rintro e w1 ⟨rfl, hw1⟩
    subst w1
    go_wp2
    go_end0
    go_wp2
    go_ret
    exact ⟨rfl, rfl⟩
  · obtain ⟨m, rfl⟩ := Int.eq_ofNat_of_zero_le (show 0 ≤ most by omega)
    go_enter Try.func65, Try.ntmps65
    go_wp2_with fail
    refine (rnum_nil w 4).mono ?_
    rintro e w1 ⟨rfl, hw1⟩
    subst w1
    go_wp2
    go_ret
    exact ⟨rfl, rfl⟩
/-- too few bytes. -/
theorem count_short (w : World) (rb : Nat) (ao : Option Addr) (l : List Nat) (cap : Nat) (bad : Bool) (most : Int) (_hi : most ≤ 9223372036854775807) (h : Rd w rb ao l cap bad) (hl : l.length < 4) : Calls Try.prog 65 #[.pointer (some ⟨rb, 0, none⟩), .int .i64 most] w fun e w' =>
    e = .returned (.int .i64 0) ∧ Rd w' rb none [] 0 true ∧ Fr (fun k => k = rb) w w' := by
  by_cases hm : most < 0
  · go_enter Try.func65, Try.ntmps65
    go_wp2_with fail
    refine (rnum_bad w rb ao l cap bad 4 h (.inr (by omega))).mono ?_
    rintro e w1 ⟨rfl, h1, h2⟩
    go_wp2_with fail
    refine (fail_any w1 rb none [] 0 true h1).mono ?_
    rintro e w2 ⟨rfl, h3, h4⟩
    go_wp2
    go_ret
    exact ⟨rfl, h3, h2.trans h4⟩
  · obtain ⟨m, rfl⟩ := Int.eq_ofNat_of_zero_le (show 0 ≤ most by omega)
    go_enter Try.func65, Try.ntmps65
    go_wp2_with fail
    refine (rnum_bad w rb ao l cap bad 4 h (.inr (by omega))).mono ?_
    rintro e w1 ⟨rfl, h1, h2⟩
    go_wp2
    go_ret
    exact ⟨rfl, h1, h2⟩
theorem num4_lt {w : World} {rb : Nat} {ao : Option Addr} {l : List Nat} {cap : Nat} {bad : Bool} (h : Rd w rb ao l cap bad) (n : Nat) (hl : n ≤ l.length) : Crc.num (l.take n) < 256 ^ n := by
  have := Crc.num_lt (l.take n) (fun x hx => h.row.2.2.1 x (List.mem_of_mem_take hx))
  rwa [show (l.take n).length = n by simp; omega] at this
/-- more than may be. -/
theorem count_much (w : World) (rb : Nat) (ao : Option Addr) (l : List Nat) (cap : Nat) (most : Int) (h : Rd w rb ao l cap false) (hl : 4 ≤ l.length) (_hi : most ≤ 9223372036854775807) (hm : most < 0 ∨ most < (Crc.num (l.take 4) : Int)) : Calls Try.prog 65 #[.pointer (some ⟨rb, 0, none⟩), .int .i64 most] w fun e w' =>
    e = .returned (.int .i64 0) ∧ Rd w' rb none [] 0 true ∧ Fr (fun k => k = rb) w w' := by
  have hlt := num4_lt h 4 hl
  have hnum := rnum_ok w rb ao l cap 4 h hl (by omega)
  generalize Crc.num (l.take 4) = q at *
  by_cases hz : most < 0
  · clear hm
    go_enter Try.func65, Try.ntmps65
    go_wp2_with fail
    refine hnum.mono ?_
    rintro e w1 ⟨rfl, a1, h1, h2, h3⟩
    go_wp2_with fail
    refine (fail_any w1 rb _ _ _ _ h1).mono ?_
    rintro e w2 ⟨rfl, h4, h5⟩
    go_wp2
    go_ret
    exact ⟨rfl, h4, h2.trans h5⟩
  · have hm2 : most < (q : Int) := by omega
    clear hm
    obtain ⟨m, rfl⟩ := Int.eq_ofNat_of_zero_le (show 0 ≤ most by omega)
    go_enter Try.func65, Try.ntmps65
    go_wp2_with fail
    refine hnum.mono ?_
    rintro e w1 ⟨rfl, a1, h1, h2, h3⟩
    go_wp2_with fail
    refine (fail_any w1 rb _ _ _ _ h1).mono ?_
    rintro e w2 ⟨rfl, h4, h5⟩
    go_wp2
    go_ret
    exact ⟨rfl, h4, h2.trans h5⟩
theorem count_ok (w : World) (rb : Nat) (ao : Option Addr) (l : List Nat) (cap : Nat) (m : Nat) (h : Rd w rb ao l cap false) (hl : 4 ≤ l.length) (_hi : m ≤ 9223372036854775807) (hm : Crc.num (l.take 4) ≤ m) : Calls Try.prog 65 #[.pointer (some ⟨rb, 0, none⟩), .int .i64 (m : Int)] w fun e w' =>
    e = .returned (.int .i64 (Crc.num (l.take 4) : Int)) ∧ ∃ a1, Rd w' rb a1 (l.drop 4) (cap - 4) false ∧ Fr (fun k => k = rb) w w' ∧ ∀ a, a1 = some a → ∃ a0, ao = some a0 ∧ a.block = a0.block := by
  have hlt := num4_lt h 4 hl
  have hnum := rnum_ok w rb ao l cap 4 h hl (by omega)
  generalize Crc.num (l.take 4) = q at *
  go_enter Try.func65, Try.ntmps65
  go_wp2_with fail
  refine hnum.mono ?_
  rintro e w1 ⟨rfl, a1, h1, h2, h3⟩
  go_wp2
  go_ret
  exact ⟨rfl, a1, h1, h2, h3⟩

end Go.Proofs.Ytaalkhipncbjpaa
namespace Go.Proofs.Ytaalkhipncbjpaa
open Go.RowKit

/-- behind a fault a number is 0. -/
theorem rnum_after (w : World) (rb : Nat) (ao : Option Addr) (l : List Nat) (cap n : Nat) (h : Rd w rb ao l cap true) : Calls Try.prog 63 #[.pointer (some ⟨rb, 0, none⟩), .int .i64 (n : Int)] w fun e w' =>
    e = .returned (.int .u64 0) ∧ ∃ a1 c1, Rd w' rb a1 [] c1 true ∧ Fr (fun k => k = rb) w w' := by
  have hl := h.none rfl
  subst hl
  by_cases hn : n = 0
  · subst hn
    refine (rnum_none w rb ao [] cap h).mono ?_
    rintro e w1 ⟨he, hw⟩
    subst w1
    exact ⟨he, ao, cap, h, Fr.refl _ _⟩
  · refine (rnum_bad w rb ao [] cap true n h (.inr (by simp; omega))).mono ?_
    rintro e w1 ⟨he, h1, h2⟩
    exact ⟨he, none, 0, h1, h2⟩
theorem fresh_fr {w0 w w1 : World} {S : Nat → Prop} {ao : Option Addr} {l : List Nat} (h : Fresh w0 w ao l) (f : Fr S w w1) (hs : ∀ a, ao = some a → ¬ S a.block) : Fresh w0 w1 ao l :=
  ⟨f.row h.1 (fun _ a ha => hs a ha), fun a ha => by
    obtain ⟨h1, h2, h3, h4, cur, h5⟩ := h.2 a ha
    exact ⟨h1, Nat.lt_of_lt_of_le h2 f.size, h3, h4, cur, (f.block _ h2 (hs a ha)).trans h5⟩⟩

theorem rend_any (w : World) (rb : Nat) (ao : Option Addr) (l : List Nat) (cap : Nat) (bad : Bool) (h : Rd w rb ao l cap bad) : Calls Try.prog 32 #[.pointer (some ⟨rb, 0, none⟩)] w fun e w' =>
    e = .returned (.bool (!bad && ((l.length : Int) == 0))) ∧ w' = w := by
  have hc0 := h.c0
  have hc1 := h.c1
  cases bad
  · go_enter Try.func32, Try.ntmps32
    go_wp2_with fail
    refine (bad_any w rb false hc1).mono ?_
    rintro e w1 ⟨rfl, hw1⟩
    subst w1
    go_wp2_with fail
    refine (left_any w rb _ ao l.length cap hc0 rfl).mono ?_
    rintro e w1 ⟨rfl, hw1⟩
    subst w1
    go_wp2
    go_ret
    exact ⟨rfl, rfl⟩
  · go_enter Try.func32, Try.ntmps32
    go_wp2_with fail
    refine (bad_any w rb true hc1).mono ?_
    rintro e w1 ⟨rfl, hw1⟩
    subst w1
    go_wp2
    go_ret
    exact ⟨rfl, rfl⟩
end Go.Proofs.Ytaalkhipncbjpaa
namespace Go.Proofs.Ytaalkhipncbjpaa
open Go.RowKit

theorem numV_lt (s : Rs) (n : Nat) (h : ∀ x ∈ s.l, x < 256) : numV s n < 256 ^ n := by
  unfold numV
  split
  · rename_i hh
    have := Crc.num_lt (s.l.take n) (fun x hx => h x (List.mem_of_mem_take hx))
    rwa [List.length_take, Nat.min_eq_left hh.2] at this
  · exact Nat.pow_pos (by decide)
theorem rnum_gen {w : World} {rb : Nat} {ao : Option Addr} {cap : Nat} {s : Rs} (n : Nat) (h : Rd w rb ao s.l cap s.bad) (h8 : n ≤ 8) :
    Calls Try.prog 63 #[.pointer (some ⟨rb, 0, none⟩), .int .i64 (n : Int)] w fun e w' => ∃ v s1 a1 c1, e = .returned (.int .u64 ((v : Nat) : Int)) ∧ Hid (v = numV s n) ∧ Hid (s1 = numS s n) ∧ v < 256 ^ n ∧ Rd w' rb a1 (s1 : Rs).l c1 s1.bad ∧ Fr (fun k => k = rb) w w' := by
  have hlt := numV_lt s n h.row.2.2.1
  by_cases hh : s.has n
  · obtain ⟨l, bad⟩ := s
    obtain ⟨hb, hn⟩ := hh
    simp only at hb hn h
    subst hb
    refine (rnum_ok w rb ao l cap n h hn h8).mono ?_
    rintro e w' ⟨rfl, a1, h1, f, _⟩
    have e1 : numV ⟨l, false⟩ n = Crc.num (l.take n) := by unfold numV; rw [if_pos ⟨rfl, hn⟩]
    have e2 : numS ⟨l, false⟩ n = ⟨l.drop n, false⟩ := by unfold numS; rw [if_pos ⟨rfl, hn⟩]
    exact ⟨_, _, a1, _, by rw [e1], rfl, rfl, hlt, by rw [e2]; exact h1, f⟩
  · have e1 : numV s n = 0 := by unfold numV; rw [if_neg hh]
    have e2 : numS s n = ⟨[], true⟩ := by unfold numS; rw [if_neg hh]
    obtain ⟨l, bad⟩ := s
    simp only at h
    cases bad with
    | true =>
      refine (rnum_after w rb ao l cap n h).mono ?_
      rintro e w' ⟨rfl, a1, c1, h1, f⟩
      exact ⟨_, _, a1, c1, by rw [e1]; rfl, rfl, rfl, hlt, by rw [e2]; exact h1, f⟩
    | false =>
      have hn : l.length < n := by
        rcases Nat.lt_or_ge l.length n with h' | h'
        · exact h'
        · exact absurd ⟨rfl, h'⟩ hh
      refine (rnum_bad w rb ao l cap false n h (.inr (by omega))).mono ?_
      rintro e w' ⟨rfl, h1, f⟩
      exact ⟨_, _, none, 0, by rw [e1]; rfl, rfl, rfl, hlt, by rw [e2]; exact h1, f⟩
theorem count_gen {w : World} {rb : Nat} {ao : Option Addr} {cap : Nat} {s : Rs} (m : Nat) (h : Rd w rb ao s.l cap s.bad) (hm : m ≤ 9223372036854775807) :
    Calls Try.prog 65 #[.pointer (some ⟨rb, 0, none⟩), .int .i64 (m : Int)] w fun e w' => ∃ v s1 a1 c1, e = .returned (.int .i64 ((v : Nat) : Int)) ∧ Hid (v = cntV s m) ∧ Hid (s1 = cntS s m) ∧ v ≤ m ∧ Rd w' rb a1 (s1 : Rs).l c1 s1.bad ∧ Fr (fun k => k = rb) w w' := by
  obtain ⟨l, bad⟩ := s
  simp only at h
  by_cases hh : (⟨l, bad⟩ : Rs).cnt m
  · have e1 : cntV ⟨l, bad⟩ m = Crc.num (l.take 4) := by unfold cntV; rw [if_pos hh]
    have e2 : cntS ⟨l, bad⟩ m = ⟨l.drop 4, false⟩ := by unfold cntS; rw [if_pos hh]
    obtain ⟨⟨hb, h4⟩, hc⟩ := hh
    simp only at hb h4 hc
    subst hb
    refine (count_ok w rb ao l cap m h h4 hm hc).mono ?_
    rintro e w' ⟨rfl, a1, h1, f, _⟩
    exact ⟨_, _, a1, _, by rw [e1], rfl, rfl, by rw [e1]; exact hc, by rw [e2]; exact h1, f⟩
  · have e1 : cntV ⟨l, bad⟩ m = 0 := by unfold cntV; rw [if_neg hh]
    have e2 : cntS ⟨l, bad⟩ m = ⟨[], true⟩ := by unfold cntS; rw [if_neg hh]
    have key : Calls Try.prog 65 #[.pointer (some ⟨rb, 0, none⟩), .int .i64 (m : Int)] w fun e w' => e = .returned (.int .i64 0) ∧ Rd w' rb none [] 0 true ∧ Fr (fun k => k = rb) w w' := by
      by_cases h4 : l.length < 4
      · exact count_short w rb ao l cap bad m (by omega) h h4
      · cases bad with
        | true => have := h.none rfl; subst this; simp at h4
        | false =>
          refine count_much w rb ao l cap m h (by omega) (by omega) (.inr ?_)
          have : ¬ Crc.num (l.take 4) ≤ m := fun hc => hh ⟨⟨rfl, by show 4 ≤ l.length; omega⟩, hc⟩
          omega
    refine key.mono ?_
    rintro e w' ⟨rfl, h1, f⟩
    exact ⟨_, _, none, 0, by rw [e1]; rfl, rfl, rfl, by rw [e1]; exact Nat.zero_le _, by rw [e2]; exact h1, f⟩
theorem end_gen {w : World} {rb : Nat} {ao : Option Addr} {cap : Nat} {s : Rs} (h : Rd w rb ao s.l cap s.bad) :
    Calls Try.prog 32 #[.pointer (some ⟨rb, 0, none⟩)] w fun e w' => e = .returned (.bool (endV s)) ∧ w' = w := rend_any w rb ao s.l cap s.bad h
theorem read_any (w : World) (ao : Option Addr) (l : List Nat) (cap : Nat) (h : Row w ao l cap) : Calls Try.prog 29 #[.slice ao l.length cap] w fun e w' =>
    e = .returned (.pointer (some ⟨w.heap.size, 0, none⟩)) ∧ Rd w' w.heap.size ao l cap false ∧ Fr (fun _ => False) w w' := by
  go_enter Try.func29, Try.ntmps29
  go_wp2
  go_ret
  have f := (Fr.refl (fun _ => False) w).alloc (.cells #[.slice ao l.length cap, .bool false] 102)
  refine ⟨rfl, ⟨?_, ?_, ?_, ?_, f.row h (by simp), fun hl a ha e => by
      obtain ⟨b, off, he, hc⟩ := h.2.2.2.2 hl
      have := World.block_lt_of_cell? _ _ (hc 0 (List.length_pos_iff.2 hl))
      rw [he] at ha; cases ha; simp only at this e; omega, fun e => by cases e⟩, f⟩
  · simp
  · simp
  · simp
  · simp
theorem read_gen (w : World) (ao : Option Addr) (l : List Nat) (cap : Nat) (h : Row w ao l cap) : Calls Try.prog 29 #[.slice ao l.length cap] w fun e w' =>
    e = .returned (.pointer (some ⟨w.heap.size, 0, none⟩)) ∧ Rd w' w.heap.size ao (⟨l, false⟩ : Rs).l cap (⟨l, false⟩ : Rs).bad ∧ Fr (fun _ => False) w w' := read_any w ao l cap h
end Go.Proofs.Ytaalkhipncbjpaa
