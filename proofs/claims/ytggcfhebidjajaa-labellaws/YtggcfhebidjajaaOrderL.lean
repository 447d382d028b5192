/- Labels of an order, made from numbers: whatever they are, they are one to six numbers. -/
import Derived.Test.YtggcfhebidjajaaTold
import Derived.Test.YtggcfhebidjajaaChecksWalk
namespace Go.Proofs.Ytggcfhebidjajaa
open Go.RowKit

set_option maxHeartbeats 2000000 in
theorem order_none (n : Nat) (hn : n < 256) (ao : Option Addr) (cap : Nat) (w : World)  :
    Calls Try.prog 13 #[.int .u8 (n : Int), .slice ao 0 cap] w fun e w' => ∃ g L, e = .returned (.slice (some ⟨g, 0, none⟩) L.length L.length) ∧ 0 < L.length ∧ L.length ≤ 6 ∧ (∀ x ∈ L, x < 18446744073709551616) ∧ At .u64 w' g 0 L ∧ Fr (fun _ => False) w w' := by
  obtain ⟨k, ek, hk1, hk2⟩ : ∃ k : Nat, 1 + (n : Int) % 6 = (k : Int) ∧ 0 < k ∧ k ≤ 6 := ⟨1 + n % 6, by omega, by omega, by omega⟩
  have hmk := run_make_row' (P := Try.prog) 22 43 (.int .u64 0) 8 Try.underlying22 Try.info43 rfl .i64 .i64 k (by omega) (by omega)
  have f0 : Fr (fun _ => False) w (w.alloc (.cells (madeCells #[.int .u64 0] k) 43)) := (Fr.refl _ _).alloc _
  have r0 : (w.alloc (.cells (madeCells #[.int .u64 0] k) 43)).rowIs w.heap.size 43 k (fun j => .int .u64 (((List.replicate k 0).getD j 0 : Nat) : Int)) := (World.rowIs_made w _ _ _).congr fun i hi => by simp [hi]
  obtain ⟨g, Hg⟩ : ∃ g, Hid (w.heap.size = g) := ⟨_, rfl⟩
  rw [Hg.out] at r0
  go_enter Try.func13, Try.ntmps13
  go_wp2
  rw [Hg.out]
  clear ek
  go_loopw [7, 8, 9] (fun i _ _ wr => ∃ (A : Int) (L : List Nat), -1 ≤ A ∧ A < k ∧ i = .int .i64 A ∧ L.length = k ∧ (∀ x ∈ L, x < 18446744073709551616) ∧ wr.rowIs g 43 k (fun j => .int .u64 ((L.getD j 0 : Nat) : Int)) ∧ Fr (fun _ => False) w wr) (fun i _ _ _ => (intOf i + 1).toNat)
  case atStart => exact ⟨(k : Int) - 1, List.replicate k 0, by omega, by omega, by go_num, by simp, by simp, r0, f0⟩
  case round =>
    clear hmk f0 r0
    obtain ⟨A, L, hA0, hA1, rfl, hLl, hLb, hr, hf⟩ := hrel
    by_cases hge : 0 ≤ A
    · obtain ⟨a, rfl⟩ : ∃ a : Nat, A = a := ⟨A.toNat, by omega⟩
      have hal : a < k := by omega
      have hcell := hr.cell hal
      have hfz := hr.frozen a
      obtain ⟨p, hpl, hpow, Hp⟩ : ∃ p : Nat, p < 18446744073709551616 ∧ IntKind.u64.wrap (2 ^ a) = (p : Int) ∧ Hid ((2 : Nat) ^ a = p) := ⟨_, Nat.lt_of_lt_of_le (Nat.pow_lt_pow_right (show 1 < 2 by decide) (show a < 64 by omega)) (by decide), wrap_pow a (by omega), rfl⟩
      have HB : Hid (∀ x ∈ L, x < 18446744073709551616) := hLb
      clear hLb
      go_wp2
      clear hcell hfz hpow
      go_loopw [8, 9] (fun i _ wx => ∃ (b : Nat) (M : List Nat), a < b ∧ b ≤ k ∧ i = .int .i64 (b : Int) ∧ M.length = k ∧ (∀ x ∈ M, x < 18446744073709551616) ∧ wx.rowIs g 43 k (fun j => .int .u64 ((M.getD j 0 : Nat) : Int)) ∧ Fr (fun _ => False) w wx) (fun i _ _ => k - (intOf i).toNat)
      case atStart =>
        refine ⟨a + 1, L.set a p, by omega, by omega, by go_num, by simp [hLl], ?_, ?_, hf.setCell (Or.inr (by rw [Hg.out]; exact Nat.le_refl _)) _⟩
        · intro x hx
          rcases List.mem_or_eq_of_mem_set hx with h | h
          · exact HB.out x h
          · rw [h]; exact hpl
        · refine (hr.set a _).congr fun j hj => ?_
          by_cases e : j = a
          · subst e
            simp [List.getD_eq_getElem?_getD, hLl, hal]
          · rw [if_neg e]
            simp [List.getD_eq_getElem?_getD, Ne.symm e]
      case round =>
        clear hr hf HB hLl
        obtain ⟨b, M, hab, hbk, rfl, hMl, hMb, hr, hf⟩ := hrel
        by_cases hltb : b < k
        · obtain ⟨x, hx, hcx⟩ : ∃ x : Nat, x < 18446744073709551616 ∧ wr.cell? ⟨g, a, none⟩ = some (.int .u64 (x : Int)) := ⟨M.getD a 0, Lat.getD_lt hMb a, hr.cell hal⟩
          obtain ⟨y, hy, hcy⟩ : ∃ y : Nat, y < 18446744073709551616 ∧ wr.cell? ⟨g, b, none⟩ = some (.int .u64 (y : Int)) := ⟨M.getD b 0, Lat.getD_lt hMb b, hr.cell hltb⟩
          have hor := or_cast x y hx hy
          have hxy : x ||| y < 18446744073709551616 := by have := Nat.or_lt_two_pow (n := 64) (by simpa using hx) (by simpa using hy); simpa using this
          generalize x ||| y = z at hor hxy
          have hfz := hr.frozen a
          obtain ⟨q, hq⟩ : ∃ q : Nat, (a : Int) * 6 + (b : Int) = (q : Int) := ⟨a * 6 + b, by omega⟩
          have HR : Hid (wr.rowIs g 43 k (fun j => .int .u64 ((M.getD j 0 : Nat) : Int))) := hr
          have HB : Hid (∀ x ∈ M, x < 18446744073709551616) := hMb
          clear hr hMb
          clear hcx hcy hor
          go_wp2
          go_roundw
          case rel => exact ⟨b + 1, M, by omega, by omega, by go_num, hMl, HB.out, HR.out, hf⟩
          case measure => simp [intOf]; omega
        · go_wp2
          go_roundw
          case rel => exact ⟨(a : Int) - 1, M, by omega, by omega, by go_num, hMl, hMb, hr, hf⟩
          case measure => first | (simp [intOf]; omega) | simp [intOf]
    · subst hLl
      go_wp2
      go_ret
      exact ⟨g, L, rfl, hk1, hk2, hLb, At.of_row hr, hf⟩

set_option maxHeartbeats 2000000 in
theorem order_some (n : Nat) (hn : n < 256) (b off cap : Nat) (l : List Nat) (w : World) (hl : l.length ≤ maxLen) (hb : ∀ x ∈ l, x < 256) (hc : At .u8 w b off l) :
    Calls Try.prog 13 #[.int .u8 (n : Int), .slice (some ⟨b, off, none⟩) l.length cap] w fun e w' => ∃ g L, e = .returned (.slice (some ⟨g, 0, none⟩) L.length L.length) ∧ 0 < L.length ∧ L.length ≤ 6 ∧ (∀ x ∈ L, x < 18446744073709551616) ∧ At .u64 w' g 0 L ∧ Fr (fun _ => False) w w' := by
  unfold maxLen at hl
  obtain ⟨k, ek, hk1, hk2⟩ : ∃ k : Nat, 1 + (n : Int) % 6 = (k : Int) ∧ 0 < k ∧ k ≤ 6 := ⟨1 + n % 6, by omega, by omega, by omega⟩
  have hmk := run_make_row' (P := Try.prog) 22 43 (.int .u64 0) 8 Try.underlying22 Try.info43 rfl .i64 .i64 k (by omega) (by omega)
  have f0 : Fr (fun _ => False) w (w.alloc (.cells (madeCells #[.int .u64 0] k) 43)) := (Fr.refl _ _).alloc _
  have r0 : (w.alloc (.cells (madeCells #[.int .u64 0] k) 43)).rowIs w.heap.size 43 k (fun j => .int .u64 (((List.replicate k 0).getD j 0 : Nat) : Int)) := (World.rowIs_made w _ _ _).congr fun i hi => by simp [hi]
  obtain ⟨g, Hg⟩ : ∃ g, Hid (w.heap.size = g) := ⟨_, rfl⟩
  rw [Hg.out] at r0
  go_enter Try.func13, Try.ntmps13
  go_wp2
  rw [Hg.out]
  clear ek
  go_loopw [7, 8, 9] (fun i _ _ wr => ∃ (A : Int) (L : List Nat), -1 ≤ A ∧ A < k ∧ i = .int .i64 A ∧ L.length = k ∧ (∀ x ∈ L, x < 18446744073709551616) ∧ wr.rowIs g 43 k (fun j => .int .u64 ((L.getD j 0 : Nat) : Int)) ∧ Fr (fun _ => False) w wr) (fun i _ _ _ => (intOf i + 1).toNat)
  case atStart => exact ⟨(k : Int) - 1, List.replicate k 0, by omega, by omega, by go_num, by simp, by simp, r0, f0⟩
  case round =>
    clear hmk f0 r0
    obtain ⟨A, L, hA0, hA1, rfl, hLl, hLb, hr, hf⟩ := hrel
    by_cases hge : 0 ≤ A
    · obtain ⟨a, rfl⟩ : ∃ a : Nat, A = a := ⟨A.toNat, by omega⟩
      have hal : a < k := by omega
      have hcell := hr.cell hal
      have hfz := hr.frozen a
      obtain ⟨p, hpl, hpow, Hp⟩ : ∃ p : Nat, p < 18446744073709551616 ∧ IntKind.u64.wrap (2 ^ a) = (p : Int) ∧ Hid ((2 : Nat) ^ a = p) := ⟨_, Nat.lt_of_lt_of_le (Nat.pow_lt_pow_right (show 1 < 2 by decide) (show a < 64 by omega)) (by decide), wrap_pow a (by omega), rfl⟩
      have HB : Hid (∀ x ∈ L, x < 18446744073709551616) := hLb
      clear hLb
      go_wp2
      clear hcell hfz hpow
      go_loopw [8, 9] (fun i _ wx => ∃ (b : Nat) (M : List Nat), a < b ∧ b ≤ k ∧ i = .int .i64 (b : Int) ∧ M.length = k ∧ (∀ x ∈ M, x < 18446744073709551616) ∧ wx.rowIs g 43 k (fun j => .int .u64 ((M.getD j 0 : Nat) : Int)) ∧ Fr (fun _ => False) w wx) (fun i _ _ => k - (intOf i).toNat)
      case atStart =>
        refine ⟨a + 1, L.set a p, by omega, by omega, by go_num, by simp [hLl], ?_, ?_, hf.setCell (Or.inr (by rw [Hg.out]; exact Nat.le_refl _)) _⟩
        · intro x hx
          rcases List.mem_or_eq_of_mem_set hx with h | h
          · exact HB.out x h
          · rw [h]; exact hpl
        · refine (hr.set a _).congr fun j hj => ?_
          by_cases e : j = a
          · subst e
            simp [List.getD_eq_getElem?_getD, hLl, hal]
          · rw [if_neg e]
            simp [List.getD_eq_getElem?_getD, Ne.symm e]
      case round =>
        clear hr hf HB hLl
        obtain ⟨b, M, hab, hbk, rfl, hMl, hMb, hr, hf⟩ := hrel
        by_cases hltb : b < k
        · obtain ⟨x, hx, hcx⟩ : ∃ x : Nat, x < 18446744073709551616 ∧ wr.cell? ⟨g, a, none⟩ = some (.int .u64 (x : Int)) := ⟨M.getD a 0, Lat.getD_lt hMb a, hr.cell hal⟩
          obtain ⟨y, hy, hcy⟩ : ∃ y : Nat, y < 18446744073709551616 ∧ wr.cell? ⟨g, b, none⟩ = some (.int .u64 (y : Int)) := ⟨M.getD b 0, Lat.getD_lt hMb b, hr.cell hltb⟩
          have hor := or_cast x y hx hy
          have hxy : x ||| y < 18446744073709551616 := by have := Nat.or_lt_two_pow (n := 64) (by simpa using hx) (by simpa using hy); simpa using this
          generalize x ||| y = z at hor hxy
          have hfz := hr.frozen a
          obtain ⟨q, hq⟩ : ∃ q : Nat, (a : Int) * 6 + (b : Int) = (q : Int) := ⟨a * 6 + b, by omega⟩
          have HR : Hid (wr.rowIs g 43 k (fun j => .int .u64 ((M.getD j 0 : Nat) : Int))) := hr
          have HB : Hid (∀ x ∈ M, x < 18446744073709551616) := hMb
          clear hr hMb
          by_cases hql : q < l.length
          · obtain ⟨c, hcl, hcell, Hc⟩ := (hc.fr hf (by simp)).one hb q hql
            have hmod : (c : Int) % 2 = 0 ∨ (c : Int) % 2 = 1 := by omega
            rcases hmod with hmod | hmod
            · clear hcx hcy hor
              go_wp2
              go_roundw
              case rel => exact ⟨b + 1, M, by omega, by omega, by go_num, hMl, HB.out, HR.out, hf⟩
              case measure => simp [intOf]; omega
            · go_wp2
              go_region
              go_wp2
              go_roundw
              case rel =>
                refine ⟨b + 1, M.set a z, by omega, by omega, by go_num, by simp [hMl], ?_, ?_, (hf.setCell (Or.inr (by rw [Hg.out]; exact Nat.le_refl _)) _).drew⟩
                · intro x hx
                  rcases List.mem_or_eq_of_mem_set hx with h | h
                  · exact HB.out x h
                  · rw [h]; exact hxy
                · refine (HR.out.set a _).congr fun j hj => ?_
                  by_cases e : j = a
                  · subst e
                    simp [List.getD_eq_getElem?_getD, hMl, hal]
                  · rw [if_neg e]
                    simp [List.getD_eq_getElem?_getD, Ne.symm e]
              case measure => simp [intOf]; omega
          · clear hcx hcy hor
            go_wp2
            go_roundw
            case rel => exact ⟨b + 1, M, by omega, by omega, by go_num, hMl, HB.out, HR.out, hf⟩
            case measure => simp [intOf]; omega
        · go_wp2
          go_roundw
          case rel => exact ⟨(a : Int) - 1, M, by omega, by omega, by go_num, hMl, hMb, hr, hf⟩
          case measure => first | (simp [intOf]; omega) | simp [intOf]
    · subst hLl
      go_wp2
      go_ret
      exact ⟨g, L, rfl, hk1, hk2, hLb, At.of_row hr, hf⟩

theorem order_all (n : Nat) (hn : n < 256) (ao : Option Addr) (cap : Nat) (l : List Nat) (w : World) (hb : ∀ x ∈ l, x < 256) (h : Came .u8 w ao l) :
    Calls Try.prog 13 #[.int .u8 (n : Int), .slice ao l.length cap] w fun e w' => ∃ g L, e = .returned (.slice (some ⟨g, 0, none⟩) L.length L.length) ∧ 0 < L.length ∧ L.length ≤ 6 ∧ (∀ x ∈ L, x < 18446744073709551616) ∧ At .u64 w' g 0 L ∧ Fr (fun _ => False) w w' := by
  by_cases hl : l = []
  · subst hl
    exact order_none n hn ao cap w
  · obtain ⟨b, off, rfl, hA⟩ := h.2 hl
    exact order_some n hn b off cap l w h.1 hb hA
end Go.Proofs.Ytggcfhebidjajaa
