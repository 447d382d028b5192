/- The code's own looks at labels: what each of them answers. -/
import Derived.Test.YtjbkmflbhlnbpaaBase
namespace Go.Proofs.Ytjbkmflbhlnbpaa
open Go.RowKit

theorem shr_nat (m n : Nat) (k : Nat) (h : (k : Int) = ((m / 2 ^ n : Nat) : Int)) : k = m / 2 ^ n := by omega
theorem shr_cast (m n : Nat) : (m : Int) / 2 ^ n = ((m / 2 ^ n : Nat) : Int) := by simp
theorem ret_bool {a b : Bool} (h : a = b) : Ending.returned (.bool a) = .returned (.bool b) := by rw [h]
theorem and_cast (a b : Nat) (ha : a < 18446744073709551616) (hb : b < 18446744073709551616) : bits .and .u64 (a : Int) (b : Int) = ((a &&& b : Nat) : Int) := u64_and_nat a b ha hb

theorem wrap_pow (k : Nat) (hk : k < 64) : IntKind.u64.wrap (2 ^ k) = ((2 ^ k : Nat) : Int) := by
  have hpl : (2 : Nat) ^ k < 18446744073709551616 := Nat.lt_of_lt_of_le (Nat.pow_lt_pow_right (show 1 < 2 by decide) hk) (by decide)
  have : (2 : Int) ^ k = ((2 ^ k : Nat) : Int) := by simp
  rw [this]
  generalize 2 ^ k = p at *
  simp [IntKind.wrap, IntKind.bits, IntKind.signed]
  omega

set_option maxHeartbeats 400000 in
theorem alone_any (b off cap : Nat) (l : List Nat) (w : World) (hl : l.length ≤ 64) (hb : ∀ x ∈ l, x < 18446744073709551616) (hc : At .u64 w b off l) :
    Calls Try.prog 49 #[.slice (some ⟨b, off, none⟩) l.length cap] w fun e w' => e = .returned (.bool (Lat.alone l)) ∧ w' = w := by
  go_enter Try.func49, Try.ntmps49
  go_wp2
  go_loop [4, 7] (fun _ i => ∃ k : Nat, k ≤ l.length ∧ i = .int .i64 (k : Int) ∧ Hid (∀ j, j < k → ((l.getD j 0) / 2 ^ l.length == 0) = true)) (fun _ i => l.length - (intOf i).toNat)
  case atStart => exact ⟨0, Nat.zero_le _, rfl, fun j hj => by omega⟩
  case round =>
    obtain ⟨k, hk, rfl, Hn⟩ := hrel
    by_cases hlt : k < l.length
    · obtain ⟨c, hcl, hcell, Hc⟩ := hc.one hb k hlt
      have h2 := shr_cast c l.length
      clear hc hb
      obtain ⟨q, Hq⟩ : ∃ q, Hid (c / 2 ^ l.length = q) := ⟨_, rfl⟩
      rw [Hq.out] at h2
      by_cases hz : q = 0
      · have HF : Hid (∀ j, j < k + 1 → ((l.getD j 0) / 2 ^ l.length == 0) = true) := fun j hj => by
          rcases Nat.lt_succ_iff_lt_or_eq.1 hj with h | h
          · exact Hn.out j h
          · subst h; rw [← Hc.out, Hq.out, hz]; rfl
        subst hz
        go_wp2
        go_round
        case rel => exact ⟨k + 1, by omega, by go_num, HF.out⟩
        case measure => simp [intOf]; omega
      · have HF : Hid (Lat.alone l = false) := Lat.all_false hlt (by show (_ == _) = false; rw [← Hc.out, Hq.out]; simpa using hz)
        have hz' : ¬ (q : Int) = 0 := by omega
        go_wp2
        go_ret
        exact ⟨ret_bool HF.out.symm, rfl⟩
    · have hkl : k = l.length := by omega
      have hfin : Hid (Lat.alone l = true) := Lat.all_iff.2 (fun j hj => Hn.out j (by omega))
      clear hkl
      go_wp2
      go_ret
      exact ⟨ret_bool hfin.out.symm, rfl⟩

set_option maxHeartbeats 400000 in
theorem bounded_any (b off cap : Nat) (l : List Nat) (w : World) (hl : l.length ≤ 64) (hb : ∀ x ∈ l, x < 18446744073709551616) (hc : At .u64 w b off l) :
    Calls Try.prog 52 #[.slice (some ⟨b, off, none⟩) l.length cap] w fun e w' => e = .returned (.bool (Lat.bnd l)) ∧ w' = w := by
  have hnear := fun s W hs (hC : At .u64 W b off l) => nearest_any b off cap l s W hl hb hs hC
  go_enter Try.func52, Try.ntmps52
  go_wp2
  go_loop [4, 6, 9, 13, 14, 15] (fun _ _ i _ _ _ => ∃ k : Nat, k ≤ l.length ∧ i = .int .i64 (k : Int) ∧ Hid (∀ j, j < k → Lat.all l.length (fun b => decide (0 ≤ Lat.near l ((l.getD j 0) &&& (l.getD b 0)))) = true)) (fun _ _ i _ _ _ => l.length - (intOf i).toNat)
  case atStart => exact ⟨0, Nat.zero_le _, rfl, fun j hj => by omega⟩
  case round =>
    obtain ⟨k, hk, rfl, Hn⟩ := hrel
    by_cases hlt : k < l.length
    · obtain ⟨c, hcl, hcell, Hc⟩ := hc.one hb k hlt
      go_wp2
      go_loop [6, 15] (fun _ i => ∃ k2 : Nat, k2 ≤ l.length ∧ i = .int .i64 (k2 : Int) ∧ Hid (∀ j, j < k2 → decide (0 ≤ Lat.near l (c &&& (l.getD j 0))) = true)) (fun _ i => l.length - (intOf i).toNat)
      case atStart => exact ⟨0, Nat.zero_le _, rfl, fun j hj => by omega⟩
      case round =>
        obtain ⟨k2, hk2, rfl, Hm⟩ := hrel
        by_cases hlt2 : k2 < l.length
        · obtain ⟨d, hdl, hdell, Hd⟩ := hc.one hb k2 hlt2
          have h2 := and_cast c d hcl hdl
          have hs : c &&& d < 18446744073709551616 := Nat.lt_of_le_of_lt Nat.and_le_left hcl
          obtain ⟨s, Hs⟩ : ∃ s, Hid (c &&& d = s) := ⟨_, rfl⟩
          rw [Hs.out] at h2 hs
          have h1 := hnear s w hs hc
          obtain ⟨r, Hr⟩ : ∃ r, Hid (Lat.near l s = r) := ⟨_, rfl⟩
          rw [Hr.out] at h1
          by_cases hr : 0 ≤ r
          · have HF : Hid (∀ j, j < k2 + 1 → decide (0 ≤ Lat.near l (c &&& (l.getD j 0))) = true) := fun j hj => by
              rcases Nat.lt_succ_iff_lt_or_eq.1 hj with h | h
              · exact Hm.out j h
              · subst h; rw [← Hd.out, Hs.out, Hr.out]; exact decide_eq_true hr
            clear hnear
            go_wp2_with fail
            refine h1.mono ?_
            rintro e w2 ⟨rfl, hw⟩
            subst w2
            go_wp2
            go_round
            case rel => exact ⟨k2 + 1, by omega, by go_num, HF.out⟩
            case measure => simp [intOf]; omega
          · have HF : Hid (Lat.bnd l = false) := Lat.all_false hlt (Lat.all_false hlt2 (by rw [← Hc.out, ← Hd.out, Hs.out, Hr.out]; exact decide_eq_false hr))
            clear hnear
            go_wp2_with fail
            refine h1.mono ?_
            rintro e w2 ⟨rfl, hw⟩
            subst w2
            go_wp2
            go_ret
            exact ⟨ret_bool HF.out.symm, rfl⟩
        · have hfin : Hid (∀ j, j < k + 1 → Lat.all l.length (fun b => decide (0 ≤ Lat.near l ((l.getD j 0) &&& (l.getD b 0)))) = true) := fun j hj => by
            rcases Nat.lt_succ_iff_lt_or_eq.1 hj with h | h
            · exact Hn.out j h
            · subst h; rw [← Hc.out]; exact Lat.all_iff.2 fun b hb => Hm.out b (by omega)
          go_wp2
          go_round
          case rel => exact ⟨k + 1, by omega, by go_num, hfin.out⟩
          case measure => simp [intOf]; omega
    · have hfin : Hid (Lat.bnd l = true) := Lat.all_iff.2 (fun j hj => Hn.out j (by omega))
      go_wp2
      go_ret
      exact ⟨ret_bool hfin.out.symm, rfl⟩

set_option maxHeartbeats 800000 in
theorem ordered_any (b off cap b' off' cap' : Nat) (l m : List Nat) (w : World) (hlm : m.length = l.length) (hl : l.length ≤ 64) (hb : ∀ x ∈ l, x < 18446744073709551616) (hb' : ∀ x ∈ m, x < 18446744073709551616) (hc : At .u64 w b off l) (hc' : At .u64 w b' off' m) :
    Calls Try.prog 51 #[.slice (some ⟨b, off, none⟩) l.length cap, .slice (some ⟨b', off', none⟩) l.length cap'] w fun e w' => e = .returned (.bool (Lat.ord l m)) ∧ Fr (fun _ => False) w w' := by
  go_enter Try.func51, Try.ntmps51
  go_wp2
  go_loopw [5, 6, 7, 8, 11, 25, 26, 27] (fun _ _ _ _ i _ _ _ wr => ∃ k : Nat, k ≤ l.length ∧ i = .int .i64 (k : Int) ∧ Hid (∀ j, j < k → (((l.getD j 0) &&& (m.getD j 0)) == 2 ^ j && Lat.all l.length fun b => !(Lat.rel l j b) || Lat.sub (l.getD b 0) (l.getD j 0)) = true) ∧ Fr (fun _ => False) w wr) (fun _ _ _ _ i _ _ _ _ => l.length - (intOf i).toNat)
  case atStart => exact ⟨0, Nat.zero_le _, rfl, fun j hj => by omega, Fr.refl _ _⟩
  case round =>
    obtain ⟨k, hk, rfl, Hn, hf⟩ := hrel
    by_cases hlt : k < l.length
    · obtain ⟨c, hcl, hcell, Hc⟩ := (hc.fr hf (by simp)).one hb k hlt
      obtain ⟨d, hdl, hdell, Hd⟩ := (hc'.fr hf (by simp)).one hb' k (by omega)
      have h2 := and_cast c d hcl hdl
      obtain ⟨s, Hs⟩ : ∃ s, Hid (c &&& d = s) := ⟨_, rfl⟩
      rw [Hs.out] at h2
      obtain ⟨p, hpow, Hp⟩ : ∃ p : Nat, IntKind.u64.wrap (2 ^ k) = (p : Int) ∧ Hid ((2 : Nat) ^ k = p) := ⟨_, wrap_pow k (by omega), rfl⟩
      by_cases hz : s = p
      · subst hz
        go_wp2
        go_quiet (fail)
        go_wp2
        have hf2 : Fr (fun _ => False) w (wr.drewN nq) := hf.drewN _
        go_loop [7, 8, 27] (fun _ _ i => ∃ k2 : Nat, k2 ≤ l.length ∧ i = .int .i64 (k2 : Int) ∧ Hid (∀ j, j < k2 → (!(c.testBit j) || Lat.sub (l.getD j 0) c) = true)) (fun _ _ i => l.length - (intOf i).toNat)
        case atStart => exact ⟨0, Nat.zero_le _, rfl, fun j hj => by omega⟩
        case round =>
          obtain ⟨k2, hk2, rfl, Hm⟩ := hrel
          by_cases hlt2 : k2 < l.length
          · obtain ⟨x, hxl, hxell, Hx⟩ := (hc.fr hf2 (by simp)).one hb k2 hlt2
            have h1 := fun W => has_any c k2 W hcl (by omega)
            have h3 := andNot_eq x c hxl hcl
            clear h2 hpow
            cases ht : c.testBit k2 with
            | true =>
              rw [ht] at h1
              cases hu : Lat.sub x c with
              | true =>
                rw [hu] at h3
                have h3' : bits .andNot .u64 (x : Int) (c : Int) = 0 := by simpa using h3
                have HF : Hid (∀ j, j < k2 + 1 → (!(c.testBit j) || Lat.sub (l.getD j 0) c) = true) := fun j hj => by
                  rcases Nat.lt_succ_iff_lt_or_eq.1 hj with h | h
                  · exact Hm.out j h
                  · subst h; rw [← Hx.out, hu, Bool.or_true]
                clear ht hu
                go_wp2_with fail
                refine (h1 _).mono ?_
                rintro e w2 ⟨rfl, hw⟩
                subst w2
                go_wp2
                go_round
                case rel => exact ⟨k2 + 1, by omega, by go_num, HF.out⟩
                case measure => simp [intOf]; omega
              | false =>
                rw [hu] at h3
                have h3' : ¬ bits .andNot .u64 (x : Int) (c : Int) = 0 := by simpa using h3
                have HF : Hid (Lat.ord l m = false) := Lat.all_false hlt (by
                  rw [Lat.all_false hlt2 (by show (!(Lat.rel l k k2) || _) = false; unfold Lat.rel; rw [← Hc.out, ← Hx.out, ht, hu]; rfl), Bool.and_false])
                clear ht hu
                go_wp2_with fail
                refine (h1 _).mono ?_
                rintro e w2 ⟨rfl, hw⟩
                subst w2
                go_wp2
                go_ret
                exact ⟨ret_bool HF.out.symm, hf2⟩
            | false =>
              rw [ht] at h1
              have HF : Hid (∀ j, j < k2 + 1 → (!(c.testBit j) || Lat.sub (l.getD j 0) c) = true) := fun j hj => by
                rcases Nat.lt_succ_iff_lt_or_eq.1 hj with h | h
                · exact Hm.out j h
                · subst h; rw [ht]; rfl
              clear ht
              go_wp2_with fail
              refine (h1 _).mono ?_
              rintro e w2 ⟨rfl, hw⟩
              subst w2
              go_wp2
              go_round
              case rel => exact ⟨k2 + 1, by omega, by go_num, HF.out⟩
              case measure => simp [intOf]; omega
          · have hfin : Hid (∀ j, j < k + 1 → (((l.getD j 0) &&& (m.getD j 0)) == 2 ^ j && Lat.all l.length fun b => !(Lat.rel l j b) || Lat.sub (l.getD b 0) (l.getD j 0)) = true) := fun j hj => by
              rcases Nat.lt_succ_iff_lt_or_eq.1 hj with h | h
              · exact Hn.out j h
              · subst h
                rw [Bool.and_eq_true]
                constructor
                · rw [← Hc.out, ← Hd.out, Hs.out, Hp.out]; simp
                · exact Lat.all_iff.2 fun b hb => by unfold Lat.rel; rw [← Hc.out]; exact Hm.out b (by omega)
            go_wp2
            go_roundw
            case rel => exact ⟨k + 1, by omega, by go_num, hfin.out, hf2⟩
            case measure => simp [intOf]; omega
      · have hz' : ¬ (s : Int) = (p : Int) := by omega
        have HF : Hid (Lat.ord l m = false) := Lat.all_false hlt (by
          rw [← Hc.out, ← Hd.out, Hs.out, Hp.out, show (s == p) = false by simpa using hz, Bool.false_and])
        go_wp2
        go_quiet (fail)
        go_wp2
        go_ret
        exact ⟨ret_bool HF.out.symm, hf.drewN _⟩
    · have hfin : Hid (Lat.ord l m = true) := Lat.all_iff.2 (fun j hj => Hn.out j (by omega))
      go_wp2
      go_ret
      exact ⟨ret_bool hfin.out.symm, hf⟩
end Go.Proofs.Ytjbkmflbhlnbpaa
