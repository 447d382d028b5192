/- All labels below one, and the document's order, as they are built. -/
import Derived.Test.YtjbkmflbhlnbpaaMeth
namespace Go.Proofs.Ytjbkmflbhlnbpaa
open Go.RowKit

def belowL (l : List Nat) (a : Int) : List Nat := (List.range l.length).filter fun b => Lat.leq l (b : Int) a
theorem filter_step (P : Nat → Bool) (k : Nat) : (List.range (k + 1)).filter P = (List.range k).filter P ++ (if P k then [k] else []) := by
  rw [List.range_succ, List.filter_append]
  congr 1
  cases h : P k <;> simp [h]
theorem filter_len (P : Nat → Bool) (k : Nat) : ((List.range k).filter P).length ≤ k := Nat.le_trans (List.length_filter_le _ _) (by simp)
/-- what stands in the order behind k counts and a labels of the next. -/
def ordUpto (l : List Nat) (k a : Nat) : List Nat := ((List.range k).flatMap fun k => (List.range l.length).filter fun a => Lat.cnt l a == k) ++ (List.range a).filter fun a => Lat.cnt l a == k
theorem ordUpto_next (l : List Nat) (k : Nat) : ordUpto l k l.length = ordUpto l (k + 1) 0 := by
  unfold ordUpto
  rw [List.range_succ, List.flatMap_append]
  simp
theorem ordUpto_step (l : List Nat) (k a : Nat) : ordUpto l k (a + 1) = ordUpto l k a ++ (if Lat.cnt l a == k then [a] else []) := by
  unfold ordUpto
  rw [filter_step, List.append_assoc]
theorem ordUpto_end (l : List Nat) : ordUpto l (l.length + 1) 0 = Lat.order l := by simp [ordUpto, Lat.order]
theorem ordUpto_len (l : List Nat) (k a : Nat) (hk : k ≤ l.length) (ha : a ≤ l.length) : (ordUpto l k a).length ≤ 17 * l.length + 17 * l.length * l.length := by
  unfold ordUpto
  rw [List.length_append, List.length_flatMap]
  have h1 := filter_len (fun a => Lat.cnt l a == k) a
  have h2 : ((List.range k).map fun k => ((List.range l.length).filter fun a => Lat.cnt l a == k).length).sum ≤ k * l.length := by
    clear hk h1
    induction k with
    | zero => simp
    | succ k ih =>
      rw [List.range_succ, List.map_append, List.sum_append]
      have := filter_len (fun a => Lat.cnt l a == k) l.length
      simp only [List.map_cons, List.map_nil, List.sum_cons, List.sum_nil, Nat.add_zero]
      rw [Nat.add_mul, Nat.one_mul]
      omega
  have h3 : k * l.length ≤ l.length * l.length := Nat.mul_le_mul_right _ hk
  have h4 : l.length * l.length ≤ 17 * l.length * l.length := by rw [Nat.mul_assoc]; omega
  omega

set_option maxHeartbeats 2000000 in
theorem reforder_any (b off cap : Nat) (l : List Nat) (w : World) (hl : l.length ≤ 16) (hb : ∀ x ∈ l, x < 18446744073709551616) (hc : At .u64 w b off l) :
    Calls Try.prog 20 #[.slice (some ⟨b, off, none⟩) l.length cap] w fun e w' => ∃ v, e = .returned v ∧ Own .i64 3 w' w.heap.size v (Lat.order l) ∧ Fr (fun _ => False) w w' := by
  have hmul : l.length * l.length ≤ 256 := Nat.mul_le_mul hl hl
  go_enter Try.func20, Try.ntmps20
  go_wp2
  go_loopw [3, 4, 5, 6, 7] (fun v i _ _ _ wr => ∃ k : Nat, k ≤ l.length + 1 ∧ i = .int .i64 (k : Int) ∧ Own .i64 3 wr w.heap.size v (ordUpto l k 0) ∧ Fr (fun _ => False) w wr) (fun _ i _ _ _ _ => l.length + 1 - (intOf i).toNat)
  case atStart => exact ⟨0, Nat.zero_le _, rfl, Own.nil _ _ _ _, Fr.refl _ _⟩
  case round =>
    obtain ⟨k, hk, rfl, ho, hfr⟩ := hrel
    by_cases hlt : k ≤ l.length
    · go_wp2
      go_loopw [3, 5, 6, 7] (fun v i _ _ wr => ∃ a : Nat, a ≤ l.length ∧ i = .int .i64 (a : Int) ∧ Own .i64 3 wr w.heap.size v (ordUpto l k a) ∧ Fr (fun _ => False) w wr) (fun _ i _ _ _ => l.length - (intOf i).toNat)
      case atStart => exact ⟨0, Nat.zero_le _, rfl, ho, hfr⟩
      case round =>
        rename_i wq _ _
        clear ho hfr
        obtain ⟨a, ha, rfl, ho, hfr⟩ := hrel
        by_cases hlta : a < l.length
        · have HQ := fun p q hp hq => (show Hid (Calls _ _ _ _ _) from refleq_nat b off cap l p q _ (by omega) hb (hc.fr hfr (by simp)) hp hq)
          go_wp2
          go_loop [6, 7] (fun t i => ∃ j : Nat, j ≤ l.length ∧ i = .int .i64 (j : Int) ∧ ∃ m : Nat, t = .int .i64 (m : Int) ∧ m ≤ j ∧ Hid (m = ((List.range j).filter fun b => Lat.rel l b a).length)) (fun _ i => l.length - (intOf i).toNat)
          case atStart => exact ⟨0, Nat.zero_le _, rfl, 0, rfl, Nat.le_refl _, rfl⟩
          case round =>
            obtain ⟨j, hj, rfl, m, rfl, hm, Hm⟩ := hrel
            by_cases hltj : j < l.length
            · have h1 := (HQ j a hltj hlta).out
              have hst := filter_step (fun b => Lat.rel l b a) j
              cases hr : Lat.rel l j a with
              | false =>
                rw [hr] at h1
                have HS : Hid (m = ((List.range (j + 1)).filter fun b => Lat.rel l b a).length) := by show _ = _; rw [hst, hr, Hm.out]; simp
                clear hst hr
                go_wp2_with fail
                refine h1.mono ?_
                rintro e w2 ⟨rfl, hw⟩
                subst w2
                go_wp2
                go_round
                case rel => exact ⟨j + 1, by omega, by go_num, m, rfl, by omega, HS.out⟩
                case measure => simp [intOf]; omega
              | true =>
                rw [hr] at h1
                have HS : Hid (m + 1 = ((List.range (j + 1)).filter fun b => Lat.rel l b a).length) := by show _ = _; rw [hst, hr, Hm.out]; simp
                clear hst hr
                go_wp2_with fail
                refine h1.mono ?_
                rintro e w2 ⟨rfl, hw⟩
                subst w2
                go_wp2
                go_round
                case rel => exact ⟨j + 1, by omega, by go_num, m + 1, by go_num, by omega, HS.out⟩
                case measure => simp [intOf]; omega
            · have hjl : j = l.length := by omega
              have Hcnt : Hid (m = Lat.cnt l a) := by show _ = _; rw [Hm.out, hjl]; rfl
              have hst := ordUpto_step l k a
              have hln := ordUpto_len l k a (by omega) (by omega)
              rw [Nat.mul_assoc] at hln
              rw [← Hcnt.out] at hst
              obtain ⟨L, HL⟩ : ∃ L, Hid (ordUpto l k a = L) := ⟨_, rfl⟩
              rw [HL.out] at ho hst hln
              clear HQ hjl
              by_cases hmk : m = k
              · have HS : Hid (ordUpto l k (a + 1) = L ++ [a]) := by show _ = _; rw [hst, hmk]; simp
                subst hmk
                obtain ⟨ao, cp, rfl, hrow⟩ := ho.row
                have hsz := hfr.size
                have f1 := hfr.alloc (.cells #[.int .i64 (a : Int)] 3)
                have ho1 := ho.fr ((Fr.refl (fun _ => False) _).alloc (.cells #[.int .i64 (a : Int)] 3)) (by simp)
                clear hrow hst
                go_wp2_with (refine wpList_append .i64 39 3 kindI rfl _ _ rfl w.heap.size _ L rfl ho1 _ 0 [a] 1 rfl (at_one .i64 _ a 3) (by simp; omega) (by simp; omega) ?_)
                intro v' w' ho2 hg
                go_wp2
                go_roundw
                case rel => exact ⟨a + 1, by omega, by go_num, by rw [HS.out]; exact ho2, f1.own hg (fun j hj => (ho1.lt j hj).1) (fun j hj => .inr hj)⟩
                case measure => simp [intOf]; omega
              · have HS : Hid (ordUpto l k (a + 1) = L) := by show _ = _; rw [hst, if_neg (by simpa using hmk), List.append_nil]
                have hmk' : ¬ (m : Int) = (k : Int) := by omega
                clear hst
                go_wp2
                go_roundw
                case rel => exact ⟨a + 1, by omega, by go_num, by rw [HS.out]; exact ho, hfr⟩
                case measure => simp [intOf]; omega
        · have hal : a = l.length := by omega
          have ho' := ho
          rw [hal, ordUpto_next] at ho'
          go_wp2
          go_roundw
          case rel => exact ⟨k + 1, by omega, by go_num, ho', hfr⟩
          case measure => simp [intOf]; omega
    · have hkl : k = l.length + 1 := by omega
      have ho' := ho
      rw [hkl, ordUpto_end] at ho'
      have HO : Hid _ := ho'
      clear hc hkl ho'
      go_wp2
      go_ret
      exact ⟨_, rfl, HO.out, hfr⟩
end Go.Proofs.Ytjbkmflbhlnbpaa
