/- The document's whole look: 0, 1 or 15. -/
import Derived.Test.YtjbkmflbhlnbpaaRef
import Derived.Deep.Cut
import Derived.Deep.CutRange
namespace Go.Proofs.Ytjbkmflbhlnbpaa
open Go.RowKit

def Lat.tr (l : List Nat) (a b c : Nat) : Bool := !(Lat.rel l a b && Lat.rel l b c) || Lat.rel l a c
set_option maxHeartbeats 4000000 in
theorem check_any (b off cap : Nat) (l : List Nat) (w : World) (hl : l.length ≤ 16) (hl0 : 0 < l.length) (hb : ∀ x ∈ l, x < 18446744073709551616) (hc : At .u64 w b off l) :
    Calls Try.prog 36 #[.slice (some ⟨b, off, none⟩) l.length cap] w fun e w' => e = .returned (.int .i64 (if Lat.ok l then 0 else 15)) ∧ w' = w := by
  have HS := fun p q hp hq2 => (show Hid (Calls _ _ _ _ _) from refleq_nat b off cap l p q w (by omega) hb hc hp hq2)
  have HJ := fun p q hp hq2 => (show Hid (Calls _ _ _ _ _) from refjoin_nat b off cap l p q w (by omega) hb hc hp hq2)
  have HT := fun p q hp hq2 => (show Hid (Calls _ _ _ _ _) from refmeet_nat b off cap l p q w (by omega) hb hc hp hq2)
  obtain ⟨rr, HRR⟩ : ∃ rr, Hid ((if Lat.ok l then 0 else 15 : Int) = rr) := ⟨_, rfl⟩
  rw [HRR.out]
  go_enter Try.func36, Try.ntmps36
  go_wp2
  go_loop [4, 5, 6] (fun i _ _ => ∃ k : Nat, k ≤ l.length ∧ i = .int .i64 (k : Int) ∧ Hid (∀ j, j < k → Lat.okA l j = true)) (fun i _ _ => l.length - (intOf i).toNat)
  case atStart => exact ⟨0, Nat.zero_le _, rfl, fun j hj => by omega⟩
  case round =>
    obtain ⟨k, hk, rfl, Hn⟩ := hrel
    by_cases hlt : k < l.length
    · obtain ⟨c, hcl, hcell, Hc⟩ := hc.one hb k hlt
      have hh := shr_cast c l.length
      obtain ⟨q, Hq⟩ : ∃ q, Hid (c / 2 ^ l.length = q) := ⟨_, rfl⟩
      rw [Hq.out] at hh
      by_cases hz : q = 0
      · have HZ : Hid (((l.getD k 0) / 2 ^ l.length == 0) = true) := by show _ = _; rw [← Hc.out, Hq.out, hz]; rfl
        subst hz
        have h1 := (HS k k hlt hlt).out
        cases b1 : Lat.rel l k k with
        | false =>
          rw [b1] at h1
          have HF : Hid (Lat.ok l = false) := by
            show _ = _
            unfold Lat.ok
            rw [Lat.all_false hlt (by unfold Lat.okA; rw [b1, Bool.and_false]; rfl), Bool.false_and]
          clear b1
          go_wp2_with fail
          refine h1.mono ?_
          rintro e w2 ⟨rfl, hw⟩
          subst w2
          go_wp2
          go_ret
          exact ⟨ret_int (by rw [← HRR.out, HF.out]; rfl), rfl⟩
        | true =>
          rw [b1] at h1
          have HR : Hid (Lat.rel l k k = true) := b1
          clear b1
          go_wp2_with fail
          refine h1.mono ?_
          rintro e w2 ⟨rfl, hw⟩
          subst w2
          go_wp2
          clear h1 hh hcell
          go_loop [5, 6] (fun i _ => ∃ k2 : Nat, k2 ≤ l.length ∧ i = .int .i64 (k2 : Int) ∧ Hid (∀ j, j < k2 → (!(k != j && Lat.rel l k j && Lat.rel l j k) && Lat.all l.length fun c => !(Lat.rel l k j && Lat.rel l j c) || Lat.rel l k c) = true)) (fun i _ => l.length - (intOf i).toNat)
          case atStart => exact ⟨0, Nat.zero_le _, rfl, fun j hj => by omega⟩
          case round =>
            obtain ⟨k2, hk2, rfl, Hm⟩ := hrel
            by_cases hlt2 : k2 < l.length
            · go_upto_region 12 with fail
              obtain ⟨m, Hmm⟩ : ∃ m, Hid ((k != k2 && Lat.rel l k k2 && Lat.rel l k2 k) = m) := ⟨_, rfl⟩
              go_cut [55] from 36 to 77 (fun s wx => s = .bool m ∧ wx = w)
              case first =>
                by_cases hne : k = k2
                · have HM : Hid (m = false) := by show _ = _; rw [← Hmm.out, show (k != k2) = false by simpa using hne]; rfl
                  subst hne
                  go_wp2_with fail
                  go_meet
                  exact ⟨by rw [HM.out], rfl⟩
                · have hne' : ¬ (k : Int) = (k2 : Int) := by omega
                  have h1 := (HS k k2 hlt hlt2).out
                  have h2 := (HS k2 k hlt2 hlt).out
                  rw [show (k != k2) = true by simpa using hne] at Hmm
                  cases b1 : Lat.rel l k k2 with
                  | false =>
                    rw [b1] at h1
                    have HM : Hid (m = false) := by show _ = _; rw [← Hmm.out, b1, Bool.and_false]; rfl
                    clear b1 h2 hne
                    go_wp2_with fail
                    refine h1.mono ?_
                    rintro e w2 ⟨rfl, hw⟩
                    subst w2
                    go_wp2_with fail
                    go_meet
                    exact ⟨by rw [HM.out], rfl⟩
                  | true =>
                    rw [b1] at h1
                    have HM : Hid (m = Lat.rel l k2 k) := by show _ = _; rw [← Hmm.out, b1]; rfl
                    clear b1 hne
                    go_wp2_with fail
                    refine h1.mono ?_
                    rintro e w2 ⟨rfl, hw⟩
                    subst w2
                    go_wp2_with fail
                    refine h2.mono ?_
                    rintro e w2 ⟨rfl, hw⟩
                    subst w2
                    go_wp2_with fail
                    go_meet
                    exact ⟨by rw [HM.out, show ((k : Int) != (k2 : Int)) = true by simpa using hne']; rfl, rfl⟩
              case rest =>
                obtain ⟨rfl, rfl⟩ := hcut
                cases m with
                | true =>
                  have HF : Hid (Lat.ok l = false) := by
                    show _ = _
                    unfold Lat.ok
                    rw [Lat.all_false hlt (by unfold Lat.okA; rw [Lat.all_false hlt2 (by rw [Hmm.out]; rfl), Bool.and_false]), Bool.false_and]
                  go_wp2
                  go_ret
                  exact ⟨ret_int (by rw [← HRR.out, HF.out]; rfl), rfl⟩
                | false =>
                  have HM : Hid ((!(k != k2 && Lat.rel l k k2 && Lat.rel l k2 k)) = true) := by show _ = _; rw [Hmm.out]; rfl
                  go_wp2
                  go_loop [6] (fun i => ∃ k3 : Nat, k3 ≤ l.length ∧ i = .int .i64 (k3 : Int) ∧ Hid (∀ j, j < k3 → Lat.tr l k k2 j = true)) (fun i => l.length - (intOf i).toNat)
                  case atStart => exact ⟨0, Nat.zero_le _, rfl, fun j hj => by omega⟩
                  case round =>
                    obtain ⟨k3, hk3, rfl, Ho⟩ := hrel
                    by_cases hlt3 : k3 < l.length
                    · have h1 := (HS k k2 hlt hlt2).out
                      have h2 := (HS k2 k3 hlt2 hlt3).out
                      have h3 := (HS k k3 hlt hlt3).out
                      cases b1 : Lat.rel l k k2 with
                      | false =>
                        rw [b1] at h1
                        have HG : Hid (∀ j, j < k3 + 1 → Lat.tr l k k2 j = true) := fun j hj => by
                          rcases Nat.lt_succ_iff_lt_or_eq.1 hj with h | h
                          · exact Ho.out j h
                          · subst h; unfold Lat.tr; rw [b1]; rfl
                        clear b1 h2 h3
                        go_wp2_with fail
                        refine h1.mono ?_
                        rintro e w2 ⟨rfl, hw⟩
                        subst w2
                        go_wp2
                        go_round
                        case rel => exact ⟨k3 + 1, by omega, by go_num, HG.out⟩
                        case measure => simp [intOf]; omega
                      | true =>
                        rw [b1] at h1
                        cases b2 : Lat.rel l k2 k3 with
                        | false =>
                          rw [b2] at h2
                          have HG : Hid (∀ j, j < k3 + 1 → Lat.tr l k k2 j = true) := fun j hj => by
                            rcases Nat.lt_succ_iff_lt_or_eq.1 hj with h | h
                            · exact Ho.out j h
                            · subst h; unfold Lat.tr; rw [b2, Bool.and_false]; rfl
                          clear b1 b2 h3
                          go_wp2_with fail
                          refine h1.mono ?_
                          rintro e w2 ⟨rfl, hw⟩
                          subst w2
                          go_wp2_with fail
                          refine h2.mono ?_
                          rintro e w2 ⟨rfl, hw⟩
                          subst w2
                          go_wp2
                          go_round
                          case rel => exact ⟨k3 + 1, by omega, by go_num, HG.out⟩
                          case measure => simp [intOf]; omega
                        | true =>
                          rw [b2] at h2
                          cases b3 : Lat.rel l k k3 with
                          | true =>
                            rw [b3] at h3
                            have HG : Hid (∀ j, j < k3 + 1 → Lat.tr l k k2 j = true) := fun j hj => by
                              rcases Nat.lt_succ_iff_lt_or_eq.1 hj with h | h
                              · exact Ho.out j h
                              · subst h; unfold Lat.tr; rw [b3, Bool.or_true]
                            clear b1 b2 b3
                            go_wp2_with fail
                            refine h1.mono ?_
                            rintro e w2 ⟨rfl, hw⟩
                            subst w2
                            go_wp2_with fail
                            refine h2.mono ?_
                            rintro e w2 ⟨rfl, hw⟩
                            subst w2
                            go_wp2_with fail
                            refine h3.mono ?_
                            rintro e w2 ⟨rfl, hw⟩
                            subst w2
                            go_wp2
                            go_round
                            case rel => exact ⟨k3 + 1, by omega, by go_num, HG.out⟩
                            case measure => simp [intOf]; omega
                          | false =>
                            rw [b3] at h3
                            have HF : Hid (Lat.ok l = false) := by
                              show _ = _
                              unfold Lat.ok
                              rw [Lat.all_false hlt (by unfold Lat.okA; rw [Lat.all_false hlt2 (by rw [Lat.all_false hlt3 (by rw [b1, b2, b3]; rfl), Bool.and_false]), Bool.and_false]), Bool.false_and]
                            clear b1 b2 b3
                            go_wp2_with fail
                            refine h1.mono ?_
                            rintro e w2 ⟨rfl, hw⟩
                            subst w2
                            go_wp2_with fail
                            refine h2.mono ?_
                            rintro e w2 ⟨rfl, hw⟩
                            subst w2
                            go_wp2_with fail
                            refine h3.mono ?_
                            rintro e w2 ⟨rfl, hw⟩
                            subst w2
                            go_wp2
                            go_ret
                            exact ⟨ret_int (by rw [← HRR.out, HF.out]; rfl), rfl⟩
                    · have HB : Hid ((!(k != k2 && Lat.rel l k k2 && Lat.rel l k2 k) && Lat.all l.length fun c => !(Lat.rel l k k2 && Lat.rel l k2 c) || Lat.rel l k c) = true) := by
                        show _ = _
                        rw [HM.out, Bool.true_and]
                        exact Lat.all_iff.2 fun j hj => Ho.out j (by omega)
                      have HG : Hid (∀ j, j < k2 + 1 → (!(k != j && Lat.rel l k j && Lat.rel l j k) && Lat.all l.length fun c => !(Lat.rel l k j && Lat.rel l j c) || Lat.rel l k c) = true) := fun j hj => by
                        rcases Nat.lt_succ_iff_lt_or_eq.1 hj with h | h
                        · exact Hm.out j h
                        · subst h; exact HB.out
                      go_wp2
                      go_round
                      case rel => exact ⟨k2 + 1, by omega, by go_num, HG.out⟩
                      case measure => simp [intOf]; omega
            · have HA : Hid (Lat.okA l k = true) := by
                show _ = _
                unfold Lat.okA
                rw [Bool.and_eq_true, Bool.and_eq_true]
                exact ⟨⟨HZ.out, HR.out⟩, Lat.all_iff.2 fun j hj => Hm.out j (by omega)⟩
              have HG : Hid (∀ j, j < k + 1 → Lat.okA l j = true) := fun j hj => by
                rcases Nat.lt_succ_iff_lt_or_eq.1 hj with h | h
                · exact Hn.out j h
                · subst h; exact HA.out
              go_wp2
              go_round
              case rel => exact ⟨k + 1, by omega, by go_num, HG.out⟩
              case measure => simp [intOf]; omega
      · have HF : Hid (Lat.ok l = false) := by
          show _ = _
          unfold Lat.ok
          rw [Lat.all_false hlt (by unfold Lat.okA; rw [← Hc.out, Hq.out, show (q == 0) = false by simpa using hz]; rfl), Bool.false_and]
        have hz' : ¬ (q : Int) = 0 := by omega
        go_wp2
        go_ret
        exact ⟨ret_int (by rw [← HRR.out, HF.out]; rfl), rfl⟩
    · have HA1 : Hid (∀ j, j < l.length → Lat.okA l j = true) := fun j hj => Hn.out j (by omega)
      go_wp2
      go_loop [7, 8] (fun i _ => ∃ k : Nat, k ≤ l.length ∧ i = .int .i64 (k : Int) ∧ Hid (∀ j, j < k → Lat.okB l j = true)) (fun i _ => l.length - (intOf i).toNat)
      case atStart => exact ⟨0, Nat.zero_le _, rfl, fun j hj => by omega⟩
      case round =>
        obtain ⟨k, hk, rfl, Hn⟩ := hrel
        by_cases hlt : k < l.length
        · go_wp2
          go_loop [8] (fun i => ∃ k2 : Nat, k2 ≤ l.length ∧ i = .int .i64 (k2 : Int) ∧ Hid (∀ j, j < k2 → (decide (0 ≤ Lat.join l k j) && decide (0 ≤ Lat.meet l k j)) = true)) (fun i => l.length - (intOf i).toNat)
          case atStart => exact ⟨0, Nat.zero_le _, rfl, fun j hj => by omega⟩
          case round =>
            obtain ⟨k2, hk2, rfl, Hm⟩ := hrel
            by_cases hlt2 : k2 < l.length
            · have h1 := (HJ k k2 hlt hlt2).out
              have h2 := (HT k k2 hlt hlt2).out
              obtain ⟨r1, Hr1⟩ : ∃ r, Hid (Lat.join l k k2 = r) := ⟨_, rfl⟩
              obtain ⟨r2, Hr2⟩ : ∃ r, Hid (Lat.meet l k k2 = r) := ⟨_, rfl⟩
              rw [Hr1.out] at h1
              rw [Hr2.out] at h2
              by_cases b1 : r1 < 0
              · have HF : Hid (Lat.ok l = false) := by
                  show _ = _
                  unfold Lat.ok
                  rw [Lat.all_false (P := Lat.okB l) hlt (by unfold Lat.okB; rw [Lat.all_false hlt2 (by rw [Hr1.out, show decide (0 ≤ r1) = false by simpa using b1]; rfl)]), Bool.and_false]
                go_wp2_with fail
                refine h1.mono ?_
                rintro e w2 ⟨rfl, hw⟩
                subst w2
                go_wp2
                go_ret
                exact ⟨ret_int (by rw [← HRR.out, HF.out]; rfl), rfl⟩
              · by_cases b2 : r2 < 0
                · have HF : Hid (Lat.ok l = false) := by
                    show _ = _
                    unfold Lat.ok
                    rw [Lat.all_false (P := Lat.okB l) hlt (by unfold Lat.okB; rw [Lat.all_false hlt2 (by rw [Hr2.out, show decide (0 ≤ r2) = false by simpa using b2, Bool.and_false])]), Bool.and_false]
                  go_wp2_with fail
                  refine h1.mono ?_
                  rintro e w2 ⟨rfl, hw⟩
                  subst w2
                  go_wp2_with fail
                  refine h2.mono ?_
                  rintro e w2 ⟨rfl, hw⟩
                  subst w2
                  go_wp2
                  go_ret
                  exact ⟨ret_int (by rw [← HRR.out, HF.out]; rfl), rfl⟩
                · 
                  have HG : Hid (∀ j, j < k2 + 1 → (decide (0 ≤ Lat.join l k j) && decide (0 ≤ Lat.meet l k j)) = true) := fun j hj => by
                    rcases Nat.lt_succ_iff_lt_or_eq.1 hj with h | h
                    · exact Hm.out j h
                    · subst h; rw [Hr1.out, Hr2.out, show decide (0 ≤ r1) = true by simpa using b1, show decide (0 ≤ r2) = true by simpa using b2]; rfl
                  go_wp2_with fail
                  refine h1.mono ?_
                  rintro e w2 ⟨rfl, hw⟩
                  subst w2
                  go_wp2_with fail
                  refine h2.mono ?_
                  rintro e w2 ⟨rfl, hw⟩
                  subst w2
                  go_wp2
                  go_round
                  case rel => exact ⟨k2 + 1, by omega, by go_num, HG.out⟩
                  case measure => simp [intOf]; omega
            · have HA : Hid (Lat.okB l k = true) := Lat.all_iff.2 fun j hj => Hm.out j (by omega)
              have HG : Hid (∀ j, j < k + 1 → Lat.okB l j = true) := fun j hj => by
                rcases Nat.lt_succ_iff_lt_or_eq.1 hj with h | h
                · exact Hn.out j h
                · subst h; exact HA.out
              go_wp2
              go_round
              case rel => exact ⟨k + 1, by omega, by go_num, HG.out⟩
              case measure => simp [intOf]; omega
        · have HF : Hid (Lat.ok l = true) := by
            show _ = _
            unfold Lat.ok
            rw [Lat.all_iff.2 HA1.out, Bool.true_and]
            exact Lat.all_iff.2 fun j hj => Hn.out j (by omega)
          go_wp2
          go_ret
          exact ⟨ret_int (by rw [← HRR.out, HF.out]; rfl), rfl⟩

end Go.Proofs.Ytjbkmflbhlnbpaa
