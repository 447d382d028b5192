/- The document's own look at labels, as it is written: what each of its functions answers. -/
import Derived.Test.YtjbkmflbhlnbpaaTurn
namespace Go.Proofs.Ytjbkmflbhlnbpaa
open Go.RowKit

set_option maxHeartbeats 400000 in
theorem refleq_nat (b off cap : Nat) (l : List Nat) (x y : Nat) (w : World) (hl : l.length ≤ 64) (hb : ∀ x ∈ l, x < 18446744073709551616) (hc : At .u64 w b off l) (hx : x < l.length) (hy : y < l.length) :
    Calls Try.prog 41 #[.slice (some ⟨b, off, none⟩) l.length cap, .int .i64 (x : Int), .int .i64 (y : Int)] w fun e w' => e = .returned (.bool (Lat.rel l x y)) ∧ w' = w := by
  obtain ⟨c, hcl, hcell, Hc⟩ := hc.one hb x hx
  have hh := has_eq c y hcl
  go_enter Try.func41, Try.ntmps41
  go_wp2
  go_ret
  refine ⟨ret_bool ?_, rfl⟩
  rw [Hc.out]
  rfl
theorem leq_out (l : List Nat) (x y : Int) (h : x < 0 ∨ y < 0 ∨ l.length ≤ x ∨ l.length ≤ y) : Lat.leq l x y = false := by
  unfold Lat.leq
  rcases h with h | h | h | h
  · rw [show decide (0 ≤ x) = false by simpa using h]; rfl
  · rw [show decide (0 ≤ y) = false by simpa using h, Bool.and_false]; rfl
  · rw [show decide (x < (l.length : Int)) = false by simpa using h, Bool.and_false]; rfl
  · rw [show decide (y < (l.length : Int)) = false by simpa using h, Bool.and_false]; rfl
theorem leq_in (l : List Nat) (x y : Nat) (hx : x < l.length) (hy : y < l.length) : Lat.leq l (x : Int) (y : Int) = Lat.rel l x y := by
  unfold Lat.leq
  simp [hx, hy]
set_option maxHeartbeats 400000 in
theorem refleq_any (b off cap : Nat) (l : List Nat) (x y : Int) (w : World) (hl : l.length ≤ 64) (hb : ∀ x ∈ l, x < 18446744073709551616) (hc : At .u64 w b off l) :
    Calls Try.prog 41 #[.slice (some ⟨b, off, none⟩) l.length cap, .int .i64 x, .int .i64 y] w fun e w' => e = .returned (.bool (Lat.leq l x y)) ∧ w' = w := by
  by_cases h1 : x < 0
  · rw [leq_out l x y (.inl h1)]
    clear hc hb
    go_enter Try.func41, Try.ntmps41
    go_wp2
    go_ret
    exact ⟨rfl, rfl⟩
  by_cases h2 : y < 0
  · rw [leq_out l x y (.inr (.inl h2))]
    clear hc hb
    go_enter Try.func41, Try.ntmps41
    go_wp2
    go_ret
    exact ⟨rfl, rfl⟩
  by_cases h3 : (l.length : Int) ≤ x
  · rw [leq_out l x y (.inr (.inr (.inl h3)))]
    clear hc hb
    go_enter Try.func41, Try.ntmps41
    go_wp2
    go_ret
    exact ⟨rfl, rfl⟩
  by_cases h4 : (l.length : Int) ≤ y
  · rw [leq_out l x y (.inr (.inr (.inr h4)))]
    clear hc hb
    go_enter Try.func41, Try.ntmps41
    go_wp2
    go_ret
    exact ⟨rfl, rfl⟩
  obtain ⟨x, rfl⟩ : ∃ n : Nat, x = n := ⟨x.toNat, by omega⟩
  obtain ⟨y, rfl⟩ : ∃ n : Nat, y = n := ⟨y.toNat, by omega⟩
  rw [leq_in l x y (by omega) (by omega)]
  exact refleq_nat b off cap l x y w hl hb hc (by omega) (by omega)

set_option maxHeartbeats 1000000 in
theorem refjoin_nat (b off cap : Nat) (l : List Nat) (x y : Nat) (w : World) (hl : l.length ≤ 64) (hb : ∀ x ∈ l, x < 18446744073709551616) (hc : At .u64 w b off l) (hx : x < l.length) (hy : y < l.length) :
    Calls Try.prog 54 #[.slice (some ⟨b, off, none⟩) l.length cap, .int .i64 (x : Int), .int .i64 (y : Int)] w fun e w' => e = .returned (.int .i64 (Lat.join l x y)) ∧ w' = w := by
  have hq := fun p q hp hq => refleq_nat b off cap l p q w hl hb hc hp hq
  clear hc hb
  go_enter Try.func54, Try.ntmps54
  go_wp2
  go_loop [7, 8, 9] (fun i _ _ => ∃ k : Nat, k ≤ l.length ∧ i = .int .i64 (k : Int) ∧ Hid (∀ j, j < k → (Lat.rel l x j && Lat.rel l y j && Lat.all l.length fun d => !(Lat.rel l x d && Lat.rel l y d) || Lat.rel l j d) = false)) (fun i _ _ => l.length - (intOf i).toNat)
  case atStart => exact ⟨0, Nat.zero_le _, rfl, fun j hj => by omega⟩
  case round =>
    obtain ⟨k, hk, rfl, Hn⟩ := hrel
    by_cases hlt : k < l.length
    · have h1 := hq x k hx hlt
      have h2 := hq y k hy hlt
      cases h1b : Lat.rel l x k with
      | false =>
        rw [h1b] at h1
        have HF : Hid (∀ j, j < k + 1 → (Lat.rel l x j && Lat.rel l y j && Lat.all l.length fun d => !(Lat.rel l x d && Lat.rel l y d) || Lat.rel l j d) = false) := fun j hj => by
          rcases Nat.lt_succ_iff_lt_or_eq.1 hj with h | h
          · exact Hn.out j h
          · subst h; rw [h1b]; rfl
        clear h1b h2 hq
        go_wp2_with fail
        refine h1.mono ?_
        rintro e w2 ⟨rfl, hw⟩
        subst w2
        go_wp2
        clear h1
        go_loop [8, 9] (fun o i => o = .bool false ∧ ∃ d : Nat, d ≤ l.length ∧ i = .int .i64 (d : Int)) (fun _ _ => 0)
        case atStart => exact ⟨rfl, 0, by omega, rfl⟩
        case round =>
          obtain ⟨rfl, d, hd, rfl⟩ := hrel
          by_cases hdl : d < l.length
          all_goals
            go_wp2
            go_round
            case rel => exact ⟨k + 1, by omega, by go_num, HF.out⟩
            case measure => simp [intOf]; omega
      | true =>
        rw [h1b] at h1
        cases h2b : Lat.rel l y k with
        | false =>
          rw [h2b] at h2
          have HF : Hid (∀ j, j < k + 1 → (Lat.rel l x j && Lat.rel l y j && Lat.all l.length fun d => !(Lat.rel l x d && Lat.rel l y d) || Lat.rel l j d) = false) := fun j hj => by
            rcases Nat.lt_succ_iff_lt_or_eq.1 hj with h | h
            · exact Hn.out j h
            · subst h; rw [h2b, Bool.and_false]; rfl
          clear h1b h2b hq
          go_wp2_with fail
          refine h1.mono ?_
          rintro e w2 ⟨rfl, hw⟩
          subst w2
          go_wp2_with fail
          refine h2.mono ?_
          rintro e w2 ⟨rfl, hw⟩
          subst w2
          go_wp2
          clear h1 h2
          go_loop [8, 9] (fun o i => o = .bool false ∧ ∃ d : Nat, d ≤ l.length ∧ i = .int .i64 (d : Int)) (fun _ _ => 0)
          case atStart => exact ⟨rfl, 0, by omega, rfl⟩
          case round =>
            obtain ⟨rfl, d, hd, rfl⟩ := hrel
            by_cases hdl : d < l.length
            all_goals
              go_wp2
              go_round
              case rel => exact ⟨k + 1, by omega, by go_num, HF.out⟩
              case measure => simp [intOf]; omega
        | true =>
          rw [h2b] at h2
          have HB : Hid ((Lat.rel l x k && Lat.rel l y k) = true) := by show _ = _; rw [h1b, h2b]; rfl
          have HS := fun p q hp hq2 => (show Hid (Calls _ _ _ _ _) from hq p q hp hq2)
          clear h1b h2b
          clear hq
          go_wp2_with fail
          refine h1.mono ?_
          rintro e w2 ⟨rfl, hw⟩
          subst w2
          go_wp2_with fail
          refine h2.mono ?_
          rintro e w2 ⟨rfl, hw⟩
          subst w2
          go_wp2
          clear h1 h2
          go_loop [8, 9] (fun o i => ∃ (d : Nat) (ok : Bool), d ≤ l.length ∧ o = .bool ok ∧ i = .int .i64 (d : Int) ∧ Hid (if ok then ∀ j, j < d → (!(Lat.rel l x j && Lat.rel l y j) || Lat.rel l k j) = true else (Lat.rel l x k && Lat.rel l y k && Lat.all l.length fun d => !(Lat.rel l x d && Lat.rel l y d) || Lat.rel l k d) = false)) (fun _ i => l.length - (intOf i).toNat)
          case atStart => exact ⟨0, true, by omega, rfl, rfl, fun j hj => by omega⟩
          case round =>
            obtain ⟨d, ok, hd, rfl, rfl, Hd⟩ := hrel
            cases ok with
            | false =>
              have hp : (Lat.rel l x k && Lat.rel l y k && Lat.all l.length fun d => !(Lat.rel l x d && Lat.rel l y d) || Lat.rel l k d) = false := Hd.out
              have HF : Hid (∀ j, j < k + 1 → (Lat.rel l x j && Lat.rel l y j && Lat.all l.length fun d => !(Lat.rel l x d && Lat.rel l y d) || Lat.rel l j d) = false) := fun j hj => by
                rcases Nat.lt_succ_iff_lt_or_eq.1 hj with h | h
                · exact Hn.out j h
                · subst h; exact hp
              clear hp
              by_cases hdl : d < l.length
              all_goals
                go_wp2
                go_round
                case rel => exact ⟨k + 1, by omega, by go_num, HF.out⟩
                case measure => simp [intOf]; omega
            | true =>
              have hp : ∀ j, j < d → (!(Lat.rel l x j && Lat.rel l y j) || Lat.rel l k j) = true := Hd.out
              by_cases hdl : d < l.length
              · have h1 := (HS x d hx hdl).out
                have h2 := (HS y d hy hdl).out
                have h3 := (HS k d hlt hdl).out
                have HP : Hid _ := hp
                clear hp
                have good : (!(Lat.rel l x d && Lat.rel l y d) || Lat.rel l k d) = true → Hid (∀ j, j < d + 1 → (!(Lat.rel l x j && Lat.rel l y j) || Lat.rel l k j) = true) := fun hg j hj => by
                  rcases Nat.lt_succ_iff_lt_or_eq.1 hj with h | h
                  · exact HP.out j h
                  · subst h; exact hg
                cases b1 : Lat.rel l x d with
                | false =>
                  rw [b1] at h1
                  have HG := good (by rw [b1]; rfl)
                  clear good b1 h2 h3
                  go_wp2_with fail
                  refine h1.mono ?_
                  rintro e w2 ⟨rfl, hw⟩
                  subst w2
                  go_wp2
                  go_round
                  case rel => exact ⟨d + 1, true, by omega, rfl, by go_num, HG.out⟩
                  case measure => simp [intOf]; omega
                | true =>
                  rw [b1] at h1
                  cases b2 : Lat.rel l y d with
                  | false =>
                    rw [b2] at h2
                    have HG := good (by rw [b2, Bool.and_false]; rfl)
                    clear good b1 b2 h3
                    go_wp2_with fail
                    refine h1.mono ?_
                    rintro e w2 ⟨rfl, hw⟩
                    subst w2
                    go_wp2_with fail
                    refine h2.mono ?_
                    rintro e w2 ⟨rfl, hw⟩
                    subst w2
                    go_wp2
                    go_round
                    case rel => exact ⟨d + 1, true, by omega, rfl, by go_num, HG.out⟩
                    case measure => simp [intOf]; omega
                  | true =>
                    rw [b2] at h2
                    cases b3 : Lat.rel l k d with
                    | true =>
                      rw [b3] at h3
                      have HG := good (by rw [b3, Bool.or_true])
                      clear good b1 b2 b3
                      go_wp2_with fail
                      refine h1.mono ?_
                      rintro e w2 ⟨rfl, hw⟩
                      subst w2
                      go_wp2_with fail
                      refine h2.mono ?_
                      rintro e w2 ⟨rfl, hw⟩
                      subst w2
                      go_wp2_with fail
                      refine h3.mono ?_
                      rintro e w2 ⟨rfl, hw⟩
                      subst w2
                      go_wp2
                      go_round
                      case rel => exact ⟨d + 1, true, by omega, rfl, by go_num, HG.out⟩
                      case measure => simp [intOf]; omega
                    | false =>
                      rw [b3] at h3
                      have HG : Hid ((Lat.rel l x k && Lat.rel l y k && Lat.all l.length fun d => !(Lat.rel l x d && Lat.rel l y d) || Lat.rel l k d) = false) := by
                        show _ = _
                        rw [Lat.all_false hdl (by rw [b1, b2, b3]; rfl), Bool.and_false]
                      clear good b1 b2 b3
                      go_wp2_with fail
                      refine h1.mono ?_
                      rintro e w2 ⟨rfl, hw⟩
                      subst w2
                      go_wp2_with fail
                      refine h2.mono ?_
                      rintro e w2 ⟨rfl, hw⟩
                      subst w2
                      go_wp2_with fail
                      refine h3.mono ?_
                      rintro e w2 ⟨rfl, hw⟩
                      subst w2
                      go_wp2
                      go_round
                      case rel => exact ⟨d + 1, false, by omega, rfl, by go_num, HG.out⟩
                      case measure => simp [intOf]; omega
              · have HF : Hid (Lat.join l x y = (k : Int)) := Lat.first_at hlt (by
                  show (Lat.rel l x k && Lat.rel l y k && Lat.all l.length fun d => !(Lat.rel l x d && Lat.rel l y d) || Lat.rel l k d) = true
                  rw [HB.out, Bool.true_and]
                  exact Lat.all_iff.2 fun j hj => hp j (by omega)) Hn.out
                clear hp HS
                go_wp2
                go_ret
                exact ⟨ret_int HF.out.symm, rfl⟩
    · have hfin : Hid (Lat.join l x y = -1) := Lat.first_none (fun j hj => Hn.out j (by omega))
      clear hq
      go_wp2
      go_ret
      exact ⟨ret_int hfin.out.symm, rfl⟩

set_option maxHeartbeats 1000000 in
theorem refmeet_nat (b off cap : Nat) (l : List Nat) (x y : Nat) (w : World) (hl : l.length ≤ 64) (hb : ∀ x ∈ l, x < 18446744073709551616) (hc : At .u64 w b off l) (hx : x < l.length) (hy : y < l.length) :
    Calls Try.prog 55 #[.slice (some ⟨b, off, none⟩) l.length cap, .int .i64 (x : Int), .int .i64 (y : Int)] w fun e w' => e = .returned (.int .i64 (Lat.meet l x y)) ∧ w' = w := by
  have hq := fun p q hp hq => refleq_nat b off cap l p q w hl hb hc hp hq
  clear hc hb
  go_enter Try.func55, Try.ntmps55
  go_wp2
  go_loop [7, 8, 9] (fun i _ _ => ∃ k : Nat, k ≤ l.length ∧ i = .int .i64 (k : Int) ∧ Hid (∀ j, j < k → (Lat.rel l j x && Lat.rel l j y && Lat.all l.length fun d => !(Lat.rel l d x && Lat.rel l d y) || Lat.rel l d j) = false)) (fun i _ _ => l.length - (intOf i).toNat)
  case atStart => exact ⟨0, Nat.zero_le _, rfl, fun j hj => by omega⟩
  case round =>
    obtain ⟨k, hk, rfl, Hn⟩ := hrel
    by_cases hlt : k < l.length
    · have h1 := hq k x hlt hx
      have h2 := hq k y hlt hy
      cases h1b : Lat.rel l k x with
      | false =>
        rw [h1b] at h1
        have HF : Hid (∀ j, j < k + 1 → (Lat.rel l j x && Lat.rel l j y && Lat.all l.length fun d => !(Lat.rel l d x && Lat.rel l d y) || Lat.rel l d j) = false) := fun j hj => by
          rcases Nat.lt_succ_iff_lt_or_eq.1 hj with h | h
          · exact Hn.out j h
          · subst h; rw [h1b]; rfl
        clear h1b h2 hq
        go_wp2_with fail
        refine h1.mono ?_
        rintro e w2 ⟨rfl, hw⟩
        subst w2
        go_wp2
        clear h1
        go_loop [8, 9] (fun o i => o = .bool false ∧ ∃ d : Nat, d ≤ l.length ∧ i = .int .i64 (d : Int)) (fun _ _ => 0)
        case atStart => exact ⟨rfl, 0, by omega, rfl⟩
        case round =>
          obtain ⟨rfl, d, hd, rfl⟩ := hrel
          by_cases hdl : d < l.length
          all_goals
            go_wp2
            go_round
            case rel => exact ⟨k + 1, by omega, by go_num, HF.out⟩
            case measure => simp [intOf]; omega
      | true =>
        rw [h1b] at h1
        cases h2b : Lat.rel l k y with
        | false =>
          rw [h2b] at h2
          have HF : Hid (∀ j, j < k + 1 → (Lat.rel l j x && Lat.rel l j y && Lat.all l.length fun d => !(Lat.rel l d x && Lat.rel l d y) || Lat.rel l d j) = false) := fun j hj => by
            rcases Nat.lt_succ_iff_lt_or_eq.1 hj with h | h
            · exact Hn.out j h
            · subst h; rw [h2b, Bool.and_false]; rfl
          clear h1b h2b hq
          go_wp2_with fail
          refine h1.mono ?_
          rintro e w2 ⟨rfl, hw⟩
          subst w2
          go_wp2_with fail
          refine h2.mono ?_
          rintro e w2 ⟨rfl, hw⟩
          subst w2
          go_wp2
          clear h1 h2
          go_loop [8, 9] (fun o i => o = .bool false ∧ ∃ d : Nat, d ≤ l.length ∧ i = .int .i64 (d : Int)) (fun _ _ => 0)
          case atStart => exact ⟨rfl, 0, by omega, rfl⟩
          case round =>
            obtain ⟨rfl, d, hd, rfl⟩ := hrel
            by_cases hdl : d < l.length
            all_goals
              go_wp2
              go_round
              case rel => exact ⟨k + 1, by omega, by go_num, HF.out⟩
              case measure => simp [intOf]; omega
        | true =>
          rw [h2b] at h2
          have HB : Hid ((Lat.rel l k x && Lat.rel l k y) = true) := by show _ = _; rw [h1b, h2b]; rfl
          have HS := fun p q hp hq2 => (show Hid (Calls _ _ _ _ _) from hq p q hp hq2)
          clear h1b h2b
          clear hq
          go_wp2_with fail
          refine h1.mono ?_
          rintro e w2 ⟨rfl, hw⟩
          subst w2
          go_wp2_with fail
          refine h2.mono ?_
          rintro e w2 ⟨rfl, hw⟩
          subst w2
          go_wp2
          clear h1 h2
          go_loop [8, 9] (fun o i => ∃ (d : Nat) (ok : Bool), d ≤ l.length ∧ o = .bool ok ∧ i = .int .i64 (d : Int) ∧ Hid (if ok then ∀ j, j < d → (!(Lat.rel l j x && Lat.rel l j y) || Lat.rel l j k) = true else (Lat.rel l k x && Lat.rel l k y && Lat.all l.length fun d => !(Lat.rel l d x && Lat.rel l d y) || Lat.rel l d k) = false)) (fun _ i => l.length - (intOf i).toNat)
          case atStart => exact ⟨0, true, by omega, rfl, rfl, fun j hj => by omega⟩
          case round =>
            obtain ⟨d, ok, hd, rfl, rfl, Hd⟩ := hrel
            cases ok with
            | false =>
              have hp : (Lat.rel l k x && Lat.rel l k y && Lat.all l.length fun d => !(Lat.rel l d x && Lat.rel l d y) || Lat.rel l d k) = false := Hd.out
              have HF : Hid (∀ j, j < k + 1 → (Lat.rel l j x && Lat.rel l j y && Lat.all l.length fun d => !(Lat.rel l d x && Lat.rel l d y) || Lat.rel l d j) = false) := fun j hj => by
                rcases Nat.lt_succ_iff_lt_or_eq.1 hj with h | h
                · exact Hn.out j h
                · subst h; exact hp
              clear hp
              by_cases hdl : d < l.length
              all_goals
                go_wp2
                go_round
                case rel => exact ⟨k + 1, by omega, by go_num, HF.out⟩
                case measure => simp [intOf]; omega
            | true =>
              have hp : ∀ j, j < d → (!(Lat.rel l j x && Lat.rel l j y) || Lat.rel l j k) = true := Hd.out
              by_cases hdl : d < l.length
              · have h1 := (HS d x hdl hx).out
                have h2 := (HS d y hdl hy).out
                have h3 := (HS d k hdl hlt).out
                have HP : Hid _ := hp
                clear hp
                have good : (!(Lat.rel l d x && Lat.rel l d y) || Lat.rel l d k) = true → Hid (∀ j, j < d + 1 → (!(Lat.rel l j x && Lat.rel l j y) || Lat.rel l j k) = true) := fun hg j hj => by
                  rcases Nat.lt_succ_iff_lt_or_eq.1 hj with h | h
                  · exact HP.out j h
                  · subst h; exact hg
                cases b1 : Lat.rel l d x with
                | false =>
                  rw [b1] at h1
                  have HG := good (by rw [b1]; rfl)
                  clear good b1 h2 h3
                  go_wp2_with fail
                  refine h1.mono ?_
                  rintro e w2 ⟨rfl, hw⟩
                  subst w2
                  go_wp2
                  go_round
                  case rel => exact ⟨d + 1, true, by omega, rfl, by go_num, HG.out⟩
                  case measure => simp [intOf]; omega
                | true =>
                  rw [b1] at h1
                  cases b2 : Lat.rel l d y with
                  | false =>
                    rw [b2] at h2
                    have HG := good (by rw [b2, Bool.and_false]; rfl)
                    clear good b1 b2 h3
                    go_wp2_with fail
                    refine h1.mono ?_
                    rintro e w2 ⟨rfl, hw⟩
                    subst w2
                    go_wp2_with fail
                    refine h2.mono ?_
                    rintro e w2 ⟨rfl, hw⟩
                    subst w2
                    go_wp2
                    go_round
                    case rel => exact ⟨d + 1, true, by omega, rfl, by go_num, HG.out⟩
                    case measure => simp [intOf]; omega
                  | true =>
                    rw [b2] at h2
                    cases b3 : Lat.rel l d k with
                    | true =>
                      rw [b3] at h3
                      have HG := good (by rw [b3, Bool.or_true])
                      clear good b1 b2 b3
                      go_wp2_with fail
                      refine h1.mono ?_
                      rintro e w2 ⟨rfl, hw⟩
                      subst w2
                      go_wp2_with fail
                      refine h2.mono ?_
                      rintro e w2 ⟨rfl, hw⟩
                      subst w2
                      go_wp2_with fail
                      refine h3.mono ?_
                      rintro e w2 ⟨rfl, hw⟩
                      subst w2
                      go_wp2
                      go_round
                      case rel => exact ⟨d + 1, true, by omega, rfl, by go_num, HG.out⟩
                      case measure => simp [intOf]; omega
                    | false =>
                      rw [b3] at h3
                      have HG : Hid ((Lat.rel l k x && Lat.rel l k y && Lat.all l.length fun d => !(Lat.rel l d x && Lat.rel l d y) || Lat.rel l d k) = false) := by
                        show _ = _
                        rw [Lat.all_false hdl (by rw [b1, b2, b3]; rfl), Bool.and_false]
                      clear good b1 b2 b3
                      go_wp2_with fail
                      refine h1.mono ?_
                      rintro e w2 ⟨rfl, hw⟩
                      subst w2
                      go_wp2_with fail
                      refine h2.mono ?_
                      rintro e w2 ⟨rfl, hw⟩
                      subst w2
                      go_wp2_with fail
                      refine h3.mono ?_
                      rintro e w2 ⟨rfl, hw⟩
                      subst w2
                      go_wp2
                      go_round
                      case rel => exact ⟨d + 1, false, by omega, rfl, by go_num, HG.out⟩
                      case measure => simp [intOf]; omega
              · have HF : Hid (Lat.meet l x y = (k : Int)) := Lat.first_at hlt (by
                  show (Lat.rel l k x && Lat.rel l k y && Lat.all l.length fun d => !(Lat.rel l d x && Lat.rel l d y) || Lat.rel l d k) = true
                  rw [HB.out, Bool.true_and]
                  exact Lat.all_iff.2 fun j hj => hp j (by omega)) Hn.out
                clear hp HS
                go_wp2
                go_ret
                exact ⟨ret_int HF.out.symm, rfl⟩
    · have hfin : Hid (Lat.meet l x y = -1) := Lat.first_none (fun j hj => Hn.out j (by omega))
      clear hq
      go_wp2
      go_ret
      exact ⟨ret_int hfin.out.symm, rfl⟩
end Go.Proofs.Ytjbkmflbhlnbpaa
