/- The document's example of a disk, and a nil disk. -/
import Derived.Test.YtdkepkgckameiaaDisk2
namespace Go.Proofs.Ytdkepkgckameiaa
open Go.RowKit

theorem abc_row (w : World) : Row (w.alloc (.cells #[.int .u8 97, .int .u8 98, .int .u8 99] 5 (3, 4))) (some ⟨w.heap.size, 0, none⟩) [97, 98, 99] 3 := by
  refine ⟨by simp, by unfold maxLen; simp, by decide, fun h => (by cases h), fun _ => ⟨w.heap.size, 0, rfl, fun i hi => ?_⟩⟩
  simp only [List.length_cons, List.length_nil] at hi
  rw [Nat.zero_add, cell_of_row _ w.heap.size i _ 5 (3, 4) (heap_alloc_new w _)]
  match i, hi with
  | 0, _ | 1, _ | 2, _ => rfl
theorem de_row (w : World) : Row (w.alloc (.cells #[.int .u8 100, .int .u8 101] 5 (2, 3))) (some ⟨w.heap.size, 0, none⟩) [100, 101] 2 := by
  refine ⟨by simp, by unfold maxLen; simp, by decide, fun h => (by cases h), fun _ => ⟨w.heap.size, 0, rfl, fun i hi => ?_⟩⟩
  simp only [List.length_cons, List.length_nil] at hi
  rw [Nat.zero_add, cell_of_row _ w.heap.size i _ 5 (2, 3) (heap_alloc_new w _)]
  match i, hi with
  | 0, _ | 1, _ => rfl
set_option maxRecDepth 100000 in
set_option maxHeartbeats 2000000 in
theorem awake_any (w : World) : Calls Try.prog 6 #[] w fun e w' => e = .returned (.bool true) ∧ Fr (fun _ => False) w w' := by
  go_enter Try.func6, Try.ntmps6
  go_wp2_with fail
  refine (new_any w w.heap.size (Nat.le_refl _)).mono ?_
  rintro e w1 ⟨rfl, d1, f1⟩
  have kc := Lib.run_convert_bytes_const (P := Try.prog) w1 23 5 #[.int .u8 97, .int .u8 98, .int .u8 99] 3 3 Try.underlying23 Try.underlying5
  have g1 := (Fr.refl (fun _ => False) w1).alloc (.cells #[.int .u8 97, .int .u8 98, .int .u8 99] 5 (3, 4))
  have hlt1 := d1.lt
  have K1 : Hid (Calls _ _ _ _ _) := append_any (d1.fr g1 (by simp) (by simp)) (by omega) (some ⟨w1.heap.size, 0, none⟩) [97, 98, 99] 3 (abc_row w1) (fun _ a ha e => by cases ha; simp at e; omega) (by simp)
  have F1 : Hid (Fr (fun _ => False) w (w1.alloc (.cells #[.int .u8 97, .int .u8 98, .int .u8 99] 5 (3, 4)))) := f1.trans g1
  have hs1 : w.heap.size ≤ w1.heap.size := f1.size
  clear d1 f1 g1
  go_wp2_with fail
  refine K1.out.mono ?_
  rintro e w2 ⟨rfl, ⟨v2, d2, _⟩, f2⟩
  have F2 : Hid (Fr (fun _ => False) w w2) := F1.out.trans' f2 (fun i hi e => by
    rcases e with e | e
    · omega
    · simp [Value.ownBlock] at e)
  have K2 : Hid (Calls _ _ _ _ _) := sync_any d2 (by omega)
  obtain ⟨qb, Hqb⟩ : ∃ qb, Hid (w.heap.size = qb) := ⟨_, rfl⟩
  rw [Hqb.out] at K2 ⊢
  clear K1 F1 d2 f2 kc
  go_wp2_with fail
  refine K2.out.mono ?_
  rintro e w3 ⟨rfl, d3, f3⟩
  have F3 : Hid (Fr (fun _ => False) w w3) := F2.out.trans' f3 (fun i hi e => by have := Hqb.out; omega)
  have kc3 := Lib.run_convert_bytes_const (P := Try.prog) w3 23 5 #[.int .u8 100, .int .u8 101] 2 2 Try.underlying23 Try.underlying5
  have g3 := (Fr.refl (fun _ => False) w3).alloc (.cells #[.int .u8 100, .int .u8 101] 5 (2, 3))
  have hlt3 := d3.lt
  have K3 : Hid (Calls _ _ _ _ _) := append_any (d3.fr g3 (by simp) (by simp)) (by omega) (some ⟨w3.heap.size, 0, none⟩) [100, 101] 2 (de_row w3) (fun _ a ha e => by cases ha; simp at e; omega) (by simp)
  have HV2 : Hid (∀ k, v2.ownBlock = some k → w.heap.size ≤ k) := fun k hk => by have := (d3.own.lt k hk).1; have := Hqb.out; omega
  clear K2 d3 f3 F2
  go_wp2_with fail
  refine K3.out.mono ?_
  rintro e w4 ⟨rfl, ⟨v4, d4, _⟩, f4⟩
  have F4 : Hid (Fr (fun _ => False) w w4) := (F3.out.trans g3).trans' f4 (fun i hi e => by
    rcases e with e | e
    · have := Hqb.out; omega
    · have := HV2.out i e; omega)
  have K4 : Hid (Calls _ _ _ _ _) := crash_any d4 1 (by omega)
  clear K3 d4 f4 kc3 g3 F3
  go_wp2_with fail
  refine K4.out.mono ?_
  rintro e w5 ⟨rfl, ⟨v5, d5, _⟩, f5⟩
  have F5 : Hid (Fr (fun _ => False) w w5) := F4.out.trans' f5 (fun i hi e => by have := Hqb.out; omega)
  have d5' : Dk w5 qb qb [97, 98, 99, 100] 4 3 v5 := d5
  have HD5 : Hid (Dk w5 qb qb [97, 98, 99, 100] 4 3 v5) := d5'
  have K5 : Hid (Calls _ _ _ _ _) := read_any d5' (by simp)
  clear d5 d5' f5 K4 F4
  go_wp2_with fail
  refine K5.out.mono ?_
  rintro e w6 ⟨v6, rfl, o6, f6⟩
  obtain ⟨a6, c6, rfl, hr6, _⟩ := o6.row
  have hs6 : (convert 23 9 (.slice a6 4 c6)).run Try.prog w6 = .ok (.string (strOf [97, 98, 99, 100])) w6 := run_str w6 a6 [97, 98, 99, 100] c6 hr6
  have d6 := HD5.out.fr f6 (by simp) (by simp)
  have K6 : Hid (Calls _ _ _ _ _) := sure_any d6
  have K7 : Hid (Calls _ _ _ _ _) := ops_any d6
  have F6 : Hid (Fr (fun _ => False) w w6) := F5.out.trans f6
  have hst : strOf [97, 98, 99, 100] = ⟨#[97, 98, 99, 100]⟩ := rfl
  rw [hst] at hs6
  clear K5 hr6 o6 f6 d6 HD5 F5
  go_wp2_with fail
  refine K6.out.mono ?_
  rintro e w7 ⟨rfl, rfl⟩
  go_wp2_with fail
  refine K7.out.mono ?_
  rintro e w8 ⟨rfl, rfl⟩
  go_wp2
  go_ret
  exact ⟨rfl, F6.out⟩

set_option maxRecDepth 100000 in
set_option maxHeartbeats 2000000 in
theorem nil_walk (ao : Option Addr) (p : List Nat) (cap : Nat) (n : Int) (w : World) (hr : Row w ao p cap) (_hn : -9223372036854775808 ≤ n ∧ n ≤ 9223372036854775807) :
    Calls Try.prog 5 #[.slice ao p.length cap, .int .i64 n] w fun e w' => e = .returned (.bool true) ∧ Fr (fun _ => False) w w' := by
  have hml : p.length ≤ 9223372036854775807 := by have := hr.1; have := hr.2.1; unfold maxLen at this; omega
  clear hr
  by_cases hlong : 500 < p.length
  · go_enter Try.func5, Try.ntmps5
    go_wp2_with fail
    refine (awake_any w).mono ?_
    rintro e w1 ⟨rfl, f1⟩
    go_wp2_with fail
    refine (awake_any w1).mono ?_
    rintro e w2 ⟨rfl, f2⟩
    go_wp2
    go_ret
    exact ⟨rfl, f1.trans f2⟩
  · go_enter Try.func5, Try.ntmps5
    go_wp2_with fail
    refine (awake_any w).mono ?_
    rintro e w1 ⟨rfl, f1⟩
    go_wp2_with fail
    refine (crash_nil n w1).mono ?_
    rintro e w2 ⟨rfl, rfl⟩
    go_wp2_with fail
    refine (append_nil _ _).mono ?_
    rintro e w2 ⟨rfl, rfl⟩
    go_wp2_with fail
    refine (sync_nil _).mono ?_
    rintro e w2 ⟨rfl, rfl⟩
    go_wp2_with fail
    refine (put_nil _ _).mono ?_
    rintro e w2 ⟨rfl, rfl⟩
    go_wp2_with fail
    refine (read_nil _).mono ?_
    rintro e w2 ⟨rfl, rfl⟩
    go_wp2_with fail
    refine (len_nil _).mono ?_
    rintro e w2 ⟨rfl, rfl⟩
    go_wp2_with fail
    refine (sure_nil _).mono ?_
    rintro e w2 ⟨rfl, rfl⟩
    go_wp2_with fail
    refine (ops_nil _).mono ?_
    rintro e w2 ⟨rfl, rfl⟩
    go_wp2
    go_ret
    exact ⟨rfl, f1⟩
end Go.Proofs.Ytdkepkgckameiaa
