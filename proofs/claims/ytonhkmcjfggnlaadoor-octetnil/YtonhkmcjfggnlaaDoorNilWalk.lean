/- The statement OctetNil, walked: whatever the bytes and the number, it answers true and writes nothing that was there. -/
import Derived.Test.YtonhkmcjfggnlaaDoorRef
import Derived.Test.YtonhkmcjfggnlaaDoorAwake
namespace Go.Proofs.YtonhkmcjfggnlaaDoor
open Go.RowKit

set_option maxHeartbeats 1000000 in
theorem nil_walk (ao : Option Addr) (l : List Nat) (cap : Nat) (n : Int) (w : World) (ht : Tab w) (hr : Row w ao l cap) (hn0 : -9223372036854775808 ≤ n) (hn1 : n ≤ 9223372036854775807) :
    Calls Tryd.prog 8 #[.slice ao l.length cap, .int .i64 n] w fun e w' => e = .returned (.bool true) ∧ Fr (fun _ => False) w w' := by
  by_cases hbig : 1000 < l.length
  · go_enter Tryd.func8, Tryd.ntmps8
    go_wp2_with fail
    refine (awake_any w ht).mono ?_
    rintro e w1 ⟨rfl, f1⟩
    go_wp2_with fail
    refine (awake_any w1 (f1.tab ht (by simp))).mono ?_
    rintro e w2 ⟨rfl, f2⟩
    go_wp2
    go_ret
    exact ⟨rfl, f1.trans f2⟩
  · have hcase : 0 < n ∨ n = 0 ∨ n < 0 := by omega
    rcases hcase with h | h | h
    case' inr.inl => subst h
    all_goals
      go_enter Tryd.func8, Tryd.ntmps8
      go_wp2_with fail
      refine (awake_any w ht).mono ?_
      rintro e w1 ⟨rfl, f1⟩
      go_wp2_with fail
      refine (read_any w1 ao l cap (f1.row hr (by simp))).mono ?_
      rintro e w2 ⟨rfl, hs, f2⟩
      go_wp2_with fail
      refine (rnum_bad w2 _ ao l cap false _ hs (.inl (by omega))).mono ?_
      rintro e w3 ⟨rfl, hs3, f3⟩
      have f03 : Fr (fun _ => False) w w3 := (f1.trans f2).trans' f3 (fun i hi e => by have := f1.size; omega)
      have hr3 : Row w3 ao l cap := f03.row hr (by simp)
      go_wp2_with fail
      refine (refbytes_any w3 none ao [] l 0 cap (row_nil _) hr3 (by simp; omega)).mono ?_
      rintro e w4 ⟨v4, rfl, ho4, f4⟩
      obtain ⟨l4, H4, hl4⟩ : ∃ l4 : List Nat, Hid ([] ++ Crc.le 4 l.length ++ l = l4) ∧ 4 ≤ l4.length := ⟨[] ++ Crc.le 4 l.length ++ l, show _ = _ from rfl, by simp [Crc.le_length]⟩
      rw [H4.out] at ho4
      obtain ⟨a4, c4, hv4, hr4, hb4⟩ := ho4.row
      subst hv4
      go_wp2_with fail
      refine (read_any w4 a4 l4 c4 hr4).mono ?_
      rintro e w5 ⟨rfl, ht5, f5⟩
      go_wp2_with fail
      refine (bytes_bad w5 _ a4 l4 c4 false _ ht5 (by omega) (.inr ⟨rfl, hl4, .inl (by omega)⟩)).mono ?_
      rintro e w6 ⟨a6, rfl, hf6, ht6, f6⟩
      have hs6 : Rd w6 w1.heap.size none [] 0 true := ((hs3.fr f4 (by simp) (by simp)).fr f5 (by simp) (by simp)).fr f6 (by have := hs3.lt; have := f4.size; omega) (by simp)
      have f06 : Fr (fun _ => False) w w6 := ((f03.trans f4).trans f5).trans' f6 (fun i hi e => by have := f03.size; have := f4.size; omega)
      go_wp2_with fail
      refine (bad_nil w6).mono ?_
      rintro e w7 ⟨rfl, hw7⟩
      subst w7
      go_wp2_with fail
      refine (end_nil w6).mono ?_
      rintro e w7 ⟨rfl, hw7⟩
      subst w7
      go_wp2_with fail
      refine (rnum_nil w6 1).mono ?_
      rintro e w7 ⟨rfl, hw7⟩
      subst w7
      go_wp2_with fail
      refine (bytes_nil w6 9 (by omega)).mono ?_
      rintro e w7 ⟨a7, rfl, _, f7⟩
      go_wp2_with fail
      refine (flag_nil w7).mono ?_
      rintro e w8 ⟨rfl, hw8⟩
      subst w8
      go_wp2_with fail
      refine (count_nil w7 9 (by omega)).mono ?_
      rintro e w8 ⟨rfl, hw8⟩
      subst w8
      go_wp2_with fail
      refine (left_nil w7).mono ?_
      rintro e w8 ⟨rfl, hw8⟩
      subst w8
      go_wp2_with fail
      refine (bad_any w7 _ true (f7.cell hs6.c1 (by simp))).mono ?_
      rintro e w8 ⟨rfl, hw8⟩
      subst w8
      go_wp2_with fail
      refine (bad_any w7 _ true (f7.cell ht6.c1 (by simp))).mono ?_
      rintro e w8 ⟨rfl, hw8⟩
      subst w8
      go_wp2
      go_ret
      exact ⟨rfl, f06.trans f7⟩
end Go.Proofs.YtonhkmcjfggnlaaDoor
