/- The statement OctetOpens, walked: whatever the bytes, it answers true and writes nothing that was there. -/
import Derived.Test.YtonhkmcjfggnlaaDoorOpen
namespace Go.Proofs.YtonhkmcjfggnlaaDoor
open Go.RowKit

/-- sealed bytes are opened. -/
theorem open_sealed (w0 : World) (a1 : Option Addr) (l : List Nat) (w : World) (ht : Tab w) (hr : Fresh w0 w a1 (sealed l)) (hb : ∀ x ∈ l, x < 256) (hlen : l.length + 16 ≤ 140737488355328) :
    Calls Tryd.prog 29 #[.slice a1 (l.length + 4) (l.length + 4)] w fun e w' => Fr (fun _ => False) w w' ∧ ∃ a2, e = .returned (.tuple #[.slice a2 l.length l.length, .int .i64 0]) ∧ Fresh w w' a2 l := by
  have hsl := sealed_length l
  obtain ⟨b, off, rfl, _⟩ := hr.1.2.2.2.2 (fun e => by rw [e] at hsl; simp at hsl)
  have h1 := hr.1
  rw [hsl] at h1
  refine (open_long b off (sealed l) l.length (l.length + 4) w ht h1 hsl (by omega)).mono ?_
  have htk : (sealed l).take l.length = l := by simp [sealed]
  have hok : Crc.num ((sealed l).drop l.length) = Crc.sum ((sealed l).take l.length) := by
    rw [← sealed_iff (sealed l) l.length hsl (sealed_lt l hb), htk]
  rintro e w' ⟨hf, h | ⟨_, a2, he, h2⟩⟩
  · exact absurd hok h.1
  · rw [htk] at h2
    exact ⟨hf, a2, he, h2⟩

/-- are the last four the sum of the others? -/
def SumOK (l : List Nat) : Prop := Crc.num (l.drop (l.length - 4)) = Crc.sum (l.take (l.length - 4))
theorem open_yes (ao : Option Addr) (l : List Nat) (cap : Nat) (w : World) (ht : Tab w) (hr : Row w ao l cap) (h4 : 4 ≤ l.length) (hlen : l.length ≤ 140737488355328) (hok : SumOK l) :
    Calls Tryd.prog 29 #[.slice ao l.length cap] w fun e w' => Fr (fun _ => False) w w' ∧ ∃ a1, e = .returned (.tuple #[.slice a1 (l.length - 4) (l.length - 4), .int .i64 0]) ∧ Fresh w w' a1 (l.take (l.length - 4)) := by
  obtain ⟨b, off, rfl, _⟩ := hr.2.2.2.2 (fun e => by rw [e] at h4; simp at h4)
  have := open_long b off l (l.length - 4) cap w ht hr (by omega) hlen
  rw [Nat.sub_add_cancel h4] at this
  refine this.mono ?_
  rintro e w' ⟨hf, h | ⟨_, h⟩⟩
  · exact absurd hok h.1
  · exact ⟨hf, h⟩
theorem open_no (ao : Option Addr) (l : List Nat) (cap : Nat) (w : World) (ht : Tab w) (hr : Row w ao l cap) (h4 : 4 ≤ l.length) (hlen : l.length ≤ 140737488355328) (hok : ¬ SumOK l) :
    Calls Tryd.prog 29 #[.slice ao l.length cap] w fun e w' => Fr (fun _ => False) w w' ∧ e = .returned (.tuple #[.slice none 0 0, .int .i64 4]) := by
  obtain ⟨b, off, rfl, _⟩ := hr.2.2.2.2 (fun e => by rw [e] at h4; simp at h4)
  have := open_long b off l (l.length - 4) cap w ht hr (by omega) hlen
  rw [Nat.sub_add_cancel h4] at this
  refine this.mono ?_
  rintro e w' ⟨hf, h | ⟨h, _⟩⟩
  · exact ⟨hf, h.2⟩
  · exact absurd h hok
theorem refopen_yes (ao : Option Addr) (l : List Nat) (cap : Nat) (w : World) (hr : Row w ao l cap) (h4 : 4 ≤ l.length) (hlen : l.length + 16 ≤ 140737488355328) (hok : SumOK l) :
    Calls Tryd.prog 30 #[.slice ao l.length cap] w fun e w' => Fr (fun _ => False) w w' ∧ e = .returned (.tuple #[.slice ao (l.length - 4) cap, .int .i64 0]) := by
  obtain ⟨b, off, rfl, _⟩ := hr.2.2.2.2 (fun e => by rw [e] at h4; simp at h4)
  have := refopen_long b off l (l.length - 4) cap w hr (by omega) hlen
  rw [Nat.sub_add_cancel h4] at this
  refine this.mono ?_
  rintro e w' ⟨hf, h | ⟨_, h⟩⟩
  · exact absurd hok h.1
  · exact ⟨hf, h⟩
theorem refopen_no (ao : Option Addr) (l : List Nat) (cap : Nat) (w : World) (hr : Row w ao l cap) (h4 : 4 ≤ l.length) (hlen : l.length + 16 ≤ 140737488355328) (hok : ¬ SumOK l) :
    Calls Tryd.prog 30 #[.slice ao l.length cap] w fun e w' => Fr (fun _ => False) w w' ∧ e = .returned (.tuple #[.slice none 0 0, .int .i64 4]) := by
  obtain ⟨b, off, rfl, _⟩ := hr.2.2.2.2 (fun e => by rw [e] at h4; simp at h4)
  have := refopen_long b off l (l.length - 4) cap w hr (by omega) hlen
  rw [Nat.sub_add_cancel h4] at this
  refine this.mono ?_
  rintro e w' ⟨hf, h | ⟨h, _⟩⟩
  · exact ⟨hf, h.2⟩
  · exact absurd h hok
set_option maxHeartbeats 2000000 in
theorem opens_walk (ao : Option Addr) (l : List Nat) (cap : Nat) (w : World) (ht : Tab w) (hr : Row w ao l cap) :
    Calls Tryd.prog 6 #[.slice ao l.length cap] w fun e w' => e = .returned (.bool true) ∧ Fr (fun _ => False) w w' := by
  by_cases hbig : 3000 < l.length
  · go_enter Tryd.func6, Tryd.ntmps6
    go_wp2_with fail
    refine (awake_any w ht).mono ?_
    rintro e w1 ⟨rfl, f1⟩
    go_wp2_with fail
    refine (awake_any w1 (f1.tab ht (by simp))).mono ?_
    rintro e w2 ⟨rfl, f2⟩
    go_wp2
    go_ret
    exact ⟨rfl, f1.trans f2⟩
  · have hlen : l.length + 16 ≤ 140737488355328 := by omega
    have hbb := hr.2.2.1
    by_cases hsh : l.length < 4
    · go_enter Tryd.func6, Tryd.ntmps6
      go_wp2_with fail
      refine (awake_any w ht).mono ?_
      rintro e w1 ⟨rfl, f1⟩
      go_wp2_with fail
      refine (open_short ao l cap w1 hsh).mono ?_
      rintro e w2 ⟨rfl, hw⟩
      subst w2
      go_wp2_with fail
      refine (refopen_short ao l cap w1 hsh).mono ?_
      rintro e w2 ⟨rfl, hw⟩
      subst w2
      go_wp2_with fail
      refine (seal_any ao l cap w1 (f1.tab ht (by simp)) (f1.row hr (by simp)) hlen).mono ?_
      rintro e w2 ⟨a2, rfl, h2, f2⟩
      go_wp2_with fail
      refine (open_sealed w1 a2 l w2 ((f1.trans f2).tab ht (by simp)) h2 hbb hlen).mono ?_
      rintro e w3 ⟨f3, a3, rfl, h3⟩
      have f03 := (f1.trans f2).trans f3
      have s0 := run_str w3 ao l cap (f03.row hr (by simp))
      have s1 := run_str w3 none [] 0 (row_nil w3)
      have s3 := run_str w3 a3 l _ h3.1
      simp only [List.length_nil] at s1
      clear hbb hr ht h2 h3
      go_wp2
      go_ret
      exact ⟨rfl, f03⟩
    · by_cases hok : SumOK l
      · go_enter Tryd.func6, Tryd.ntmps6
        go_wp2_with fail
        refine (awake_any w ht).mono ?_
        rintro e w1 ⟨rfl, f1⟩
        go_wp2_with fail
        refine (open_yes ao l cap w1 (f1.tab ht (by simp)) (f1.row hr (by simp)) (by omega) (by omega) hok).mono ?_
        rintro e w2 ⟨f2, a2, rfl, h2⟩
        go_wp2_with fail
        refine (refopen_yes ao l cap w2 ((f1.trans f2).row hr (by simp)) (by omega) (by omega) hok).mono ?_
        rintro e w3 ⟨f3, rfl⟩
        have f03 := (f1.trans f2).trans f3
        go_wp2_with fail
        refine (seal_any ao l cap w3 (f03.tab ht (by simp)) (f03.row hr (by simp)) hlen).mono ?_
        rintro e w4 ⟨a4, rfl, h4, f4⟩
        go_wp2_with fail
        refine (open_sealed w3 a4 l w4 ((f03.trans f4).tab ht (by simp)) h4 hbb hlen).mono ?_
        rintro e w5 ⟨f5, a5, rfl, h5⟩
        have f05 := (f03.trans f4).trans f5
        have hrt := (f05.row hr (by simp)).take (n := l.length - 4) (by omega)
        have hlt : (l.take (l.length - 4)).length = l.length - 4 := by simp
        have s0 := run_str w5 ao l cap (f05.row hr (by simp))
        have s1 := run_str' w5 a2 (l.take (l.length - 4)) _ _ hlt (((f3.trans f4).trans f5).row h2.1 (by simp))
        have s2 := run_str' w5 ao (l.take (l.length - 4)) (l.length - 4) cap hlt ⟨by have := hr.1; omega, hr.2.1, hrt.2.2.1, hr.2.2.2.1, hrt.2.2.2.2⟩
        have s3 := run_str w5 a5 l _ h5.1
        rw [hlt] at s1
        clear hbb hr ht h2 h4 h5 hrt hlt hok
        generalize strOf (l.take (l.length - 4)) = t at *
        go_wp2
        go_ret
        exact ⟨rfl, f05⟩
      · go_enter Tryd.func6, Tryd.ntmps6
        go_wp2_with fail
        refine (awake_any w ht).mono ?_
        rintro e w1 ⟨rfl, f1⟩
        go_wp2_with fail
        refine (open_no ao l cap w1 (f1.tab ht (by simp)) (f1.row hr (by simp)) (by omega) (by omega) hok).mono ?_
        rintro e w2 ⟨f2, rfl⟩
        go_wp2_with fail
        refine (refopen_no ao l cap w2 ((f1.trans f2).row hr (by simp)) (by omega) (by omega) hok).mono ?_
        rintro e w3 ⟨f3, rfl⟩
        have f03 := (f1.trans f2).trans f3
        go_wp2_with fail
        refine (seal_any ao l cap w3 (f03.tab ht (by simp)) (f03.row hr (by simp)) hlen).mono ?_
        rintro e w4 ⟨a4, rfl, h4, f4⟩
        go_wp2_with fail
        refine (open_sealed w3 a4 l w4 ((f03.trans f4).tab ht (by simp)) h4 hbb hlen).mono ?_
        rintro e w5 ⟨f5, a5, rfl, h5⟩
        have f05 := (f03.trans f4).trans f5
        have s0 := run_str w5 ao l cap (f05.row hr (by simp))
        have s1 := run_str w5 none [] 0 (row_nil w5)
        have s3 := run_str w5 a5 l _ h5.1
        simp only [List.length_nil] at s1
        clear hbb hr ht h4 h5 hok
        go_wp2
        go_ret
        exact ⟨rfl, f05⟩
end Go.Proofs.YtonhkmcjfggnlaaDoor
