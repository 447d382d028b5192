/- A lattice made: of labels that are one, and of such as are none. -/
import Derived.Test.YtjbkmflbhlnbpaaBelow
import Derived.Test.YtjbkmflbhlnbpaaCheck
namespace Go.Proofs.Ytjbkmflbhlnbpaa
open Go.RowKit

def nilErr (n : Int) : Ending := .returned (.tuple #[.pointer none, .int .i64 n])
def madeAt (p : Nat) : Ending := .returned (.tuple #[.pointer (some ⟨p, 0, none⟩), .int .i64 0])

set_option maxHeartbeats 400000 in
theorem new_arg (ao : Option Addr) (n cap : Nat) (w : World) (h : n = 0 ∨ 16 < n) (hm : n ≤ maxLen) :
    Calls Try.prog 33 #[.slice ao n cap] w fun e w' => e = nilErr 1 ∧ w' = w := by
  unfold maxLen at hm
  rcases h with rfl | h
  · go_enter Try.func33, Try.ntmps33
    go_wp2
    go_ret2
    exact ⟨rfl, rfl⟩
  · have h0 : ¬ n = 0 := by omega
    go_enter Try.func33, Try.ntmps33
    go_wp2
    go_ret2
    exact ⟨rfl, rfl⟩

theorem two_blocks (w : World) (a b c : Value) (t : TypeId) : (w.alloc (.cells #[a, b, c] t)).cell? ⟨w.heap.size, 0, none⟩ = some a ∧ (w.alloc (.cells #[a, b, c] t)).cell? ⟨w.heap.size, 1, none⟩ = some b ∧ (w.alloc (.cells #[a, b, c] t)).cell? ⟨w.heap.size, 2, none⟩ = some c := by
  have h := fun j => cell_of_row (w.alloc (.cells #[a, b, c] t)) w.heap.size j _ t (0, 0) (heap_alloc_new w _)
  exact ⟨h 0, h 1, h 2⟩
set_option maxHeartbeats 1000000 in
theorem new_bad (b off cap : Nat) (l : List Nat) (w : World) (hl : l.length ≤ 16) (hl0 : 0 < l.length) (hb : ∀ x ∈ l, x < 18446744073709551616) (hc : At .u64 w b off l) (hok : Lat.ok l = false) :
    Calls Try.prog 33 #[.slice (some ⟨b, off, none⟩) l.length cap] w fun e w' => e = nilErr 15 ∧ Fr (fun _ => False) w w' := by
  rw [Lat.ok_eq hb (by omega)] at hok
  have hne : ((l.length : Int) == 0) = false := beq_eq_false_iff_ne.2 (by omega)
  have h16 : decide (16 < (l.length : Int)) = false := decide_eq_false (by omega)
  have h1 := alone_any b off cap l w (by omega) hb hc
  cases ha : Lat.alone l with
  | false =>
    rw [ha] at h1
    clear hok ha
    go_enter Try.func33, Try.ntmps33
    go_wp2_with fail
    refine h1.mono ?_
    rintro e w2 ⟨rfl, hw⟩
    subst w2
    go_wp2
    go_ret2
    exact ⟨rfl, Fr.refl _ _⟩
  | true =>
    rw [ha] at h1 hok
    have h2 := turned_any b off cap l w (by omega) hb hc
    cases ho : Lat.ord l (Lat.turn l) with
    | false =>
      clear hok
      go_enter Try.func33, Try.ntmps33
      go_wp2_with fail
      refine h1.mono ?_
      rintro e w2 ⟨rfl, hw⟩
      subst w2
      go_wp2_with fail
      refine h2.mono ?_
      rintro e w2 ⟨rfl, hr, hf⟩
      have hA := At.of_row (l := Lat.turn l) (by rw [Lat.turn_length]; exact hr)
      have h3 := ordered_any b off cap w.heap.size 0 l.length l (Lat.turn l) w2 (Lat.turn_length l) (by omega) hb (Lat.turn_lt (by omega)) (hc.fr hf (by simp)) hA
      rw [ho] at h3
      clear ho ha h2
      go_wp2_with fail
      refine h3.mono ?_
      rintro e w3 ⟨rfl, hf3⟩
      go_wp2
      go_ret2
      exact ⟨rfl, hf.trans hf3⟩
    | true =>
      rw [ho] at hok
      cases hu : Lat.bnd l with
      | false =>
        clear hok
        go_enter Try.func33, Try.ntmps33
        go_wp2_with fail
        refine h1.mono ?_
        rintro e w2 ⟨rfl, hw⟩
        subst w2
        go_wp2_with fail
        refine h2.mono ?_
        rintro e w2 ⟨rfl, hr, hf⟩
        have hA := At.of_row (l := Lat.turn l) (by rw [Lat.turn_length]; exact hr)
        have h3 := ordered_any b off cap w.heap.size 0 l.length l (Lat.turn l) w2 (Lat.turn_length l) (by omega) hb (Lat.turn_lt (by omega)) (hc.fr hf (by simp)) hA
        rw [ho] at h3
        clear ho ha h2
        go_wp2_with fail
        refine h3.mono ?_
        rintro e w3 ⟨rfl, hf3⟩
        have h4 := bounded_any b off cap l w3 (by omega) hb ((hc.fr hf (by simp)).fr hf3 (by simp))
        rw [hu] at h4
        clear hu h3
        go_wp2_with fail
        refine h4.mono ?_
        rintro e w4 ⟨rfl, hw⟩
        subst w4
        go_wp2
        go_ret2
        exact ⟨rfl, hf.trans hf3⟩
      | true =>
        rw [hu] at hok
        have hd : Lat.bnd (Lat.turn l) = false := by simpa using hok
        clear hok
        go_enter Try.func33, Try.ntmps33
        go_wp2_with fail
        refine h1.mono ?_
        rintro e w2 ⟨rfl, hw⟩
        subst w2
        go_wp2_with fail
        refine h2.mono ?_
        rintro e w2 ⟨rfl, hr, hf⟩
        have hA := At.of_row (l := Lat.turn l) (by rw [Lat.turn_length]; exact hr)
        have h3 := ordered_any b off cap w.heap.size 0 l.length l (Lat.turn l) w2 (Lat.turn_length l) (by omega) hb (Lat.turn_lt (by omega)) (hc.fr hf (by simp)) hA
        rw [ho] at h3
        clear ho ha h2
        go_wp2_with fail
        refine h3.mono ?_
        rintro e w3 ⟨rfl, hf3⟩
        have h4 := bounded_any b off cap l w3 (by omega) hb ((hc.fr hf (by simp)).fr hf3 (by simp))
        have h5 := bounded_any w.heap.size 0 l.length (Lat.turn l) w3 (by rw [Lat.turn_length]; omega) (Lat.turn_lt (by omega)) (hA.fr hf3 (by simp))
        rw [Lat.turn_length] at h5
        rw [hu] at h4
        rw [hd] at h5
        clear hu h3 hd
        go_wp2_with fail
        refine h4.mono ?_
        rintro e w4 ⟨rfl, hw⟩
        subst w4
        go_wp2_with fail
        refine h5.mono ?_
        rintro e w4 ⟨rfl, hw⟩
        subst w4
        go_wp2
        go_ret2
        exact ⟨rfl, hf.trans hf3⟩
theorem fine_of (l : List Nat) (hl : l.length ≤ 16) (hl0 : 0 < l.length) (hb : ∀ x ∈ l, x < 18446744073709551616) (hok : Lat.ok l = true) : Fine l := by
  rw [Lat.ok_eq hb (by omega)] at hok
  simp only [Bool.and_eq_true] at hok
  exact ⟨hl0, hl, hb, hok.1.1.1⟩
set_option maxHeartbeats 1000000 in
theorem new_ok (b off cap : Nat) (l : List Nat) (w : World) (hl : l.length ≤ 16) (hl0 : 0 < l.length) (hb : ∀ x ∈ l, x < 18446744073709551616) (hc : At .u64 w b off l) (hok : Lat.ok l = true) :
    Calls Try.prog 33 #[.slice (some ⟨b, off, none⟩) l.length cap] w fun e w' => ∃ p bu cu bd bo, e = madeAt p ∧ LatAt w' p bu cu bd bo l ∧ w.heap.size ≤ p ∧ w.heap.size ≤ bu ∧ w.heap.size ≤ bd ∧ w.heap.size ≤ bo ∧ Fr (fun _ => False) w w' := by
  rw [Lat.ok_eq hb (by omega)] at hok
  simp only [Bool.and_eq_true] at hok
  obtain ⟨⟨⟨ha, ho⟩, hu⟩, hd⟩ := hok
  have hne : ((l.length : Int) == 0) = false := beq_eq_false_iff_ne.2 (by omega)
  have h16 : decide (16 < (l.length : Int)) = false := decide_eq_false (by omega)
  have h1 := alone_any b off cap l w (by omega) hb hc
  have h2 := turned_any b off cap l w (by omega) hb hc
  rw [ha] at h1
  go_enter Try.func33, Try.ntmps33
  go_wp2_with fail
  refine h1.mono ?_
  rintro e w2 ⟨rfl, hw⟩
  subst w2
  go_wp2_with fail
  refine h2.mono ?_
  rintro e w2 ⟨rfl, hr, hf⟩
  have hA := At.of_row (l := Lat.turn l) (by rw [Lat.turn_length]; exact hr)
  have h3 := ordered_any b off cap w.heap.size 0 l.length l (Lat.turn l) w2 (Lat.turn_length l) (by omega) hb (Lat.turn_lt (by omega)) (hc.fr hf (by simp)) hA
  rw [ho] at h3
  clear ho ha h2
  go_wp2_with fail
  refine h3.mono ?_
  rintro e w3 ⟨rfl, hf3⟩
  have hc3 := (hc.fr hf (by simp)).fr hf3 (by simp)
  have h4 := bounded_any b off cap l w3 (by omega) hb hc3
  have h5 := bounded_any w.heap.size 0 l.length (Lat.turn l) w3 (by rw [Lat.turn_length]; omega) (Lat.turn_lt (by omega)) (hA.fr hf3 (by simp))
  rw [Lat.turn_length] at h5
  rw [hu] at h4
  rw [hd] at h5
  have h6 := cloneU_any b off cap l w3 (by omega) hl0 hc3
  clear hu h3 hd
  go_wp2_with fail
  refine h4.mono ?_
  rintro e w4 ⟨rfl, hw⟩
  subst w4
  go_wp2_with fail
  refine h5.mono ?_
  rintro e w4 ⟨rfl, hw⟩
  subst w4
  clear h4 h5
  go_wp2_with fail
  refine h6.mono ?_
  rintro e w4 ⟨bu, cu, rfl, hbu, hAu, hf4⟩
  have hr4 := hf4.rowIs (hf3.rowIs hr (by simp)) (by simp)
  have h7 := bydepth_any l w.heap.size w4 (by omega) hl0 hr4
  clear h6
  go_wp2_with fail
  refine h7.mono ?_
  rintro e w5 ⟨bo, rfl, hbo, hAo, hf5⟩
  have hAu5 := hAu.fr hf5 (by simp)
  have hAd5 := At.of_row (l := Lat.turn l) (by rw [Lat.turn_length]; exact hf5.rowIs hr4 (by simp))
  have f35 := hf.trans (hf3.trans (hf4.trans hf5))
  clear h7 hr4
  go_wp2
  go_ret2
  obtain ⟨t0, t1, t2⟩ := two_blocks w5 (.slice (some ⟨bu, 0, none⟩) l.length cu) (.slice (some ⟨w.heap.size, 0, none⟩) l.length l.length) (.slice (some ⟨bo, 0, none⟩) l.length l.length) 76
  have fa : Fr (fun _ => False) w5 (w5.alloc (.cells #[.slice (some ⟨bu, 0, none⟩) l.length cu, .slice (some ⟨w.heap.size, 0, none⟩) l.length l.length, .slice (some ⟨bo, 0, none⟩) l.length l.length] 76)) := (Fr.refl _ _).alloc _
  have s1 := f35.size
  have s2 := hf.size
  have s3 := hf3.size
  have s4 := hf4.size
  exact ⟨w5.heap.size, bu, cu, w.heap.size, bo, rfl, ⟨t0, t1, t2, hAu5.fr fa (by simp), hAd5.fr fa (by simp), hAo.fr fa (by simp)⟩, s1, by omega, Nat.le_refl _, by omega, f35.trans fa⟩
end Go.Proofs.Ytjbkmflbhlnbpaa
