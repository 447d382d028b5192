/- The statements QueueErrs and QueueLong, walked. -/
import Derived.Test.YtpnjcpamhelaeabDoorAwake6
namespace Go.Proofs.YtpnjcpamhelaeabDoor
open Go.RowKit

set_option maxRecDepth 100000 in
set_option maxHeartbeats 4000000 in
theorem errs_walk (size depth : Int) (ao : Option Addr) (p : List Nat) (cap : Nat) (w : World) (ht : Tab w) (hr : Row w ao p cap) :
    Calls Tryd.prog 4 #[.int .i64 size, .int .i64 depth, .slice ao p.length cap] w fun e w' => e = .returned (.bool true) ∧ Fr (fun _ => False) w w' := by
  have HT : Hid (Tab w) := ht
  have hpl : p.length ≤ 9223372036854775807 := by have := hr.1; have := hr.2.1; unfold maxLen at this; omega
  clear ht hr
  by_cases hlen : 1000 < p.length
  · go_enter Tryd.func4, Tryd.ntmps4
    go_wp2_with fail
    refine (awake6_any w HT.out).mono ?_
    rintro e w1 ⟨rfl, f1⟩
    go_wp2_with fail
    refine (awake6_any w1 (f1.tab HT.out (by simp))).mono ?_
    rintro e w2 ⟨rfl, f2⟩
    go_wp2
    go_ret
    exact ⟨rfl, f1.trans f2⟩
  · by_cases hok : 64 ≤ size ∧ size ≤ 4096 ∧ 1 ≤ depth ∧ depth ≤ 65536
    · obtain ⟨size, rfl⟩ : ∃ m : Nat, size = m := ⟨size.toNat, by omega⟩
      obtain ⟨depth, rfl⟩ : ∃ m : Nat, depth = m := ⟨depth.toNat, by omega⟩
      obtain ⟨o1, o2, o3, o4⟩ := hok
      go_enter Tryd.func4, Tryd.ntmps4
      go_wp2_with fail
      refine (awake6_any w HT.out).mono ?_
      rintro e w1 ⟨rfl, f1⟩
      go_wp2_with fail
      refine (qnew_any size depth 0 w1 (by omega) (by omega)).mono ?_
      rintro e w2 ⟨rfl, _, f2⟩
      go_wp2_with fail
      refine (qclear_nil w2).mono ?_
      rintro e w9 ⟨rfl, hw⟩
      subst w9
      go_wp2_with fail
      refine (qput_nil _ w2).mono ?_
      rintro e w9 ⟨rfl, hw⟩
      subst w9
      go_wp2_with fail
      refine (qslot_nil w2).mono ?_
      rintro e w9 ⟨rfl, hw⟩
      subst w9
      go_wp2_with fail
      refine (qlen_nil w2).mono ?_
      rintro e w9 ⟨rfl, hw⟩
      subst w9
      go_wp2
      go_ret
      exact ⟨ret_bool (by simp), f1.trans f2⟩
    · have way : ∀ (W : World), Calls Tryd.prog 7 #[.int .i64 size, .int .i64 depth, .int .u64 0] W fun e w' => e = .returned (.tuple #[.pointer none, .int .i64 1]) ∧ w' = W := fun W => qnew_no size depth 0 W hok
      by_cases h1 : 64 ≤ size
      · by_cases h2 : size ≤ 4096
        · by_cases h3 : 1 ≤ depth
          · have h4 : ¬ depth ≤ 65536 := fun h => hok ⟨h1, h2, h3, h⟩
            clear hok
            go_enter Tryd.func4, Tryd.ntmps4
            go_wp2_with fail
            refine (awake6_any w HT.out).mono ?_
            rintro e w1 ⟨rfl, f1⟩
            go_wp2_with fail
            refine (way w1).mono ?_
            rintro e w9 ⟨rfl, hw⟩
            subst w9
            go_wp2_with fail
            refine (qclear_nil w1).mono ?_
            rintro e w9 ⟨rfl, hw⟩
            subst w9
            go_wp2_with fail
            refine (qput_nil _ w1).mono ?_
            rintro e w9 ⟨rfl, hw⟩
            subst w9
            go_wp2_with fail
            refine (qslot_nil w1).mono ?_
            rintro e w9 ⟨rfl, hw⟩
            subst w9
            go_wp2_with fail
            refine (qlen_nil w1).mono ?_
            rintro e w9 ⟨rfl, hw⟩
            subst w9
            go_wp2
            go_ret
            exact ⟨ret_bool (by first | (simp; done) | (simp; omega)), f1⟩
          · clear hok
            go_enter Tryd.func4, Tryd.ntmps4
            go_wp2_with fail
            refine (awake6_any w HT.out).mono ?_
            rintro e w1 ⟨rfl, f1⟩
            go_wp2_with fail
            refine (way w1).mono ?_
            rintro e w9 ⟨rfl, hw⟩
            subst w9
            go_wp2_with fail
            refine (qclear_nil w1).mono ?_
            rintro e w9 ⟨rfl, hw⟩
            subst w9
            go_wp2_with fail
            refine (qput_nil _ w1).mono ?_
            rintro e w9 ⟨rfl, hw⟩
            subst w9
            go_wp2_with fail
            refine (qslot_nil w1).mono ?_
            rintro e w9 ⟨rfl, hw⟩
            subst w9
            go_wp2_with fail
            refine (qlen_nil w1).mono ?_
            rintro e w9 ⟨rfl, hw⟩
            subst w9
            go_wp2
            go_ret
            exact ⟨ret_bool (by first | (simp; done) | (simp; omega)), f1⟩
        · clear hok
          go_enter Tryd.func4, Tryd.ntmps4
          go_wp2_with fail
          refine (awake6_any w HT.out).mono ?_
          rintro e w1 ⟨rfl, f1⟩
          go_wp2_with fail
          refine (way w1).mono ?_
          rintro e w9 ⟨rfl, hw⟩
          subst w9
          go_wp2_with fail
          refine (qclear_nil w1).mono ?_
          rintro e w9 ⟨rfl, hw⟩
          subst w9
          go_wp2_with fail
          refine (qput_nil _ w1).mono ?_
          rintro e w9 ⟨rfl, hw⟩
          subst w9
          go_wp2_with fail
          refine (qslot_nil w1).mono ?_
          rintro e w9 ⟨rfl, hw⟩
          subst w9
          go_wp2_with fail
          refine (qlen_nil w1).mono ?_
          rintro e w9 ⟨rfl, hw⟩
          subst w9
          go_wp2
          go_ret
          exact ⟨ret_bool (by first | (simp; done) | (simp; omega)), f1⟩
      · clear hok
        go_enter Tryd.func4, Tryd.ntmps4
        go_wp2_with fail
        refine (awake6_any w HT.out).mono ?_
        rintro e w1 ⟨rfl, f1⟩
        go_wp2_with fail
        refine (way w1).mono ?_
        rintro e w9 ⟨rfl, hw⟩
        subst w9
        go_wp2_with fail
        refine (qclear_nil w1).mono ?_
        rintro e w9 ⟨rfl, hw⟩
        subst w9
        go_wp2_with fail
        refine (qput_nil _ w1).mono ?_
        rintro e w9 ⟨rfl, hw⟩
        subst w9
        go_wp2_with fail
        refine (qslot_nil w1).mono ?_
        rintro e w9 ⟨rfl, hw⟩
        subst w9
        go_wp2_with fail
        refine (qlen_nil w1).mono ?_
        rintro e w9 ⟨rfl, hw⟩
        subst w9
        go_wp2
        go_ret
        exact ⟨ret_bool (by first | (simp; done) | (simp; omega)), f1⟩
theorem zeros_row2 (w : World) (n : Nat) (h : n ≤ 2000000) : Row (w.alloc (.cells (cellsOf (List.replicate n 0)).toArray 5)) (some ⟨w.heap.size, 0, none⟩) (List.replicate n 0) n := by
  have := row_of_block (heap_alloc_new w (.cells (cellsOf (List.replicate n 0)).toArray 5)) (by unfold maxLen; simp; omega) (fun x hx => by have := List.eq_of_mem_replicate hx; omega)
  rwa [List.length_replicate] at this
set_option maxRecDepth 100000 in
set_option maxHeartbeats 4000000 in
theorem long_walk (n : Nat) (w : World) (ht : Tab w) (hn : n < 256) :
    Calls Tryd.prog 5 #[.int .u8 (n : Int)] w fun e w' => e = .returned (.bool true) ∧ Fr (fun _ => False) w w' := by
  have HT : Hid (Tab w) := ht
  clear ht
  obtain ⟨r, Hr⟩ : ∃ r, Hid (n % 3 = r) := ⟨_, rfl⟩
  have hr3 : r < 3 := by have := Hr.out; omega
  have hnr : (n : Int) % 3 = (r : Int) := by have := Hr.out; omega
  obtain ⟨m, Hm⟩ : ∃ m, Hid (1048576 + r = m) := ⟨_, rfl⟩
  have hmm : 1048576 + (r : Int) = (m : Int) := by have := Hm.out; omega
  go_enter Tryd.func5, Tryd.ntmps5
  go_wp2_with fail
  refine (qnew_any 64 65536 9 w (by omega) (by omega)).mono ?_
  rintro e w1 ⟨rfl, q1, f1⟩
  have hmk := run_make_bytes w1 m (by have := Hm.out; omega)
  have hrow := zeros_row2 w1 m (by have := Hm.out; omega)
  have fa := (Fr.refl (fun _ => False) w1).alloc (.cells (cellsOf (List.replicate m 0)).toArray 5)
  obtain ⟨W, HW⟩ : ∃ W, Hid (W = w1.alloc (.cells (cellsOf (List.replicate m 0)).toArray 5)) := ⟨_, rfl⟩
  rw [← HW.out] at hmk hrow fa
  have q2 := q1.fr fa (by simp) (by simp)
  have F2 : Hid (Fr (fun _ => False) w W) := f1.trans fa
  have hq1 : w.heap.size ≤ w.heap.size := Nat.le_refl _
  have hsz : w1.heap.size ≤ W.heap.size := fa.size
  by_cases h0 : r = 0
  · have hm0 : m = 1048576 := by have := Hm.out; omega
    have hpt : parts 64 1048576 = 23302 := by decide +kernel
    have kp := qput_ok q2 (F2.out.tab HT.out (by simp)) (some ⟨w1.heap.size, 0, none⟩) (List.replicate m 0) m hrow (by simp) (by omega) (by simp; omega) (by omega) (by omega) (by rw [List.length_replicate, hm0, hpt]; simp)
    have hfl := frames_length 64 9 (List.replicate m 0)
    rw [List.length_replicate, hm0, hpt] at hfl
    rw [List.length_replicate] at kp
    obtain ⟨FS, HFS⟩ : ∃ FS, Hid (frames 64 9 (List.replicate m 0) = FS) := ⟨_, rfl⟩
    rw [← hm0, HFS.out] at hfl
    rw [HFS.out] at kp
    have HKP : Hid (Calls _ _ _ _ _) := kp
    have HFL : Hid (FS.length = 23302) := hfl
    have h0' : ((r : Int) == 0) = true := by rw [h0]; rfl
    clear kp hfl hrow q1 q2 hm0 hpt h0
    go_wp2_with fail
    refine HKP.out.mono ?_
    rintro e w3 ⟨rfl, ⟨v3, q3⟩, f3⟩
    have F3 : Hid (Fr (fun _ => False) w w3) := F2.out.trans' f3 (fun i hi e => by
      rcases e with e | e
      · omega
      · exact e)
    have HQ3 : Hid (Qu w3 w.heap.size _ 64 65536 _ ([] ++ FS) v3) := q3
    clear HKP f3 q3 hmk
    go_wp2_with fail
    refine (awake6_any w3 (F3.out.tab HT.out (by simp))).mono ?_
    rintro e w4 ⟨rfl, f4⟩
    have klen := qlen_any (HQ3.out.fr f4 (by simp) (by simp))
    simp only [List.nil_append] at klen
    rw [HFL.out] at klen
    have HKL : Hid (Calls _ _ _ _ _) := klen
    clear klen
    go_wp2_with fail
    refine HKL.out.mono ?_
    rintro e w9 ⟨rfl, hw⟩
    subst w9
    go_wp2
    go_ret
    exact ⟨rfl, F3.out.trans f4⟩
  · have hpt : parts 64 m ≤ 65536 := by
      unfold parts
      have : (max m 1 - 1) / (64 - 19) ≤ 2000000 / 45 := Nat.div_le_div_right (by have := Hm.out; omega)
      omega
    have kp := qput_long q2 (some ⟨w1.heap.size, 0, none⟩) m m (by omega) (by have := Hm.out; omega) (by have := Hm.out; omega) (by simp) (by omega) (by simpa using hpt)
    have HKP : Hid (Calls _ _ _ _ _) := kp
    have HQ2 : Hid (Qu W w.heap.size (fun _ => False) 64 65536 9 [] (.slice none 0 0)) := q2
    have h0' : ((r : Int) == 0) = false := beq_eq_false_iff_ne.2 (by omega)
    clear kp hrow q1 q2 hpt
    go_wp2_with fail
    refine HKP.out.mono ?_
    rintro e w3 ⟨rfl, f3⟩
    have F3 : Hid (Fr (fun _ => False) w w3) := F2.out.trans f3
    have HQ3 : Hid (Qu w3 w.heap.size (fun _ => False) 64 65536 9 [] (.slice none 0 0)) := HQ2.out.fr f3 (by simp) (by simp)
    clear HKP f3 hmk
    go_wp2_with fail
    refine (awake6_any w3 (F3.out.tab HT.out (by simp))).mono ?_
    rintro e w4 ⟨rfl, f4⟩
    have klen := qlen_any (HQ3.out.fr f4 (by simp) (by simp))
    simp only [List.length_nil] at klen
    have HKL : Hid (Calls _ _ _ _ _) := klen
    clear klen
    go_wp2_with fail
    refine HKL.out.mono ?_
    rintro e w9 ⟨rfl, hw⟩
    subst w9
    go_wp2
    go_ret
    exact ⟨rfl, F3.out.trans f4⟩
end Go.Proofs.YtpnjcpamhelaeabDoor
