/- The statement FrameDummies, walked. -/
import Derived.Test.YtpnjcpamhelaeaaDoorRead
namespace Go.Proofs.YtpnjcpamhelaeaaDoor
open Go.RowKit
attribute [local go_sem ↓] Go.wp_at_zero Go.wp_at_succ

theorem Tab.drew {w : World} (h : Tab w) : Tab w.drew := h
set_option maxRecDepth 100000 in
set_option maxHeartbeats 4000000 in
theorem dum_walk (n : Int) (small : Nat) (w : World) (ht : Tab w) (hsm : small < 65536) :
    Calls Tryd.prog 4 #[.int .i64 n, .int .u16 (small : Int)] w fun e w' => e = .returned (.bool true) ∧ Fr (fun _ => False) w w' := by
  have HT : Hid (Tab w) := ht
  obtain ⟨s, HS0⟩ : ∃ s, Hid (64 + small % 300 = s) := ⟨_, rfl⟩
  have hs0 : 64 ≤ s ∧ s ≤ 4096 := by have := HS0.out; omega
  have hdl := dum_length s (by omega)
  clear ht
  by_cases hn : 64 ≤ n ∧ n ≤ 4096
  · obtain ⟨n, rfl⟩ : ∃ m : Nat, n = m := ⟨n.toNat, by omega⟩
    replace hn : 64 ≤ n ∧ n ≤ 4096 := by omega
    have hdn := dum_length n (by omega)
    obtain ⟨D, HD⟩ : ∃ D, Hid (dum n = D) := ⟨_, rfl⟩
    rw [HD.out] at hdn
    have kd := fun w ht => dummy_any n w ht hn
    have kr := fun w => refdummy_any n w hn
    rw [HD.out] at kd kr
    have HKD : Hid _ := kd
    have HKR : Hid _ := kr
    obtain ⟨t, Ht⟩ : ∃ t, Hid (strOf D = t) := ⟨_, rfl⟩
    have hb : (t.toList == t.toList) = true := by simp
    have HDN : Hid (D.length = n) := hdn
    clear kd kr hdn
    go_enter Tryd.func4, Tryd.ntmps4
    go_wp2_with fail
    refine (awake5_any w HT.out).mono ?_
    rintro e w1 ⟨rfl, f1⟩
    have T1 : Hid (Tab w1.drew) := (f1.tab HT.out (by simp)).drew
    go_wp2_with fail
    go_region_with (first
      | (go_at_call 17; refine (HKR.out _).mono ?_; rintro e w3 ⟨v3, rfl, ho3, f3⟩; obtain ⟨a3, c3, rfl, hr3, _⟩ := ho3.row; have s3 := run_str w3 a3 D c3 hr3; have s2 := run_str' w3 a2 D n n HDN.out (f3.row hr2 (by simp)); rw [Ht.out] at s2 s3; clear hr3 ho3)
      | (go_at_call 16; refine (HKD.out _ T1.out).mono ?_; rintro e w2 ⟨a2, rfl, hF2, f2⟩; have hr2 : Row w2 a2 D n := (by have := hF2.1; rwa [HDN.out] at this); have s1 := run_str' w2 a2 D n n HDN.out hr2; rw [Ht.out] at s1))
    all_goals
      have F3 : Hid (Fr (fun _ => False) w w3) := (f1.drew.trans f2).trans f3
      clear s1 s2 s3 hr2 hF2 f2 f3 HKR HKD
      go_wp2_with fail
      refine (size_any small _ hsm).mono ?_
      rintro e w9 ⟨rfl, hw⟩
      subst w9
      rw [HS0.out]
      go_wp2_with fail
      refine (dummy_any s _ (F3.out.tab HT.out (by simp)) hs0).mono ?_
      rintro e w4 ⟨a4, rfl, hF4, f4⟩
      have hr4 : Row w4 a4 (dum s) s := by have := hF4.1; rwa [hdl] at this
      have F4 : Hid (Fr (fun _ => False) w w4) := F3.out.trans f4
      have kr4 := read_dummy s a4 s w4 (F4.out.tab HT.out (by simp)) hr4 hs0
      unfold noPart at kr4
      have HR4 : Hid (Calls _ _ _ _ _) := kr4
      clear hr4 hF4 kr4
      go_wp2_with fail
      refine HR4.out.mono ?_
      rintro e w5 ⟨rfl, f5⟩
      go_wp2_with fail
      refine (size_any small _ hsm).mono ?_
      rintro e w9 ⟨rfl, hw⟩
      subst w9
      rw [HS0.out]
      go_wp2
      go_ret
      refine ⟨rfl, ?_⟩
      exact (F4.out.trans f5).alloc _
  · go_enter Tryd.func4, Tryd.ntmps4
    go_wp2_with fail
    refine (awake5_any w HT.out).mono ?_
    rintro e w1 ⟨rfl, f1⟩
    have s1 := run_str w1.drew none [] 0 (row_nil _)
    simp only [List.length_nil] at s1
    obtain ⟨t, Ht⟩ : ∃ t, Hid (strOf [] = t) := ⟨_, rfl⟩
    rw [Ht.out] at s1
    have hb : (t.toList == t.toList) = true := by simp
    have kd := dummy_no n w1.drew hn
    have kr := refdummy_no n w1.drew hn
    go_wp2_with fail
    go_region_with (first
      | (go_at_call 17; refine kr.mono ?_; rintro e w3 ⟨rfl, hw3⟩; subst w3)
      | (go_at_call 16; refine kd.mono ?_; rintro e w3 ⟨rfl, hw3⟩; subst w3))
    all_goals
      have F3 : Hid (Fr (fun _ => False) w w1.drew) := f1.drew
      clear kd kr s1
      go_wp2_with fail
      refine (size_any small _ hsm).mono ?_
      rintro e w9 ⟨rfl, hw⟩
      subst w9
      rw [HS0.out]
      go_wp2_with fail
      refine (dummy_any s _ (F3.out.tab HT.out (by simp)) hs0).mono ?_
      rintro e w4 ⟨a4, rfl, hF4, f4⟩
      have hr4 : Row w4 a4 (dum s) s := by have := hF4.1; rwa [hdl] at this
      have F4 : Hid (Fr (fun _ => False) w w4) := F3.out.trans f4
      have kr4 := read_dummy s a4 s w4 (F4.out.tab HT.out (by simp)) hr4 hs0
      unfold noPart at kr4
      have HR4 : Hid (Calls _ _ _ _ _) := kr4
      clear hr4 hF4 kr4
      go_wp2_with fail
      refine HR4.out.mono ?_
      rintro e w5 ⟨rfl, f5⟩
      go_wp2_with fail
      refine (size_any small _ hsm).mono ?_
      rintro e w9 ⟨rfl, hw⟩
      subst w9
      rw [HS0.out]
      go_wp2
      go_ret
      refine ⟨rfl, ?_⟩
      exact (F4.out.trans f5).alloc _
end Go.Proofs.YtpnjcpamhelaeaaDoor
