/- The statement FrameSplits, walked. -/
import Derived.Test.YtpnjcpamhelaeaaDoorLaw5
namespace Go.Proofs.YtpnjcpamhelaeaaDoor
open Go.RowKit

set_option maxRecDepth 100000 in
set_option maxHeartbeats 4000000 in
theorem splits_walk (n : Int) (small id : Nat) (ao : Option Addr) (p : List Nat) (cap : Nat) (w : World) (ht : Tab w) (hr : Row w ao p cap) (hsm : small < 65536) (hid : id < 18446744073709551616) :
    Calls Tryd.prog 3 #[.int .i64 n, .int .u16 (small : Int), .int .u64 (id : Int), .slice ao p.length cap] w fun e w' => e = .returned (.bool true) ∧ Fr (fun _ => False) w w' := by
  have HT : Hid (Tab w) := ht
  have HR : Hid (Row w ao p cap) := hr
  have hpl : p.length ≤ 9223372036854775807 := by have := hr.1; have := hr.2.1; unfold maxLen at this; omega
  clear ht hr
  by_cases hlen : 4000 < p.length
  · go_enter Tryd.func3, Tryd.ntmps3
    go_wp2_with fail
    refine (awake5_any w HT.out).mono ?_
    rintro e w1 ⟨rfl, f1⟩
    go_wp2_with fail
    refine (awake5_any w1 (f1.tab HT.out (by simp))).mono ?_
    rintro e w2 ⟨rfl, f2⟩
    go_wp2
    go_ret
    exact ⟨rfl, f1.trans f2⟩
  · obtain ⟨s, HS0⟩ : ∃ s, Hid (64 + small % 300 = s) := ⟨_, rfl⟩
    have hs0 : 64 ≤ s ∧ s ≤ 4096 := by have := HS0.out; omega
    obtain ⟨of, HP0⟩ : ∃ of, Hid (parts s p.length = of) := ⟨_, rfl⟩
    have hof1 : 1 ≤ of := by rw [← HP0.out]; exact parts_pos _ _
    have hof2 : of ≤ 23303 := by rw [← HP0.out]; exact parts_le s p.length hs0.1 (by omega)
    by_cases hn1 : 64 ≤ n ∧ n ≤ 4096
    · obtain ⟨n, rfl⟩ : ∃ m : Nat, n = m := ⟨n.toNat, by omega⟩
      replace hn1 : 64 ≤ n ∧ n ≤ 4096 := by omega
      obtain ⟨q, Hq⟩ : ∃ q, Hid (parts n p.length = q) := ⟨_, rfl⟩
      have hq1 : 1 ≤ q := by rw [← Hq.out]; exact parts_pos _ _
      have hq2 : q ≤ 23303 := by rw [← Hq.out]; exact parts_le n p.length hn1.1 (by omega)
      go_enter Tryd.func3, Tryd.ntmps3
      go_wp2_with fail
      refine (awake5_any w HT.out).mono ?_
      rintro e w1 ⟨rfl, f1⟩
      have F1 : Hid (Fr (fun _ => False) w w1) := f1
      clear f1
      go_wp2_with fail
      refine (split_ok n id ao p cap _ (F1.out.tab HT.out (by simp)) (F1.out.row HR.out (by simp)) hn1 (by omega) hid).mono ?_
      rintro e w5 ⟨g5, rfl, _, ⟨f5, hri5, hh5⟩, fr5⟩
      rw [Hq.out] at hri5 hh5 ⊢
      have HF5 : Hid (Fr (fun _ => False) w w5) := F1.out.trans fr5
      have hp5 := prow_of_held hri5 hh5 Hq.out (by omega) (by omega)
      have HP5 : Hid (PRow w5 (some ⟨g5, 0, none⟩) (frames n id p) q) := hp5.row
      clear hri5 hh5 hp5
      go_wp2_with fail
      refine (refsplit_ok n id ao p cap _ (HF5.out.row HR.out (by simp)) hn1 (by omega) hid).mono ?_
      rintro e w6 ⟨v6, rfl, ho6, fr6⟩
      obtain ⟨a6, c6, hv6, hp6, _⟩ := ho6.prow
      have hfl := frames_length n id p
      rw [Hq.out] at hfl
      have HP6 : Hid (PRow w6 a6 (frames n id p) c6) := hp6.row
      have HP56 : Hid (PRow w6 (some ⟨g5, 0, none⟩) (frames n id p) q) := HP5.out.fr fr6
      have hne : frames n id p ≠ [] := fun e => by rw [e] at hfl; simp at hfl; omega
      obtain ⟨b6, o6, hab, _⟩ := HP6.out.2.2 hne
      subst hab
      have ks := same_some g5 0 b6 o6 (frames n id p) q c6 w6 HP56.out HP6.out hne
      rw [hfl] at ks hv6
      have HKS : Hid (Calls _ _ _ _ _) := ks
      subst hv6
      have HF6 : Hid (Fr (fun _ => False) w w6) := HF5.out.trans fr6
      clear ho6 hp6 hfl ks hne fr6 fr5
      go_wp2_with fail
      refine HKS.out.mono ?_
      rintro e w7 ⟨rfl, fr7⟩
      have F4 : Hid (Fr (fun _ => False) w w7) := HF6.out.trans fr7
      clear HP5 HP6 HP56 HKS HF5 HF6 fr7
      go_wp2_with fail
      refine (size_any small _ hsm).mono ?_
      rintro e w9 ⟨rfl, hw⟩
      subst w9
      rw [HS0.out]
      go_wp2_with fail
      refine (split_ok s id ao p cap _ (F4.out.tab HT.out (by simp)) (F4.out.row HR.out (by simp)) hs0 (by omega) hid).mono ?_
      rintro e w5 ⟨g5, rfl, _, ⟨f5, hri5, hh5⟩, fr5⟩
      rw [HP0.out] at hri5 hh5 ⊢
      have HF5 : Hid (Fr (fun _ => False) w w5) := F4.out.trans fr5
      have hp5 := prow_of_held hri5 hh5 HP0.out (by omega) (by omega)
      have HP5 : Hid (PRow w5 (some ⟨g5, 0, none⟩) (frames s id p) of) := hp5.row
      clear hri5 hh5 hp5
      go_wp2_with fail
      refine (refsplit_ok s id ao p cap _ (HF5.out.row HR.out (by simp)) hs0 (by omega) hid).mono ?_
      rintro e w6 ⟨v6, rfl, ho6, fr6⟩
      obtain ⟨a6, c6, hv6, hp6, _⟩ := ho6.prow
      have hfl := frames_length s id p
      rw [HP0.out] at hfl
      have HP6 : Hid (PRow w6 a6 (frames s id p) c6) := hp6.row
      have HP56 : Hid (PRow w6 (some ⟨g5, 0, none⟩) (frames s id p) of) := HP5.out.fr fr6
      have hne : frames s id p ≠ [] := fun e => by rw [e] at hfl; simp at hfl; omega
      obtain ⟨b6, o6, hab, _⟩ := HP6.out.2.2 hne
      subst hab
      have ks := same_some g5 0 b6 o6 (frames s id p) of c6 w6 HP56.out HP6.out hne
      rw [hfl] at ks hv6
      have HKS : Hid (Calls _ _ _ _ _) := ks
      subst hv6
      have HF6 : Hid (Fr (fun _ => False) w w6) := HF5.out.trans fr6
      clear ho6 hp6 hfl ks hne fr6 fr5
      go_wp2_with fail
      refine HKS.out.mono ?_
      rintro e w7 ⟨rfl, fr7⟩
      have kp := parts_any s p.length w7 hs0 (by omega)
      rw [HP0.out] at kp
      have kr := room_any s w7 (by omega)
      obtain ⟨r, Hr⟩ : ∃ r, Hid (s - 19 = r) := ⟨_, rfl⟩
      rw [Hr.out] at kr
      have hsr : (s : Int) - 19 = (r : Int) := by have := Hr.out; omega
      go_wp2_with fail
      refine kp.mono ?_
      rintro e w9 ⟨rfl, hw⟩
      subst w9
      go_wp2_with fail
      refine kr.mono ?_
      rintro e w9 ⟨rfl, hw⟩
      subst w9
      go_wp2
      go_ret
      exact ⟨ret_bool (by simp), HF6.out.trans fr7⟩
    · go_enter Tryd.func3, Tryd.ntmps3
      go_wp2_with fail
      refine (awake5_any w HT.out).mono ?_
      rintro e w1 ⟨rfl, f1⟩
      have F1 : Hid (Fr (fun _ => False) w w1) := f1
      clear f1
      go_wp2_with fail
      refine (split_arg n id _ w1 hn1).mono ?_
      rintro e w9 ⟨rfl, hw⟩
      subst w9
      go_wp2_with fail
      refine (refsplit_arg n id _ w1 hn1).mono ?_
      rintro e w9 ⟨rfl, hw⟩
      subst w9
      go_wp2_with fail
      refine (same_nil none none 0 0 w1).mono ?_
      rintro e w7 ⟨rfl, fr7⟩
      have F4 : Hid (Fr (fun _ => False) w w7) := F1.out.trans fr7
      clear fr7
      go_wp2_with fail
      refine (size_any small _ hsm).mono ?_
      rintro e w9 ⟨rfl, hw⟩
      subst w9
      rw [HS0.out]
      go_wp2_with fail
      refine (split_ok s id ao p cap _ (F4.out.tab HT.out (by simp)) (F4.out.row HR.out (by simp)) hs0 (by omega) hid).mono ?_
      rintro e w5 ⟨g5, rfl, _, ⟨f5, hri5, hh5⟩, fr5⟩
      rw [HP0.out] at hri5 hh5 ⊢
      have HF5 : Hid (Fr (fun _ => False) w w5) := F4.out.trans fr5
      have hp5 := prow_of_held hri5 hh5 HP0.out (by omega) (by omega)
      have HP5 : Hid (PRow w5 (some ⟨g5, 0, none⟩) (frames s id p) of) := hp5.row
      clear hri5 hh5 hp5
      go_wp2_with fail
      refine (refsplit_ok s id ao p cap _ (HF5.out.row HR.out (by simp)) hs0 (by omega) hid).mono ?_
      rintro e w6 ⟨v6, rfl, ho6, fr6⟩
      obtain ⟨a6, c6, hv6, hp6, _⟩ := ho6.prow
      have hfl := frames_length s id p
      rw [HP0.out] at hfl
      have HP6 : Hid (PRow w6 a6 (frames s id p) c6) := hp6.row
      have HP56 : Hid (PRow w6 (some ⟨g5, 0, none⟩) (frames s id p) of) := HP5.out.fr fr6
      have hne : frames s id p ≠ [] := fun e => by rw [e] at hfl; simp at hfl; omega
      obtain ⟨b6, o6, hab, _⟩ := HP6.out.2.2 hne
      subst hab
      have ks := same_some g5 0 b6 o6 (frames s id p) of c6 w6 HP56.out HP6.out hne
      rw [hfl] at ks hv6
      have HKS : Hid (Calls _ _ _ _ _) := ks
      subst hv6
      have HF6 : Hid (Fr (fun _ => False) w w6) := HF5.out.trans fr6
      clear ho6 hp6 hfl ks hne fr6 fr5
      go_wp2_with fail
      refine HKS.out.mono ?_
      rintro e w7 ⟨rfl, fr7⟩
      have kp := parts_any s p.length w7 hs0 (by omega)
      rw [HP0.out] at kp
      have kr := room_any s w7 (by omega)
      obtain ⟨r, Hr⟩ : ∃ r, Hid (s - 19 = r) := ⟨_, rfl⟩
      rw [Hr.out] at kr
      have hsr : (s : Int) - 19 = (r : Int) := by have := Hr.out; omega
      go_wp2_with fail
      refine kp.mono ?_
      rintro e w9 ⟨rfl, hw⟩
      subst w9
      go_wp2_with fail
      refine kr.mono ?_
      rintro e w9 ⟨rfl, hw⟩
      subst w9
      go_wp2
      go_ret
      exact ⟨ret_bool (by simp), HF6.out.trans fr7⟩
end Go.Proofs.YtpnjcpamhelaeaaDoor
