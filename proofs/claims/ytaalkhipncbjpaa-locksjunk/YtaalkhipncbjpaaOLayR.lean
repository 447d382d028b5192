/- lay.ReadNumber, lay.ReadRule: what they read. -/
import Derived.Test.YtaalkhipncbjpaaOBackN
import Derived.Test.YtaalkhipncbjpaaLocC
import Derived.Test.YtaalkhipncbjpaaORead
namespace Go.Proofs.Ytaalkhipncbjpaa
open Go.RowKit
attribute [local go_sem] run_store_float
/-- a reader whose bytes lie below B. -/
def Rx (w : World) (rb B : Nat) (s : Rs) : Prop := ∃ ao cap, Rd w rb ao s.l cap s.bad ∧ (s.l ≠ [] → ∀ a, ao = some a → a.block < B)
theorem Rx.lt {w : World} {rb B : Nat} {s : Rs} (h : Rx w rb B s) : rb < w.heap.size := by
  obtain ⟨_, _, h, _⟩ := h
  exact h.lt
theorem Rx.fr {S : Nat → Prop} {w w1 : World} {rb B : Nat} {s : Rs} (h : Rx w rb B s) (f : Fr S w w1) (hs : ¬ S rb) (hr : ∀ k, k < B → ¬ S k) : Rx w1 rb B s := by
  obtain ⟨ao, cap, h, hB⟩ := h
  exact ⟨ao, cap, h.fr f hs (fun hl a ha => hr _ (hB hl a ha)), hB⟩
theorem Rx.byte {w : World} {rb B : Nat} {s : Rs} (h : Rx w rb B s) : ∀ x ∈ s.l, x < 256 := by
  obtain ⟨_, _, h, _⟩ := h
  exact h.row.2.2.1
theorem rx_bad {w : World} {rb B : Nat} (h : Rd w rb none [] 0 true) : Rx w rb B ⟨[], true⟩ := ⟨none, 0, h, fun _ a ha => by cases ha⟩
theorem rnum_x {w : World} {rb B : Nat} {s : Rs} (n : Nat) (h : Rx w rb B s) (h8 : n ≤ 8) :
    Calls Try.prog 63 #[.pointer (some ⟨rb, 0, none⟩), .int .i64 (n : Int)] w fun e w' => ∃ v s1, e = .returned (.int .u64 ((v : Nat) : Int)) ∧ Hid (v = numV s n) ∧ Hid (s1 = numS s n) ∧ v < 256 ^ n ∧ Rx w' rb B s1 ∧ Fr (fun k => k = rb) w w' := by
  have hlt := numV_lt s n h.byte
  obtain ⟨ao, cap, h, hB⟩ := h
  by_cases hh : s.has n
  · obtain ⟨l, bad⟩ := s
    obtain ⟨hb, hn⟩ := hh
    simp only at hb hn h hB
    subst hb
    refine (rnum_ok w rb ao l cap n h hn h8).mono ?_
    rintro e w' ⟨rfl, a1, h1, f, hbl⟩
    have e1 : numV ⟨l, false⟩ n = Crc.num (l.take n) := by unfold numV; rw [if_pos ⟨rfl, hn⟩]
    have e2 : numS ⟨l, false⟩ n = ⟨l.drop n, false⟩ := by unfold numS; rw [if_pos ⟨rfl, hn⟩]
    refine ⟨_, _, by rw [e1], rfl, rfl, hlt, ?_, f⟩
    rw [e2]
    refine ⟨a1, _, h1, fun hl a ha => ?_⟩
    obtain ⟨a0, ha0, he⟩ := hbl a ha
    rw [he]
    exact hB (fun e => hl (by simp [e])) a0 ha0
  · have e1 : numV s n = 0 := by unfold numV; rw [if_neg hh]
    have e2 : numS s n = ⟨[], true⟩ := by unfold numS; rw [if_neg hh]
    obtain ⟨l, bad⟩ := s
    simp only at h
    cases bad with
    | true =>
      have hl := h.none rfl
      subst hl
      refine (rnum_after w rb ao [] cap n h).mono ?_
      rintro e w' ⟨rfl, a1, c1, h1, f⟩
      exact ⟨_, _, by rw [e1]; rfl, rfl, rfl, hlt, by rw [e2]; exact ⟨a1, c1, h1, fun hl => absurd rfl hl⟩, f⟩
    | false =>
      have hn : l.length < n := by
        rcases Nat.lt_or_ge l.length n with h' | h'
        · exact h'
        · exact absurd ⟨rfl, h'⟩ hh
      refine (rnum_bad w rb ao l cap false n h (.inr (by omega))).mono ?_
      rintro e w' ⟨rfl, h1, f⟩
      exact ⟨_, _, by rw [e1]; rfl, rfl, rfl, hlt, by rw [e2]; exact rx_bad h1, f⟩
set_option maxHeartbeats 400000 in
theorem fault_any {w : World} {rb : Nat} {ao : Option Addr} {l : List Nat} {cap : Nat} {bad : Bool} (h : Rd w rb ao l cap bad) :
    Calls Try.prog 99 #[.pointer (some ⟨rb, 0, none⟩)] w fun e w' => e = .returned (.tuple #[]) ∧ Rd w' rb none [] 0 true ∧ Fr (fun k => k = rb) w w' := by
  have K : Hid (Calls _ _ _ _ _) := rnum_bad w rb ao l cap bad (-1) h (.inl (by omega))
  clear h
  go_enter Try.func99, Try.ntmps99
  go_wp2_with fail
  refine K.out.mono ?_
  rintro e w1 ⟨rfl, h1, f1⟩
  go_wp2
  go_end0
  exact ⟨rfl, h1, f1⟩
set_option maxHeartbeats 400000 in
theorem readnum_x {w : World} {rb B : Nat} {s : Rs} (h : Rx w rb B s) :
    Calls Try.prog 66 #[.pointer (some ⟨rb, 0, none⟩)] w fun e w' => ∃ v t, e = .returned (.float .f64 v) ∧ Hid (v = fltV s) ∧ Hid (t = fltS s) ∧ v < 18446744073709551616 ∧ Rx w' rb B t ∧ Fr (fun k => k = rb) w w' := by
  have K : Hid (Calls _ _ _ _ _) := rnum_x 8 h (by omega)
  clear h
  go_enter Try.func66, Try.ntmps66
  go_wp2_with fail
  refine K.out.mono ?_
  rintro e w1 ⟨n, t, rfl, Hn, Ht, hn, h1, f1⟩
  have hn64 : n < 18446744073709551616 := hn
  have KB : Hid (Calls _ _ _ _ _) := back_any n w1 hn64
  have HBK : Hid (bkV n = if Fl.nanB (bk n) then 9221120237041090561 else bk n) := rfl
  rw [← HBK.out] at KB
  have hb64 : bkV n < 18446744073709551616 := bkV_lt n hn64
  obtain ⟨x, Hx⟩ : ∃ x, Hid (bkV n = x) := ⟨_, rfl⟩
  rw [Hx.out] at KB hb64
  have HR : Hid (Rx w1 rb B t) := h1
  clear h1 K
  go_wp2_with fail
  refine KB.out.mono ?_
  rintro e w2 ⟨rfl, hw2⟩
  subst w2
  go_wp2_with fail
  refine (rank_any x w1 hb64).mono ?_
  rintro e w2 ⟨rfl, hw2⟩
  subst w2
  by_cases hq : Fl.rk x = n
  · have hq' : ((Fl.rk x : Nat) : Int) = (n : Int) := by rw [hq]
    have HV : Hid (x = fltV s) := by
      show _ = _
      unfold fltV
      rw [← Hn.out, Hx.out, if_pos hq]
    have HS : Hid (t = fltS s) := by
      show _ = _
      unfold fltS
      rw [← Hn.out, Hx.out, if_pos hq, Ht.out]
    clear hq
    go_wp2
    go_ret
    exact ⟨x, t, rfl, HV, HS, hb64, HR.out, f1⟩
  · have hq' : ¬ ((Fl.rk x : Nat) : Int) = (n : Int) := by omega
    have HV : Hid (0 = fltV s) := by
      show _ = _
      unfold fltV
      rw [← Hn.out, Hx.out, if_neg hq]
    have HS : Hid ((⟨[], true⟩ : Rs) = fltS s) := by
      show _ = _
      unfold fltS
      rw [← Hn.out, Hx.out, if_neg hq]
    obtain ⟨ao, cap, hrd, _⟩ := HR.out
    have KF : Hid (Calls _ _ _ _ _) := fault_any hrd
    clear hq hrd
    go_wp2_with fail
    refine KF.out.mono ?_
    rintro e w2 ⟨rfl, h2, f2⟩
    go_wp2
    go_ret
    exact ⟨0, ⟨[], true⟩, rfl, HV, HS, by omega, rx_bad h2, f1.trans f2⟩
end Go.Proofs.Ytaalkhipncbjpaa
