/- lay.ReadNumber, lay.ReadRule: what they read. octet: bytes, laid and read. What Decode reads with, and what a rule that was read is. -/
import Derived.Test.YtaalkhipncbjpaaOBackN
import Derived.Test.YtaalkhipncbjpaaLocC
import Derived.Test.YtaalkhipncbjpaaORead
namespace Go.Proofs.Ytaalkhipncbjpaa
open Go.RowKit
attribute [local go_sem] run_store_float
/-- a reader whose bytes lie below B. -/
def Rx (w : World) (rb B : Nat) (s : Rs) : Prop := ∃ ao cap, Rd w rb ao s.l cap s.bad ∧ (s.l ≠ [] → ∀ a, ao = some a → a.block < B)
theorem Rx.lt {w : World} {rb B : Nat} {s : Rs} (h : Rx w rb B s) : rb < w.heap.size := by
  obtain ⟨_, _, h, _⟩ := h
  exact h.lt
theorem Rx.fr {S : Nat → Prop} {w w1 : World} {rb B : Nat} {s : Rs} (h : Rx w rb B s) (f : Fr S w w1) (hs : ¬ S rb) (hr : ∀ k, k < B → ¬ S k) : Rx w1 rb B s := by
  obtain ⟨ao, cap, h, hB⟩ := h
  exact ⟨ao, cap, h.fr f hs (fun hl a ha => hr _ (hB hl a ha)), hB⟩
theorem Rx.byte {w : World} {rb B : Nat} {s : Rs} (h : Rx w rb B s) : ∀ x ∈ s.l, x < 256 := by
  obtain ⟨_, _, h, _⟩ := h
  exact h.row.2.2.1
theorem rx_bad {w : World} {rb B : Nat} (h : Rd w rb none [] 0 true) : Rx w rb B ⟨[], true⟩ := ⟨none, 0, h, fun _ a ha => by cases ha⟩
theorem rnum_x {w : World} {rb B : Nat} {s : Rs} (n : Nat) (h : Rx w rb B s) (h8 : n ≤ 8) :
    Calls Try.prog 63 #[.pointer (some ⟨rb, 0, none⟩), .int .i64 (n : Int)] w fun e w' => ∃ v s1, e = .returned (.int .u64 ((v : Nat) : Int)) ∧ Hid (v = numV s n) ∧ Hid (s1 = numS s n) ∧ v < 256 ^ n ∧ Rx w' rb B s1 ∧ Fr (fun k => k = rb) w w' := by
  have hlt := numV_lt s n h.byte
  obtain ⟨ao, cap, h, hB⟩ := h
  by_cases hh : s.has n
  · obtain ⟨l, bad⟩ := s
    obtain ⟨hb, hn⟩ := hh
    simp only at hb hn h hB
    subst hb
    refine (rnum_ok w rb ao l cap n h hn h8).mono ?_
    rintro e w' ⟨rfl, a1, h1, f, hbl⟩
    have e1 : numV ⟨l, false⟩ n = Crc.num (l.take n) := by unfold numV; rw [if_pos ⟨rfl, hn⟩]
    have e2 : numS ⟨l, false⟩ n = ⟨l.drop n, false⟩ := by unfold numS; rw [if_pos ⟨rfl, hn⟩]
    refine ⟨_, _, by rw [e1], rfl, rfl, hlt, ?_, f⟩
    rw [e2]
    refine ⟨a1, _, h1, fun hl a ha => ?_⟩
    obtain ⟨a0, ha0, he⟩ := hbl a ha
    rw [he]
    exact hB (fun e => hl (by simp [e])) a0 ha0
  · have e1 : numV s n = 0 := by unfold numV; rw [if_neg hh]
    have e2 : numS s n = ⟨[], true⟩ := by unfold numS; rw [if_neg hh]
    obtain ⟨l, bad⟩ := s
    simp only at h
    cases bad with
    | true =>
      have hl := h.none rfl
      subst hl
      refine (rnum_after w rb ao [] cap n h).mono ?_
      rintro e w' ⟨rfl, a1, c1, h1, f⟩
      exact ⟨_, _, by rw [e1]; rfl, rfl, rfl, hlt, by rw [e2]; exact ⟨a1, c1, h1, fun hl => absurd rfl hl⟩, f⟩
    | false =>
      have hn : l.length < n := by
        rcases Nat.lt_or_ge l.length n with h' | h'
        · exact h'
        · exact absurd ⟨rfl, h'⟩ hh
      refine (rnum_bad w rb ao l cap false n h (.inr (by omega))).mono ?_
      rintro e w' ⟨rfl, h1, f⟩
      exact ⟨_, _, by rw [e1]; rfl, rfl, rfl, hlt, by rw [e2]; exact rx_bad h1, f⟩
set_option maxHeartbeats 400000 in
theorem fault_any {w : World} {rb : Nat} {ao : Option Addr} {l : List Nat} {cap : Nat} {bad : Bool} (h : Rd w rb ao l cap bad) :
    Calls Try.prog 99 #[.pointer (some ⟨rb, 0, none⟩)] w fun e w' => e = .returned (.tuple #[]) ∧ Rd w' rb none [] 0 true ∧ Fr (fun k => k = rb) w w' := by
  have K : Hid (Calls _ _ _ _ _) := rnum_bad w rb ao l cap bad (-1) h (.inl (by omega))
  clear h
  go_enter Try.func99, Try.ntmps99
  go_wp2_with fail
  refine K.out.mono ?_
  rintro e w1 ⟨rfl, h1, f1⟩
  go_wp2
  go_end0
  exact ⟨rfl, h1, f1⟩
set_option maxHeartbeats 400000 in
theorem readnum_x {w : World} {rb B : Nat} {s : Rs} (h : Rx w rb B s) :
    Calls Try.prog 66 #[.pointer (some ⟨rb, 0, none⟩)] w fun e w' => ∃ v t, e = .returned (.float .f64 v) ∧ Hid (v = fltV s) ∧ Hid (t = fltS s) ∧ v < 18446744073709551616 ∧ Rx w' rb B t ∧ Fr (fun k => k = rb) w w' := by
  have K : Hid (Calls _ _ _ _ _) := rnum_x 8 h (by omega)
  clear h
  go_enter Try.func66, Try.ntmps66
  go_wp2_with fail
  refine K.out.mono ?_
  rintro e w1 ⟨n, t, rfl, Hn, Ht, hn, h1, f1⟩
  have hn64 : n < 18446744073709551616 := hn
  have KB : Hid (Calls _ _ _ _ _) := back_any n w1 hn64
  have HBK : Hid (bkV n = if Fl.nanB (bk n) then 9221120237041090561 else bk n) := rfl
  rw [← HBK.out] at KB
  have hb64 : bkV n < 18446744073709551616 := bkV_lt n hn64
  obtain ⟨x, Hx⟩ : ∃ x, Hid (bkV n = x) := ⟨_, rfl⟩
  rw [Hx.out] at KB hb64
  have HR : Hid (Rx w1 rb B t) := h1
  clear h1 K
  go_wp2_with fail
  refine KB.out.mono ?_
  rintro e w2 ⟨rfl, hw2⟩
  subst w2
  go_wp2_with fail
  refine (rank_any x w1 hb64).mono ?_
  rintro e w2 ⟨rfl, hw2⟩
  subst w2
  by_cases hq : Fl.rk x = n
  · have hq' : ((Fl.rk x : Nat) : Int) = (n : Int) := by rw [hq]
    have HV : Hid (x = fltV s) := by
      show _ = _
      unfold fltV
      rw [← Hn.out, Hx.out, if_pos hq]
    have HS : Hid (t = fltS s) := by
      show _ = _
      unfold fltS
      rw [← Hn.out, Hx.out, if_pos hq, Ht.out]
    clear hq
    go_wp2
    go_ret
    exact ⟨x, t, rfl, HV, HS, hb64, HR.out, f1⟩
  · have hq' : ¬ ((Fl.rk x : Nat) : Int) = (n : Int) := by omega
    have HV : Hid (0 = fltV s) := by
      show _ = _
      unfold fltV
      rw [← Hn.out, Hx.out, if_neg hq]
    have HS : Hid ((⟨[], true⟩ : Rs) = fltS s) := by
      show _ = _
      unfold fltS
      rw [← Hn.out, Hx.out, if_neg hq]
    obtain ⟨ao, cap, hrd, _⟩ := HR.out
    have KF : Hid (Calls _ _ _ _ _) := fault_any hrd
    clear hq hrd
    go_wp2_with fail
    refine KF.out.mono ?_
    rintro e w2 ⟨rfl, h2, f2⟩
    go_wp2
    go_ret
    exact ⟨0, ⟨[], true⟩, rfl, HV, HS, by omega, rx_bad h2, f1.trans f2⟩
end Go.Proofs.Ytaalkhipncbjpaa
namespace Go.Proofs.Ytaalkhipncbjpaa
open Go.RowKit
theorem wbytes_any (base wb : Nat) (v : Value) (l : List Nat) (ao : Option Addr) (m : List Nat) (cap : Nat) (w : World) (hw : Wr w base wb v l) (hr : Row w ao m cap) (hap : m ≠ [] → ∀ a, ao = some a → a.block < base) (hwb : base ≤ wb) (hb : base ≤ w.heap.size) (hlen : l.length + m.length + 8 ≤ 140737488355328) :
    Calls Try.prog 60 #[.pointer (some ⟨wb, 0, none⟩), .slice ao m.length cap] w fun e w' => e = .returned (.pointer (some ⟨wb, 0, none⟩)) ∧ ∃ v', Wr w' base wb v' (l ++ Crc.le 4 m.length ++ m) ∧ Later w wb v w' v' := by
  have hown := hw.own.lt
  have hnum := wnum_any base wb v l m.length 4 w hw hb (by omega) (by omega) (by omega)
  have hlen' : (l ++ Crc.le 4 m.length).length + m.length ≤ 140737488355328 := by rw [List.length_append, Crc.le_length]; omega
  have hml : m.length < 9223372036854775808 := by omega
  generalize l ++ Crc.le 4 m.length = l1 at *
  go_enter Try.func60, Try.ntmps60
  go_wp2_with fail
  refine hnum.mono ?_
  rintro e w1 ⟨rfl, v1, h1, k1⟩
  have hr1 : Row w1 ao m cap := k1.fr.row hr (fun hm a ha hs => by
    have := hap hm a ha
    rcases hs with hs | hs
    · omega
    · have := hown _ hs; omega)
  go_wp2_with fail
  refine (lay_any base wb v1 l1 ao m cap w1 h1 hr1 (Nat.le_trans hb k1.fr.size) hlen').mono ?_
  rintro e w2 ⟨rfl, v2, h2, k2⟩
  go_wp2
  go_ret
  exact ⟨rfl, v2, h2, k1.trans k2⟩
theorem Row.lt {w : World} {ao : Option Addr} {l : List Nat} {cap : Nat} (h : Row w ao l cap) (hl : l ≠ []) : ∀ a, ao = some a → a.block < w.heap.size := by
  intro a ha
  obtain ⟨b, off, he, hc⟩ := h.2.2.2.2 hl
  rw [he] at ha
  cases ha
  exact World.block_lt_of_cell? _ _ (hc 0 (by cases l; exact absurd rfl hl; simp))
theorem Wr.fr {w w1 : World} {base wb : Nat} {v : Value} {l : List Nat} (h : Wr w base wb v l) (f : Fr (fun _ => False) w w1) : Wr w1 base wb v l :=
  ⟨f.cell h.cell (by simp), (f.frozenEq (World.block_lt_of_cell? _ _ h.cell) (by simp)).trans h.free, h.own.fr f (by simp), h.apart⟩
/-- a length that is none. -/
theorem bytes_bad (w : World) (rb : Nat) (ao : Option Addr) (l : List Nat) (cap : Nat) (bad : Bool) (most : Int) (h : Rd w rb ao l cap bad) (hi : most ≤ 9223372036854775807) (hb : l.length < 4 ∨ (bad = false ∧ 4 ≤ l.length ∧ (most < 0 ∨ most < (Crc.num (l.take 4) : Int)))) : Calls Try.prog 67 #[.pointer (some ⟨rb, 0, none⟩), .int .i64 most] w fun e w' =>
    ∃ a1, e = .returned (.slice a1 0 0) ∧ Fresh w w' a1 [] ∧ Rd w' rb none [] 0 true ∧ Fr (fun k => k = rb) w w' := by
  have hc : Calls Try.prog 65 #[.pointer (some ⟨rb, 0, none⟩), .int .i64 most] w fun e w' => e = .returned (.int .i64 0) ∧ Rd w' rb none [] 0 true ∧ Fr (fun k => k = rb) w w' := by
    rcases hb with hb | ⟨rfl, hl, hb⟩
    · exact count_short w rb ao l cap bad most hi h hb
    · exact count_much w rb ao l cap most h hl hi hb
  clear hb
  go_enter Try.func67, Try.ntmps67
  go_wp2_with fail
  refine hc.mono ?_
  rintro e w1 ⟨rfl, h1, h2⟩
  go_wp2_with fail
  refine (take_none w1 rb none [] 0 h1).mono ?_
  rintro e w2 ⟨rfl, hw2⟩
  subst w2
  go_wp2_with fail
  refine (own_anyO none [] 0 w1 (row_nilO w1) (by simp)).mono ?_
  rintro e w2 ⟨a1, rfl, h3, h4⟩
  go_wp2
  go_ret
  exact ⟨a1, rfl, ⟨h3.1, fun a ha => by have := h3.2 a ha; have hs := h2.size; exact ⟨by omega, this.2⟩⟩, h1.fr h4 (by simp) (by simp), h2.trans (h4.mono (fun _ _ h => h.elim))⟩
/-- a length beyond what is left. -/
theorem bytes_long (w : World) (rb : Nat) (ao : Option Addr) (l : List Nat) (cap m : Nat) (h : Rd w rb ao l cap false) (hi : m ≤ 9223372036854775807) (hl : 4 ≤ l.length) (hm : Crc.num (l.take 4) ≤ m) (hx : l.length - 4 < Crc.num (l.take 4)) : Calls Try.prog 67 #[.pointer (some ⟨rb, 0, none⟩), .int .i64 (m : Int)] w fun e w' =>
    ∃ a1, e = .returned (.slice a1 0 0) ∧ Fresh w w' a1 [] ∧ Rd w' rb none [] 0 true ∧ Fr (fun k => k = rb) w w' := by
  have hc := count_ok w rb ao l cap m h hl hi hm
  have hld : (l.drop 4).length = l.length - 4 := by simp
  generalize Crc.num (l.take 4) = q at *
  go_enter Try.func67, Try.ntmps67
  go_wp2_with fail
  refine hc.mono ?_
  rintro e w1 ⟨rfl, a1, h1, h2, _⟩
  go_wp2_with fail
  refine (take_bad w1 rb a1 (l.drop 4) (cap - 4) false q h1 (.inr (by omega))).mono ?_
  rintro e w2 ⟨rfl, h3, h4⟩
  go_wp2_with fail
  refine (own_anyO none [] 0 w2 (row_nilO w2) (by simp)).mono ?_
  rintro e w3 ⟨a3, rfl, h5, h6⟩
  go_wp2
  go_ret
  exact ⟨a3, rfl, ⟨h5.1, fun a ha => by have := h5.2 a ha; have hs := (h2.trans h4).size; exact ⟨by omega, this.2⟩⟩, h3.fr h6 (by simp) (by simp), (h2.trans h4).trans (h6.mono (fun _ _ h => h.elim))⟩
/-- bytes that are there. -/
theorem bytes_ok (w : World) (rb : Nat) (ao : Option Addr) (l : List Nat) (cap m : Nat) (h : Rd w rb ao l cap false) (hi : m ≤ 140737488355328) (hl : 4 ≤ l.length) (hm : Crc.num (l.take 4) ≤ m) (hx : Crc.num (l.take 4) ≤ l.length - 4) : Calls Try.prog 67 #[.pointer (some ⟨rb, 0, none⟩), .int .i64 (m : Int)] w fun e w' =>
    ∃ a1 a2 c2, e = .returned (.slice a1 (Crc.num (l.take 4)) (Crc.num (l.take 4))) ∧ Fresh w w' a1 ((l.drop 4).take (Crc.num (l.take 4))) ∧ Rd w' rb a2 ((l.drop 4).drop (Crc.num (l.take 4))) c2 false ∧ Fr (fun k => k = rb) w w' ∧ ∀ a, a2 = some a → ∃ a0, ao = some a0 ∧ a.block = a0.block := by
  have hc := count_ok w rb ao l cap m h hl (by omega) hm
  have hld : (l.drop 4).length = l.length - 4 := by simp
  have hlt : ((l.drop 4).take (Crc.num (l.take 4))).length = Crc.num (l.take 4) := by simp; omega
  generalize Crc.num (l.take 4) = q at *
  go_enter Try.func67, Try.ntmps67
  go_wp2_with fail
  refine hc.mono ?_
  rintro e w1 ⟨rfl, a1, h1, h2, k1⟩
  go_wp2_with fail
  refine (take_ok w1 rb a1 (l.drop 4) (cap - 4) q h1 (by omega)).mono ?_
  rintro e w2 ⟨rfl, a2, h3, h3r, h4, k2⟩
  have hown := own_anyO a1 ((l.drop 4).take q) q w2 h3r (by omega)
  rw [hlt] at hown
  go_wp2_with fail
  refine hown.mono ?_
  rintro e w3 ⟨a3, rfl, h5, h6⟩
  go_wp2
  go_ret
  refine ⟨a3, a2, cap - 4 - q, rfl, ⟨h5.1, fun a ha => by have := h5.2 a ha; have hs := (h2.trans h4).size; exact ⟨by omega, this.2⟩⟩, h3.fr h6 (by simp) (by simp), (h2.trans h4).trans (h6.mono (fun _ _ h => h.elim)), fun a ha => ?_⟩
  obtain ⟨x, hx1, hx2⟩ := k2 a ha
  obtain ⟨y, hy1, hy2⟩ := k1 x hx1
  exact ⟨y, hy1, hx2.trans hy2⟩
theorem bytes_gen {w : World} {rb : Nat} {ao : Option Addr} {cap : Nat} {s : Rs} (m : Nat) (h : Rd w rb ao s.l cap s.bad) (hm : m ≤ 140737488355328) :
    Calls Try.prog 67 #[.pointer (some ⟨rb, 0, none⟩), .int .i64 (m : Int)] w fun e w' => ∃ a1 q s1 a2 c2, e = .returned (.slice a1 (q : List Nat).length q.length) ∧ Fresh w w' a1 q ∧ Hid (q = bytV s m) ∧ Hid (s1 = bytS s m) ∧ q.length ≤ m ∧ Rd w' rb a2 (s1 : Rs).l c2 s1.bad ∧ Fr (fun k => k = rb) w w' := by
  obtain ⟨l, bad⟩ := s
  simp only at h
  by_cases hh : (⟨l, bad⟩ : Rs).byt m
  · have e1 : bytV ⟨l, bad⟩ m = (l.drop 4).take (Crc.num (l.take 4)) := by unfold bytV; rw [if_pos hh]
    have e2 : bytS ⟨l, bad⟩ m = ⟨(l.drop 4).drop (Crc.num (l.take 4)), false⟩ := by unfold bytS; rw [if_pos hh]
    obtain ⟨⟨⟨hb, h4⟩, hc⟩, hx⟩ := hh
    simp only at hb h4 hc hx
    subst hb
    have hl : ((l.drop 4).take (Crc.num (l.take 4))).length = Crc.num (l.take 4) := by rw [List.length_take, List.length_drop]; exact Nat.min_eq_left hx
    refine (bytes_ok w rb ao l cap m h hm h4 hc hx).mono ?_
    rintro e w' ⟨a1, a2, c2, rfl, hf, h1, f, _⟩
    exact ⟨a1, _, _, a2, c2, by rw [hl], hf, e1.symm, rfl, by rw [hl]; exact hc, by rw [e2]; exact h1, f⟩
  · have e1 : bytV ⟨l, bad⟩ m = [] := by unfold bytV; rw [if_neg hh]
    have e2 : bytS ⟨l, bad⟩ m = ⟨[], true⟩ := by unfold bytS; rw [if_neg hh]
    have key : Calls Try.prog 67 #[.pointer (some ⟨rb, 0, none⟩), .int .i64 (m : Int)] w fun e w' => ∃ a1, e = .returned (.slice a1 0 0) ∧ Fresh w w' a1 [] ∧ Rd w' rb none [] 0 true ∧ Fr (fun k => k = rb) w w' := by
      by_cases h4 : l.length < 4
      · exact bytes_bad w rb ao l cap bad m h (by omega) (.inl h4)
      · cases bad with
        | true => have := h.none rfl; subst this; simp at h4
        | false =>
          by_cases hc : Crc.num (l.take 4) ≤ m
          · refine bytes_long w rb ao l cap m h (by omega) (by omega) hc ?_
            have : ¬ Crc.num (l.take 4) ≤ l.length - 4 := fun hx => hh ⟨⟨⟨rfl, by show 4 ≤ l.length; omega⟩, hc⟩, hx⟩
            omega
          · exact bytes_bad w rb ao l cap false m h (by omega) (.inr ⟨rfl, by omega, .inr (by omega)⟩)
    refine key.mono ?_
    rintro e w' ⟨a1, rfl, hf, h1, f⟩
    exact ⟨a1, [], _, none, 0, rfl, hf, e1.symm, rfl, Nat.zero_le _, by rw [e2]; exact h1, f⟩
end Go.Proofs.Ytaalkhipncbjpaa
namespace Go.Proofs.Ytaalkhipncbjpaa
open Go.RowKit
theorem left_x {w : World} {rb B : Nat} {s : Rs} (h : Rx w rb B s) : Calls Try.prog 73 #[.pointer (some ⟨rb, 0, none⟩)] w fun e w' => e = .returned (.int .i64 ((s.l.length : Nat) : Int)) ∧ w' = w := by
  obtain ⟨ao, cap, h, _⟩ := h
  exact left_any w rb _ ao s.l.length cap h.c0 rfl
theorem bad_x {w : World} {rb B : Nat} {s : Rs} (h : Rx w rb B s) : Calls Try.prog 68 #[.pointer (some ⟨rb, 0, none⟩)] w fun e w' => e = .returned (.bool s.bad) ∧ w' = w := by
  obtain ⟨ao, cap, h, _⟩ := h
  exact bad_any w rb s.bad h.c1
theorem end_x {w : World} {rb B : Nat} {s : Rs} (h : Rx w rb B s) : Calls Try.prog 32 #[.pointer (some ⟨rb, 0, none⟩)] w fun e w' => e = .returned (.bool (endV s)) ∧ w' = w := by
  obtain ⟨ao, cap, h, _⟩ := h
  exact end_gen h
theorem count_x {w : World} {rb B : Nat} {s : Rs} (m : Nat) (h : Rx w rb B s) (hm : m ≤ 9223372036854775807) :
    Calls Try.prog 65 #[.pointer (some ⟨rb, 0, none⟩), .int .i64 (m : Int)] w fun e w' => ∃ v s1, e = .returned (.int .i64 ((v : Nat) : Int)) ∧ Hid (v = cntV s m) ∧ Hid (s1 = cntS s m) ∧ v ≤ m ∧ Rx w' rb B s1 ∧ Fr (fun k => k = rb) w w' := by
  obtain ⟨ao, cap, h, hB⟩ := h
  by_cases hh : s.cnt m
  · obtain ⟨l, bad⟩ := s
    have e1 : cntV ⟨l, bad⟩ m = Crc.num (l.take 4) := by unfold cntV; rw [if_pos hh]
    have e2 : cntS ⟨l, bad⟩ m = ⟨l.drop 4, false⟩ := by unfold cntS; rw [if_pos hh]
    obtain ⟨⟨hb, h4⟩, hc⟩ := hh
    simp only at hb h4 hc h hB
    subst hb
    refine (count_ok w rb ao l cap m h h4 hm hc).mono ?_
    rintro e w' ⟨rfl, a1, h1, f, hbl⟩
    refine ⟨_, _, by rw [e1], rfl, rfl, by rw [e1]; exact hc, ?_, f⟩
    rw [e2]
    refine ⟨a1, _, h1, fun hl a ha => ?_⟩
    obtain ⟨a0, ha0, he⟩ := hbl a ha
    rw [he]
    exact hB (fun e => hl (by simp [e])) a0 ha0
  · have e2 : cntS s m = ⟨[], true⟩ := by unfold cntS; rw [if_neg hh]
    refine (count_gen m h hm).mono ?_
    rintro e w' ⟨v, s1, a1, c1, rfl, Hv, Hs, hv, h1, f⟩
    refine ⟨v, s1, rfl, Hv, Hs, hv, ⟨a1, c1, h1, fun hl => ?_⟩, f⟩
    rw [Hs.out, e2] at hl
    exact absurd rfl hl
theorem numS_byte (s : Rs) (n : Nat) (h : ∀ x ∈ s.l, x < 256) : ∀ x ∈ (numS s n).l, x < 256 := by
  unfold numS
  split
  · exact fun x hx => h x (List.mem_of_mem_drop hx)
  · intro x hx; cases hx
theorem fltS_byte (s : Rs) (h : ∀ x ∈ s.l, x < 256) : ∀ x ∈ (fltS s).l, x < 256 := by
  unfold fltS
  split
  · exact numS_byte s 8 h
  · intro x hx; cases hx
theorem fltV_lt (s : Rs) (h : ∀ x ∈ s.l, x < 256) : fltV s < 18446744073709551616 := by
  unfold fltV
  split
  · exact bkV_lt _ (numV_lt s 8 h)
  · decide
end Go.Proofs.Ytaalkhipncbjpaa
