/- The statement QueueSizes, walked. -/
import Derived.Test.YtpnjcpamhelaeabDoorAwake6
namespace Go.Proofs.YtpnjcpamhelaeabDoor
open Go.RowKit

/-- WHERE IT STANDS: a queue all of whose frames are of one size. -/
structure Sized (w : World) (qb size : Nat) (wr : World) : Prop where
  ex : ∃ (S : Nat → Prop) (next : Nat) (fs : List (List Nat)) (v : Value), Qu wr qb S size 100 next fs v ∧ (∀ k, S k → w.heap.size ≤ k ∧ k < wr.heap.size) ∧ next < 18446744073709551616 ∧ fs.length ≤ 100 ∧ ∀ f ∈ fs, f.length = size
  fr : Fr (fun _ => False) w wr
  qb : w.heap.size ≤ qb
theorem frames_sized (size id : Nat) (p : List Nat) (h : 19 ≤ size) : ∀ f ∈ frames size id p, f.length = size := by
  intro f hf
  unfold frames at hf
  obtain ⟨i, _, rfl⟩ := List.mem_map.1 hf
  exact fr1_length _ _ _ _ _ h
/-- one more message, taken or not. -/
theorem sized_put {w wr : World} {qb size : Nat} (h : Sized w qb size wr) (ht : Tab w) (hs : 64 ≤ size ∧ size ≤ 4096) (ao : Option Addr) (p : List Nat) (cap : Nat) (hr : Row w ao p cap) (hp : p.length ≤ 2000) :
    Calls Tryd.prog 8 #[.pointer (some ⟨qb, 0, none⟩), .slice ao p.length cap] wr fun e w' => (∃ k : Int, e = .returned (.int .i64 k)) ∧ Sized w qb size w' := by
  obtain ⟨⟨S, next, fs, v, hq, hS, hn, hl, hf⟩, hfr, hqb⟩ := h
  have hr' := hfr.row hr (by simp)
  by_cases hfit : fs.length + parts size p.length ≤ 100
  · refine (qput_ok hq (hfr.tab ht (by simp)) ao p cap hr' (fun k hk => (hS k hk).2) hs (by omega) hn (by omega) hfit).mono ?_
    rintro e w' ⟨rfl, ⟨v', q'⟩, f'⟩
    have hsz := f'.size
    have hsz0 := hfr.size
    refine ⟨⟨0, rfl⟩, ⟨_, _, _, v', q', fun k hk => ?_, by omega, by rw [List.length_append, frames_length]; exact hfit, fun f hff => ?_⟩, hfr.trans' f' (fun i hi e => ?_), hqb⟩
    · rcases hk with h | h
      · have := hS k h; omega
      · omega
    · rcases List.mem_append.1 hff with h | h
      · exact hf f h
      · exact frames_sized _ _ _ (by omega) f h
    · rcases e with e | e
      · omega
      · have := (hS i e).1; omega
  · refine (qput_full hq ao p cap hs (by omega) (by omega) (by omega) (by omega)).mono ?_
    rintro e w' ⟨rfl, f'⟩
    have hsz := f'.size
    exact ⟨⟨3, rfl⟩, ⟨S, next, fs, v, hq.fr f' (by simp) (by simp), fun k hk => ⟨(hS k hk).1, by have := (hS k hk).2; omega⟩, hn, hl, hf⟩, hfr.trans f', hqb⟩
/-- the frame that goes has that size. -/
theorem sized_slot {w wr : World} {qb size : Nat} (h : Sized w qb size wr) (ht : Tab w) (hs : 64 ≤ size ∧ size ≤ 4096) :
    Calls Tryd.prog 9 #[.pointer (some ⟨qb, 0, none⟩)] wr fun e w' => (∃ a c, e = .returned (.slice a size c)) ∧ Sized w qb size w' := by
  obtain ⟨⟨S, next, fs, v, hq, hS, hn, hl, hf⟩, hfr, hqb⟩ := h
  cases fs with
  | nil =>
    refine (qslot_dummy hq (hfr.tab ht (by simp)) hs).mono ?_
    rintro e w' ⟨a, rfl, _, f'⟩
    have hsz := f'.size
    exact ⟨⟨a, size, rfl⟩, ⟨S, next, [], v, hq.fr f' (by simp) (by simp), fun k hk => ⟨(hS k hk).1, by have := (hS k hk).2; omega⟩, hn, hl, hf⟩, hfr.trans f', hqb⟩
  | cons x fs =>
    refine (qslot_some hq (by simp at hl; omega)).mono ?_
    rintro e w' ⟨a, c, rfl, _, _, ⟨v', q'⟩, f'⟩
    have hsz := f'.size
    refine ⟨⟨a, c, by rw [hf x (by simp)]⟩, ⟨S, next, fs, v', q', fun k hk => ⟨(hS k hk).1, by have := (hS k hk).2; omega⟩, hn, by simp at hl; omega, fun f hff => hf f (by simp [hff])⟩, hfr.trans' f' (fun i hi e => ?_), hqb⟩
    rcases e with e | e
    · omega
    · have := (hS i e).1; omega
set_option maxRecDepth 100000 in
set_option maxHeartbeats 4000000 in
theorem sizes_walk (n : Nat) (ao : Option Addr) (ps : List (List Nat)) (cap slots : Nat) (w : World) (ht : Tab w) (hps : PRow w ao ps cap) (hn : n < 65536) (hsl : slots < 256) :
    Calls Tryd.prog 3 #[.int .u16 (n : Int), .slice ao ps.length cap, .int .u8 (slots : Int)] w fun e w' => e = .returned (.bool true) ∧ Fr (fun _ => False) w w' := by
  have HT : Hid (Tab w) := ht
  have HP : Hid (PRow w ao ps cap) := hps
  have hl1 : ps.length ≤ 9223372036854775807 := by have := hps.1; have := hps.2.1; unfold maxLen at this; omega
  clear ht hps
  by_cases h20 : 20 < ps.length
  · go_enter Tryd.func3, Tryd.ntmps3
    go_wp2_with fail
    refine (awake6_any w HT.out).mono ?_
    rintro e w1 ⟨rfl, f1⟩
    go_wp2_with fail
    refine (awake6_any w1 (f1.tab HT.out (by simp))).mono ?_
    rintro e w2 ⟨rfl, f2⟩
    go_wp2
    go_ret
    exact ⟨rfl, f1.trans f2⟩
  · obtain ⟨s, Hs⟩ : ∃ s, Hid (64 + n % 500 = s) := ⟨_, rfl⟩
    have hs0 : 64 ≤ s ∧ s ≤ 4096 := by have := Hs.out; omega
    have hns : 64 + (n : Int) % 500 = (s : Int) := by have := Hs.out; omega
    obtain ⟨c, Hc⟩ : ∃ c, Hid (slots % 40 = c) := ⟨_, rfl⟩
    have hc0 : c < 40 := by have := Hc.out; omega
    have hsc : (slots : Int) % 40 = (c : Int) := by have := Hc.out; omega
    go_enter Tryd.func3, Tryd.ntmps3
    go_wp2_with fail
    refine (awake6_any w HT.out).mono ?_
    rintro e w1 ⟨rfl, f1⟩
    go_wp2_with fail
    refine (qnew_any s 100 0 w1 hs0 (by omega)).mono ?_
    rintro e w2 ⟨rfl, q2, f2⟩
    have Z0 : Hid (Sized w w1.heap.size s w2) := ⟨⟨fun _ => False, 0, [], _, q2, fun _ h => h.elim, by omega, by simp, by simp⟩, f1.trans f2, f1.size⟩
    obtain ⟨qb, Hqb⟩ : ∃ qb, Hid (w1.heap.size = qb) := ⟨_, rfl⟩
    rw [Hqb.out] at Z0 ⊢
    clear q2 f1 f2
    go_wp2
    go_loopw [10] (fun i wr => ∃ k : Nat, k ≤ ps.length ∧ i = .int .i64 (k : Int) ∧ Sized w qb s wr) (fun i _ => ps.length - (intOf i).toNat)
    case atStart => exact ⟨0, Nat.zero_le _, rfl, Z0.out⟩
    case round =>
      obtain ⟨k, hk, rfl, hz⟩ := hrel
      clear Z0
      have HZ : Hid (Sized w qb s wr) := hz
      clear hz
      by_cases hlt : k < ps.length
      · obtain ⟨b2, o2, hao, hc2⟩ := HP.out.2.2 (fun e => by rw [e] at hlt; simp at hlt)
        obtain ⟨ai, ci, hpc0, hpr0⟩ := hc2 k hlt
        subst hao
        obtain ⟨p, Hp⟩ : ∃ p, Hid (ps.getD k [] = p) := ⟨_, rfl⟩
        rw [Hp.out] at hpc0 hpr0
        have hpc := HZ.out.fr.cell hpc0 (by simp)
        have HPR : Hid (Row w ai p ci) := hpr0
        have hpl : p.length ≤ 9223372036854775807 := by have := hpr0.1; have := hpr0.2.1; unfold maxLen at this; omega
        have z1 : (0 : Int) ≤ (k : Int) := by omega
        have z2 : (k : Int) < (ps.length : Int) := by omega
        clear hc2 hpc0 hpr0
        by_cases h2000 : 2000 < p.length
        · go_wp2
          go_ret
          exact ⟨rfl, HZ.out.fr⟩
        · have kp := sized_put HZ.out HT.out hs0 ai p ci HPR.out (by omega)
          have HKP : Hid (Calls _ _ _ _ _) := kp
          clear kp
          go_wp2_with fail
          refine HKP.out.mono ?_
          rintro e w3 ⟨⟨kk, rfl⟩, z3⟩
          clear hpc HKP
          go_wp2
          go_roundw
          case rel => exact ⟨k + 1, by omega, by go_num, z3⟩
          case measure => simp [intOf]; omega
      · go_wp2
        go_loopw [11] (fun i wr => ∃ k : Nat, k ≤ c ∧ i = .int .i64 (k : Int) ∧ Sized w qb s wr) (fun i _ => c - (intOf i).toNat)
        case atStart => exact ⟨0, Nat.zero_le _, rfl, HZ.out⟩
        case round =>
          obtain ⟨j, hj, rfl, hz2⟩ := hrel
          have HZ2 : Hid (Sized w qb s _) := hz2
          clear hz2
          by_cases hlt2 : j < c
          · have ks := sized_slot HZ2.out HT.out hs0
            have HKS : Hid (Calls _ _ _ _ _) := ks
            clear ks
            go_wp2_with fail
            refine HKS.out.mono ?_
            rintro e w4 ⟨⟨a4, c4, rfl⟩, z4⟩
            clear HKS
            go_wp2
            go_roundw
            case rel => exact ⟨j + 1, by omega, by go_num, z4⟩
            case measure => simp [intOf]; omega
          · go_wp2
            go_ret
            exact ⟨rfl, HZ2.out.fr⟩
end Go.Proofs.YtpnjcpamhelaeabDoor
