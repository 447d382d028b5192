/- The document's own Split, and both Dummies. -/
import Derived.Test.YtpnjcpamhelaeaaDoorSlices
namespace Go.Proofs.YtpnjcpamhelaeaaDoor
open Go.RowKit

theorem refsplit_arg (n : Int) (id : Int) (sl : Value) (w : World) (h : ¬ (64 ≤ n ∧ n ≤ 4096)) : Calls Tryd.prog 11 #[.int .i64 n, .int .u64 id, sl] w fun e w' => e = .returned (.tuple #[.slice none 0 0, .int .i64 1]) ∧ w' = w := by
  by_cases h1 : n < 64
  · go_enter Tryd.func11, Tryd.ntmps11
    go_wp2
    go_ret2
    exact ⟨rfl, rfl⟩
  · have h2 : 4096 < n := by omega
    clear h
    go_enter Tryd.func11, Tryd.ntmps11
    go_wp2
    go_ret2
    exact ⟨rfl, rfl⟩
theorem refparts (size n : Nat) (hs : 64 ≤ size) : parts size n = if (n + (size - 19) - 1) / (size - 19) = 0 then 1 else (n + (size - 19) - 1) / (size - 19) := by
  unfold parts
  by_cases h : n = 0
  · subst h
    rw [show 0 + (size - 19) - 1 = size - 19 - 1 by omega, Nat.div_eq_of_lt (by omega : size - 19 - 1 < size - 19)]
    simp
  · rw [show max n 1 - 1 = n - 1 by omega, show n + (size - 19) - 1 = (n - 1) + (size - 19) by omega, Nat.add_div_right _ (by omega)]
    simp
theorem part_len (size k n : Nat) (hs : 64 ≤ size) (hk : k < parts size n) : k * (size - 19) ≤ max n 1 - 1 := by
  unfold parts at hk
  have h1 : k ≤ (max n 1 - 1) / (size - 19) := by omega
  exact (Nat.le_div_iff_mul_le (by omega)).1 h1
theorem frames_snoc (size id k of : Nat) (p : List Nat) (hof : parts size p.length = of) (hk : k < of) : (frames size id p).take (k + 1) = (frames size id p).take k ++ [fr1 size id of k p] := by
  subst hof
  rw [List.take_succ_eq_append_getElem (by rw [frames_length]; exact hk)]
  simp [frames]
theorem chunk_eq (size k : Nat) (p : List Nat) (t : Nat) (ht : t = min (k * (size - 19) + (size - 19)) p.length) : (p.drop (k * (size - 19))).take (t - k * (size - 19)) = chunk size k p := by
  unfold chunk
  subst ht
  by_cases h : k * (size - 19) + (size - 19) ≤ p.length
  · rw [Nat.min_eq_left h, Nat.add_sub_cancel_left]
  · rw [Nat.min_eq_right (by omega), List.take_of_length_le (by simp), List.take_of_length_le (by simp; omega)]
set_option maxRecDepth 100000 in
set_option maxHeartbeats 4000000 in
theorem refsplit_some (size id : Nat) (a : Addr) (p : List Nat) (cap : Nat) (w : World) (hne : 0 < p.length) (hr : Row w (some a) p cap) (hs : 64 ≤ size ∧ size ≤ 4096) (hp : p.length ≤ 1048576) (hid : id < 18446744073709551616) :
    Calls Tryd.prog 11 #[.int .i64 (size : Int), .int .u64 (id : Int), .slice (some a) p.length cap] w fun e w' => ∃ v, e = .returned (.tuple #[v, .int .i64 0]) ∧ OwnP w' w.heap.size v (frames size id p) ∧ Fr (fun _ => False) w w' := by
  have hle := parts_le size p.length hs.1 hp
  have hrp := refparts size p.length hs.1
  obtain ⟨of, Hof⟩ : ∃ of, Hid (parts size p.length = of) := ⟨_, rfl⟩
  rw [Hof.out] at hle hrp
  obtain ⟨r, Hr⟩ : ∃ r, Hid (size - 19 = r) := ⟨_, rfl⟩
  rw [Hr.out] at hrp
  have hr0 : 45 ≤ r ∧ r ≤ 4096 := by have := Hr.out; omega
  have hsr : (size : Int) - 19 = (r : Int) := by have := Hr.out; omega
  obtain ⟨q, Hq⟩ : ∃ q, Hid ((p.length + r - 1) / r = q) := ⟨_, rfl⟩
  rw [Hq.out] at hrp
  have hq2 : ((p.length : Int) + (r : Int) - 1).tdiv (r : Int) = (q : Int) := by
    rw [show (p.length : Int) + (r : Int) - 1 = ((p.length + r - 1 : Nat) : Int) by omega, Int.tdiv_eq_ediv_of_nonneg (by omega), ← Hq.out]; simp
  have hq3 : ((p.length : Int) + (r : Int) - 1) / (r : Int) = (q : Int) := by
    rw [show (p.length : Int) + (r : Int) - 1 = ((p.length + r - 1 : Nat) : Int) by omega, ← Hq.out]; simp
  have hrz : ((r : Int) == 0) = false := beq_eq_false_iff_ne.2 (by omega)
  have hrz2 : ¬ r = 0 := by omega
  have HR : Hid (Row w (some a) p cap) := hr
  have hof1 : 1 ≤ of := by rw [← Hof.out]; exact parts_pos _ _
  have HP : Hid (∀ k, k < of → k * r ≤ max p.length 1 - 1) := fun k hk => by rw [← Hr.out]; exact part_len size k p.length hs.1 (by rw [Hof.out]; exact hk)
  have hcap := hr.1
  have hcap2 := hr.2.1
  unfold maxLen at hcap2
  clear hr
  have hq0 : ¬ q = 0 := by
    intro e
    have h1 := Hq.out
    rw [e] at h1
    have h2 := Nat.div_add_mod (p.length + r - 1) r
    have h3 := Nat.mod_lt (p.length + r - 1) (show 0 < r by omega)
    rw [h1] at h2
    omega
  have hqe : of = q := by rw [hrp, if_neg hq0]
  subst hqe
  clear hrp
  go_enter Tryd.func11, Tryd.ntmps11
  go_wp2
  go_loopw [10, 11] (fun o i wr => ∃ (k : Nat) (v1 : Value) (ps0 : List (List Nat)), k ≤ of ∧ i = .int .i64 (k : Int) ∧ o = v1 ∧ Hid ((frames size id p).take k = ps0) ∧ OwnP wr w.heap.size v1 ps0 ∧ Fr (fun _ => False) w wr) (fun _ i _ => of - (intOf i).toNat)
  case atStart => exact ⟨0, _, [], Nat.zero_le _, rfl, rfl, rfl, OwnP.nil _ _, Fr.refl _ _⟩
  case round =>
    obtain ⟨k, v1, ps0, hk, rfl, rfl, HP0, hown, hfr⟩ := hrel
    by_cases hlt : k < of
    · obtain ⟨m, Hm⟩ : ∃ m, Hid (k * r = m) := ⟨_, rfl⟩
      have hmp : m ≤ p.length := by have := HP.out k hlt; rw [Hm.out] at this; omega
      have hmul : (k : Int) * (r : Int) = (m : Int) := by rw [← Hm.out]; simp
      have hfrl : Hid ((frames size id p).take (k + 1) = (frames size id p).take k ++ [fr1 size id of k p]) := frames_snoc size id k of p Hof.out hlt
      have hrr := hfr.row HR.out (by simp)
      obtain ⟨a0, c0, hv0, _, _⟩ := hown.prow
      subst hv0
      have hp0 : ps0.length ≤ 23303 := by rw [← HP0.out]; simp; omega
      have HO : Hid (OwnP wr w.heap.size (.slice a0 ps0.length c0) ps0) := hown
      have hol := hown.lt
      have hszw := hfr.size
      clear hown
      by_cases hto : p.length < m + r
      · have hto' : (p.length : Int) < (m : Int) + (r : Int) := by omega
        have hch : Hid ((p.drop m).take (p.length - m) = chunk size k p) := by
          show _ = _
          have := chunk_eq size k p p.length (by rw [Hr.out, Hm.out]; omega)
          rw [Hr.out, Hm.out] at this
          exact this
        have hmc : m < cap := by have := HP.out k hlt; rw [Hm.out] at this; omega
        have hrc := (hrr.drop hmp (a.add m) (fun _ => rfl)).takeCap (n := p.length - m) (by simp)
        have hcl : ((p.drop m).take (p.length - m)).length = p.length - m := by simp
        have kf := refframe_any size id k of (some (a.add m)) ((p.drop m).take (p.length - m)) (cap - m) wr hrc (by omega) (by rw [hcl]; have := Hr.out; omega) hid (by omega) (by omega)
        rw [hcl, hch.out] at kf
        have HK : Hid (Calls _ _ _ _ _) := kf
        clear kf hrc hcl hrr
        go_wp2_with fail
        refine HK.out.mono ?_
        rintro e w1 ⟨v, rfl, ho1, f1⟩
        obtain ⟨a1, c1, hv1, hr1, hb1⟩ := ho1.row
        subst hv1
        obtain ⟨L1, HL1⟩ : ∃ L1, Hid (sealed (body size id k of (chunk size k p)) = L1) := ⟨_, rfl⟩
        rw [HL1.out] at hr1 hb1 ⊢
        have f2 : Fr (fun _ => False) w (w1.alloc (.cells #[.slice a1 L1.length c1] 24)) := (hfr.trans f1).alloc _
        have hownA : OwnP (w1.alloc (.cells #[.slice a1 L1.length c1] 24)) w.heap.size (.slice a0 ps0.length c0) ps0 := HO.out.fr (f1.alloc _) (by simp)
        have hprow : PRowS (w1.alloc (.cells #[.slice a1 L1.length c1] 24)) (fun k => w.heap.size ≤ k ∧ (Value.slice a0 ps0.length c0).ownBlock ≠ some k) (some ⟨w1.heap.size, 0, none⟩) [L1] 1 := prow_one w1 _ a1 L1 c1 hr1 (fun _ a ha => by
          have h1 := (hb1 a ha).1
          exact ⟨by omega, fun e => by have := (hol _ e).2; omega⟩)
        have hbb : w.heap.size ≤ (w1.alloc (.cells #[.slice a1 L1.length c1] 24)).heap.size := f2.size
        clear ho1 hr1 hb1 HK
        go_wp2_with (at_builtin; refine wpList_append_slices rfl (.tmp 53) (.tmp 65) rfl w.heap.size _ ps0 rfl hownA w1.heap.size 0 [L1] 1 rfl hprow (by simp) (by simp; omega) hbb ?_)
        intro v2 w2 hown2 hg2 _
        have hf2 : Fr (fun _ => False) w w2 := f2.grown hg2 (fun i hi => .inr (hol i hi).1)
        obtain ⟨a2, c2, hv2, _, _⟩ := hown2.prow
        have hps : Hid ((frames size id p).take (k + 1) = ps0 ++ [L1]) := by show _ = _; rw [hfrl.out, HP0.out, ← HL1.out]; rfl
        obtain ⟨ps2, HP2⟩ : ∃ ps2, Hid (ps0 ++ [L1] = ps2) := ⟨_, rfl⟩
        rw [HP2.out] at hown2 hv2 hps
        subst hv2
        clear hownA hprow hg2
        go_wp2
        go_roundw
        case rel => exact ⟨k + 1, _, ps2, by omega, by go_num, rfl, hps, hown2, hf2⟩
        case measure => simp [intOf]; omega
      · have hto' : ¬ (p.length : Int) < (m : Int) + (r : Int) := by omega
        have hch : Hid ((p.drop m).take r = chunk size k p) := by
          show _ = _
          have := chunk_eq size k p (m + r) (by rw [Hr.out, Hm.out]; omega)
          rw [Hr.out, Hm.out, Nat.add_sub_cancel_left] at this
          exact this
        have hmc : m < cap := by omega
        have hrc := (hrr.drop hmp (a.add m) (fun _ => rfl)).takeCap (n := r) (by simp; omega)
        have hcl : ((p.drop m).take r).length = r := by simp; omega
        have kf := refframe_any size id k of (some (a.add m)) ((p.drop m).take r) (cap - m) wr hrc (by omega) (by rw [hcl]; have := Hr.out; omega) hid (by omega) (by omega)
        rw [hcl, hch.out] at kf
        have HK : Hid (Calls _ _ _ _ _) := kf
        clear kf hrc hcl hrr
        go_wp2_with fail
        refine HK.out.mono ?_
        rintro e w1 ⟨v, rfl, ho1, f1⟩
        obtain ⟨a1, c1, hv1, hr1, hb1⟩ := ho1.row
        subst hv1
        obtain ⟨L1, HL1⟩ : ∃ L1, Hid (sealed (body size id k of (chunk size k p)) = L1) := ⟨_, rfl⟩
        rw [HL1.out] at hr1 hb1 ⊢
        have f2 : Fr (fun _ => False) w (w1.alloc (.cells #[.slice a1 L1.length c1] 24)) := (hfr.trans f1).alloc _
        have hownA : OwnP (w1.alloc (.cells #[.slice a1 L1.length c1] 24)) w.heap.size (.slice a0 ps0.length c0) ps0 := HO.out.fr (f1.alloc _) (by simp)
        have hprow : PRowS (w1.alloc (.cells #[.slice a1 L1.length c1] 24)) (fun k => w.heap.size ≤ k ∧ (Value.slice a0 ps0.length c0).ownBlock ≠ some k) (some ⟨w1.heap.size, 0, none⟩) [L1] 1 := prow_one w1 _ a1 L1 c1 hr1 (fun _ a ha => by
          have h1 := (hb1 a ha).1
          exact ⟨by omega, fun e => by have := (hol _ e).2; omega⟩)
        have hbb : w.heap.size ≤ (w1.alloc (.cells #[.slice a1 L1.length c1] 24)).heap.size := f2.size
        clear ho1 hr1 hb1 HK
        go_wp2_with (at_builtin; refine wpList_append_slices rfl (.tmp 53) (.tmp 65) rfl w.heap.size _ ps0 rfl hownA w1.heap.size 0 [L1] 1 rfl hprow (by simp) (by simp; omega) hbb ?_)
        intro v2 w2 hown2 hg2 _
        have hf2 : Fr (fun _ => False) w w2 := f2.grown hg2 (fun i hi => .inr (hol i hi).1)
        obtain ⟨a2, c2, hv2, _, _⟩ := hown2.prow
        have hps : Hid ((frames size id p).take (k + 1) = ps0 ++ [L1]) := by show _ = _; rw [hfrl.out, HP0.out, ← HL1.out]; rfl
        obtain ⟨ps2, HP2⟩ : ∃ ps2, Hid (ps0 ++ [L1] = ps2) := ⟨_, rfl⟩
        rw [HP2.out] at hown2 hv2 hps
        subst hv2
        clear hownA hprow hg2
        go_wp2
        go_roundw
        case rel => exact ⟨k + 1, _, ps2, by omega, by go_num, rfl, hps, hown2, hf2⟩
        case measure => simp [intOf]; omega
    · have hkn : k = of := by omega
      subst hkn
      obtain ⟨a0, c0, hv0, _, _⟩ := hown.prow
      have hfl : ps0 = frames size id p := by rw [← HP0.out]; exact List.take_of_length_le (by rw [frames_length, Hof.out]; exact Nat.le_refl _)
      have hown' : OwnP wr w.heap.size _ (frames size id p) := hfl ▸ hown
      clear hfl
      subst hv0
      go_wp2
      go_ret2
      exact ⟨_, rfl, hown', hfr⟩
set_option maxRecDepth 100000 in
set_option maxHeartbeats 4000000 in
theorem refsplit_nil (size id : Nat) (ao : Option Addr) (cap : Nat) (w : World) (hr : Row w ao [] cap) (hs : 64 ≤ size ∧ size ≤ 4096) (hid : id < 18446744073709551616) :
    Calls Tryd.prog 11 #[.int .i64 (size : Int), .int .u64 (id : Int), .slice ao 0 cap] w fun e w' => ∃ v, e = .returned (.tuple #[v, .int .i64 0]) ∧ OwnP w' w.heap.size v (frames size id []) ∧ Fr (fun _ => False) w w' := by
  obtain ⟨r, Hr⟩ : ∃ r, Hid (size - 19 = r) := ⟨_, rfl⟩
  have hr0 : 45 ≤ r ∧ r ≤ 4096 := by have := Hr.out; omega
  have hsr : (size : Int) - 19 = (r : Int) := by have := Hr.out; omega
  have hq2 : ((r : Int) - 1).tdiv (r : Int) = 0 := by
    rw [Int.tdiv_eq_ediv_of_nonneg (by omega)]
    exact Int.ediv_eq_zero_of_lt (by omega) (by omega)
  have hq3 : ((r : Int) - 1) / (r : Int) = 0 := Int.ediv_eq_zero_of_lt (by omega) (by omega)
  have hrz : ((r : Int) == 0) = false := beq_eq_false_iff_ne.2 (by omega)
  have hrz2 : ¬ r = 0 := by omega
  have hpt : parts size 0 = 1 := by unfold parts; simp
  have hfrs : Hid (frames size id [] = [sealed (body size id 0 1 [])]) := by
    show _ = _
    unfold frames
    rw [List.length_nil, hpt]
    simp [fr1, chunk]
  have hcap2 := hr.2.1
  have kf : ∀ (ao : Option Addr) (cap : Nat), (ao = none → cap = 0) → cap ≤ maxLen → Calls Tryd.prog 30 #[.int .i64 (size : Int), .int .u64 (id : Int), .int .i64 0, .int .i64 1, .slice ao 0 cap] w fun e w' => ∃ v, e = .returned v ∧ Own w' w.heap.size v (sealed (body size id 0 1 [])) ∧ Fr (fun _ => False) w w' :=
    fun ao cap h1 h2 => refframe_any size id 0 1 ao [] cap w ⟨Nat.zero_le _, h2, by simp, h1, fun h => absurd rfl h⟩ (by omega) (by simp; omega) hid (by omega) (by omega)
  have HK : Hid (∀ (ao : Option Addr) (cap : Nat), _) := kf
  have hn4 := hr.2.2.2.1
  rw [hfrs.out]
  obtain ⟨L1, HL1⟩ : ∃ L1, Hid (sealed (body size id 0 1 []) = L1) := ⟨_, rfl⟩
  rw [HL1.out] at HK ⊢
  have HC2 : Hid (cap ≤ maxLen) := hcap2
  have hcap3 := hcap2
  unfold maxLen at hcap3
  clear hr kf hpt hcap2
  go_enter Tryd.func11, Tryd.ntmps11
  go_wp2
  refine wp_loop_rounds 2 ?_
  rw [rounds_succ]
  cases ao with
  | none =>
    have := hn4 rfl
    subst this
    clear hn4
    go_wp2_with fail
    refine (HK.out none 0 (fun _ => rfl) (Nat.zero_le _)).mono ?_
    rintro e w1 ⟨v, rfl, ho1, f1⟩
    obtain ⟨a1, c1, hv1, hr1, hb1⟩ := ho1.row
    subst hv1
    have f2 : Fr (fun _ => False) w (w1.alloc (.cells #[.slice a1 L1.length c1] 24)) := f1.alloc _
    have hprow : PRowS (w1.alloc (.cells #[.slice a1 L1.length c1] 24)) (fun k => w.heap.size ≤ k ∧ (Value.slice none 0 0).ownBlock ≠ some k) (some ⟨w1.heap.size, 0, none⟩) [L1] 1 := prow_one w1 _ a1 L1 c1 hr1 (fun _ a ha => ⟨(hb1 a ha).1, fun e => by cases e⟩)
    have hbb : w.heap.size ≤ (w1.alloc (.cells #[.slice a1 L1.length c1] 24)).heap.size := f2.size
    clear ho1 hr1 hb1 HK
    go_wp2_with (at_builtin; refine wpList_append_slices rfl (.tmp 53) (.tmp 65) rfl w.heap.size _ [] rfl (OwnP.nil _ _) w1.heap.size 0 [L1] 1 rfl hprow (by simp) (by simp) hbb ?_)
    intro v2 w2 hown2 hg2 _
    have hf2 : Fr (fun _ => False) w w2 := f2.grown hg2 (fun i hi => by cases hi)
    obtain ⟨a2, c2, hv2, _, _⟩ := hown2.prow
    subst hv2
    clear hprow hg2
    go_wp2
    rw [rounds_succ]
    go_wp2
    go_ret2
    exact ⟨_, rfl, hown2, hf2⟩
  | some a =>
    by_cases hc0 : cap = 0
    · subst hc0
      go_wp2_with fail
      refine (HK.out (some a) 0 (fun e => by cases e) (Nat.zero_le _)).mono ?_
      rintro e w1 ⟨v, rfl, ho1, f1⟩
      obtain ⟨a1, c1, hv1, hr1, hb1⟩ := ho1.row
      subst hv1
      have f2 : Fr (fun _ => False) w (w1.alloc (.cells #[.slice a1 L1.length c1] 24)) := f1.alloc _
      have hprow : PRowS (w1.alloc (.cells #[.slice a1 L1.length c1] 24)) (fun k => w.heap.size ≤ k ∧ (Value.slice none 0 0).ownBlock ≠ some k) (some ⟨w1.heap.size, 0, none⟩) [L1] 1 := prow_one w1 _ a1 L1 c1 hr1 (fun _ a ha => ⟨(hb1 a ha).1, fun e => by cases e⟩)
      have hbb : w.heap.size ≤ (w1.alloc (.cells #[.slice a1 L1.length c1] 24)).heap.size := f2.size
      clear ho1 hr1 hb1 HK
      go_wp2_with (at_builtin; refine wpList_append_slices rfl (.tmp 53) (.tmp 65) rfl w.heap.size _ [] rfl (OwnP.nil _ _) w1.heap.size 0 [L1] 1 rfl hprow (by simp) (by simp) hbb ?_)
      intro v2 w2 hown2 hg2 _
      have hf2 : Fr (fun _ => False) w w2 := f2.grown hg2 (fun i hi => by cases hi)
      obtain ⟨a2, c2, hv2, _, _⟩ := hown2.prow
      subst hv2
      clear hprow hg2
      go_wp2
      rw [rounds_succ]
      go_wp2
      go_ret2
      exact ⟨_, rfl, hown2, hf2⟩
    · go_wp2_with fail
      refine (HK.out (some _) cap (fun e => by cases e) HC2.out).mono ?_
      rintro e w1 ⟨v, rfl, ho1, f1⟩
      obtain ⟨a1, c1, hv1, hr1, hb1⟩ := ho1.row
      subst hv1
      have f2 : Fr (fun _ => False) w (w1.alloc (.cells #[.slice a1 L1.length c1] 24)) := f1.alloc _
      have hprow : PRowS (w1.alloc (.cells #[.slice a1 L1.length c1] 24)) (fun k => w.heap.size ≤ k ∧ (Value.slice none 0 0).ownBlock ≠ some k) (some ⟨w1.heap.size, 0, none⟩) [L1] 1 := prow_one w1 _ a1 L1 c1 hr1 (fun _ a ha => ⟨(hb1 a ha).1, fun e => by cases e⟩)
      have hbb : w.heap.size ≤ (w1.alloc (.cells #[.slice a1 L1.length c1] 24)).heap.size := f2.size
      clear ho1 hr1 hb1 HK
      go_wp2_with (at_builtin; refine wpList_append_slices rfl (.tmp 53) (.tmp 65) rfl w.heap.size _ [] rfl (OwnP.nil _ _) w1.heap.size 0 [L1] 1 rfl hprow (by simp) (by simp) hbb ?_)
      intro v2 w2 hown2 hg2 _
      have hf2 : Fr (fun _ => False) w w2 := f2.grown hg2 (fun i hi => by cases hi)
      obtain ⟨a2, c2, hv2, _, _⟩ := hown2.prow
      subst hv2
      clear hprow hg2
      go_wp2
      rw [rounds_succ]
      go_wp2
      go_ret2
      exact ⟨_, rfl, hown2, hf2⟩
theorem refsplit_ok (size id : Nat) (ao : Option Addr) (p : List Nat) (cap : Nat) (w : World) (hr : Row w ao p cap) (hs : 64 ≤ size ∧ size ≤ 4096) (hp : p.length ≤ 1048576) (hid : id < 18446744073709551616) :
    Calls Tryd.prog 11 #[.int .i64 (size : Int), .int .u64 (id : Int), .slice ao p.length cap] w fun e w' => ∃ v, e = .returned (.tuple #[v, .int .i64 0]) ∧ OwnP w' w.heap.size v (frames size id p) ∧ Fr (fun _ => False) w w' := by
  by_cases hne : p = []
  · subst hne
    exact refsplit_nil size id ao cap w hr hs hid
  · obtain ⟨b, off, rfl, _⟩ := hr.2.2.2.2 hne
    exact refsplit_some size id _ p cap w (List.length_pos_iff.2 hne) hr hs hp hid
end Go.Proofs.YtpnjcpamhelaeaaDoor
