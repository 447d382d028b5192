/- The program's Split lays the frames of a message. -/
import Derived.Test.YtpnjcpamhelaeaaDoorSplit
namespace Go.Proofs.YtpnjcpamhelaeaaDoor
open Go.RowKit

/-- SLICES OF BYTES, in memory. -/
def PRow (w : World) (ao : Option Addr) (ps : List (List Nat)) (cap : Nat) : Prop :=
  ps.length ≤ cap ∧ cap ≤ maxLen ∧
  (ps ≠ [] → ∃ b off, ao = some ⟨b, off, none⟩ ∧ ∀ i, i < ps.length → ∃ ai ci, w.cell? ⟨b, off + i, none⟩ = some (.slice ai (ps.getD i []).length ci) ∧ Row w ai (ps.getD i []) ci)
theorem Row.takeCap {w : World} {ao : Option Addr} {l : List Nat} {cap n : Nat} (h : Row w ao l cap) (hn : n ≤ l.length) : Row w ao (l.take n) cap := by
  have := h.take hn
  exact ⟨by have := h.1; simp; omega, h.2.1, this.2.2.1, h.2.2.2.1, this.2.2.2.2⟩
theorem split_arg (n : Int) (id : Int) (sl : Value) (w : World) (h : ¬ (64 ≤ n ∧ n ≤ 4096)) : Calls Tryd.prog 10 #[.int .i64 n, .int .u64 id, sl] w fun e w' => e = .returned (.tuple #[.slice none 0 0, .int .i64 1]) ∧ w' = w := by
  have k := isSize_any n w
  rw [show (decide (64 ≤ n) && decide (n ≤ 4096)) = false by simp; omega] at k
  go_enter Tryd.func10, Tryd.ntmps10
  go_wp2_with fail
  refine k.mono ?_
  rintro e w1 ⟨rfl, hw⟩
  subst w1
  go_wp2
  go_ret2
  exact ⟨rfl, rfl⟩
set_option maxHeartbeats 1000000 in
theorem split_long (size : Nat) (id : Int) (ao : Option Addr) (n cap : Nat) (w : World) (h : 64 ≤ size ∧ size ≤ 4096) (hn : 1048576 < n) (hn2 : n ≤ 140737488355328) : Calls Tryd.prog 10 #[.int .i64 (size : Int), .int .u64 id, .slice ao n cap] w fun e w' => e = .returned (.tuple #[.slice none 0 0, .int .i64 6]) ∧ w' = w := by
  have k := isSize_any (size : Int) w
  rw [show (decide (64 ≤ (size : Int)) && decide ((size : Int) ≤ 4096)) = true by simp; omega] at k
  have k2 := parts_any size n w h hn2
  generalize parts size n = q at *
  go_enter Tryd.func10, Tryd.ntmps10
  go_wp2_with fail
  refine k.mono ?_
  rintro e w1 ⟨rfl, hw⟩
  subst w1
  go_wp2_with fail
  refine k2.mono ?_
  rintro e w1 ⟨rfl, hw⟩
  subst w1
  go_wp2
  go_ret2
  exact ⟨rfl, rfl⟩
theorem Tryd.info24 : (Tryd.prog.info? 24).map (fun i => (i.zero, i.size, i.bytes)) = some (some (.slice none 0 0), 1, 24) := by kernel_rfl
theorem run_make_slices (w : World) (n : Nat) (h : n ≤ 1048576) : (Instr.makeSlice 26 (.int .i64 (n : Int)) (.int .i64 (n : Int))).run Tryd.prog w = .ok (.slice (some ⟨w.heap.size, 0, none⟩) n n) (w.alloc (.cells (madeCells #[.slice none 0 0] n) 24)) := by
  obtain ⟨i, hi, hz0, hz1, hz2⟩ := info_parts Tryd.info24
  have := run_make (P := Tryd.prog) w 26 24 i (.slice none 0 0) Tryd.underlying26 hi hz0 .i64 .i64 (n : Int) (n : Int) (by omega) (by omega) (by rw [hz2]; omega) (by omega)
  rw [this, hz1, Nat.mul_one, show (Value.slice none 0 0).cells = #[.slice none 0 0] from rfl]
  simp only [Int.toNat_natCast]
/-- the rows that a list of frames has. -/
def Held (w : World) (g size id of k : Nat) (p : List Nat) (f : Nat → Value) : Prop :=
  ∀ i, i < k → ∃ ai, f i = .slice ai size size ∧ Row w ai (fr1 size id of i p) size ∧ ∀ a, ai = some a → g < a.block
theorem Held.fr {w w1 : World} {g size id of k : Nat} {p : List Nat} {f : Nat → Value} (h : Held w g size id of k p f) (hf : Fr (fun x => x = g) w w1) : Held w1 g size id of k p f := fun i hi => by
  obtain ⟨ai, h1, h2, h3⟩ := h i hi
  exact ⟨ai, h1, hf.row h2 (fun _ a ha e => by have := h3 a ha; omega), h3⟩
theorem drop_take_chunk (size k : Nat) (p q : List Nat) (hq : q = p.drop (k * (size - 19))) : q.take (min (size - 19) q.length) = chunk size k p := by
  subst hq
  unfold chunk
  rw [← List.take_take, List.take_length]
theorem drop_next (size k _of : Nat) (p q : List Nat) (hq : q = p.drop (k * (size - 19))) : q.drop (min (size - 19) q.length) = p.drop ((k + 1) * (size - 19)) := by
  subst hq
  rw [Nat.add_mul, Nat.one_mul, ← List.drop_drop]
  by_cases h : (size - 19) ≤ (p.drop (k * (size - 19))).length
  · rw [Nat.min_eq_left h]
  · rw [Nat.min_eq_right (by omega), List.drop_length, List.drop_eq_nil_of_le (by omega)]
theorem split_next (size id of k : Nat) (p : List Nat) (g : Nat) (f : Nat → Value) (a2 : Option Addr) (q : List Nat) (c2 _m : Nat) (wr w1 : World) (a1 : Option Addr) (w : World) (hlt : k < of) (hs : 64 ≤ size ∧ size ≤ 4096) (hrow : wr.rowIs g 24 of f) (hheld : Held wr g size id of k p f) (hfr : Fr (fun _ => False) w wr) (hg : w.heap.size = g)
    (hF : Fresh wr w1 a1 (sealed (body size id k of (chunk size k p)))) (f1 : Fr (fun _ => False) wr w1) (_hq : Row wr a2 q c2) (_hqb : q ≠ [] → ∀ a, a2 = some a → a.block ≠ g) (m2 : List Nat) (a3 : Option Addr) (c3 : Nat) (hm2 : m2 = p.drop ((k + 1) * (size - 19))) (hq3 : Row w1 a3 m2 c3) (hqb3 : m2 ≠ [] → ∀ a, a3 = some a → a.block ≠ g) :
    ∃ (k' : Nat) (a2 : Option Addr) (q : List Nat) (c2 : Nat) (f' : Nat → Value), k' ≤ of ∧ (.int .i64 ((k : Int) + 1) : Value) = .int .i64 (k' : Int) ∧ (.slice a3 m2.length c3 : Value) = .slice a2 q.length c2 ∧ Row (w1.setCell ⟨g, k, none⟩ (.slice a1 size size)) a2 q c2 ∧ Hid (q = p.drop (k' * (size - 19))) ∧ (w1.setCell ⟨g, k, none⟩ (.slice a1 size size)).rowIs g 24 of f' ∧ Held (w1.setCell ⟨g, k, none⟩ (.slice a1 size size)) g size id of k' p f' ∧ Fr (fun _ => False) w (w1.setCell ⟨g, k, none⟩ (.slice a1 size size)) ∧ (q ≠ [] → ∀ a, a2 = some a → a.block ≠ g) := by
  have fs : Fr (fun x => x = g) w1 (w1.setCell ⟨g, k, none⟩ (.slice a1 size size)) := (Fr.refl (fun x => x = g) w1).setCell (p := ⟨g, k, none⟩) (Or.inl rfl) _
  have hgl := hrow.lt
  have hlen : (sealed (body size id k of (chunk size k p))).length = size := fr1_length size id of k p (by omega)
  refine ⟨k + 1, a3, m2, c3, _, by omega, by go_num, rfl, fs.row hq3 hqb3, hm2, (f1.rowIs hrow (by simp)).set k (.slice a1 size size), fun i hi => ?_, (hfr.trans f1).trans' fs (fun i hi e => by omega), hqb3⟩
  by_cases hik : i = k
  · subst hik
    have h1 := hF.1
    rw [hlen] at h1
    exact ⟨a1, by simp, fs.row h1 (fun _ a ha e => by have := (hF.2 a ha).1; omega), fun a ha => by have := (hF.2 a ha).1; omega⟩
  · obtain ⟨ai, e1, e2, e3⟩ := hheld i (by omega)
    exact ⟨ai, by simp [hik, e1], fs.row (f1.row e2 (by simp)) (fun _ a ha e => by have := e3 a ha; omega), e3⟩
set_option maxRecDepth 100000 in
set_option maxHeartbeats 4000000 in
theorem split_ok (size id : Nat) (ao : Option Addr) (p : List Nat) (cap : Nat) (w : World) (ht : Tab w) (hr : Row w ao p cap) (hs : 64 ≤ size ∧ size ≤ 4096) (hp : p.length ≤ 1048576) (hid : id < 18446744073709551616) :
    Calls Tryd.prog 10 #[.int .i64 (size : Int), .int .u64 (id : Int), .slice ao p.length cap] w fun e w' => ∃ g, e = .returned (.tuple #[.slice (some ⟨g, 0, none⟩) (parts size p.length) (parts size p.length), .int .i64 0]) ∧ w.heap.size ≤ g ∧
      (∃ f, w'.rowIs g 24 (parts size p.length) f ∧ Held w' g size id (parts size p.length) (parts size p.length) p f) ∧ Fr (fun _ => False) w w' := by
  have k1 := isSize_any (size : Int) w
  rw [show (decide (64 ≤ (size : Int)) && decide ((size : Int) ≤ 4096)) = true by simp; omega] at k1
  have k2 := parts_any size p.length w hs (by omega)
  have hle := parts_le size p.length hs.1 hp
  obtain ⟨of, Hof⟩ : ∃ of, Hid (parts size p.length = of) := ⟨_, rfl⟩
  rw [Hof.out] at k2 hle ⊢
  have hmk := run_make_slices w of (by omega)
  have r0 := World.rowIs_made w (.slice none 0 0) of 24
  have f0 := (Fr.refl (fun _ => False) w).alloc (.cells (madeCells #[.slice none 0 0] of) 24)
  obtain ⟨W, HW⟩ : ∃ W, Hid (W = w.alloc (.cells (madeCells #[.slice none 0 0] of) 24)) := ⟨_, rfl⟩
  rw [← HW.out] at r0 f0 hmk
  obtain ⟨g, Hg⟩ : ∃ g, Hid (w.heap.size = g) := ⟨_, rfl⟩
  rw [Hg.out] at r0 hmk ⊢
  have HR0 : Hid (World.rowIs _ _ _ _ _) := r0
  have HR : Hid (Row W ao p cap) := f0.row hr (by simp)
  have HQB : Hid (p ≠ [] → ∀ a, ao = some a → a.block ≠ g) := fun hne a ha e => by
    obtain ⟨b, off, he, hc⟩ := hr.2.2.2.2 hne
    have := World.block_lt_of_cell? _ _ (hc 0 (List.length_pos_iff.2 hne))
    have h2 := Hg.out
    rw [he] at ha; cases ha; simp only at this e; omega
  have HT : Hid (Tab w) := ht
  have HF0 : Hid (Fr (fun _ => False) w W) := f0
  clear ht hr r0 f0
  go_enter Tryd.func10, Tryd.ntmps10
  go_wp2_with fail
  refine k1.mono ?_
  rintro e w1 ⟨rfl, hw⟩
  subst w1
  go_wp2_with fail
  refine k2.mono ?_
  rintro e w1 ⟨rfl, hw⟩
  subst w1
  clear k1 k2
  go_wp2
  go_loopw [2, 30] (fun ps i wr => ∃ (k : Nat) (a2 : Option Addr) (q : List Nat) (c2 : Nat) (f : Nat → Value), k ≤ of ∧ i = .int .i64 (k : Int) ∧ ps = .slice a2 q.length c2 ∧ Row wr a2 q c2 ∧ Hid (q = p.drop (k * (size - 19))) ∧ wr.rowIs g 24 of f ∧ Held wr g size id of k p f ∧ Fr (fun _ => False) w wr ∧ (q ≠ [] → ∀ a, a2 = some a → a.block ≠ g)) (fun _ i _ => of - (intOf i).toNat)
  case atStart => exact ⟨0, ao, p, cap, _, Nat.zero_le _, rfl, rfl, HR.out, by show _ = _; simp, HR0.out, fun i hi => absurd hi (Nat.not_lt_zero _), HF0.out, HQB.out⟩
  case round =>
    obtain ⟨k, a2, q, c2, f, hk, rfl, rfl, hq, Hq, hrow, hheld, hfr, hqb⟩ := hrel
    by_cases hlt : k < of
    · obtain ⟨m, Hm⟩ : ∃ m, Hid (min (size - 19) q.length = m) := ⟨_, rfl⟩
      obtain ⟨r, Hr⟩ : ∃ r, Hid (size - 19 = r) := ⟨_, rfl⟩
      have kr := room_any size wr (by omega)
      rw [Hr.out] at kr
      have hr0 : 0 < r := by have := Hr.out; omega
      have hr1 : r ≤ 4096 := by have := Hr.out; omega
      have hmq : Hid (m ≤ q.length) := by show m ≤ q.length; rw [← Hm.out]; exact Nat.min_le_right _ _
      have hmr : Hid (m + 19 ≤ size) := by show m + 19 ≤ size; have := Hm.out; omega
      have hch : Hid (q.take m = chunk size k p) := by show _ = _; rw [← Hm.out]; exact drop_take_chunk size k p q Hq.out
      have hnx : Hid (q.drop m = p.drop ((k + 1) * (size - 19))) := by show _ = _; rw [← Hm.out]; exact drop_next size k of p q Hq.out
      have htl : (q.take m).length = m := by have := hmq.out; simp; omega
      have kl := lay1_any size id k of a2 (q.take m) c2 wr (hfr.tab HT.out (by simp)) (hq.takeCap hmq.out) hs (by rw [htl]; exact hmr.out) hid (by omega) (by omega)
      rw [htl, hch.out] at kl
      have HK : Hid (Calls _ _ _ _ _) := kl
      have HQ : Hid (Row wr a2 q c2) := hq
      have q1 := hq.1
      have q2 := hq.2.1
      have q4 := hq.2.2.2.1
      have HRI : Hid (World.rowIs _ _ _ _ _) := hrow
      have HHE : Hid (Held wr g size id of k p f) := hheld
      have HQB2 : Hid (q ≠ [] → ∀ a, a2 = some a → a.block ≠ g) := hqb
      have hqr : (q.length < r ∧ q.length = m) ∨ (¬ q.length < r ∧ r = m) := by have := Hm.out; have := Hr.out; omega
      unfold maxLen at q2
      clear kl hq htl hrow hheld hmk hqb
      cases a2 with
      | none =>
        have := q4 rfl
        subst this
        have hqe : q = [] := List.eq_nil_of_length_eq_zero (by omega)
        subst hqe
        have hm0 : m = 0 := by simp at hqr; omega
        subst hm0
        clear q4 q1 q2 hqr
        simp only [List.length_nil]
        go_wp2_with fail
        refine kr.mono ?_
        rintro e w1 ⟨rfl, hw⟩
        subst w1
        go_wp2_with fail
        refine HK.out.mono ?_
        rintro e w1 ⟨a1, rfl, hF, f1⟩
        have hrow1 := f1.rowIs HRI.out (by simp)
        have hc1 := hrow1.cell hlt
        have hz1 := hrow1.frozen k
        clear hrow1 kr
        go_wp2
        go_roundw
        case rel => exact split_next size id of k p g f none [] 0 0 wr w1 a1 w hlt hs HRI.out HHE.out hfr Hg.out hF f1 HQ.out (by simp) [] none 0 hnx.out (row_nil _) (by simp)
        case measure => simp [intOf]; omega
      | some a =>
        clear q4
        have hdl : Hid ((q.drop m).length = q.length - m) := by show _ = _; simp
        rcases hqr with ⟨hqr, rfl⟩ | ⟨hqr, rfl⟩
        · by_cases hcap : c2 = q.length
          · have hdn : q.drop q.length = [] := List.drop_length
            rw [hdn] at hnx
            subst hcap
            clear q1 hdn
            go_wp2_with fail
            refine kr.mono ?_
            rintro e w1 ⟨rfl, hw⟩
            subst w1
            go_wp2_with fail
            refine HK.out.mono ?_
            rintro e w1 ⟨a1, rfl, hF, f1⟩
            have hrow1 := f1.rowIs HRI.out (by simp)
            have hc1 := hrow1.cell hlt
            have hz1 := hrow1.frozen k
            clear hrow1 kr
            go_wp2
            go_roundw
            case rel => exact split_next size id of k p g f (some a) q q.length q.length wr w1 a1 w hlt hs HRI.out HHE.out hfr Hg.out hF f1 HQ.out HQB2.out [] (some a) 0 hnx.out ⟨by simp, Nat.zero_le _, by simp, fun e => (by cases e), fun h => absurd rfl h⟩ (by simp)
            case measure => simp [intOf]; omega
          · have hlt2 : q.length < c2 := by omega
            go_wp2_with fail
            refine kr.mono ?_
            rintro e w1 ⟨rfl, hw⟩
            subst w1
            go_wp2_with fail
            refine HK.out.mono ?_
            rintro e w1 ⟨a1, rfl, hF, f1⟩
            have hrow1 := f1.rowIs HRI.out (by simp)
            have hc1 := hrow1.cell hlt
            have hz1 := hrow1.frozen k
            clear hrow1 kr
            go_wp2
            go_roundw
            case rel =>
              have := split_next size id of k p g f (some a) q c2 q.length wr w1 a1 w hlt hs HRI.out HHE.out hfr Hg.out hF f1 HQ.out HQB2.out (q.drop q.length) (some (a.add q.length)) (c2 - q.length) hnx.out (f1.row (HQ.out.drop hmq.out (a.add q.length) (fun _ => rfl)) (by simp)) (by simp)
              rw [hdl.out, Nat.sub_self] at this
              exact this
            case measure => simp [intOf]; omega
        · by_cases hcap : c2 = r
          · have hqc : q.length = r := by omega
            have hdn : q.drop r = [] := List.drop_eq_nil_of_le (by omega)
            rw [hdn] at hnx
            subst hcap
            clear hdn
            go_wp2_with fail
            refine kr.mono ?_
            rintro e w1 ⟨rfl, hw⟩
            subst w1
            go_wp2_with fail
            refine HK.out.mono ?_
            rintro e w1 ⟨a1, rfl, hF, f1⟩
            have hrow1 := f1.rowIs HRI.out (by simp)
            have hc1 := hrow1.cell hlt
            have hz1 := hrow1.frozen k
            clear hrow1 kr
            go_wp2
            go_roundw
            case rel => exact split_next size id of k p g f (some a) q c2 c2 wr w1 a1 w hlt hs HRI.out HHE.out hfr Hg.out hF f1 HQ.out HQB2.out [] (some a) 0 hnx.out ⟨by simp, Nat.zero_le _, by simp, fun e => (by cases e), fun h => absurd rfl h⟩ (by simp)
            case measure => simp [intOf]; omega
          · have hlt2 : r < c2 := by omega
            go_wp2_with fail
            refine kr.mono ?_
            rintro e w1 ⟨rfl, hw⟩
            subst w1
            go_wp2_with fail
            refine HK.out.mono ?_
            rintro e w1 ⟨a1, rfl, hF, f1⟩
            have hrow1 := f1.rowIs HRI.out (by simp)
            have hc1 := hrow1.cell hlt
            have hz1 := hrow1.frozen k
            clear hrow1 kr
            go_wp2
            go_roundw
            case rel =>
              have := split_next size id of k p g f (some a) q c2 r wr w1 a1 w hlt hs HRI.out HHE.out hfr Hg.out hF f1 HQ.out HQB2.out (q.drop r) (some (a.add r)) (c2 - r) hnx.out (f1.row (HQ.out.drop hmq.out (a.add r) (fun _ => rfl)) (by simp)) (fun hne a' e => by cases e; exact (show (a.add r).block = a.block by unfold Addr.add; split <;> rfl) ▸ HQB2.out (fun e => hne (by rw [e]; simp)) a rfl)
              rw [hdl.out] at this
              exact this
            case measure => simp [intOf]; omega
    · have hkn : k = of := by omega
      subst hkn
      clear hq
      go_wp2
      go_ret2
      exact ⟨g, rfl, Nat.le_refl _, ⟨f, hrow, hheld⟩, hfr⟩
end Go.Proofs.YtpnjcpamhelaeaaDoor
