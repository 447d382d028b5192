/- The document's Pad. -/
import Derived.Test.YtmcjeeeeielhbaaGreatPad
namespace Go.Proofs.YtmcjeeeeielhbaaGreat
open Go.RowKit
attribute [local go_sem] run_store_float
theorem pad_zero (l : List Nat) : pad 0 l = [] := by simp [pad]
theorem getD_lt (l : List Nat) (k : Nat) (h : ∀ x ∈ l, x < 256) : l.getD k 0 < 256 := by
  rw [List.getD_eq_getElem?_getD]
  by_cases hk : k < l.length
  · rw [List.getElem?_eq_getElem hk]; exact h _ (List.getElem_mem _)
  · rw [List.getElem?_eq_none (by omega)]; simp
theorem pad_succ (k : Nat) (l : List Nat) : pad (k + 1) l = pad k l ++ [l.getD k 0] := by
  unfold pad
  by_cases hk : k < l.length
  · rw [show k + 1 - l.length = 0 by omega, show k - l.length = 0 by omega, List.take_add_one]
    simp [List.getD_eq_getElem?_getD, List.getElem?_eq_getElem hk]
  · rw [List.take_of_length_le (by omega), List.take_of_length_le (by omega), show k + 1 - l.length = (k - l.length) + 1 by omega, List.replicate_succ']
    simp [List.getD_eq_getElem?_getD, List.getElem?_eq_none (show l.length ≤ k by omega)]
set_option maxRecDepth 100000 in
set_option maxHeartbeats 8000000 in
theorem refpad_any (x : Nat) (del : Bool) (ao : Option Addr) (l : List Nat) (cap : Nat) (n : Int) (w : World) (hr : Row w ao l cap) (hn : -300 < n ∧ n < 300) : Calls Tryz.prog 7 #[.agg #[.float .f64 x, .bool del, .slice ao l.length cap], .int .i64 n] w fun e w' => ∃ a1 c1, e = .returned (.agg #[.float .f64 x, .bool del, .slice a1 (pd del n l).length c1]) ∧ Row w' a1 (pd del n l) c1 ∧ Fr (fun _ => False) w w' := by
  cases del with
  | true =>
    have HPD : Hid (∀ k : Nat, k = (if true = true then 0 else n.toNat) → pd true n l = pad k l) := fun k hk => by
      subst hk
      unfold pd
      simp [pad]
    obtain ⟨W, HW⟩ : ∃ W, Hid (W = ((w.alloc (.cells #[.float .f64 x, .bool true, .slice ao l.length cap] 26)).alloc (.cells #[.float .f64 0, .bool false, .slice none 0 0] 26))) := ⟨_, rfl⟩
    have F0 : Hid (Fr (fun _ => False) w W) := (show Fr _ _ _ by rw [HW.out]; exact ((Fr.refl _ w).alloc _).alloc _)
    have HB : Hid (Z3 W w.heap.size (.float .f64 x) (.bool true) (.slice ao l.length cap)) := (show Z3 _ _ _ _ _ by rw [HW.out]; exact (Z3.new w 26 _ _ _).fr ((Fr.refl (fun _ => False) _).alloc _) (by simp))
    have HR : Hid (Z3 W (w.heap.size + 1) (.float .f64 0) (.bool false) (.slice none 0 0)) := (show Z3 _ _ _ _ _ by rw [HW.out]; have := Z3.new (w.alloc (.cells #[.float .f64 x, .bool true, .slice ao l.length cap] 26)) 26 (.float .f64 0) (.bool false) (.slice none 0 0); simpa using this)
    have HRW : Hid (Row W ao l cap) := F0.out.row hr (by simp)
    have hl1 : l.length ≤ 9223372036854775807 := by have := hr.1; have := hr.2.1; unfold maxLen at this; omega
    obtain ⟨bx, Hbx⟩ : ∃ bx, Hid (w.heap.size = bx) := ⟨_, rfl⟩
    obtain ⟨rb, Hrb⟩ : ∃ rb, Hid (w.heap.size + 1 = rb) := ⟨_, rfl⟩
    have HBX : Hid (w.heap.size = bx ∧ rb = bx + 1 ∧ rb < W.heap.size) := ⟨Hbx.out, by have := Hbx.out; have := Hrb.out; omega, by have := HR.out.lt; have := Hrb.out; omega⟩
    rw [Hbx.out] at HB
    rw [Hrb.out] at HR
    clear hr
    go_enter Tryz.func7, Tryz.ntmps7
    go_wp2
    rw [← HW.out, Hrb.out, Hbx.out]
    go_loopw [5, 6] (fun u iv wr => ∃ k : Nat, k ≤ (if true = true then 0 else n.toNat) ∧ iv = .int .i64 (k : Int) ∧ Hid (Own wr W.heap.size u (pad k l)) ∧ Hid (Fr (fun _ => False) W wr)) (fun _ iv _ => (if true = true then 0 else n.toNat) - (intOf iv).toNat)
    case atStart => exact ⟨0, Nat.zero_le _, rfl, (show Own _ _ _ _ by rw [pad_zero]; exact Own.nil _ _), Fr.refl _ _⟩
    case round =>
      obtain ⟨k, hk, rfl, HO, HF⟩ := hrel
      obtain ⟨a7, c7, hv7, hr7, hb7⟩ := HO.out.row
      subst hv7
      have HR7 : Hid (Row wr a7 (pad k l) c7) := hr7
      have HB7 : Hid (∀ a, a7 = some a → W.heap.size ≤ a.block) := fun a ha => (hb7 a ha).1
      clear hr7 hb7
      have hk0 : k = 0 := by simpa using hk
      subst hk0
      have hk2 : 0 = (if true = true then 0 else n.toNat) := by simp
      obtain ⟨t0, t1, t2, tz⟩ := HB.out.fr HF.out (by simp)
      by_cases hlt : (0 : Int) < n
      · skip
        have HP : Hid (pd true n l = pad 0 l) := HPD.out 0 hk2
        clear hk2
        have HBr : Hid (Z3 wr bx (.float .f64 x) (.bool true) (.slice ao l.length cap)) := HB.out.fr HF.out (by simp)
        have HRr : Hid (Z3 wr rb (.float .f64 0) (.bool false) (.slice none 0 0)) := HR.out.fr HF.out (by simp)
        obtain ⟨W5, HW5⟩ : ∃ W, Hid (W = wr.setCell ⟨bx, 2, none⟩ (.slice a7 (pad 0 l).length c7)) := ⟨_, rfl⟩
        have F5 : Hid (Fr (fun k => k = bx) wr W5) := (show Fr _ _ _ by rw [HW5.out]; exact (Fr.refl (fun k => k = bx) _).setCell (p := ⟨bx, 2, none⟩) (Or.inl rfl) _)
        have HB5 : Hid (Z3 W5 bx (.float .f64 x) (.bool true) (.slice a7 (pad 0 l).length c7)) := (show Z3 _ _ _ _ _ by rw [HW5.out]; exact ⟨(World.cell?_setCell_other _ _ _ _ (by simp)).trans HBr.out.c0, (World.cell?_setCell_other _ _ _ _ (by simp)).trans HBr.out.c1, World.cell?_setCell_same _ _ _ HBr.out.c2, fun j => by simp; exact HBr.out.z j⟩)
        have HR5 : Hid (Z3 W5 rb (.float .f64 0) (.bool false) (.slice none 0 0)) := HRr.out.fr F5.out (by have := HBX.out; omega)
        obtain ⟨b0, b1, b2, bz⟩ := HBr.out
        obtain ⟨c0, c1, c2, cz⟩ := HB5.out
        obtain ⟨r0, r1, r2, rz⟩ := HR5.out
        rw [HW5.out] at c0 c1 c2 cz r0 r1 r2 rz
        clear t0 t1 t2 tz
        go_wp2
        rw [← HW5.out]
        obtain ⟨hq, fq⟩ := HR5.out.put (.float .f64 x) (.bool true) (.slice a7 (pad 0 l).length c7)
        clear b0 b1 b2 bz c0 c1 c2 cz r0 r1 r2 rz
        refine bodyPost_ret (v := .agg #[.float .f64 x, .bool true, .slice a7 (pad 0 l).length c7]) ?_ rfl ⟨a7, c7, by rw [HP.out], by rw [HP.out]; exact fq.row (F5.out.row HR7.out (fun _ a ha e => by have := HB7.out a ha; have := HBX.out; omega)) (fun _ a ha e => by have := HB7.out a ha; have := HBX.out; omega), ((F0.out.trans HF.out).trans' F5.out (fun i hi e => by have := HBX.out; omega)).trans' fq (fun i hi e => by have := HBX.out; omega)⟩
        revert hq
        generalize (((W5.setCell _ _).setCell _ _).setCell _ _) = WQ
        intro hq
        obtain ⟨d0, d1, d2, _⟩ := hq
        simp [results, Tryz.results7, go_sem, *]
      · skip
        have HP : Hid (pd true n l = pad 0 l) := HPD.out 0 hk2
        clear hk2
        have HBr : Hid (Z3 wr bx (.float .f64 x) (.bool true) (.slice ao l.length cap)) := HB.out.fr HF.out (by simp)
        have HRr : Hid (Z3 wr rb (.float .f64 0) (.bool false) (.slice none 0 0)) := HR.out.fr HF.out (by simp)
        obtain ⟨W5, HW5⟩ : ∃ W, Hid (W = wr.setCell ⟨bx, 2, none⟩ (.slice a7 (pad 0 l).length c7)) := ⟨_, rfl⟩
        have F5 : Hid (Fr (fun k => k = bx) wr W5) := (show Fr _ _ _ by rw [HW5.out]; exact (Fr.refl (fun k => k = bx) _).setCell (p := ⟨bx, 2, none⟩) (Or.inl rfl) _)
        have HB5 : Hid (Z3 W5 bx (.float .f64 x) (.bool true) (.slice a7 (pad 0 l).length c7)) := (show Z3 _ _ _ _ _ by rw [HW5.out]; exact ⟨(World.cell?_setCell_other _ _ _ _ (by simp)).trans HBr.out.c0, (World.cell?_setCell_other _ _ _ _ (by simp)).trans HBr.out.c1, World.cell?_setCell_same _ _ _ HBr.out.c2, fun j => by simp; exact HBr.out.z j⟩)
        have HR5 : Hid (Z3 W5 rb (.float .f64 0) (.bool false) (.slice none 0 0)) := HRr.out.fr F5.out (by have := HBX.out; omega)
        obtain ⟨b0, b1, b2, bz⟩ := HBr.out
        obtain ⟨c0, c1, c2, cz⟩ := HB5.out
        obtain ⟨r0, r1, r2, rz⟩ := HR5.out
        rw [HW5.out] at c0 c1 c2 cz r0 r1 r2 rz
        clear t0 t1 t2 tz
        go_wp2
        rw [← HW5.out]
        obtain ⟨hq, fq⟩ := HR5.out.put (.float .f64 x) (.bool true) (.slice a7 (pad 0 l).length c7)
        clear b0 b1 b2 bz c0 c1 c2 cz r0 r1 r2 rz
        refine bodyPost_ret (v := .agg #[.float .f64 x, .bool true, .slice a7 (pad 0 l).length c7]) ?_ rfl ⟨a7, c7, by rw [HP.out], by rw [HP.out]; exact fq.row (F5.out.row HR7.out (fun _ a ha e => by have := HB7.out a ha; have := HBX.out; omega)) (fun _ a ha e => by have := HB7.out a ha; have := HBX.out; omega), ((F0.out.trans HF.out).trans' F5.out (fun i hi e => by have := HBX.out; omega)).trans' fq (fun i hi e => by have := HBX.out; omega)⟩
        revert hq
        generalize (((W5.setCell _ _).setCell _ _).setCell _ _) = WQ
        intro hq
        obtain ⟨d0, d1, d2, _⟩ := hq
        simp [results, Tryz.results7, go_sem, *]
  | false =>
    have HPD : Hid (∀ k : Nat, k = (if false = true then 0 else n.toNat) → pd false n l = pad k l) := fun k hk => by
      subst hk
      unfold pd
      by_cases h : n < 1
      · rw [if_pos (Or.inr h)]; simp [pad]; omega
      · rw [if_neg (by simpa using h)]; simp
    obtain ⟨W, HW⟩ : ∃ W, Hid (W = ((w.alloc (.cells #[.float .f64 x, .bool false, .slice ao l.length cap] 26)).alloc (.cells #[.float .f64 0, .bool false, .slice none 0 0] 26))) := ⟨_, rfl⟩
    have F0 : Hid (Fr (fun _ => False) w W) := (show Fr _ _ _ by rw [HW.out]; exact ((Fr.refl _ w).alloc _).alloc _)
    have HB : Hid (Z3 W w.heap.size (.float .f64 x) (.bool false) (.slice ao l.length cap)) := (show Z3 _ _ _ _ _ by rw [HW.out]; exact (Z3.new w 26 _ _ _).fr ((Fr.refl (fun _ => False) _).alloc _) (by simp))
    have HR : Hid (Z3 W (w.heap.size + 1) (.float .f64 0) (.bool false) (.slice none 0 0)) := (show Z3 _ _ _ _ _ by rw [HW.out]; have := Z3.new (w.alloc (.cells #[.float .f64 x, .bool false, .slice ao l.length cap] 26)) 26 (.float .f64 0) (.bool false) (.slice none 0 0); simpa using this)
    have HRW : Hid (Row W ao l cap) := F0.out.row hr (by simp)
    have hl1 : l.length ≤ 9223372036854775807 := by have := hr.1; have := hr.2.1; unfold maxLen at this; omega
    obtain ⟨bx, Hbx⟩ : ∃ bx, Hid (w.heap.size = bx) := ⟨_, rfl⟩
    obtain ⟨rb, Hrb⟩ : ∃ rb, Hid (w.heap.size + 1 = rb) := ⟨_, rfl⟩
    have HBX : Hid (w.heap.size = bx ∧ rb = bx + 1 ∧ rb < W.heap.size) := ⟨Hbx.out, by have := Hbx.out; have := Hrb.out; omega, by have := HR.out.lt; have := Hrb.out; omega⟩
    rw [Hbx.out] at HB
    rw [Hrb.out] at HR
    clear hr
    go_enter Tryz.func7, Tryz.ntmps7
    go_wp2
    rw [← HW.out, Hrb.out, Hbx.out]
    go_loopw [5, 6] (fun u iv wr => ∃ k : Nat, k ≤ (if false = true then 0 else n.toNat) ∧ iv = .int .i64 (k : Int) ∧ Hid (Own wr W.heap.size u (pad k l)) ∧ Hid (Fr (fun _ => False) W wr)) (fun _ iv _ => (if false = true then 0 else n.toNat) - (intOf iv).toNat)
    case atStart => exact ⟨0, Nat.zero_le _, rfl, (show Own _ _ _ _ by rw [pad_zero]; exact Own.nil _ _), Fr.refl _ _⟩
    case round =>
      obtain ⟨k, hk, rfl, HO, HF⟩ := hrel
      obtain ⟨a7, c7, hv7, hr7, hb7⟩ := HO.out.row
      subst hv7
      have HR7 : Hid (Row wr a7 (pad k l) c7) := hr7
      have HB7 : Hid (∀ a, a7 = some a → W.heap.size ≤ a.block) := fun a ha => (hb7 a ha).1
      clear hr7 hb7
      have hk : k ≤ n.toNat := by simpa using hk
      obtain ⟨t0, t1, t2, tz⟩ := HB.out.fr HF.out (by simp)
      by_cases hlt : (k : Int) < n
      · have z0 : (0 : Int) ≤ (k : Int) := by omega
        have HS : Hid (pad (k + 1) l = pad k l ++ [l.getD k 0]) := pad_succ k l
        have HY : Hid (l.getD k 0 < 256) := getD_lt l k HRW.out.2.2.1
        have HKL : Hid ((pad k l).length = k) := pad_length k l
        by_cases hin : k < l.length
        · have z1 : (k : Int) < (l.length : Int) := by omega
          obtain ⟨b, off, hao, hc⟩ := (HF.out.row HRW.out (by simp)).2.2.2.2 (fun e => by rw [e] at hin; simp at hin)
          have hy := hc k hin
          obtain ⟨y, Hy⟩ : ∃ y, Hid (l.getD k 0 = y) := ⟨_, rfl⟩
          rw [Hy.out] at hy HS HY
          rw [hao] at t2
          have FA : Hid (Fr (fun _ => False) wr (wr.alloc (.cells #[.int .u8 (y : Int)] 5))) := (Fr.refl _ _).alloc _
          have HRY : Hid (Row (wr.alloc (.cells #[.int .u8 (y : Int)] 5)) (some ⟨wr.heap.size, 0, none⟩) [y] 1) := ⟨by simp, by unfold maxLen; simp, by simp; exact HY.out, by simp, fun _ => ⟨wr.heap.size, 0, rfl, fun i hi => by
            have : i = 0 := by simpa using hi
            subst this
            simp⟩⟩
          clear hc
          go_wp2_with (at_builtin; refine wpList_append_bytes rfl (.tmp 28) (.tmp 30) rfl W.heap.size _ (pad k l) rfl (HO.out.fr FA.out (by simp)) (some ⟨wr.heap.size, 0, none⟩) [y] 1 rfl HRY.out (by rw [HKL.out]; simp; omega) (Nat.le_trans HF.out.size FA.out.size) ?_)
          intro v7 w7 o7 g7 k7
          rw [← HS.out] at o7
          have O7 : Hid (Own w7 W.heap.size v7 (pad (k + 1) l)) := o7
          have G7 : Hid (Fr (fun i => W.heap.size ≤ i) wr w7) := (FA.out.mono (fun _ _ h => h.elim)).grown g7 (fun i hi => .inl ((HO.out.lt i hi).1))
          have F7 : Hid (Fr (fun _ => False) W w7) := HF.out.trans' G7.out (fun i hi e => by omega)
          clear o7 g7 k7 t0 t1 t2 tz
          go_wp2
          go_roundw
          case rel => first | exact ⟨k + 1, by omega, by omega, O7⟩ | exact ⟨k + 1, by simp; omega, by go_num, O7, F7⟩
          case measure => simp [intOf]; omega
        · have z1 : ¬ (k : Int) < (l.length : Int) := by omega
          have HY0 : Hid (l.getD k 0 = 0) := (show _ = _ by simp [List.getD_eq_getElem?_getD, List.getElem?_eq_none (show l.length ≤ k by omega)])
          rw [HY0.out] at HS
          have FA : Hid (Fr (fun _ => False) wr (wr.alloc (.cells #[.int .u8 0] 5))) := (Fr.refl _ _).alloc _
          have HRY : Hid (Row (wr.alloc (.cells #[.int .u8 0] 5)) (some ⟨wr.heap.size, 0, none⟩) [0] 1) := ⟨by simp, by unfold maxLen; simp, by simp, by simp, fun _ => ⟨wr.heap.size, 0, rfl, fun i hi => by
            have : i = 0 := by simpa using hi
            subst this
            simp⟩⟩
          go_wp2_with (at_builtin; refine wpList_append_bytes rfl (.tmp 28) (.tmp 30) rfl W.heap.size _ (pad k l) rfl (HO.out.fr FA.out (by simp)) (some ⟨wr.heap.size, 0, none⟩) [0] 1 rfl HRY.out (by rw [HKL.out]; simp; omega) (Nat.le_trans HF.out.size FA.out.size) ?_)
          intro v7 w7 o7 g7 k7
          rw [← HS.out] at o7
          have O7 : Hid (Own w7 W.heap.size v7 (pad (k + 1) l)) := o7
          have G7 : Hid (Fr (fun i => W.heap.size ≤ i) wr w7) := (FA.out.mono (fun _ _ h => h.elim)).grown g7 (fun i hi => .inl ((HO.out.lt i hi).1))
          have F7 : Hid (Fr (fun _ => False) W w7) := HF.out.trans' G7.out (fun i hi e => by omega)
          clear o7 g7 k7 t0 t1 t2 tz
          go_wp2
          go_roundw
          case rel => first | exact ⟨k + 1, by omega, by omega, O7⟩ | exact ⟨k + 1, by simp; omega, by go_num, O7, F7⟩
          case measure => simp [intOf]; omega
      · have hk2 : k = (if false = true then 0 else n.toNat) := by simp; omega
        have HP : Hid (pd false n l = pad k l) := HPD.out k hk2
        clear hk2
        have HBr : Hid (Z3 wr bx (.float .f64 x) (.bool false) (.slice ao l.length cap)) := HB.out.fr HF.out (by simp)
        have HRr : Hid (Z3 wr rb (.float .f64 0) (.bool false) (.slice none 0 0)) := HR.out.fr HF.out (by simp)
        obtain ⟨W5, HW5⟩ : ∃ W, Hid (W = wr.setCell ⟨bx, 2, none⟩ (.slice a7 (pad k l).length c7)) := ⟨_, rfl⟩
        have F5 : Hid (Fr (fun k => k = bx) wr W5) := (show Fr _ _ _ by rw [HW5.out]; exact (Fr.refl (fun k => k = bx) _).setCell (p := ⟨bx, 2, none⟩) (Or.inl rfl) _)
        have HB5 : Hid (Z3 W5 bx (.float .f64 x) (.bool false) (.slice a7 (pad k l).length c7)) := (show Z3 _ _ _ _ _ by rw [HW5.out]; exact ⟨(World.cell?_setCell_other _ _ _ _ (by simp)).trans HBr.out.c0, (World.cell?_setCell_other _ _ _ _ (by simp)).trans HBr.out.c1, World.cell?_setCell_same _ _ _ HBr.out.c2, fun j => by simp; exact HBr.out.z j⟩)
        have HR5 : Hid (Z3 W5 rb (.float .f64 0) (.bool false) (.slice none 0 0)) := HRr.out.fr F5.out (by have := HBX.out; omega)
        obtain ⟨b0, b1, b2, bz⟩ := HBr.out
        obtain ⟨c0, c1, c2, cz⟩ := HB5.out
        obtain ⟨r0, r1, r2, rz⟩ := HR5.out
        rw [HW5.out] at c0 c1 c2 cz r0 r1 r2 rz
        clear t0 t1 t2 tz
        go_wp2
        rw [← HW5.out]
        obtain ⟨hq, fq⟩ := HR5.out.put (.float .f64 x) (.bool false) (.slice a7 (pad k l).length c7)
        clear b0 b1 b2 bz c0 c1 c2 cz r0 r1 r2 rz
        refine bodyPost_ret (v := .agg #[.float .f64 x, .bool false, .slice a7 (pad k l).length c7]) ?_ rfl ⟨a7, c7, by rw [HP.out], by rw [HP.out]; exact fq.row (F5.out.row HR7.out (fun _ a ha e => by have := HB7.out a ha; have := HBX.out; omega)) (fun _ a ha e => by have := HB7.out a ha; have := HBX.out; omega), ((F0.out.trans HF.out).trans' F5.out (fun i hi e => by have := HBX.out; omega)).trans' fq (fun i hi e => by have := HBX.out; omega)⟩
        revert hq
        generalize (((W5.setCell _ _).setCell _ _).setCell _ _) = WQ
        intro hq
        obtain ⟨d0, d1, d2, _⟩ := hq
        simp [results, Tryz.results7, go_sem, *]
end Go.Proofs.YtmcjeeeeielhbaaGreat
