/- The statement LanePads: its body. -/
import Derived.Test.YtmcjeeeeielhbaaGreatSameW
namespace Go.Proofs.YtmcjeeeeielhbaaGreat
open Go.RowKit
attribute [local go_sem] run_store_float
set_option maxRecDepth 100000 in
set_option maxHeartbeats 8000000 in
theorem pads_walk (x : Nat) (hx : x < 18446744073709551616) (del : Bool) (ao : Option Addr) (l : List Nat) (cap : Nat) (wide : Int) (w : World) (hr : Row w ao l cap) :
    Calls Tryz.prog 3 #[.float .f64 x, .bool del, .slice ao l.length cap, .int .i64 wide] w fun e w' => e = .returned (.bool true) ∧ Fr (fun _ => False) w w' := by
  have hl1 : l.length ≤ 9223372036854775807 := by have := hr.1; have := hr.2.1; unfold maxLen at this; omega
  by_cases hp : 300 < l.length
  · have hp2 : (300 : Int) < (l.length : Int) := by omega
    clear hr
    go_enter Tryz.func3, Tryz.ntmps3
    go_wp2_with fail
    refine (awake_any w).mono ?_
    rintro e w1 ⟨rfl, f1⟩
    go_wp2_with fail
    refine (awake_any w1).mono ?_
    rintro e w2 ⟨rfl, f2⟩
    go_wp2
    go_ret
    exact ⟨rfl, f1.trans f2⟩
  have hp2 : ¬ (300 : Int) < (l.length : Int) := by omega
  have HRW : Hid (Row w ao l cap) := hr
  obtain ⟨n, Hn⟩ : ∃ n : Int, Hid (wide.tmod 300 = n) := ⟨_, rfl⟩
  have HNB : Hid (-300 < n ∧ n < 300) := by
    have h1 := Int.tmod_lt_of_pos wide (b := 300) (by omega)
    have h2 : -300 < wide.tmod 300 := by
      rcases Int.le_total 0 wide with h | h
      · have := Int.tmod_nonneg 300 h; omega
      · have := Int.tmod_lt_of_pos (-wide) (b := 300) (by omega)
        rw [Int.neg_tmod] at this
        omega
    exact ⟨by rw [← Hn.out]; exact h2, by rw [← Hn.out]; exact h1⟩
  clear hr
  go_enter Tryz.func3, Tryz.ntmps3
  go_wp2_with fail
  refine (awake_any w).mono ?_
  rintro e w1 ⟨rfl, f1⟩
  have F1 : Hid (Fr (fun _ => False) w w1) := f1
  clear f1
  go_wp2_with fail
  rw [Hn.out]
  obtain ⟨WA, HWA⟩ : ∃ W, Hid (W = w1.alloc (.cells #[.float .f64 x, .bool del, .slice ao l.length cap] 26)) := ⟨_, rfl⟩
  have FA : Hid (Fr (fun _ => False) w WA) := (show Fr _ _ _ by rw [HWA.out]; exact F1.out.alloc _)
  have HWA1 : Hid (Z3 WA w1.heap.size (.float .f64 x) (.bool del) (.slice ao l.length cap)) := (show Z3 _ _ _ _ _ by rw [HWA.out]; exact Z3.new w1 26 _ _ _)
  obtain ⟨wb, Hwb⟩ : ∃ b, Hid (w1.heap.size = b) := ⟨_, rfl⟩
  rw [Hwb.out] at HWA1
  rw [← HWA.out, Hwb.out]
  refine (pad_any x del ao l cap n WA (FA.out.row HRW.out (by simp)) HNB.out).mono ?_
  rintro e w2 ⟨a1, c1, rfl, h2, f2⟩
  obtain ⟨WL, HWL⟩ : ∃ W, Hid (W = w2.alloc (.cells #[.float .f64 x, .bool del, .slice a1 (pd del n l).length c1] 26)) := ⟨_, rfl⟩
  have f3 : Fr (fun _ => False) w2 WL := by rw [HWL.out]; exact (Fr.refl _ _).alloc _
  have FL : Hid (Fr (fun _ => False) w WL) := (FA.out.trans f2).trans f3
  have HWB : Hid (Z3 WL wb (.float .f64 x) (.bool del) (.slice ao l.length cap)) := HWA1.out.fr (f2.trans f3) (by simp)
  have HAB0 : Hid (Z3 WL w2.heap.size (.float .f64 x) (.bool del) (.slice a1 (pd del n l).length c1)) := (show Z3 _ _ _ _ _ by rw [HWL.out]; exact Z3.new w2 26 _ _ _)
  have HRL : Hid (Row WL ao l cap) := FL.out.row HRW.out (by simp)
  have HR1 : Hid (Row WL a1 (pd del n l) c1) := f3.row h2 (by simp)
  obtain ⟨ab, Hab⟩ : ∃ b, Hid (w2.heap.size = b) := ⟨_, rfl⟩
  have HAB : Hid (Z3 WL ab (.float .f64 x) (.bool del) (.slice a1 (pd del n l).length c1)) := (show Z3 _ _ _ _ _ by rw [← Hab.out]; exact HAB0.out)
  clear h2 f2 f3 HAB0 HWA1
  cases del with
  | true =>
    go_wp2_with fail
    rw [← HWL.out, Hab.out]
    clear HWL Hab HWA Hwb FA F1 HRW
    refine wp_region_held_drew (S := (fun W : World => Z3 W wb (.float .f64 x) (.bool true) (.slice ao l.length cap) ∧ Z3 W ab (.float .f64 x) (.bool true) (.slice a1 (pd true n l).length c1))) (by kernel_rfl) ⟨HWB.out.fr ((Fr.refl (fun _ => False) WL).drew) (by simp), HAB.out.fr ((Fr.refl (fun _ => False) WL).drew) (by simp)⟩ (fun hHeld => ?_)
    refine wpAnyH_take (i := 0) (oi := _) (v := ?_) (by rw [List.getElem?_toArray]; rfl) (by kernel_rfl) (by kernel_rfl) (by kernel_rfl) (fun _ _ _ h => by exact h) (Or.inl ⟨by rfl, ?_⟩) (by assumption) ?_
    rotate_left
    · (intro w hSw; (try dsimp only at hSw); obtain ⟨⟨k0, k1, k2, kz⟩, ⟨j0, j1, j2, jz⟩⟩ := hSw; go_simp; (try with_reducible rfl))
    try simp only [Act.put, List.setIfInBounds_toArray, List.set_cons_zero, List.set_cons_succ]
    refine wpAnyH_take (i := 2) (oi := _) (v := ?_) (by rw [List.getElem?_toArray]; rfl) (by kernel_rfl) (by kernel_rfl) (by kernel_rfl) (fun _ _ _ h => by exact h) (Or.inl ⟨by rfl, ?_⟩) (by assumption) ?_
    rotate_left
    · (intro w hSw; (try dsimp only at hSw); obtain ⟨⟨k0, k1, k2, kz⟩, ⟨j0, j1, j2, jz⟩⟩ := hSw; go_simp; (try with_reducible rfl))
    try simp only [Act.put, List.setIfInBounds_toArray, List.set_cons_zero, List.set_cons_succ]
    refine wpAnyH_take (i := 3) (oi := _) (v := ?_) (by rw [List.getElem?_toArray]; rfl) (by kernel_rfl) (by kernel_rfl) (by kernel_rfl) (fun _ _ _ h => by exact h) (Or.inl ⟨by rfl, ?_⟩) (by assumption) ?_
    rotate_left
    · (intro w hSw; (try dsimp only at hSw); go_simp; (try with_reducible rfl))
    try simp only [Act.put, List.setIfInBounds_toArray, List.set_cons_zero, List.set_cons_succ]
    refine wpAnyH_ready (rs := [1, 4]) (by kernel_rfl) (by simp) ?_
    refine AllReadyH.cons (o := _) (by rw [List.getElem?_toArray]; rfl) (fun K hK => ?_) ?_
    · go_simp
      have GA : Hid (Fr (fun _ => False) WL (WL.drew.alloc (.cells #[.float .f64 x, .bool true, .slice a1 (pd true n l).length c1] 26))) := (((Fr.refl (fun _ => False) WL).drew)).alloc _
      refine hK.out _ _ ⟨HWB.out.fr GA.out (by simp), HAB.out.fr GA.out (by simp)⟩ (fun hHeld => ?_)
      clear hK K
      try simp only [Act.put, List.setIfInBounds_toArray, List.set_cons_zero, List.set_cons_succ]
      refine wpAnyH_ready (rs := [4]) (by kernel_rfl) (by simp) ?_
      refine AllReadyH.cons (o := _) (by rw [List.getElem?_toArray]; rfl) (fun K hK => ?_) ?_
      · go_simp
        go_wp2_with (go_at_call 7; refine (refpad_any x true ao l cap n _ ((GA.out).row HRL.out (by simp)) HNB.out).mono ?_; rintro e w6 ⟨a2, c2, rfl, h6, f6⟩)
        have HR6 : Hid (Row w6 a2 (pd true n l) c2) := h6
        have F6 : Hid (Fr (fun _ => False) (WL.drew.alloc (.cells #[.float .f64 x, .bool true, .slice a1 (pd true n l).length c1] 26)) w6) := f6
        have G6 : Hid (Fr (fun _ => False) WL w6) := (GA.out).trans f6
        clear h6 f6
        refine hK.out _ _ ⟨HWB.out.fr G6.out (by simp), HAB.out.fr G6.out (by simp)⟩ (fun hHeld => ?_)
        clear hK K
        try simp only [Act.put, List.setIfInBounds_toArray, List.set_cons_zero, List.set_cons_succ]
        refine wpAnyH_ready (rs := [5]) (by kernel_rfl) (by simp) ?_
        refine AllReadyH.cons (o := _) (by rw [List.getElem?_toArray]; rfl) (fun K hK => ?_) ?_
        · go_simp
          have GB : Hid (Fr (fun _ => False) w6 (w6.alloc (.cells #[.float .f64 x, .bool true, .slice a2 (pd true n l).length c2] 26))) := (Fr.refl _ _).alloc _
          have GF : Hid (Fr (fun _ => False) WL (w6.alloc (.cells #[.float .f64 x, .bool true, .slice a2 (pd true n l).length c2] 26))) := G6.out.trans GB.out
          refine hK.out _ _ ⟨HWB.out.fr GF.out (by simp), HAB.out.fr GF.out (by simp)⟩ (fun hHeld => ?_)
          clear hK K
          try simp only [Act.put, List.setIfInBounds_toArray, List.set_cons_zero, List.set_cons_succ]
          have HPA : Hid (Z3 (w6.alloc (.cells #[.float .f64 x, .bool true, .slice a2 (pd true n l).length c2] 26)) WL.heap.size (.float .f64 x) (.bool true) (.slice a1 (pd true n l).length c1)) := ((show Z3 (WL.drew.alloc (.cells #[.float .f64 x, .bool true, .slice a1 (pd true n l).length c1] 26)) WL.heap.size _ _ _ from Z3.new WL.drew 26 _ _ _).fr F6.out (by simp)).fr GB.out (by simp)
          have HPB : Hid (Z3 (w6.alloc (.cells #[.float .f64 x, .bool true, .slice a2 (pd true n l).length c2] 26)) w6.heap.size (.float .f64 x) (.bool true) (.slice a2 (pd true n l).length c2)) := Z3.new w6 26 _ _ _
          have HQ1 : Hid (Row (w6.alloc (.cells #[.float .f64 x, .bool true, .slice a2 (pd true n l).length c2] 26)) a1 (pd true n l) c1) := GF.out.row HR1.out (by simp)
          have HQ2 : Hid (Row (w6.alloc (.cells #[.float .f64 x, .bool true, .slice a2 (pd true n l).length c2] 26)) a2 (pd true n l) c2) := GB.out.row HR6.out (by simp)
          refine wpAnyH_ready (rs := [6]) (by kernel_rfl) (by simp) ?_
          refine AllReadyH.cons (o := _) (by rw [List.getElem?_toArray]; rfl) (fun K hK => ?_) ?_
          · go_simp
            go_wp2_with (go_at_call 6; refine (samewrites_one x hx true (pd true n l) _ _ 1 1 c1 c2 a1 a2 _ HPA.out HPB.out HQ1.out HQ2.out).mono ?_; rintro e w8 ⟨rfl, f8⟩)
            have G8 : Hid (Fr (fun _ => False) WL w8) := GF.out.trans f8
            clear f8
            refine hK.out _ _ ⟨HWB.out.fr G8.out (by simp), HAB.out.fr G8.out (by simp)⟩ (fun hHeld => ?_)
            clear hK K
            try simp only [Act.put, List.setIfInBounds_toArray, List.set_cons_zero, List.set_cons_succ]
            refine wpAnyH_take (i := 7) (oi := _) (v := ?_) (by rw [List.getElem?_toArray]; rfl) (by kernel_rfl) (by kernel_rfl) (by kernel_rfl) (fun _ _ _ h => by exact h) (Or.inl ⟨by rfl, ?_⟩) (by assumption) ?_
            rotate_left
            · (intro w hSw; (try dsimp only at hSw); go_simp; (try with_reducible rfl))
            try simp only [Act.put, List.setIfInBounds_toArray, List.set_cons_zero, List.set_cons_succ]
            refine wpAnyH_take (i := 8) (oi := _) (v := ?_) (by rw [List.getElem?_toArray]; rfl) (by kernel_rfl) (by kernel_rfl) (by kernel_rfl) (fun _ _ _ h => by exact h) (Or.inl ⟨by rfl, ?_⟩) (by assumption) ?_
            rotate_left
            · (intro w hSw; (try dsimp only at hSw); go_simp; (try with_reducible rfl))
            try simp only [Act.put, List.setIfInBounds_toArray, List.set_cons_zero, List.set_cons_succ]
            refine wpAnyH_take (i := 9) (oi := _) (v := ?_) (by rw [List.getElem?_toArray]; rfl) (by kernel_rfl) (by kernel_rfl) (by kernel_rfl) (fun _ _ _ h => by exact h) (Or.inl ⟨by rfl, ?_⟩) (by assumption) ?_
            rotate_left
            · (intro w hSw; (try dsimp only at hSw); go_simp; (try with_reducible rfl))
            try simp only [Act.put, List.setIfInBounds_toArray, List.set_cons_zero, List.set_cons_succ]
            refine wpAnyH_take (i := 10) (oi := _) (v := undef) (by rw [List.getElem?_toArray]; rfl) (by kernel_rfl) (by kernel_rfl) (by kernel_rfl) (fun _ _ _ h => by exact h) (Or.inr ⟨by rfl, rfl⟩) (by assumption) ?_
            try simp only [Act.put, List.setIfInBounds_toArray, List.set_cons_zero, List.set_cons_succ]
            refine wpAnyH_take (i := 11) (oi := _) (v := undef) (by rw [List.getElem?_toArray]; rfl) (by kernel_rfl) (by kernel_rfl) (by kernel_rfl) (fun _ _ _ h => by exact h) (Or.inr ⟨by rfl, rfl⟩) (by assumption) ?_
            try simp only [Act.put, List.setIfInBounds_toArray, List.set_cons_zero, List.set_cons_succ]
            refine wpAnyH_take (i := 12) (oi := _) (v := ?_) (by rw [List.getElem?_toArray]; rfl) (by kernel_rfl) (by kernel_rfl) (by kernel_rfl) (fun _ _ _ h => by exact h) (Or.inl ⟨by rfl, ?_⟩) (by assumption) ?_
            rotate_left
            · (intro w hSw; (try dsimp only at hSw); go_simp; (try with_reducible rfl))
            try simp only [Act.put, List.setIfInBounds_toArray, List.set_cons_zero, List.set_cons_succ]
            refine wpAnyH_take (i := 13) (oi := _) (v := ?_) (by rw [List.getElem?_toArray]; rfl) (by kernel_rfl) (by kernel_rfl) (by kernel_rfl) (fun _ _ _ h => by exact h) (Or.inl ⟨by rfl, ?_⟩) (by assumption) ?_
            rotate_left
            · (intro w hSw; (try dsimp only at hSw); go_simp; (try with_reducible rfl))
            try simp only [Act.put, List.setIfInBounds_toArray, List.set_cons_zero, List.set_cons_succ]
            refine wpAnyH_take (i := 14) (oi := _) (v := undef) (by rw [List.getElem?_toArray]; rfl) (by kernel_rfl) (by kernel_rfl) (by kernel_rfl) (fun _ _ _ h => by exact h) (Or.inr ⟨by rfl, rfl⟩) (by assumption) ?_
            try simp only [Act.put, List.setIfInBounds_toArray, List.set_cons_zero, List.set_cons_succ]
            refine wpAnyH_take (i := 15) (oi := _) (v := undef) (by rw [List.getElem?_toArray]; rfl) (by kernel_rfl) (by kernel_rfl) (by kernel_rfl) (fun _ _ _ h => by exact h) (Or.inr ⟨by rfl, rfl⟩) (by assumption) ?_
            try simp only [Act.put, List.setIfInBounds_toArray, List.set_cons_zero, List.set_cons_succ]
            refine wpAnyH_take (i := 16) (oi := _) (v := undef) (by rw [List.getElem?_toArray]; rfl) (by kernel_rfl) (by kernel_rfl) (by kernel_rfl) (fun _ _ _ h => by exact h) (Or.inr ⟨by rfl, rfl⟩) (by assumption) ?_
            try simp only [Act.put, List.setIfInBounds_toArray, List.set_cons_zero, List.set_cons_succ]
            refine wpAnyH_take (i := 17) (oi := _) (v := undef) (by rw [List.getElem?_toArray]; rfl) (by kernel_rfl) (by kernel_rfl) (by kernel_rfl) (fun _ _ _ h => by exact h) (Or.inr ⟨by rfl, rfl⟩) (by assumption) ?_
            try simp only [Act.put, List.setIfInBounds_toArray, List.set_cons_zero, List.set_cons_succ]
            refine wpAnyH_take (i := 18) (oi := _) (v := undef) (by rw [List.getElem?_toArray]; rfl) (by kernel_rfl) (by kernel_rfl) (by kernel_rfl) (fun _ _ _ h => by exact h) (Or.inr ⟨by rfl, rfl⟩) (by assumption) ?_
            try simp only [Act.put, List.setIfInBounds_toArray, List.set_cons_zero, List.set_cons_succ]
            refine wpAnyH_take (i := 19) (oi := _) (v := ?_) (by rw [List.getElem?_toArray]; rfl) (by kernel_rfl) (by kernel_rfl) (by kernel_rfl) (fun _ _ _ h => by exact h) (Or.inl ⟨by rfl, ?_⟩) (by assumption) ?_
            rotate_left
            · (intro w hSw; (try dsimp only at hSw); go_simp; (try with_reducible rfl))
            try simp only [Act.put, List.setIfInBounds_toArray, List.set_cons_zero, List.set_cons_succ]
            refine wpAnyH_take (i := 20) (oi := _) (v := ?_) (by rw [List.getElem?_toArray]; rfl) (by kernel_rfl) (by kernel_rfl) (by kernel_rfl) (fun _ _ _ h => by exact h) (Or.inl ⟨by rfl, ?_⟩) (by assumption) ?_
            rotate_left
            · (intro w hSw; (try dsimp only at hSw); go_simp; (try with_reducible rfl))
            try simp only [Act.put, List.setIfInBounds_toArray, List.set_cons_zero, List.set_cons_succ]
            refine wpAnyH_take (i := 21) (oi := _) (v := ?_) (by rw [List.getElem?_toArray]; rfl) (by kernel_rfl) (by kernel_rfl) (by kernel_rfl) (fun _ _ _ h => by exact h) (Or.inl ⟨by rfl, ?_⟩) (by assumption) ?_
            rotate_left
            · (intro w hSw; (try dsimp only at hSw); go_simp; (try with_reducible rfl))
            try simp only [Act.put, List.setIfInBounds_toArray, List.set_cons_zero, List.set_cons_succ]
            refine wpAnyH_done (by kernel_rfl) ?_ _
            go_wp2
            go_ret
            exact ⟨rfl, FL.out.trans G8.out⟩
          exact AllReadyH.nil
        exact AllReadyH.nil
      exact AllReadyH.nil
    refine AllReadyH.cons (o := _) (by rw [List.getElem?_toArray]; rfl) (fun K hK => ?_) ?_
    · go_simp
      go_wp2_with (go_at_call 7; refine (refpad_any x true ao l cap n _ ((((Fr.refl (fun _ => False) WL).drew)).row HRL.out (by simp)) HNB.out).mono ?_; rintro e w6 ⟨a2, c2, rfl, h6, f6⟩)
      have HR6 : Hid (Row w6 a2 (pd true n l) c2) := h6
      have F6 : Hid (Fr (fun _ => False) WL.drew w6) := f6
      have G6 : Hid (Fr (fun _ => False) WL w6) := (((Fr.refl (fun _ => False) WL).drew)).trans f6
      clear h6 f6
      refine hK.out _ _ ⟨HWB.out.fr G6.out (by simp), HAB.out.fr G6.out (by simp)⟩ (fun hHeld => ?_)
      clear hK K
      try simp only [Act.put, List.setIfInBounds_toArray, List.set_cons_zero, List.set_cons_succ]
      refine wpAnyH_ready (rs := [1, 5]) (by kernel_rfl) (by simp) ?_
      refine AllReadyH.cons (o := _) (by rw [List.getElem?_toArray]; rfl) (fun K hK => ?_) ?_
      · go_simp
        have GA : Hid (Fr (fun _ => False) w6 (w6.alloc (.cells #[.float .f64 x, .bool true, .slice a1 (pd true n l).length c1] 26))) := (Fr.refl _ _).alloc _
        refine hK.out _ _ ⟨HWB.out.fr (G6.out.trans GA.out) (by simp), HAB.out.fr (G6.out.trans GA.out) (by simp)⟩ (fun hHeld => ?_)
        clear hK K
        try simp only [Act.put, List.setIfInBounds_toArray, List.set_cons_zero, List.set_cons_succ]
        refine wpAnyH_ready (rs := [5]) (by kernel_rfl) (by simp) ?_
        refine AllReadyH.cons (o := _) (by rw [List.getElem?_toArray]; rfl) (fun K hK => ?_) ?_
        · go_simp
          have GB : Hid (Fr (fun _ => False) (w6.alloc (.cells #[.float .f64 x, .bool true, .slice a1 (pd true n l).length c1] 26)) ((w6.alloc (.cells #[.float .f64 x, .bool true, .slice a1 (pd true n l).length c1] 26)).alloc (.cells #[.float .f64 x, .bool true, .slice a2 (pd true n l).length c2] 26))) := (Fr.refl _ _).alloc _
          have GF : Hid (Fr (fun _ => False) WL ((w6.alloc (.cells #[.float .f64 x, .bool true, .slice a1 (pd true n l).length c1] 26)).alloc (.cells #[.float .f64 x, .bool true, .slice a2 (pd true n l).length c2] 26))) := (G6.out.trans GA.out).trans GB.out
          refine hK.out _ _ ⟨HWB.out.fr GF.out (by simp), HAB.out.fr GF.out (by simp)⟩ (fun hHeld => ?_)
          clear hK K
          try simp only [Act.put, List.setIfInBounds_toArray, List.set_cons_zero, List.set_cons_succ]
          have HPA : Hid (Z3 ((w6.alloc (.cells #[.float .f64 x, .bool true, .slice a1 (pd true n l).length c1] 26)).alloc (.cells #[.float .f64 x, .bool true, .slice a2 (pd true n l).length c2] 26)) w6.heap.size (.float .f64 x) (.bool true) (.slice a1 (pd true n l).length c1)) := (Z3.new w6 26 _ _ _).fr GB.out (by simp)
          have HPB : Hid (Z3 ((w6.alloc (.cells #[.float .f64 x, .bool true, .slice a1 (pd true n l).length c1] 26)).alloc (.cells #[.float .f64 x, .bool true, .slice a2 (pd true n l).length c2] 26)) (w6.heap.size + 1) (.float .f64 x) (.bool true) (.slice a2 (pd true n l).length c2)) := (show Z3 _ _ _ _ _ by have := Z3.new (w6.alloc (.cells #[.float .f64 x, .bool true, .slice a1 (pd true n l).length c1] 26)) 26 (.float .f64 x) (.bool true) (.slice a2 (pd true n l).length c2); simpa using this)
          have HQ1 : Hid (Row ((w6.alloc (.cells #[.float .f64 x, .bool true, .slice a1 (pd true n l).length c1] 26)).alloc (.cells #[.float .f64 x, .bool true, .slice a2 (pd true n l).length c2] 26)) a1 (pd true n l) c1) := GF.out.row HR1.out (by simp)
          have HQ2 : Hid (Row ((w6.alloc (.cells #[.float .f64 x, .bool true, .slice a1 (pd true n l).length c1] 26)).alloc (.cells #[.float .f64 x, .bool true, .slice a2 (pd true n l).length c2] 26)) a2 (pd true n l) c2) := (GA.out.trans GB.out).row HR6.out (by simp)
          refine wpAnyH_ready (rs := [6]) (by kernel_rfl) (by simp) ?_
          refine AllReadyH.cons (o := _) (by rw [List.getElem?_toArray]; rfl) (fun K hK => ?_) ?_
          · go_simp
            go_wp2_with (go_at_call 6; refine (samewrites_one x hx true (pd true n l) _ _ 1 1 c1 c2 a1 a2 _ HPA.out HPB.out HQ1.out HQ2.out).mono ?_; rintro e w8 ⟨rfl, f8⟩)
            have G8 : Hid (Fr (fun _ => False) WL w8) := GF.out.trans f8
            clear f8
            refine hK.out _ _ ⟨HWB.out.fr G8.out (by simp), HAB.out.fr G8.out (by simp)⟩ (fun hHeld => ?_)
            clear hK K
            try simp only [Act.put, List.setIfInBounds_toArray, List.set_cons_zero, List.set_cons_succ]
            refine wpAnyH_take (i := 7) (oi := _) (v := ?_) (by rw [List.getElem?_toArray]; rfl) (by kernel_rfl) (by kernel_rfl) (by kernel_rfl) (fun _ _ _ h => by exact h) (Or.inl ⟨by rfl, ?_⟩) (by assumption) ?_
            rotate_left
            · (intro w hSw; (try dsimp only at hSw); go_simp; (try with_reducible rfl))
            try simp only [Act.put, List.setIfInBounds_toArray, List.set_cons_zero, List.set_cons_succ]
            refine wpAnyH_take (i := 8) (oi := _) (v := ?_) (by rw [List.getElem?_toArray]; rfl) (by kernel_rfl) (by kernel_rfl) (by kernel_rfl) (fun _ _ _ h => by exact h) (Or.inl ⟨by rfl, ?_⟩) (by assumption) ?_
            rotate_left
            · (intro w hSw; (try dsimp only at hSw); go_simp; (try with_reducible rfl))
            try simp only [Act.put, List.setIfInBounds_toArray, List.set_cons_zero, List.set_cons_succ]
            refine wpAnyH_take (i := 9) (oi := _) (v := ?_) (by rw [List.getElem?_toArray]; rfl) (by kernel_rfl) (by kernel_rfl) (by kernel_rfl) (fun _ _ _ h => by exact h) (Or.inl ⟨by rfl, ?_⟩) (by assumption) ?_
            rotate_left
            · (intro w hSw; (try dsimp only at hSw); go_simp; (try with_reducible rfl))
            try simp only [Act.put, List.setIfInBounds_toArray, List.set_cons_zero, List.set_cons_succ]
            refine wpAnyH_take (i := 10) (oi := _) (v := undef) (by rw [List.getElem?_toArray]; rfl) (by kernel_rfl) (by kernel_rfl) (by kernel_rfl) (fun _ _ _ h => by exact h) (Or.inr ⟨by rfl, rfl⟩) (by assumption) ?_
            try simp only [Act.put, List.setIfInBounds_toArray, List.set_cons_zero, List.set_cons_succ]
            refine wpAnyH_take (i := 11) (oi := _) (v := undef) (by rw [List.getElem?_toArray]; rfl) (by kernel_rfl) (by kernel_rfl) (by kernel_rfl) (fun _ _ _ h => by exact h) (Or.inr ⟨by rfl, rfl⟩) (by assumption) ?_
            try simp only [Act.put, List.setIfInBounds_toArray, List.set_cons_zero, List.set_cons_succ]
            refine wpAnyH_take (i := 12) (oi := _) (v := ?_) (by rw [List.getElem?_toArray]; rfl) (by kernel_rfl) (by kernel_rfl) (by kernel_rfl) (fun _ _ _ h => by exact h) (Or.inl ⟨by rfl, ?_⟩) (by assumption) ?_
            rotate_left
            · (intro w hSw; (try dsimp only at hSw); go_simp; (try with_reducible rfl))
            try simp only [Act.put, List.setIfInBounds_toArray, List.set_cons_zero, List.set_cons_succ]
            refine wpAnyH_take (i := 13) (oi := _) (v := ?_) (by rw [List.getElem?_toArray]; rfl) (by kernel_rfl) (by kernel_rfl) (by kernel_rfl) (fun _ _ _ h => by exact h) (Or.inl ⟨by rfl, ?_⟩) (by assumption) ?_
            rotate_left
            · (intro w hSw; (try dsimp only at hSw); go_simp; (try with_reducible rfl))
            try simp only [Act.put, List.setIfInBounds_toArray, List.set_cons_zero, List.set_cons_succ]
            refine wpAnyH_take (i := 14) (oi := _) (v := undef) (by rw [List.getElem?_toArray]; rfl) (by kernel_rfl) (by kernel_rfl) (by kernel_rfl) (fun _ _ _ h => by exact h) (Or.inr ⟨by rfl, rfl⟩) (by assumption) ?_
            try simp only [Act.put, List.setIfInBounds_toArray, List.set_cons_zero, List.set_cons_succ]
            refine wpAnyH_take (i := 15) (oi := _) (v := undef) (by rw [List.getElem?_toArray]; rfl) (by kernel_rfl) (by kernel_rfl) (by kernel_rfl) (fun _ _ _ h => by exact h) (Or.inr ⟨by rfl, rfl⟩) (by assumption) ?_
            try simp only [Act.put, List.setIfInBounds_toArray, List.set_cons_zero, List.set_cons_succ]
            refine wpAnyH_take (i := 16) (oi := _) (v := undef) (by rw [List.getElem?_toArray]; rfl) (by kernel_rfl) (by kernel_rfl) (by kernel_rfl) (fun _ _ _ h => by exact h) (Or.inr ⟨by rfl, rfl⟩) (by assumption) ?_
            try simp only [Act.put, List.setIfInBounds_toArray, List.set_cons_zero, List.set_cons_succ]
            refine wpAnyH_take (i := 17) (oi := _) (v := undef) (by rw [List.getElem?_toArray]; rfl) (by kernel_rfl) (by kernel_rfl) (by kernel_rfl) (fun _ _ _ h => by exact h) (Or.inr ⟨by rfl, rfl⟩) (by assumption) ?_
            try simp only [Act.put, List.setIfInBounds_toArray, List.set_cons_zero, List.set_cons_succ]
            refine wpAnyH_take (i := 18) (oi := _) (v := undef) (by rw [List.getElem?_toArray]; rfl) (by kernel_rfl) (by kernel_rfl) (by kernel_rfl) (fun _ _ _ h => by exact h) (Or.inr ⟨by rfl, rfl⟩) (by assumption) ?_
            try simp only [Act.put, List.setIfInBounds_toArray, List.set_cons_zero, List.set_cons_succ]
            refine wpAnyH_take (i := 19) (oi := _) (v := ?_) (by rw [List.getElem?_toArray]; rfl) (by kernel_rfl) (by kernel_rfl) (by kernel_rfl) (fun _ _ _ h => by exact h) (Or.inl ⟨by rfl, ?_⟩) (by assumption) ?_
            rotate_left
            · (intro w hSw; (try dsimp only at hSw); go_simp; (try with_reducible rfl))
            try simp only [Act.put, List.setIfInBounds_toArray, List.set_cons_zero, List.set_cons_succ]
            refine wpAnyH_take (i := 20) (oi := _) (v := ?_) (by rw [List.getElem?_toArray]; rfl) (by kernel_rfl) (by kernel_rfl) (by kernel_rfl) (fun _ _ _ h => by exact h) (Or.inl ⟨by rfl, ?_⟩) (by assumption) ?_
            rotate_left
            · (intro w hSw; (try dsimp only at hSw); go_simp; (try with_reducible rfl))
            try simp only [Act.put, List.setIfInBounds_toArray, List.set_cons_zero, List.set_cons_succ]
            refine wpAnyH_take (i := 21) (oi := _) (v := ?_) (by rw [List.getElem?_toArray]; rfl) (by kernel_rfl) (by kernel_rfl) (by kernel_rfl) (fun _ _ _ h => by exact h) (Or.inl ⟨by rfl, ?_⟩) (by assumption) ?_
            rotate_left
            · (intro w hSw; (try dsimp only at hSw); go_simp; (try with_reducible rfl))
            try simp only [Act.put, List.setIfInBounds_toArray, List.set_cons_zero, List.set_cons_succ]
            refine wpAnyH_done (by kernel_rfl) ?_ _
            go_wp2
            go_ret
            exact ⟨rfl, FL.out.trans G8.out⟩
          exact AllReadyH.nil
        exact AllReadyH.nil
      refine AllReadyH.cons (o := _) (by rw [List.getElem?_toArray]; rfl) (fun K hK => ?_) ?_
      · go_simp
        have GB : Hid (Fr (fun _ => False) w6 (w6.alloc (.cells #[.float .f64 x, .bool true, .slice a2 (pd true n l).length c2] 26))) := (Fr.refl _ _).alloc _
        refine hK.out _ _ ⟨HWB.out.fr (G6.out.trans GB.out) (by simp), HAB.out.fr (G6.out.trans GB.out) (by simp)⟩ (fun hHeld => ?_)
        clear hK K
        try simp only [Act.put, List.setIfInBounds_toArray, List.set_cons_zero, List.set_cons_succ]
        refine wpAnyH_ready (rs := [1]) (by kernel_rfl) (by simp) ?_
        refine AllReadyH.cons (o := _) (by rw [List.getElem?_toArray]; rfl) (fun K hK => ?_) ?_
        · go_simp
          have GA : Hid (Fr (fun _ => False) (w6.alloc (.cells #[.float .f64 x, .bool true, .slice a2 (pd true n l).length c2] 26)) ((w6.alloc (.cells #[.float .f64 x, .bool true, .slice a2 (pd true n l).length c2] 26)).alloc (.cells #[.float .f64 x, .bool true, .slice a1 (pd true n l).length c1] 26))) := (Fr.refl _ _).alloc _
          have GF : Hid (Fr (fun _ => False) WL ((w6.alloc (.cells #[.float .f64 x, .bool true, .slice a2 (pd true n l).length c2] 26)).alloc (.cells #[.float .f64 x, .bool true, .slice a1 (pd true n l).length c1] 26))) := (G6.out.trans GB.out).trans GA.out
          refine hK.out _ _ ⟨HWB.out.fr GF.out (by simp), HAB.out.fr GF.out (by simp)⟩ (fun hHeld => ?_)
          clear hK K
          try simp only [Act.put, List.setIfInBounds_toArray, List.set_cons_zero, List.set_cons_succ]
          have HPB : Hid (Z3 ((w6.alloc (.cells #[.float .f64 x, .bool true, .slice a2 (pd true n l).length c2] 26)).alloc (.cells #[.float .f64 x, .bool true, .slice a1 (pd true n l).length c1] 26)) w6.heap.size (.float .f64 x) (.bool true) (.slice a2 (pd true n l).length c2)) := (Z3.new w6 26 _ _ _).fr GA.out (by simp)
          have HPA : Hid (Z3 ((w6.alloc (.cells #[.float .f64 x, .bool true, .slice a2 (pd true n l).length c2] 26)).alloc (.cells #[.float .f64 x, .bool true, .slice a1 (pd true n l).length c1] 26)) (w6.heap.size + 1) (.float .f64 x) (.bool true) (.slice a1 (pd true n l).length c1)) := (show Z3 _ _ _ _ _ by have := Z3.new (w6.alloc (.cells #[.float .f64 x, .bool true, .slice a2 (pd true n l).length c2] 26)) 26 (.float .f64 x) (.bool true) (.slice a1 (pd true n l).length c1); simpa using this)
          have HQ1 : Hid (Row ((w6.alloc (.cells #[.float .f64 x, .bool true, .slice a2 (pd true n l).length c2] 26)).alloc (.cells #[.float .f64 x, .bool true, .slice a1 (pd true n l).length c1] 26)) a1 (pd true n l) c1) := GF.out.row HR1.out (by simp)
          have HQ2 : Hid (Row ((w6.alloc (.cells #[.float .f64 x, .bool true, .slice a2 (pd true n l).length c2] 26)).alloc (.cells #[.float .f64 x, .bool true, .slice a1 (pd true n l).length c1] 26)) a2 (pd true n l) c2) := (GB.out.trans GA.out).row HR6.out (by simp)
          refine wpAnyH_ready (rs := [6]) (by kernel_rfl) (by simp) ?_
          refine AllReadyH.cons (o := _) (by rw [List.getElem?_toArray]; rfl) (fun K hK => ?_) ?_
          · go_simp
            go_wp2_with (go_at_call 6; refine (samewrites_one x hx true (pd true n l) _ _ 1 1 c1 c2 a1 a2 _ HPA.out HPB.out HQ1.out HQ2.out).mono ?_; rintro e w8 ⟨rfl, f8⟩)
            have G8 : Hid (Fr (fun _ => False) WL w8) := GF.out.trans f8
            clear f8
            refine hK.out _ _ ⟨HWB.out.fr G8.out (by simp), HAB.out.fr G8.out (by simp)⟩ (fun hHeld => ?_)
            clear hK K
            try simp only [Act.put, List.setIfInBounds_toArray, List.set_cons_zero, List.set_cons_succ]
            refine wpAnyH_take (i := 7) (oi := _) (v := ?_) (by rw [List.getElem?_toArray]; rfl) (by kernel_rfl) (by kernel_rfl) (by kernel_rfl) (fun _ _ _ h => by exact h) (Or.inl ⟨by rfl, ?_⟩) (by assumption) ?_
            rotate_left
            · (intro w hSw; (try dsimp only at hSw); go_simp; (try with_reducible rfl))
            try simp only [Act.put, List.setIfInBounds_toArray, List.set_cons_zero, List.set_cons_succ]
            refine wpAnyH_take (i := 8) (oi := _) (v := ?_) (by rw [List.getElem?_toArray]; rfl) (by kernel_rfl) (by kernel_rfl) (by kernel_rfl) (fun _ _ _ h => by exact h) (Or.inl ⟨by rfl, ?_⟩) (by assumption) ?_
            rotate_left
            · (intro w hSw; (try dsimp only at hSw); go_simp; (try with_reducible rfl))
            try simp only [Act.put, List.setIfInBounds_toArray, List.set_cons_zero, List.set_cons_succ]
            refine wpAnyH_take (i := 9) (oi := _) (v := ?_) (by rw [List.getElem?_toArray]; rfl) (by kernel_rfl) (by kernel_rfl) (by kernel_rfl) (fun _ _ _ h => by exact h) (Or.inl ⟨by rfl, ?_⟩) (by assumption) ?_
            rotate_left
            · (intro w hSw; (try dsimp only at hSw); go_simp; (try with_reducible rfl))
            try simp only [Act.put, List.setIfInBounds_toArray, List.set_cons_zero, List.set_cons_succ]
            refine wpAnyH_take (i := 10) (oi := _) (v := undef) (by rw [List.getElem?_toArray]; rfl) (by kernel_rfl) (by kernel_rfl) (by kernel_rfl) (fun _ _ _ h => by exact h) (Or.inr ⟨by rfl, rfl⟩) (by assumption) ?_
            try simp only [Act.put, List.setIfInBounds_toArray, List.set_cons_zero, List.set_cons_succ]
            refine wpAnyH_take (i := 11) (oi := _) (v := undef) (by rw [List.getElem?_toArray]; rfl) (by kernel_rfl) (by kernel_rfl) (by kernel_rfl) (fun _ _ _ h => by exact h) (Or.inr ⟨by rfl, rfl⟩) (by assumption) ?_
            try simp only [Act.put, List.setIfInBounds_toArray, List.set_cons_zero, List.set_cons_succ]
            refine wpAnyH_take (i := 12) (oi := _) (v := ?_) (by rw [List.getElem?_toArray]; rfl) (by kernel_rfl) (by kernel_rfl) (by kernel_rfl) (fun _ _ _ h => by exact h) (Or.inl ⟨by rfl, ?_⟩) (by assumption) ?_
            rotate_left
            · (intro w hSw; (try dsimp only at hSw); go_simp; (try with_reducible rfl))
            try simp only [Act.put, List.setIfInBounds_toArray, List.set_cons_zero, List.set_cons_succ]
            refine wpAnyH_take (i := 13) (oi := _) (v := ?_) (by rw [List.getElem?_toArray]; rfl) (by kernel_rfl) (by kernel_rfl) (by kernel_rfl) (fun _ _ _ h => by exact h) (Or.inl ⟨by rfl, ?_⟩) (by assumption) ?_
            rotate_left
            · (intro w hSw; (try dsimp only at hSw); go_simp; (try with_reducible rfl))
            try simp only [Act.put, List.setIfInBounds_toArray, List.set_cons_zero, List.set_cons_succ]
            refine wpAnyH_take (i := 14) (oi := _) (v := undef) (by rw [List.getElem?_toArray]; rfl) (by kernel_rfl) (by kernel_rfl) (by kernel_rfl) (fun _ _ _ h => by exact h) (Or.inr ⟨by rfl, rfl⟩) (by assumption) ?_
            try simp only [Act.put, List.setIfInBounds_toArray, List.set_cons_zero, List.set_cons_succ]
            refine wpAnyH_take (i := 15) (oi := _) (v := undef) (by rw [List.getElem?_toArray]; rfl) (by kernel_rfl) (by kernel_rfl) (by kernel_rfl) (fun _ _ _ h => by exact h) (Or.inr ⟨by rfl, rfl⟩) (by assumption) ?_
            try simp only [Act.put, List.setIfInBounds_toArray, List.set_cons_zero, List.set_cons_succ]
            refine wpAnyH_take (i := 16) (oi := _) (v := undef) (by rw [List.getElem?_toArray]; rfl) (by kernel_rfl) (by kernel_rfl) (by kernel_rfl) (fun _ _ _ h => by exact h) (Or.inr ⟨by rfl, rfl⟩) (by assumption) ?_
            try simp only [Act.put, List.setIfInBounds_toArray, List.set_cons_zero, List.set_cons_succ]
            refine wpAnyH_take (i := 17) (oi := _) (v := undef) (by rw [List.getElem?_toArray]; rfl) (by kernel_rfl) (by kernel_rfl) (by kernel_rfl) (fun _ _ _ h => by exact h) (Or.inr ⟨by rfl, rfl⟩) (by assumption) ?_
            try simp only [Act.put, List.setIfInBounds_toArray, List.set_cons_zero, List.set_cons_succ]
            refine wpAnyH_take (i := 18) (oi := _) (v := undef) (by rw [List.getElem?_toArray]; rfl) (by kernel_rfl) (by kernel_rfl) (by kernel_rfl) (fun _ _ _ h => by exact h) (Or.inr ⟨by rfl, rfl⟩) (by assumption) ?_
            try simp only [Act.put, List.setIfInBounds_toArray, List.set_cons_zero, List.set_cons_succ]
            refine wpAnyH_take (i := 19) (oi := _) (v := ?_) (by rw [List.getElem?_toArray]; rfl) (by kernel_rfl) (by kernel_rfl) (by kernel_rfl) (fun _ _ _ h => by exact h) (Or.inl ⟨by rfl, ?_⟩) (by assumption) ?_
            rotate_left
            · (intro w hSw; (try dsimp only at hSw); go_simp; (try with_reducible rfl))
            try simp only [Act.put, List.setIfInBounds_toArray, List.set_cons_zero, List.set_cons_succ]
            refine wpAnyH_take (i := 20) (oi := _) (v := ?_) (by rw [List.getElem?_toArray]; rfl) (by kernel_rfl) (by kernel_rfl) (by kernel_rfl) (fun _ _ _ h => by exact h) (Or.inl ⟨by rfl, ?_⟩) (by assumption) ?_
            rotate_left
            · (intro w hSw; (try dsimp only at hSw); go_simp; (try with_reducible rfl))
            try simp only [Act.put, List.setIfInBounds_toArray, List.set_cons_zero, List.set_cons_succ]
            refine wpAnyH_take (i := 21) (oi := _) (v := ?_) (by rw [List.getElem?_toArray]; rfl) (by kernel_rfl) (by kernel_rfl) (by kernel_rfl) (fun _ _ _ h => by exact h) (Or.inl ⟨by rfl, ?_⟩) (by assumption) ?_
            rotate_left
            · (intro w hSw; (try dsimp only at hSw); go_simp; (try with_reducible rfl))
            try simp only [Act.put, List.setIfInBounds_toArray, List.set_cons_zero, List.set_cons_succ]
            refine wpAnyH_done (by kernel_rfl) ?_ _
            go_wp2
            go_ret
            exact ⟨rfl, FL.out.trans G8.out⟩
          exact AllReadyH.nil
        exact AllReadyH.nil
      exact AllReadyH.nil
    exact AllReadyH.nil
  | false =>
    by_cases hn : n < 0
    · go_wp2_with fail
      rw [← HWL.out, Hab.out]
      clear HWL Hab HWA Hwb FA F1 HRW
      refine wp_region_held_drew (S := (fun W : World => Z3 W wb (.float .f64 x) (.bool false) (.slice ao l.length cap) ∧ Z3 W ab (.float .f64 x) (.bool false) (.slice a1 (pd false n l).length c1))) (by kernel_rfl) ⟨HWB.out.fr ((Fr.refl (fun _ => False) WL).drew) (by simp), HAB.out.fr ((Fr.refl (fun _ => False) WL).drew) (by simp)⟩ (fun hHeld => ?_)
      refine wpAnyH_take (i := 0) (oi := _) (v := ?_) (by rw [List.getElem?_toArray]; rfl) (by kernel_rfl) (by kernel_rfl) (by kernel_rfl) (fun _ _ _ h => by exact h) (Or.inl ⟨by rfl, ?_⟩) (by assumption) ?_
      rotate_left
      · (intro w hSw; (try dsimp only at hSw); obtain ⟨⟨k0, k1, k2, kz⟩, ⟨j0, j1, j2, jz⟩⟩ := hSw; go_simp; (try with_reducible rfl))
      try simp only [Act.put, List.setIfInBounds_toArray, List.set_cons_zero, List.set_cons_succ]
      refine wpAnyH_take (i := 2) (oi := _) (v := ?_) (by rw [List.getElem?_toArray]; rfl) (by kernel_rfl) (by kernel_rfl) (by kernel_rfl) (fun _ _ _ h => by exact h) (Or.inl ⟨by rfl, ?_⟩) (by assumption) ?_
      rotate_left
      · (intro w hSw; (try dsimp only at hSw); obtain ⟨⟨k0, k1, k2, kz⟩, ⟨j0, j1, j2, jz⟩⟩ := hSw; go_simp; (try with_reducible rfl))
      try simp only [Act.put, List.setIfInBounds_toArray, List.set_cons_zero, List.set_cons_succ]
      refine wpAnyH_take (i := 3) (oi := _) (v := ?_) (by rw [List.getElem?_toArray]; rfl) (by kernel_rfl) (by kernel_rfl) (by kernel_rfl) (fun _ _ _ h => by exact h) (Or.inl ⟨by rfl, ?_⟩) (by assumption) ?_
      rotate_left
      · (intro w hSw; (try dsimp only at hSw); go_simp; (try with_reducible rfl))
      try simp only [Act.put, List.setIfInBounds_toArray, List.set_cons_zero, List.set_cons_succ]
      refine wpAnyH_ready (rs := [1, 4]) (by kernel_rfl) (by simp) ?_
      refine AllReadyH.cons (o := _) (by rw [List.getElem?_toArray]; rfl) (fun K hK => ?_) ?_
      · go_simp
        have GA : Hid (Fr (fun _ => False) WL (WL.drew.alloc (.cells #[.float .f64 x, .bool false, .slice a1 (pd false n l).length c1] 26))) := (((Fr.refl (fun _ => False) WL).drew)).alloc _
        refine hK.out _ _ ⟨HWB.out.fr GA.out (by simp), HAB.out.fr GA.out (by simp)⟩ (fun hHeld => ?_)
        clear hK K
        try simp only [Act.put, List.setIfInBounds_toArray, List.set_cons_zero, List.set_cons_succ]
        refine wpAnyH_ready (rs := [4]) (by kernel_rfl) (by simp) ?_
        refine AllReadyH.cons (o := _) (by rw [List.getElem?_toArray]; rfl) (fun K hK => ?_) ?_
        · go_simp
          go_wp2_with (go_at_call 7; refine (refpad_any x false ao l cap n _ ((GA.out).row HRL.out (by simp)) HNB.out).mono ?_; rintro e w6 ⟨a2, c2, rfl, h6, f6⟩)
          have HR6 : Hid (Row w6 a2 (pd false n l) c2) := h6
          have F6 : Hid (Fr (fun _ => False) (WL.drew.alloc (.cells #[.float .f64 x, .bool false, .slice a1 (pd false n l).length c1] 26)) w6) := f6
          have G6 : Hid (Fr (fun _ => False) WL w6) := (GA.out).trans f6
          clear h6 f6
          refine hK.out _ _ ⟨HWB.out.fr G6.out (by simp), HAB.out.fr G6.out (by simp)⟩ (fun hHeld => ?_)
          clear hK K
          try simp only [Act.put, List.setIfInBounds_toArray, List.set_cons_zero, List.set_cons_succ]
          refine wpAnyH_ready (rs := [5]) (by kernel_rfl) (by simp) ?_
          refine AllReadyH.cons (o := _) (by rw [List.getElem?_toArray]; rfl) (fun K hK => ?_) ?_
          · go_simp
            have GB : Hid (Fr (fun _ => False) w6 (w6.alloc (.cells #[.float .f64 x, .bool false, .slice a2 (pd false n l).length c2] 26))) := (Fr.refl _ _).alloc _
            have GF : Hid (Fr (fun _ => False) WL (w6.alloc (.cells #[.float .f64 x, .bool false, .slice a2 (pd false n l).length c2] 26))) := G6.out.trans GB.out
            refine hK.out _ _ ⟨HWB.out.fr GF.out (by simp), HAB.out.fr GF.out (by simp)⟩ (fun hHeld => ?_)
            clear hK K
            try simp only [Act.put, List.setIfInBounds_toArray, List.set_cons_zero, List.set_cons_succ]
            have HPA : Hid (Z3 (w6.alloc (.cells #[.float .f64 x, .bool false, .slice a2 (pd false n l).length c2] 26)) WL.heap.size (.float .f64 x) (.bool false) (.slice a1 (pd false n l).length c1)) := ((show Z3 (WL.drew.alloc (.cells #[.float .f64 x, .bool false, .slice a1 (pd false n l).length c1] 26)) WL.heap.size _ _ _ from Z3.new WL.drew 26 _ _ _).fr F6.out (by simp)).fr GB.out (by simp)
            have HPB : Hid (Z3 (w6.alloc (.cells #[.float .f64 x, .bool false, .slice a2 (pd false n l).length c2] 26)) w6.heap.size (.float .f64 x) (.bool false) (.slice a2 (pd false n l).length c2)) := Z3.new w6 26 _ _ _
            have HQ1 : Hid (Row (w6.alloc (.cells #[.float .f64 x, .bool false, .slice a2 (pd false n l).length c2] 26)) a1 (pd false n l) c1) := GF.out.row HR1.out (by simp)
            have HQ2 : Hid (Row (w6.alloc (.cells #[.float .f64 x, .bool false, .slice a2 (pd false n l).length c2] 26)) a2 (pd false n l) c2) := GB.out.row HR6.out (by simp)
            refine wpAnyH_ready (rs := [6]) (by kernel_rfl) (by simp) ?_
            refine AllReadyH.cons (o := _) (by rw [List.getElem?_toArray]; rfl) (fun K hK => ?_) ?_
            · go_simp
              go_wp2_with (go_at_call 6; refine (samewrites_one x hx false (pd false n l) _ _ 1 1 c1 c2 a1 a2 _ HPA.out HPB.out HQ1.out HQ2.out).mono ?_; rintro e w8 ⟨rfl, f8⟩)
              have G8 : Hid (Fr (fun _ => False) WL w8) := GF.out.trans f8
              clear f8
              refine hK.out _ _ ⟨HWB.out.fr G8.out (by simp), HAB.out.fr G8.out (by simp)⟩ (fun hHeld => ?_)
              clear hK K
              try simp only [Act.put, List.setIfInBounds_toArray, List.set_cons_zero, List.set_cons_succ]
              refine wpAnyH_take (i := 7) (oi := _) (v := ?_) (by rw [List.getElem?_toArray]; rfl) (by kernel_rfl) (by kernel_rfl) (by kernel_rfl) (fun _ _ _ h => by exact h) (Or.inl ⟨by rfl, ?_⟩) (by assumption) ?_
              rotate_left
              · (intro w hSw; (try dsimp only at hSw); go_simp; (try with_reducible rfl))
              try simp only [Act.put, List.setIfInBounds_toArray, List.set_cons_zero, List.set_cons_succ]
              refine wpAnyH_take (i := 8) (oi := _) (v := ?_) (by rw [List.getElem?_toArray]; rfl) (by kernel_rfl) (by kernel_rfl) (by kernel_rfl) (fun _ _ _ h => by exact h) (Or.inl ⟨by rfl, ?_⟩) (by assumption) ?_
              rotate_left
              · (intro w hSw; (try dsimp only at hSw); go_simp; (try with_reducible rfl))
              try simp only [Act.put, List.setIfInBounds_toArray, List.set_cons_zero, List.set_cons_succ]
              refine wpAnyH_take (i := 9) (oi := _) (v := ?_) (by rw [List.getElem?_toArray]; rfl) (by kernel_rfl) (by kernel_rfl) (by kernel_rfl) (fun _ _ _ h => by exact h) (Or.inl ⟨by rfl, ?_⟩) (by assumption) ?_
              rotate_left
              · (intro w hSw; (try dsimp only at hSw); go_simp; (try with_reducible rfl))
              try simp only [Act.put, List.setIfInBounds_toArray, List.set_cons_zero, List.set_cons_succ]
              refine wpAnyH_take (i := 10) (oi := _) (v := ?_) (by rw [List.getElem?_toArray]; rfl) (by kernel_rfl) (by kernel_rfl) (by kernel_rfl) (fun _ _ _ h => by exact h) (Or.inl ⟨by rfl, ?_⟩) (by assumption) ?_
              rotate_left
              · (intro w hSw; (try dsimp only at hSw); go_simp; (try with_reducible rfl))
              try simp only [Act.put, List.setIfInBounds_toArray, List.set_cons_zero, List.set_cons_succ]
              refine wpAnyH_take (i := 11) (oi := _) (v := ?_) (by rw [List.getElem?_toArray]; rfl) (by kernel_rfl) (by kernel_rfl) (by kernel_rfl) (fun _ _ _ h => by exact h) (Or.inl ⟨by rfl, ?_⟩) (by assumption) ?_
              rotate_left
              · (intro w hSw; (try dsimp only at hSw); go_simp; (try with_reducible rfl))
              try simp only [Act.put, List.setIfInBounds_toArray, List.set_cons_zero, List.set_cons_succ]
              refine wpAnyH_take (i := 12) (oi := _) (v := ?_) (by rw [List.getElem?_toArray]; rfl) (by kernel_rfl) (by kernel_rfl) (by kernel_rfl) (fun _ _ _ h => by exact h) (Or.inl ⟨by rfl, ?_⟩) (by assumption) ?_
              rotate_left
              · (intro w hSw; (try dsimp only at hSw); go_simp; (try with_reducible rfl))
              try simp only [Act.put, List.setIfInBounds_toArray, List.set_cons_zero, List.set_cons_succ]
              refine wpAnyH_take (i := 13) (oi := _) (v := ?_) (by rw [List.getElem?_toArray]; rfl) (by kernel_rfl) (by kernel_rfl) (by kernel_rfl) (fun _ _ _ h => by exact h) (Or.inl ⟨by rfl, ?_⟩) (by assumption) ?_
              rotate_left
              · (intro w hSw; (try dsimp only at hSw); go_simp; (try with_reducible rfl))
              try simp only [Act.put, List.setIfInBounds_toArray, List.set_cons_zero, List.set_cons_succ]
              refine wpAnyH_take (i := 14) (oi := _) (v := undef) (by rw [List.getElem?_toArray]; rfl) (by kernel_rfl) (by kernel_rfl) (by kernel_rfl) (fun _ _ _ h => by exact h) (Or.inr ⟨by rfl, rfl⟩) (by assumption) ?_
              try simp only [Act.put, List.setIfInBounds_toArray, List.set_cons_zero, List.set_cons_succ]
              refine wpAnyH_take (i := 15) (oi := _) (v := undef) (by rw [List.getElem?_toArray]; rfl) (by kernel_rfl) (by kernel_rfl) (by kernel_rfl) (fun _ _ _ h => by exact h) (Or.inr ⟨by rfl, rfl⟩) (by assumption) ?_
              try simp only [Act.put, List.setIfInBounds_toArray, List.set_cons_zero, List.set_cons_succ]
              refine wpAnyH_take (i := 16) (oi := _) (v := undef) (by rw [List.getElem?_toArray]; rfl) (by kernel_rfl) (by kernel_rfl) (by kernel_rfl) (fun _ _ _ h => by exact h) (Or.inr ⟨by rfl, rfl⟩) (by assumption) ?_
              try simp only [Act.put, List.setIfInBounds_toArray, List.set_cons_zero, List.set_cons_succ]
              refine wpAnyH_take (i := 17) (oi := _) (v := undef) (by rw [List.getElem?_toArray]; rfl) (by kernel_rfl) (by kernel_rfl) (by kernel_rfl) (fun _ _ _ h => by exact h) (Or.inr ⟨by rfl, rfl⟩) (by assumption) ?_
              try simp only [Act.put, List.setIfInBounds_toArray, List.set_cons_zero, List.set_cons_succ]
              refine wpAnyH_take (i := 18) (oi := _) (v := undef) (by rw [List.getElem?_toArray]; rfl) (by kernel_rfl) (by kernel_rfl) (by kernel_rfl) (fun _ _ _ h => by exact h) (Or.inr ⟨by rfl, rfl⟩) (by assumption) ?_
              try simp only [Act.put, List.setIfInBounds_toArray, List.set_cons_zero, List.set_cons_succ]
              refine wpAnyH_take (i := 19) (oi := _) (v := ?_) (by rw [List.getElem?_toArray]; rfl) (by kernel_rfl) (by kernel_rfl) (by kernel_rfl) (fun _ _ _ h => by exact h) (Or.inl ⟨by rfl, ?_⟩) (by assumption) ?_
              rotate_left
              · (intro w hSw; (try dsimp only at hSw); go_simp; (try with_reducible rfl))
              try simp only [Act.put, List.setIfInBounds_toArray, List.set_cons_zero, List.set_cons_succ]
              refine wpAnyH_take (i := 20) (oi := _) (v := ?_) (by rw [List.getElem?_toArray]; rfl) (by kernel_rfl) (by kernel_rfl) (by kernel_rfl) (fun _ _ _ h => by exact h) (Or.inl ⟨by rfl, ?_⟩) (by assumption) ?_
              rotate_left
              · (intro w hSw; (try dsimp only at hSw); go_simp; (try with_reducible rfl))
              try simp only [Act.put, List.setIfInBounds_toArray, List.set_cons_zero, List.set_cons_succ]
              refine wpAnyH_take (i := 21) (oi := _) (v := ?_) (by rw [List.getElem?_toArray]; rfl) (by kernel_rfl) (by kernel_rfl) (by kernel_rfl) (fun _ _ _ h => by exact h) (Or.inl ⟨by rfl, ?_⟩) (by assumption) ?_
              rotate_left
              · (intro w hSw; (try dsimp only at hSw); go_simp; (try with_reducible rfl))
              try simp only [Act.put, List.setIfInBounds_toArray, List.set_cons_zero, List.set_cons_succ]
              refine wpAnyH_done (by kernel_rfl) ?_ _
              go_wp2
              go_ret
              exact ⟨rfl, FL.out.trans G8.out⟩
            exact AllReadyH.nil
          exact AllReadyH.nil
        exact AllReadyH.nil
      refine AllReadyH.cons (o := _) (by rw [List.getElem?_toArray]; rfl) (fun K hK => ?_) ?_
      · go_simp
        go_wp2_with (go_at_call 7; refine (refpad_any x false ao l cap n _ ((((Fr.refl (fun _ => False) WL).drew)).row HRL.out (by simp)) HNB.out).mono ?_; rintro e w6 ⟨a2, c2, rfl, h6, f6⟩)
        have HR6 : Hid (Row w6 a2 (pd false n l) c2) := h6
        have F6 : Hid (Fr (fun _ => False) WL.drew w6) := f6
        have G6 : Hid (Fr (fun _ => False) WL w6) := (((Fr.refl (fun _ => False) WL).drew)).trans f6
        clear h6 f6
        refine hK.out _ _ ⟨HWB.out.fr G6.out (by simp), HAB.out.fr G6.out (by simp)⟩ (fun hHeld => ?_)
        clear hK K
        try simp only [Act.put, List.setIfInBounds_toArray, List.set_cons_zero, List.set_cons_succ]
        refine wpAnyH_ready (rs := [1, 5]) (by kernel_rfl) (by simp) ?_
        refine AllReadyH.cons (o := _) (by rw [List.getElem?_toArray]; rfl) (fun K hK => ?_) ?_
        · go_simp
          have GA : Hid (Fr (fun _ => False) w6 (w6.alloc (.cells #[.float .f64 x, .bool false, .slice a1 (pd false n l).length c1] 26))) := (Fr.refl _ _).alloc _
          refine hK.out _ _ ⟨HWB.out.fr (G6.out.trans GA.out) (by simp), HAB.out.fr (G6.out.trans GA.out) (by simp)⟩ (fun hHeld => ?_)
          clear hK K
          try simp only [Act.put, List.setIfInBounds_toArray, List.set_cons_zero, List.set_cons_succ]
          refine wpAnyH_ready (rs := [5]) (by kernel_rfl) (by simp) ?_
          refine AllReadyH.cons (o := _) (by rw [List.getElem?_toArray]; rfl) (fun K hK => ?_) ?_
          · go_simp
            have GB : Hid (Fr (fun _ => False) (w6.alloc (.cells #[.float .f64 x, .bool false, .slice a1 (pd false n l).length c1] 26)) ((w6.alloc (.cells #[.float .f64 x, .bool false, .slice a1 (pd false n l).length c1] 26)).alloc (.cells #[.float .f64 x, .bool false, .slice a2 (pd false n l).length c2] 26))) := (Fr.refl _ _).alloc _
            have GF : Hid (Fr (fun _ => False) WL ((w6.alloc (.cells #[.float .f64 x, .bool false, .slice a1 (pd false n l).length c1] 26)).alloc (.cells #[.float .f64 x, .bool false, .slice a2 (pd false n l).length c2] 26))) := (G6.out.trans GA.out).trans GB.out
            refine hK.out _ _ ⟨HWB.out.fr GF.out (by simp), HAB.out.fr GF.out (by simp)⟩ (fun hHeld => ?_)
            clear hK K
            try simp only [Act.put, List.setIfInBounds_toArray, List.set_cons_zero, List.set_cons_succ]
            have HPA : Hid (Z3 ((w6.alloc (.cells #[.float .f64 x, .bool false, .slice a1 (pd false n l).length c1] 26)).alloc (.cells #[.float .f64 x, .bool false, .slice a2 (pd false n l).length c2] 26)) w6.heap.size (.float .f64 x) (.bool false) (.slice a1 (pd false n l).length c1)) := (Z3.new w6 26 _ _ _).fr GB.out (by simp)
            have HPB : Hid (Z3 ((w6.alloc (.cells #[.float .f64 x, .bool false, .slice a1 (pd false n l).length c1] 26)).alloc (.cells #[.float .f64 x, .bool false, .slice a2 (pd false n l).length c2] 26)) (w6.heap.size + 1) (.float .f64 x) (.bool false) (.slice a2 (pd false n l).length c2)) := (show Z3 _ _ _ _ _ by have := Z3.new (w6.alloc (.cells #[.float .f64 x, .bool false, .slice a1 (pd false n l).length c1] 26)) 26 (.float .f64 x) (.bool false) (.slice a2 (pd false n l).length c2); simpa using this)
            have HQ1 : Hid (Row ((w6.alloc (.cells #[.float .f64 x, .bool false, .slice a1 (pd false n l).length c1] 26)).alloc (.cells #[.float .f64 x, .bool false, .slice a2 (pd false n l).length c2] 26)) a1 (pd false n l) c1) := GF.out.row HR1.out (by simp)
            have HQ2 : Hid (Row ((w6.alloc (.cells #[.float .f64 x, .bool false, .slice a1 (pd false n l).length c1] 26)).alloc (.cells #[.float .f64 x, .bool false, .slice a2 (pd false n l).length c2] 26)) a2 (pd false n l) c2) := (GA.out.trans GB.out).row HR6.out (by simp)
            refine wpAnyH_ready (rs := [6]) (by kernel_rfl) (by simp) ?_
            refine AllReadyH.cons (o := _) (by rw [List.getElem?_toArray]; rfl) (fun K hK => ?_) ?_
            · go_simp
              go_wp2_with (go_at_call 6; refine (samewrites_one x hx false (pd false n l) _ _ 1 1 c1 c2 a1 a2 _ HPA.out HPB.out HQ1.out HQ2.out).mono ?_; rintro e w8 ⟨rfl, f8⟩)
              have G8 : Hid (Fr (fun _ => False) WL w8) := GF.out.trans f8
              clear f8
              refine hK.out _ _ ⟨HWB.out.fr G8.out (by simp), HAB.out.fr G8.out (by simp)⟩ (fun hHeld => ?_)
              clear hK K
              try simp only [Act.put, List.setIfInBounds_toArray, List.set_cons_zero, List.set_cons_succ]
              refine wpAnyH_take (i := 7) (oi := _) (v := ?_) (by rw [List.getElem?_toArray]; rfl) (by kernel_rfl) (by kernel_rfl) (by kernel_rfl) (fun _ _ _ h => by exact h) (Or.inl ⟨by rfl, ?_⟩) (by assumption) ?_
              rotate_left
              · (intro w hSw; (try dsimp only at hSw); go_simp; (try with_reducible rfl))
              try simp only [Act.put, List.setIfInBounds_toArray, List.set_cons_zero, List.set_cons_succ]
              refine wpAnyH_take (i := 8) (oi := _) (v := ?_) (by rw [List.getElem?_toArray]; rfl) (by kernel_rfl) (by kernel_rfl) (by kernel_rfl) (fun _ _ _ h => by exact h) (Or.inl ⟨by rfl, ?_⟩) (by assumption) ?_
              rotate_left
              · (intro w hSw; (try dsimp only at hSw); go_simp; (try with_reducible rfl))
              try simp only [Act.put, List.setIfInBounds_toArray, List.set_cons_zero, List.set_cons_succ]
              refine wpAnyH_take (i := 9) (oi := _) (v := ?_) (by rw [List.getElem?_toArray]; rfl) (by kernel_rfl) (by kernel_rfl) (by kernel_rfl) (fun _ _ _ h => by exact h) (Or.inl ⟨by rfl, ?_⟩) (by assumption) ?_
              rotate_left
              · (intro w hSw; (try dsimp only at hSw); go_simp; (try with_reducible rfl))
              try simp only [Act.put, List.setIfInBounds_toArray, List.set_cons_zero, List.set_cons_succ]
              refine wpAnyH_take (i := 10) (oi := _) (v := ?_) (by rw [List.getElem?_toArray]; rfl) (by kernel_rfl) (by kernel_rfl) (by kernel_rfl) (fun _ _ _ h => by exact h) (Or.inl ⟨by rfl, ?_⟩) (by assumption) ?_
              rotate_left
              · (intro w hSw; (try dsimp only at hSw); go_simp; (try with_reducible rfl))
              try simp only [Act.put, List.setIfInBounds_toArray, List.set_cons_zero, List.set_cons_succ]
              refine wpAnyH_take (i := 11) (oi := _) (v := ?_) (by rw [List.getElem?_toArray]; rfl) (by kernel_rfl) (by kernel_rfl) (by kernel_rfl) (fun _ _ _ h => by exact h) (Or.inl ⟨by rfl, ?_⟩) (by assumption) ?_
              rotate_left
              · (intro w hSw; (try dsimp only at hSw); go_simp; (try with_reducible rfl))
              try simp only [Act.put, List.setIfInBounds_toArray, List.set_cons_zero, List.set_cons_succ]
              refine wpAnyH_take (i := 12) (oi := _) (v := ?_) (by rw [List.getElem?_toArray]; rfl) (by kernel_rfl) (by kernel_rfl) (by kernel_rfl) (fun _ _ _ h => by exact h) (Or.inl ⟨by rfl, ?_⟩) (by assumption) ?_
              rotate_left
              · (intro w hSw; (try dsimp only at hSw); go_simp; (try with_reducible rfl))
              try simp only [Act.put, List.setIfInBounds_toArray, List.set_cons_zero, List.set_cons_succ]
              refine wpAnyH_take (i := 13) (oi := _) (v := ?_) (by rw [List.getElem?_toArray]; rfl) (by kernel_rfl) (by kernel_rfl) (by kernel_rfl) (fun _ _ _ h => by exact h) (Or.inl ⟨by rfl, ?_⟩) (by assumption) ?_
              rotate_left
              · (intro w hSw; (try dsimp only at hSw); go_simp; (try with_reducible rfl))
              try simp only [Act.put, List.setIfInBounds_toArray, List.set_cons_zero, List.set_cons_succ]
              refine wpAnyH_take (i := 14) (oi := _) (v := undef) (by rw [List.getElem?_toArray]; rfl) (by kernel_rfl) (by kernel_rfl) (by kernel_rfl) (fun _ _ _ h => by exact h) (Or.inr ⟨by rfl, rfl⟩) (by assumption) ?_
              try simp only [Act.put, List.setIfInBounds_toArray, List.set_cons_zero, List.set_cons_succ]
              refine wpAnyH_take (i := 15) (oi := _) (v := undef) (by rw [List.getElem?_toArray]; rfl) (by kernel_rfl) (by kernel_rfl) (by kernel_rfl) (fun _ _ _ h => by exact h) (Or.inr ⟨by rfl, rfl⟩) (by assumption) ?_
              try simp only [Act.put, List.setIfInBounds_toArray, List.set_cons_zero, List.set_cons_succ]
              refine wpAnyH_take (i := 16) (oi := _) (v := undef) (by rw [List.getElem?_toArray]; rfl) (by kernel_rfl) (by kernel_rfl) (by kernel_rfl) (fun _ _ _ h => by exact h) (Or.inr ⟨by rfl, rfl⟩) (by assumption) ?_
              try simp only [Act.put, List.setIfInBounds_toArray, List.set_cons_zero, List.set_cons_succ]
              refine wpAnyH_take (i := 17) (oi := _) (v := undef) (by rw [List.getElem?_toArray]; rfl) (by kernel_rfl) (by kernel_rfl) (by kernel_rfl) (fun _ _ _ h => by exact h) (Or.inr ⟨by rfl, rfl⟩) (by assumption) ?_
              try simp only [Act.put, List.setIfInBounds_toArray, List.set_cons_zero, List.set_cons_succ]
              refine wpAnyH_take (i := 18) (oi := _) (v := undef) (by rw [List.getElem?_toArray]; rfl) (by kernel_rfl) (by kernel_rfl) (by kernel_rfl) (fun _ _ _ h => by exact h) (Or.inr ⟨by rfl, rfl⟩) (by assumption) ?_
              try simp only [Act.put, List.setIfInBounds_toArray, List.set_cons_zero, List.set_cons_succ]
              refine wpAnyH_take (i := 19) (oi := _) (v := ?_) (by rw [List.getElem?_toArray]; rfl) (by kernel_rfl) (by kernel_rfl) (by kernel_rfl) (fun _ _ _ h => by exact h) (Or.inl ⟨by rfl, ?_⟩) (by assumption) ?_
              rotate_left
              · (intro w hSw; (try dsimp only at hSw); go_simp; (try with_reducible rfl))
              try simp only [Act.put, List.setIfInBounds_toArray, List.set_cons_zero, List.set_cons_succ]
              refine wpAnyH_take (i := 20) (oi := _) (v := ?_) (by rw [List.getElem?_toArray]; rfl) (by kernel_rfl) (by kernel_rfl) (by kernel_rfl) (fun _ _ _ h => by exact h) (Or.inl ⟨by rfl, ?_⟩) (by assumption) ?_
              rotate_left
              · (intro w hSw; (try dsimp only at hSw); go_simp; (try with_reducible rfl))
              try simp only [Act.put, List.setIfInBounds_toArray, List.set_cons_zero, List.set_cons_succ]
              refine wpAnyH_take (i := 21) (oi := _) (v := ?_) (by rw [List.getElem?_toArray]; rfl) (by kernel_rfl) (by kernel_rfl) (by kernel_rfl) (fun _ _ _ h => by exact h) (Or.inl ⟨by rfl, ?_⟩) (by assumption) ?_
              rotate_left
              · (intro w hSw; (try dsimp only at hSw); go_simp; (try with_reducible rfl))
              try simp only [Act.put, List.setIfInBounds_toArray, List.set_cons_zero, List.set_cons_succ]
              refine wpAnyH_done (by kernel_rfl) ?_ _
              go_wp2
              go_ret
              exact ⟨rfl, FL.out.trans G8.out⟩
            exact AllReadyH.nil
          exact AllReadyH.nil
        refine AllReadyH.cons (o := _) (by rw [List.getElem?_toArray]; rfl) (fun K hK => ?_) ?_
        · go_simp
          have GB : Hid (Fr (fun _ => False) w6 (w6.alloc (.cells #[.float .f64 x, .bool false, .slice a2 (pd false n l).length c2] 26))) := (Fr.refl _ _).alloc _
          refine hK.out _ _ ⟨HWB.out.fr (G6.out.trans GB.out) (by simp), HAB.out.fr (G6.out.trans GB.out) (by simp)⟩ (fun hHeld => ?_)
          clear hK K
          try simp only [Act.put, List.setIfInBounds_toArray, List.set_cons_zero, List.set_cons_succ]
          refine wpAnyH_ready (rs := [1]) (by kernel_rfl) (by simp) ?_
          refine AllReadyH.cons (o := _) (by rw [List.getElem?_toArray]; rfl) (fun K hK => ?_) ?_
          · go_simp
            have GA : Hid (Fr (fun _ => False) (w6.alloc (.cells #[.float .f64 x, .bool false, .slice a2 (pd false n l).length c2] 26)) ((w6.alloc (.cells #[.float .f64 x, .bool false, .slice a2 (pd false n l).length c2] 26)).alloc (.cells #[.float .f64 x, .bool false, .slice a1 (pd false n l).length c1] 26))) := (Fr.refl _ _).alloc _
            have GF : Hid (Fr (fun _ => False) WL ((w6.alloc (.cells #[.float .f64 x, .bool false, .slice a2 (pd false n l).length c2] 26)).alloc (.cells #[.float .f64 x, .bool false, .slice a1 (pd false n l).length c1] 26))) := (G6.out.trans GB.out).trans GA.out
            refine hK.out _ _ ⟨HWB.out.fr GF.out (by simp), HAB.out.fr GF.out (by simp)⟩ (fun hHeld => ?_)
            clear hK K
            try simp only [Act.put, List.setIfInBounds_toArray, List.set_cons_zero, List.set_cons_succ]
            have HPB : Hid (Z3 ((w6.alloc (.cells #[.float .f64 x, .bool false, .slice a2 (pd false n l).length c2] 26)).alloc (.cells #[.float .f64 x, .bool false, .slice a1 (pd false n l).length c1] 26)) w6.heap.size (.float .f64 x) (.bool false) (.slice a2 (pd false n l).length c2)) := (Z3.new w6 26 _ _ _).fr GA.out (by simp)
            have HPA : Hid (Z3 ((w6.alloc (.cells #[.float .f64 x, .bool false, .slice a2 (pd false n l).length c2] 26)).alloc (.cells #[.float .f64 x, .bool false, .slice a1 (pd false n l).length c1] 26)) (w6.heap.size + 1) (.float .f64 x) (.bool false) (.slice a1 (pd false n l).length c1)) := (show Z3 _ _ _ _ _ by have := Z3.new (w6.alloc (.cells #[.float .f64 x, .bool false, .slice a2 (pd false n l).length c2] 26)) 26 (.float .f64 x) (.bool false) (.slice a1 (pd false n l).length c1); simpa using this)
            have HQ1 : Hid (Row ((w6.alloc (.cells #[.float .f64 x, .bool false, .slice a2 (pd false n l).length c2] 26)).alloc (.cells #[.float .f64 x, .bool false, .slice a1 (pd false n l).length c1] 26)) a1 (pd false n l) c1) := GF.out.row HR1.out (by simp)
            have HQ2 : Hid (Row ((w6.alloc (.cells #[.float .f64 x, .bool false, .slice a2 (pd false n l).length c2] 26)).alloc (.cells #[.float .f64 x, .bool false, .slice a1 (pd false n l).length c1] 26)) a2 (pd false n l) c2) := (GB.out.trans GA.out).row HR6.out (by simp)
            refine wpAnyH_ready (rs := [6]) (by kernel_rfl) (by simp) ?_
            refine AllReadyH.cons (o := _) (by rw [List.getElem?_toArray]; rfl) (fun K hK => ?_) ?_
            · go_simp
              go_wp2_with (go_at_call 6; refine (samewrites_one x hx false (pd false n l) _ _ 1 1 c1 c2 a1 a2 _ HPA.out HPB.out HQ1.out HQ2.out).mono ?_; rintro e w8 ⟨rfl, f8⟩)
              have G8 : Hid (Fr (fun _ => False) WL w8) := GF.out.trans f8
              clear f8
              refine hK.out _ _ ⟨HWB.out.fr G8.out (by simp), HAB.out.fr G8.out (by simp)⟩ (fun hHeld => ?_)
              clear hK K
              try simp only [Act.put, List.setIfInBounds_toArray, List.set_cons_zero, List.set_cons_succ]
              refine wpAnyH_take (i := 7) (oi := _) (v := ?_) (by rw [List.getElem?_toArray]; rfl) (by kernel_rfl) (by kernel_rfl) (by kernel_rfl) (fun _ _ _ h => by exact h) (Or.inl ⟨by rfl, ?_⟩) (by assumption) ?_
              rotate_left
              · (intro w hSw; (try dsimp only at hSw); go_simp; (try with_reducible rfl))
              try simp only [Act.put, List.setIfInBounds_toArray, List.set_cons_zero, List.set_cons_succ]
              refine wpAnyH_take (i := 8) (oi := _) (v := ?_) (by rw [List.getElem?_toArray]; rfl) (by kernel_rfl) (by kernel_rfl) (by kernel_rfl) (fun _ _ _ h => by exact h) (Or.inl ⟨by rfl, ?_⟩) (by assumption) ?_
              rotate_left
              · (intro w hSw; (try dsimp only at hSw); go_simp; (try with_reducible rfl))
              try simp only [Act.put, List.setIfInBounds_toArray, List.set_cons_zero, List.set_cons_succ]
              refine wpAnyH_take (i := 9) (oi := _) (v := ?_) (by rw [List.getElem?_toArray]; rfl) (by kernel_rfl) (by kernel_rfl) (by kernel_rfl) (fun _ _ _ h => by exact h) (Or.inl ⟨by rfl, ?_⟩) (by assumption) ?_
              rotate_left
              · (intro w hSw; (try dsimp only at hSw); go_simp; (try with_reducible rfl))
              try simp only [Act.put, List.setIfInBounds_toArray, List.set_cons_zero, List.set_cons_succ]
              refine wpAnyH_take (i := 10) (oi := _) (v := ?_) (by rw [List.getElem?_toArray]; rfl) (by kernel_rfl) (by kernel_rfl) (by kernel_rfl) (fun _ _ _ h => by exact h) (Or.inl ⟨by rfl, ?_⟩) (by assumption) ?_
              rotate_left
              · (intro w hSw; (try dsimp only at hSw); go_simp; (try with_reducible rfl))
              try simp only [Act.put, List.setIfInBounds_toArray, List.set_cons_zero, List.set_cons_succ]
              refine wpAnyH_take (i := 11) (oi := _) (v := ?_) (by rw [List.getElem?_toArray]; rfl) (by kernel_rfl) (by kernel_rfl) (by kernel_rfl) (fun _ _ _ h => by exact h) (Or.inl ⟨by rfl, ?_⟩) (by assumption) ?_
              rotate_left
              · (intro w hSw; (try dsimp only at hSw); go_simp; (try with_reducible rfl))
              try simp only [Act.put, List.setIfInBounds_toArray, List.set_cons_zero, List.set_cons_succ]
              refine wpAnyH_take (i := 12) (oi := _) (v := ?_) (by rw [List.getElem?_toArray]; rfl) (by kernel_rfl) (by kernel_rfl) (by kernel_rfl) (fun _ _ _ h => by exact h) (Or.inl ⟨by rfl, ?_⟩) (by assumption) ?_
              rotate_left
              · (intro w hSw; (try dsimp only at hSw); go_simp; (try with_reducible rfl))
              try simp only [Act.put, List.setIfInBounds_toArray, List.set_cons_zero, List.set_cons_succ]
              refine wpAnyH_take (i := 13) (oi := _) (v := ?_) (by rw [List.getElem?_toArray]; rfl) (by kernel_rfl) (by kernel_rfl) (by kernel_rfl) (fun _ _ _ h => by exact h) (Or.inl ⟨by rfl, ?_⟩) (by assumption) ?_
              rotate_left
              · (intro w hSw; (try dsimp only at hSw); go_simp; (try with_reducible rfl))
              try simp only [Act.put, List.setIfInBounds_toArray, List.set_cons_zero, List.set_cons_succ]
              refine wpAnyH_take (i := 14) (oi := _) (v := undef) (by rw [List.getElem?_toArray]; rfl) (by kernel_rfl) (by kernel_rfl) (by kernel_rfl) (fun _ _ _ h => by exact h) (Or.inr ⟨by rfl, rfl⟩) (by assumption) ?_
              try simp only [Act.put, List.setIfInBounds_toArray, List.set_cons_zero, List.set_cons_succ]
              refine wpAnyH_take (i := 15) (oi := _) (v := undef) (by rw [List.getElem?_toArray]; rfl) (by kernel_rfl) (by kernel_rfl) (by kernel_rfl) (fun _ _ _ h => by exact h) (Or.inr ⟨by rfl, rfl⟩) (by assumption) ?_
              try simp only [Act.put, List.setIfInBounds_toArray, List.set_cons_zero, List.set_cons_succ]
              refine wpAnyH_take (i := 16) (oi := _) (v := undef) (by rw [List.getElem?_toArray]; rfl) (by kernel_rfl) (by kernel_rfl) (by kernel_rfl) (fun _ _ _ h => by exact h) (Or.inr ⟨by rfl, rfl⟩) (by assumption) ?_
              try simp only [Act.put, List.setIfInBounds_toArray, List.set_cons_zero, List.set_cons_succ]
              refine wpAnyH_take (i := 17) (oi := _) (v := undef) (by rw [List.getElem?_toArray]; rfl) (by kernel_rfl) (by kernel_rfl) (by kernel_rfl) (fun _ _ _ h => by exact h) (Or.inr ⟨by rfl, rfl⟩) (by assumption) ?_
              try simp only [Act.put, List.setIfInBounds_toArray, List.set_cons_zero, List.set_cons_succ]
              refine wpAnyH_take (i := 18) (oi := _) (v := undef) (by rw [List.getElem?_toArray]; rfl) (by kernel_rfl) (by kernel_rfl) (by kernel_rfl) (fun _ _ _ h => by exact h) (Or.inr ⟨by rfl, rfl⟩) (by assumption) ?_
              try simp only [Act.put, List.setIfInBounds_toArray, List.set_cons_zero, List.set_cons_succ]
              refine wpAnyH_take (i := 19) (oi := _) (v := ?_) (by rw [List.getElem?_toArray]; rfl) (by kernel_rfl) (by kernel_rfl) (by kernel_rfl) (fun _ _ _ h => by exact h) (Or.inl ⟨by rfl, ?_⟩) (by assumption) ?_
              rotate_left
              · (intro w hSw; (try dsimp only at hSw); go_simp; (try with_reducible rfl))
              try simp only [Act.put, List.setIfInBounds_toArray, List.set_cons_zero, List.set_cons_succ]
              refine wpAnyH_take (i := 20) (oi := _) (v := ?_) (by rw [List.getElem?_toArray]; rfl) (by kernel_rfl) (by kernel_rfl) (by kernel_rfl) (fun _ _ _ h => by exact h) (Or.inl ⟨by rfl, ?_⟩) (by assumption) ?_
              rotate_left
              · (intro w hSw; (try dsimp only at hSw); go_simp; (try with_reducible rfl))
              try simp only [Act.put, List.setIfInBounds_toArray, List.set_cons_zero, List.set_cons_succ]
              refine wpAnyH_take (i := 21) (oi := _) (v := ?_) (by rw [List.getElem?_toArray]; rfl) (by kernel_rfl) (by kernel_rfl) (by kernel_rfl) (fun _ _ _ h => by exact h) (Or.inl ⟨by rfl, ?_⟩) (by assumption) ?_
              rotate_left
              · (intro w hSw; (try dsimp only at hSw); go_simp; (try with_reducible rfl))
              try simp only [Act.put, List.setIfInBounds_toArray, List.set_cons_zero, List.set_cons_succ]
              refine wpAnyH_done (by kernel_rfl) ?_ _
              go_wp2
              go_ret
              exact ⟨rfl, FL.out.trans G8.out⟩
            exact AllReadyH.nil
          exact AllReadyH.nil
        exact AllReadyH.nil
      exact AllReadyH.nil
    · have hlen : (((pd false n l).length : Int) == n) = true := by
        have : (pd false n l).length = n.toNat := by
          unfold pd
          by_cases h : n < 1
          · rw [if_pos (Or.inr h)]; simp; omega
          · rw [if_neg (by simpa using h), pad_length]
        rw [this]
        simp
        omega
      have HLN : Hid (_ = true) := hlen
      clear hlen
      go_wp2_with fail
      rw [← HWL.out, Hab.out]
      clear HWL Hab HWA Hwb FA F1 HRW
      have hlen := HLN.out
      have hdn : decide (n < 0) = false := by simpa using hn
      refine wp_region_held_drew (S := (fun W : World => Z3 W wb (.float .f64 x) (.bool false) (.slice ao l.length cap) ∧ Z3 W ab (.float .f64 x) (.bool false) (.slice a1 (pd false n l).length c1))) (by kernel_rfl) ⟨HWB.out.fr ((Fr.refl (fun _ => False) WL).drew) (by simp), HAB.out.fr ((Fr.refl (fun _ => False) WL).drew) (by simp)⟩ (fun hHeld => ?_)
      refine wpAnyH_take (i := 0) (oi := _) (v := ?_) (by rw [List.getElem?_toArray]; rfl) (by kernel_rfl) (by kernel_rfl) (by kernel_rfl) (fun _ _ _ h => by exact h) (Or.inl ⟨by rfl, ?_⟩) (by assumption) ?_
      rotate_left
      · (intro w hSw; (try dsimp only at hSw); obtain ⟨⟨k0, k1, k2, kz⟩, ⟨j0, j1, j2, jz⟩⟩ := hSw; go_simp; (try with_reducible rfl))
      try simp only [Act.put, List.setIfInBounds_toArray, List.set_cons_zero, List.set_cons_succ]
      refine wpAnyH_take (i := 2) (oi := _) (v := ?_) (by rw [List.getElem?_toArray]; rfl) (by kernel_rfl) (by kernel_rfl) (by kernel_rfl) (fun _ _ _ h => by exact h) (Or.inl ⟨by rfl, ?_⟩) (by assumption) ?_
      rotate_left
      · (intro w hSw; (try dsimp only at hSw); obtain ⟨⟨k0, k1, k2, kz⟩, ⟨j0, j1, j2, jz⟩⟩ := hSw; go_simp; (try with_reducible rfl))
      try simp only [Act.put, List.setIfInBounds_toArray, List.set_cons_zero, List.set_cons_succ]
      refine wpAnyH_take (i := 3) (oi := _) (v := ?_) (by rw [List.getElem?_toArray]; rfl) (by kernel_rfl) (by kernel_rfl) (by kernel_rfl) (fun _ _ _ h => by exact h) (Or.inl ⟨by rfl, ?_⟩) (by assumption) ?_
      rotate_left
      · (intro w hSw; (try dsimp only at hSw); go_simp; (try with_reducible rfl))
      try simp only [Act.put, List.setIfInBounds_toArray, List.set_cons_zero, List.set_cons_succ]
      refine wpAnyH_ready (rs := [1, 4]) (by kernel_rfl) (by simp) ?_
      refine AllReadyH.cons (o := _) (by rw [List.getElem?_toArray]; rfl) (fun K hK => ?_) ?_
      · go_simp
        have GA : Hid (Fr (fun _ => False) WL (WL.drew.alloc (.cells #[.float .f64 x, .bool false, .slice a1 (pd false n l).length c1] 26))) := (((Fr.refl (fun _ => False) WL).drew)).alloc _
        refine hK.out _ _ ⟨HWB.out.fr GA.out (by simp), HAB.out.fr GA.out (by simp)⟩ (fun hHeld => ?_)
        clear hK K
        try simp only [Act.put, List.setIfInBounds_toArray, List.set_cons_zero, List.set_cons_succ]
        refine wpAnyH_ready (rs := [4]) (by kernel_rfl) (by simp) ?_
        refine AllReadyH.cons (o := _) (by rw [List.getElem?_toArray]; rfl) (fun K hK => ?_) ?_
        · go_simp
          go_wp2_with (go_at_call 7; refine (refpad_any x false ao l cap n _ ((GA.out).row HRL.out (by simp)) HNB.out).mono ?_; rintro e w6 ⟨a2, c2, rfl, h6, f6⟩)
          have HR6 : Hid (Row w6 a2 (pd false n l) c2) := h6
          have F6 : Hid (Fr (fun _ => False) (WL.drew.alloc (.cells #[.float .f64 x, .bool false, .slice a1 (pd false n l).length c1] 26)) w6) := f6
          have G6 : Hid (Fr (fun _ => False) WL w6) := (GA.out).trans f6
          clear h6 f6
          refine hK.out _ _ ⟨HWB.out.fr G6.out (by simp), HAB.out.fr G6.out (by simp)⟩ (fun hHeld => ?_)
          clear hK K
          try simp only [Act.put, List.setIfInBounds_toArray, List.set_cons_zero, List.set_cons_succ]
          refine wpAnyH_ready (rs := [5]) (by kernel_rfl) (by simp) ?_
          refine AllReadyH.cons (o := _) (by rw [List.getElem?_toArray]; rfl) (fun K hK => ?_) ?_
          · go_simp
            have GB : Hid (Fr (fun _ => False) w6 (w6.alloc (.cells #[.float .f64 x, .bool false, .slice a2 (pd false n l).length c2] 26))) := (Fr.refl _ _).alloc _
            have GF : Hid (Fr (fun _ => False) WL (w6.alloc (.cells #[.float .f64 x, .bool false, .slice a2 (pd false n l).length c2] 26))) := G6.out.trans GB.out
            refine hK.out _ _ ⟨HWB.out.fr GF.out (by simp), HAB.out.fr GF.out (by simp)⟩ (fun hHeld => ?_)
            clear hK K
            try simp only [Act.put, List.setIfInBounds_toArray, List.set_cons_zero, List.set_cons_succ]
            have HPA : Hid (Z3 (w6.alloc (.cells #[.float .f64 x, .bool false, .slice a2 (pd false n l).length c2] 26)) WL.heap.size (.float .f64 x) (.bool false) (.slice a1 (pd false n l).length c1)) := ((show Z3 (WL.drew.alloc (.cells #[.float .f64 x, .bool false, .slice a1 (pd false n l).length c1] 26)) WL.heap.size _ _ _ from Z3.new WL.drew 26 _ _ _).fr F6.out (by simp)).fr GB.out (by simp)
            have HPB : Hid (Z3 (w6.alloc (.cells #[.float .f64 x, .bool false, .slice a2 (pd false n l).length c2] 26)) w6.heap.size (.float .f64 x) (.bool false) (.slice a2 (pd false n l).length c2)) := Z3.new w6 26 _ _ _
            have HQ1 : Hid (Row (w6.alloc (.cells #[.float .f64 x, .bool false, .slice a2 (pd false n l).length c2] 26)) a1 (pd false n l) c1) := GF.out.row HR1.out (by simp)
            have HQ2 : Hid (Row (w6.alloc (.cells #[.float .f64 x, .bool false, .slice a2 (pd false n l).length c2] 26)) a2 (pd false n l) c2) := GB.out.row HR6.out (by simp)
            refine wpAnyH_ready (rs := [6]) (by kernel_rfl) (by simp) ?_
            refine AllReadyH.cons (o := _) (by rw [List.getElem?_toArray]; rfl) (fun K hK => ?_) ?_
            · go_simp
              go_wp2_with (go_at_call 6; refine (samewrites_one x hx false (pd false n l) _ _ 1 1 c1 c2 a1 a2 _ HPA.out HPB.out HQ1.out HQ2.out).mono ?_; rintro e w8 ⟨rfl, f8⟩)
              have G8 : Hid (Fr (fun _ => False) WL w8) := GF.out.trans f8
              clear f8
              refine hK.out _ _ ⟨HWB.out.fr G8.out (by simp), HAB.out.fr G8.out (by simp)⟩ (fun hHeld => ?_)
              clear hK K
              try simp only [Act.put, List.setIfInBounds_toArray, List.set_cons_zero, List.set_cons_succ]
              refine wpAnyH_take (i := 7) (oi := _) (v := ?_) (by rw [List.getElem?_toArray]; rfl) (by kernel_rfl) (by kernel_rfl) (by kernel_rfl) (fun _ _ _ h => by exact h) (Or.inl ⟨by rfl, ?_⟩) (by assumption) ?_
              rotate_left
              · (intro w hSw; (try dsimp only at hSw); go_simp; (try with_reducible rfl))
              try simp only [Act.put, List.setIfInBounds_toArray, List.set_cons_zero, List.set_cons_succ]
              refine wpAnyH_take (i := 8) (oi := _) (v := ?_) (by rw [List.getElem?_toArray]; rfl) (by kernel_rfl) (by kernel_rfl) (by kernel_rfl) (fun _ _ _ h => by exact h) (Or.inl ⟨by rfl, ?_⟩) (by assumption) ?_
              rotate_left
              · (intro w hSw; (try dsimp only at hSw); go_simp; (try with_reducible rfl))
              try simp only [Act.put, List.setIfInBounds_toArray, List.set_cons_zero, List.set_cons_succ]
              refine wpAnyH_take (i := 9) (oi := _) (v := ?_) (by rw [List.getElem?_toArray]; rfl) (by kernel_rfl) (by kernel_rfl) (by kernel_rfl) (fun _ _ _ h => by exact h) (Or.inl ⟨by rfl, ?_⟩) (by assumption) ?_
              rotate_left
              · (intro w hSw; (try dsimp only at hSw); go_simp; (try with_reducible rfl))
              try simp only [Act.put, List.setIfInBounds_toArray, List.set_cons_zero, List.set_cons_succ]
              refine wpAnyH_take (i := 10) (oi := _) (v := ?_) (by rw [List.getElem?_toArray]; rfl) (by kernel_rfl) (by kernel_rfl) (by kernel_rfl) (fun _ _ _ h => by exact h) (Or.inl ⟨by rfl, ?_⟩) (by assumption) ?_
              rotate_left
              · (intro w hSw; (try dsimp only at hSw); go_simp; (try with_reducible rfl))
              try simp only [Act.put, List.setIfInBounds_toArray, List.set_cons_zero, List.set_cons_succ]
              refine wpAnyH_take (i := 11) (oi := _) (v := ?_) (by rw [List.getElem?_toArray]; rfl) (by kernel_rfl) (by kernel_rfl) (by kernel_rfl) (fun _ _ _ h => by exact h) (Or.inl ⟨by rfl, ?_⟩) (by assumption) ?_
              rotate_left
              · (intro w hSw; (try dsimp only at hSw); go_simp; (try with_reducible rfl))
              try simp only [Act.put, List.setIfInBounds_toArray, List.set_cons_zero, List.set_cons_succ]
              refine wpAnyH_take (i := 12) (oi := _) (v := ?_) (by rw [List.getElem?_toArray]; rfl) (by kernel_rfl) (by kernel_rfl) (by kernel_rfl) (fun _ _ _ h => by exact h) (Or.inl ⟨by rfl, ?_⟩) (by assumption) ?_
              rotate_left
              · (intro w hSw; (try dsimp only at hSw); go_simp; (try with_reducible rfl))
              try simp only [Act.put, List.setIfInBounds_toArray, List.set_cons_zero, List.set_cons_succ]
              refine wpAnyH_take (i := 13) (oi := _) (v := ?_) (by rw [List.getElem?_toArray]; rfl) (by kernel_rfl) (by kernel_rfl) (by kernel_rfl) (fun _ _ _ h => by exact h) (Or.inl ⟨by rfl, ?_⟩) (by assumption) ?_
              rotate_left
              · (intro w hSw; (try dsimp only at hSw); go_simp; (try with_reducible rfl))
              try simp only [Act.put, List.setIfInBounds_toArray, List.set_cons_zero, List.set_cons_succ]
              refine wpAnyH_take (i := 14) (oi := _) (v := ?_) (by rw [List.getElem?_toArray]; rfl) (by kernel_rfl) (by kernel_rfl) (by kernel_rfl) (fun _ _ _ h => by exact h) (Or.inl ⟨by rfl, ?_⟩) (by assumption) ?_
              rotate_left
              · (intro w hSw; (try dsimp only at hSw); obtain ⟨⟨k0, k1, k2, kz⟩, ⟨j0, j1, j2, jz⟩⟩ := hSw; go_simp; (try with_reducible rfl))
              try simp only [Act.put, List.setIfInBounds_toArray, List.set_cons_zero, List.set_cons_succ]
              refine wpAnyH_take (i := 15) (oi := _) (v := ?_) (by rw [List.getElem?_toArray]; rfl) (by kernel_rfl) (by kernel_rfl) (by kernel_rfl) (fun _ _ _ h => by exact h) (Or.inl ⟨by rfl, ?_⟩) (by assumption) ?_
              rotate_left
              · (intro w hSw; (try dsimp only at hSw); obtain ⟨⟨k0, k1, k2, kz⟩, ⟨j0, j1, j2, jz⟩⟩ := hSw; go_simp; (try with_reducible rfl))
              try simp only [Act.put, List.setIfInBounds_toArray, List.set_cons_zero, List.set_cons_succ]
              refine wpAnyH_take (i := 16) (oi := _) (v := ?_) (by rw [List.getElem?_toArray]; rfl) (by kernel_rfl) (by kernel_rfl) (by kernel_rfl) (fun _ _ _ h => by exact h) (Or.inl ⟨by rfl, ?_⟩) (by assumption) ?_
              rotate_left
              · (intro w hSw; (try dsimp only at hSw); obtain ⟨⟨k0, k1, k2, kz⟩, ⟨j0, j1, j2, jz⟩⟩ := hSw; go_simp; (try with_reducible rfl))
              try simp only [Act.put, List.setIfInBounds_toArray, List.set_cons_zero, List.set_cons_succ]
              refine wpAnyH_take (i := 17) (oi := _) (v := ?_) (by rw [List.getElem?_toArray]; rfl) (by kernel_rfl) (by kernel_rfl) (by kernel_rfl) (fun _ _ _ h => by exact h) (Or.inl ⟨by rfl, ?_⟩) (by assumption) ?_
              rotate_left
              · (intro w hSw; (try dsimp only at hSw); obtain ⟨⟨k0, k1, k2, kz⟩, ⟨j0, j1, j2, jz⟩⟩ := hSw; go_simp; (try with_reducible rfl))
              try simp only [Act.put, List.setIfInBounds_toArray, List.set_cons_zero, List.set_cons_succ]
              refine wpAnyH_take (i := 18) (oi := _) (v := ?_) (by rw [List.getElem?_toArray]; rfl) (by kernel_rfl) (by kernel_rfl) (by kernel_rfl) (fun _ _ _ h => by exact h) (Or.inl ⟨by rfl, ?_⟩) (by assumption) ?_
              rotate_left
              · (intro w hSw; (try dsimp only at hSw); obtain ⟨⟨k0, k1, k2, kz⟩, ⟨j0, j1, j2, jz⟩⟩ := hSw; go_simp; (try with_reducible rfl))
              try simp only [Act.put, List.setIfInBounds_toArray, List.set_cons_zero, List.set_cons_succ]
              refine wpAnyH_take (i := 19) (oi := _) (v := ?_) (by rw [List.getElem?_toArray]; rfl) (by kernel_rfl) (by kernel_rfl) (by kernel_rfl) (fun _ _ _ h => by exact h) (Or.inl ⟨by rfl, ?_⟩) (by assumption) ?_
              rotate_left
              · (intro w hSw; (try dsimp only at hSw); go_simp; (try with_reducible rfl))
              try simp only [Act.put, List.setIfInBounds_toArray, List.set_cons_zero, List.set_cons_succ]
              refine wpAnyH_take (i := 20) (oi := _) (v := ?_) (by rw [List.getElem?_toArray]; rfl) (by kernel_rfl) (by kernel_rfl) (by kernel_rfl) (fun _ _ _ h => by exact h) (Or.inl ⟨by rfl, ?_⟩) (by assumption) ?_
              rotate_left
              · (intro w hSw; (try dsimp only at hSw); go_simp; (try with_reducible rfl))
              try simp only [Act.put, List.setIfInBounds_toArray, List.set_cons_zero, List.set_cons_succ]
              refine wpAnyH_take (i := 21) (oi := _) (v := ?_) (by rw [List.getElem?_toArray]; rfl) (by kernel_rfl) (by kernel_rfl) (by kernel_rfl) (fun _ _ _ h => by exact h) (Or.inl ⟨by rfl, ?_⟩) (by assumption) ?_
              rotate_left
              · (intro w hSw; (try dsimp only at hSw); go_simp; (try with_reducible rfl))
              try simp only [Act.put, List.setIfInBounds_toArray, List.set_cons_zero, List.set_cons_succ]
              refine wpAnyH_done (by kernel_rfl) ?_ _
              go_wp2
              go_ret
              exact ⟨rfl, FL.out.trans G8.out⟩
            exact AllReadyH.nil
          exact AllReadyH.nil
        exact AllReadyH.nil
      refine AllReadyH.cons (o := _) (by rw [List.getElem?_toArray]; rfl) (fun K hK => ?_) ?_
      · go_simp
        go_wp2_with (go_at_call 7; refine (refpad_any x false ao l cap n _ ((((Fr.refl (fun _ => False) WL).drew)).row HRL.out (by simp)) HNB.out).mono ?_; rintro e w6 ⟨a2, c2, rfl, h6, f6⟩)
        have HR6 : Hid (Row w6 a2 (pd false n l) c2) := h6
        have F6 : Hid (Fr (fun _ => False) WL.drew w6) := f6
        have G6 : Hid (Fr (fun _ => False) WL w6) := (((Fr.refl (fun _ => False) WL).drew)).trans f6
        clear h6 f6
        refine hK.out _ _ ⟨HWB.out.fr G6.out (by simp), HAB.out.fr G6.out (by simp)⟩ (fun hHeld => ?_)
        clear hK K
        try simp only [Act.put, List.setIfInBounds_toArray, List.set_cons_zero, List.set_cons_succ]
        refine wpAnyH_ready (rs := [1, 5]) (by kernel_rfl) (by simp) ?_
        refine AllReadyH.cons (o := _) (by rw [List.getElem?_toArray]; rfl) (fun K hK => ?_) ?_
        · go_simp
          have GA : Hid (Fr (fun _ => False) w6 (w6.alloc (.cells #[.float .f64 x, .bool false, .slice a1 (pd false n l).length c1] 26))) := (Fr.refl _ _).alloc _
          refine hK.out _ _ ⟨HWB.out.fr (G6.out.trans GA.out) (by simp), HAB.out.fr (G6.out.trans GA.out) (by simp)⟩ (fun hHeld => ?_)
          clear hK K
          try simp only [Act.put, List.setIfInBounds_toArray, List.set_cons_zero, List.set_cons_succ]
          refine wpAnyH_ready (rs := [5]) (by kernel_rfl) (by simp) ?_
          refine AllReadyH.cons (o := _) (by rw [List.getElem?_toArray]; rfl) (fun K hK => ?_) ?_
          · go_simp
            have GB : Hid (Fr (fun _ => False) (w6.alloc (.cells #[.float .f64 x, .bool false, .slice a1 (pd false n l).length c1] 26)) ((w6.alloc (.cells #[.float .f64 x, .bool false, .slice a1 (pd false n l).length c1] 26)).alloc (.cells #[.float .f64 x, .bool false, .slice a2 (pd false n l).length c2] 26))) := (Fr.refl _ _).alloc _
            have GF : Hid (Fr (fun _ => False) WL ((w6.alloc (.cells #[.float .f64 x, .bool false, .slice a1 (pd false n l).length c1] 26)).alloc (.cells #[.float .f64 x, .bool false, .slice a2 (pd false n l).length c2] 26))) := (G6.out.trans GA.out).trans GB.out
            refine hK.out _ _ ⟨HWB.out.fr GF.out (by simp), HAB.out.fr GF.out (by simp)⟩ (fun hHeld => ?_)
            clear hK K
            try simp only [Act.put, List.setIfInBounds_toArray, List.set_cons_zero, List.set_cons_succ]
            have HPA : Hid (Z3 ((w6.alloc (.cells #[.float .f64 x, .bool false, .slice a1 (pd false n l).length c1] 26)).alloc (.cells #[.float .f64 x, .bool false, .slice a2 (pd false n l).length c2] 26)) w6.heap.size (.float .f64 x) (.bool false) (.slice a1 (pd false n l).length c1)) := (Z3.new w6 26 _ _ _).fr GB.out (by simp)
            have HPB : Hid (Z3 ((w6.alloc (.cells #[.float .f64 x, .bool false, .slice a1 (pd false n l).length c1] 26)).alloc (.cells #[.float .f64 x, .bool false, .slice a2 (pd false n l).length c2] 26)) (w6.heap.size + 1) (.float .f64 x) (.bool false) (.slice a2 (pd false n l).length c2)) := (show Z3 _ _ _ _ _ by have := Z3.new (w6.alloc (.cells #[.float .f64 x, .bool false, .slice a1 (pd false n l).length c1] 26)) 26 (.float .f64 x) (.bool false) (.slice a2 (pd false n l).length c2); simpa using this)
            have HQ1 : Hid (Row ((w6.alloc (.cells #[.float .f64 x, .bool false, .slice a1 (pd false n l).length c1] 26)).alloc (.cells #[.float .f64 x, .bool false, .slice a2 (pd false n l).length c2] 26)) a1 (pd false n l) c1) := GF.out.row HR1.out (by simp)
            have HQ2 : Hid (Row ((w6.alloc (.cells #[.float .f64 x, .bool false, .slice a1 (pd false n l).length c1] 26)).alloc (.cells #[.float .f64 x, .bool false, .slice a2 (pd false n l).length c2] 26)) a2 (pd false n l) c2) := (GA.out.trans GB.out).row HR6.out (by simp)
            refine wpAnyH_ready (rs := [6]) (by kernel_rfl) (by simp) ?_
            refine AllReadyH.cons (o := _) (by rw [List.getElem?_toArray]; rfl) (fun K hK => ?_) ?_
            · go_simp
              go_wp2_with (go_at_call 6; refine (samewrites_one x hx false (pd false n l) _ _ 1 1 c1 c2 a1 a2 _ HPA.out HPB.out HQ1.out HQ2.out).mono ?_; rintro e w8 ⟨rfl, f8⟩)
              have G8 : Hid (Fr (fun _ => False) WL w8) := GF.out.trans f8
              clear f8
              refine hK.out _ _ ⟨HWB.out.fr G8.out (by simp), HAB.out.fr G8.out (by simp)⟩ (fun hHeld => ?_)
              clear hK K
              try simp only [Act.put, List.setIfInBounds_toArray, List.set_cons_zero, List.set_cons_succ]
              refine wpAnyH_take (i := 7) (oi := _) (v := ?_) (by rw [List.getElem?_toArray]; rfl) (by kernel_rfl) (by kernel_rfl) (by kernel_rfl) (fun _ _ _ h => by exact h) (Or.inl ⟨by rfl, ?_⟩) (by assumption) ?_
              rotate_left
              · (intro w hSw; (try dsimp only at hSw); go_simp; (try with_reducible rfl))
              try simp only [Act.put, List.setIfInBounds_toArray, List.set_cons_zero, List.set_cons_succ]
              refine wpAnyH_take (i := 8) (oi := _) (v := ?_) (by rw [List.getElem?_toArray]; rfl) (by kernel_rfl) (by kernel_rfl) (by kernel_rfl) (fun _ _ _ h => by exact h) (Or.inl ⟨by rfl, ?_⟩) (by assumption) ?_
              rotate_left
              · (intro w hSw; (try dsimp only at hSw); go_simp; (try with_reducible rfl))
              try simp only [Act.put, List.setIfInBounds_toArray, List.set_cons_zero, List.set_cons_succ]
              refine wpAnyH_take (i := 9) (oi := _) (v := ?_) (by rw [List.getElem?_toArray]; rfl) (by kernel_rfl) (by kernel_rfl) (by kernel_rfl) (fun _ _ _ h => by exact h) (Or.inl ⟨by rfl, ?_⟩) (by assumption) ?_
              rotate_left
              · (intro w hSw; (try dsimp only at hSw); go_simp; (try with_reducible rfl))
              try simp only [Act.put, List.setIfInBounds_toArray, List.set_cons_zero, List.set_cons_succ]
              refine wpAnyH_take (i := 10) (oi := _) (v := ?_) (by rw [List.getElem?_toArray]; rfl) (by kernel_rfl) (by kernel_rfl) (by kernel_rfl) (fun _ _ _ h => by exact h) (Or.inl ⟨by rfl, ?_⟩) (by assumption) ?_
              rotate_left
              · (intro w hSw; (try dsimp only at hSw); go_simp; (try with_reducible rfl))
              try simp only [Act.put, List.setIfInBounds_toArray, List.set_cons_zero, List.set_cons_succ]
              refine wpAnyH_take (i := 11) (oi := _) (v := ?_) (by rw [List.getElem?_toArray]; rfl) (by kernel_rfl) (by kernel_rfl) (by kernel_rfl) (fun _ _ _ h => by exact h) (Or.inl ⟨by rfl, ?_⟩) (by assumption) ?_
              rotate_left
              · (intro w hSw; (try dsimp only at hSw); go_simp; (try with_reducible rfl))
              try simp only [Act.put, List.setIfInBounds_toArray, List.set_cons_zero, List.set_cons_succ]
              refine wpAnyH_take (i := 12) (oi := _) (v := ?_) (by rw [List.getElem?_toArray]; rfl) (by kernel_rfl) (by kernel_rfl) (by kernel_rfl) (fun _ _ _ h => by exact h) (Or.inl ⟨by rfl, ?_⟩) (by assumption) ?_
              rotate_left
              · (intro w hSw; (try dsimp only at hSw); go_simp; (try with_reducible rfl))
              try simp only [Act.put, List.setIfInBounds_toArray, List.set_cons_zero, List.set_cons_succ]
              refine wpAnyH_take (i := 13) (oi := _) (v := ?_) (by rw [List.getElem?_toArray]; rfl) (by kernel_rfl) (by kernel_rfl) (by kernel_rfl) (fun _ _ _ h => by exact h) (Or.inl ⟨by rfl, ?_⟩) (by assumption) ?_
              rotate_left
              · (intro w hSw; (try dsimp only at hSw); go_simp; (try with_reducible rfl))
              try simp only [Act.put, List.setIfInBounds_toArray, List.set_cons_zero, List.set_cons_succ]
              refine wpAnyH_take (i := 14) (oi := _) (v := ?_) (by rw [List.getElem?_toArray]; rfl) (by kernel_rfl) (by kernel_rfl) (by kernel_rfl) (fun _ _ _ h => by exact h) (Or.inl ⟨by rfl, ?_⟩) (by assumption) ?_
              rotate_left
              · (intro w hSw; (try dsimp only at hSw); obtain ⟨⟨k0, k1, k2, kz⟩, ⟨j0, j1, j2, jz⟩⟩ := hSw; go_simp; (try with_reducible rfl))
              try simp only [Act.put, List.setIfInBounds_toArray, List.set_cons_zero, List.set_cons_succ]
              refine wpAnyH_take (i := 15) (oi := _) (v := ?_) (by rw [List.getElem?_toArray]; rfl) (by kernel_rfl) (by kernel_rfl) (by kernel_rfl) (fun _ _ _ h => by exact h) (Or.inl ⟨by rfl, ?_⟩) (by assumption) ?_
              rotate_left
              · (intro w hSw; (try dsimp only at hSw); obtain ⟨⟨k0, k1, k2, kz⟩, ⟨j0, j1, j2, jz⟩⟩ := hSw; go_simp; (try with_reducible rfl))
              try simp only [Act.put, List.setIfInBounds_toArray, List.set_cons_zero, List.set_cons_succ]
              refine wpAnyH_take (i := 16) (oi := _) (v := ?_) (by rw [List.getElem?_toArray]; rfl) (by kernel_rfl) (by kernel_rfl) (by kernel_rfl) (fun _ _ _ h => by exact h) (Or.inl ⟨by rfl, ?_⟩) (by assumption) ?_
              rotate_left
              · (intro w hSw; (try dsimp only at hSw); obtain ⟨⟨k0, k1, k2, kz⟩, ⟨j0, j1, j2, jz⟩⟩ := hSw; go_simp; (try with_reducible rfl))
              try simp only [Act.put, List.setIfInBounds_toArray, List.set_cons_zero, List.set_cons_succ]
              refine wpAnyH_take (i := 17) (oi := _) (v := ?_) (by rw [List.getElem?_toArray]; rfl) (by kernel_rfl) (by kernel_rfl) (by kernel_rfl) (fun _ _ _ h => by exact h) (Or.inl ⟨by rfl, ?_⟩) (by assumption) ?_
              rotate_left
              · (intro w hSw; (try dsimp only at hSw); obtain ⟨⟨k0, k1, k2, kz⟩, ⟨j0, j1, j2, jz⟩⟩ := hSw; go_simp; (try with_reducible rfl))
              try simp only [Act.put, List.setIfInBounds_toArray, List.set_cons_zero, List.set_cons_succ]
              refine wpAnyH_take (i := 18) (oi := _) (v := ?_) (by rw [List.getElem?_toArray]; rfl) (by kernel_rfl) (by kernel_rfl) (by kernel_rfl) (fun _ _ _ h => by exact h) (Or.inl ⟨by rfl, ?_⟩) (by assumption) ?_
              rotate_left
              · (intro w hSw; (try dsimp only at hSw); obtain ⟨⟨k0, k1, k2, kz⟩, ⟨j0, j1, j2, jz⟩⟩ := hSw; go_simp; (try with_reducible rfl))
              try simp only [Act.put, List.setIfInBounds_toArray, List.set_cons_zero, List.set_cons_succ]
              refine wpAnyH_take (i := 19) (oi := _) (v := ?_) (by rw [List.getElem?_toArray]; rfl) (by kernel_rfl) (by kernel_rfl) (by kernel_rfl) (fun _ _ _ h => by exact h) (Or.inl ⟨by rfl, ?_⟩) (by assumption) ?_
              rotate_left
              · (intro w hSw; (try dsimp only at hSw); go_simp; (try with_reducible rfl))
              try simp only [Act.put, List.setIfInBounds_toArray, List.set_cons_zero, List.set_cons_succ]
              refine wpAnyH_take (i := 20) (oi := _) (v := ?_) (by rw [List.getElem?_toArray]; rfl) (by kernel_rfl) (by kernel_rfl) (by kernel_rfl) (fun _ _ _ h => by exact h) (Or.inl ⟨by rfl, ?_⟩) (by assumption) ?_
              rotate_left
              · (intro w hSw; (try dsimp only at hSw); go_simp; (try with_reducible rfl))
              try simp only [Act.put, List.setIfInBounds_toArray, List.set_cons_zero, List.set_cons_succ]
              refine wpAnyH_take (i := 21) (oi := _) (v := ?_) (by rw [List.getElem?_toArray]; rfl) (by kernel_rfl) (by kernel_rfl) (by kernel_rfl) (fun _ _ _ h => by exact h) (Or.inl ⟨by rfl, ?_⟩) (by assumption) ?_
              rotate_left
              · (intro w hSw; (try dsimp only at hSw); go_simp; (try with_reducible rfl))
              try simp only [Act.put, List.setIfInBounds_toArray, List.set_cons_zero, List.set_cons_succ]
              refine wpAnyH_done (by kernel_rfl) ?_ _
              go_wp2
              go_ret
              exact ⟨rfl, FL.out.trans G8.out⟩
            exact AllReadyH.nil
          exact AllReadyH.nil
        refine AllReadyH.cons (o := _) (by rw [List.getElem?_toArray]; rfl) (fun K hK => ?_) ?_
        · go_simp
          have GB : Hid (Fr (fun _ => False) w6 (w6.alloc (.cells #[.float .f64 x, .bool false, .slice a2 (pd false n l).length c2] 26))) := (Fr.refl _ _).alloc _
          refine hK.out _ _ ⟨HWB.out.fr (G6.out.trans GB.out) (by simp), HAB.out.fr (G6.out.trans GB.out) (by simp)⟩ (fun hHeld => ?_)
          clear hK K
          try simp only [Act.put, List.setIfInBounds_toArray, List.set_cons_zero, List.set_cons_succ]
          refine wpAnyH_ready (rs := [1]) (by kernel_rfl) (by simp) ?_
          refine AllReadyH.cons (o := _) (by rw [List.getElem?_toArray]; rfl) (fun K hK => ?_) ?_
          · go_simp
            have GA : Hid (Fr (fun _ => False) (w6.alloc (.cells #[.float .f64 x, .bool false, .slice a2 (pd false n l).length c2] 26)) ((w6.alloc (.cells #[.float .f64 x, .bool false, .slice a2 (pd false n l).length c2] 26)).alloc (.cells #[.float .f64 x, .bool false, .slice a1 (pd false n l).length c1] 26))) := (Fr.refl _ _).alloc _
            have GF : Hid (Fr (fun _ => False) WL ((w6.alloc (.cells #[.float .f64 x, .bool false, .slice a2 (pd false n l).length c2] 26)).alloc (.cells #[.float .f64 x, .bool false, .slice a1 (pd false n l).length c1] 26))) := (G6.out.trans GB.out).trans GA.out
            refine hK.out _ _ ⟨HWB.out.fr GF.out (by simp), HAB.out.fr GF.out (by simp)⟩ (fun hHeld => ?_)
            clear hK K
            try simp only [Act.put, List.setIfInBounds_toArray, List.set_cons_zero, List.set_cons_succ]
            have HPB : Hid (Z3 ((w6.alloc (.cells #[.float .f64 x, .bool false, .slice a2 (pd false n l).length c2] 26)).alloc (.cells #[.float .f64 x, .bool false, .slice a1 (pd false n l).length c1] 26)) w6.heap.size (.float .f64 x) (.bool false) (.slice a2 (pd false n l).length c2)) := (Z3.new w6 26 _ _ _).fr GA.out (by simp)
            have HPA : Hid (Z3 ((w6.alloc (.cells #[.float .f64 x, .bool false, .slice a2 (pd false n l).length c2] 26)).alloc (.cells #[.float .f64 x, .bool false, .slice a1 (pd false n l).length c1] 26)) (w6.heap.size + 1) (.float .f64 x) (.bool false) (.slice a1 (pd false n l).length c1)) := (show Z3 _ _ _ _ _ by have := Z3.new (w6.alloc (.cells #[.float .f64 x, .bool false, .slice a2 (pd false n l).length c2] 26)) 26 (.float .f64 x) (.bool false) (.slice a1 (pd false n l).length c1); simpa using this)
            have HQ1 : Hid (Row ((w6.alloc (.cells #[.float .f64 x, .bool false, .slice a2 (pd false n l).length c2] 26)).alloc (.cells #[.float .f64 x, .bool false, .slice a1 (pd false n l).length c1] 26)) a1 (pd false n l) c1) := GF.out.row HR1.out (by simp)
            have HQ2 : Hid (Row ((w6.alloc (.cells #[.float .f64 x, .bool false, .slice a2 (pd false n l).length c2] 26)).alloc (.cells #[.float .f64 x, .bool false, .slice a1 (pd false n l).length c1] 26)) a2 (pd false n l) c2) := (GB.out.trans GA.out).row HR6.out (by simp)
            refine wpAnyH_ready (rs := [6]) (by kernel_rfl) (by simp) ?_
            refine AllReadyH.cons (o := _) (by rw [List.getElem?_toArray]; rfl) (fun K hK => ?_) ?_
            · go_simp
              go_wp2_with (go_at_call 6; refine (samewrites_one x hx false (pd false n l) _ _ 1 1 c1 c2 a1 a2 _ HPA.out HPB.out HQ1.out HQ2.out).mono ?_; rintro e w8 ⟨rfl, f8⟩)
              have G8 : Hid (Fr (fun _ => False) WL w8) := GF.out.trans f8
              clear f8
              refine hK.out _ _ ⟨HWB.out.fr G8.out (by simp), HAB.out.fr G8.out (by simp)⟩ (fun hHeld => ?_)
              clear hK K
              try simp only [Act.put, List.setIfInBounds_toArray, List.set_cons_zero, List.set_cons_succ]
              refine wpAnyH_take (i := 7) (oi := _) (v := ?_) (by rw [List.getElem?_toArray]; rfl) (by kernel_rfl) (by kernel_rfl) (by kernel_rfl) (fun _ _ _ h => by exact h) (Or.inl ⟨by rfl, ?_⟩) (by assumption) ?_
              rotate_left
              · (intro w hSw; (try dsimp only at hSw); go_simp; (try with_reducible rfl))
              try simp only [Act.put, List.setIfInBounds_toArray, List.set_cons_zero, List.set_cons_succ]
              refine wpAnyH_take (i := 8) (oi := _) (v := ?_) (by rw [List.getElem?_toArray]; rfl) (by kernel_rfl) (by kernel_rfl) (by kernel_rfl) (fun _ _ _ h => by exact h) (Or.inl ⟨by rfl, ?_⟩) (by assumption) ?_
              rotate_left
              · (intro w hSw; (try dsimp only at hSw); go_simp; (try with_reducible rfl))
              try simp only [Act.put, List.setIfInBounds_toArray, List.set_cons_zero, List.set_cons_succ]
              refine wpAnyH_take (i := 9) (oi := _) (v := ?_) (by rw [List.getElem?_toArray]; rfl) (by kernel_rfl) (by kernel_rfl) (by kernel_rfl) (fun _ _ _ h => by exact h) (Or.inl ⟨by rfl, ?_⟩) (by assumption) ?_
              rotate_left
              · (intro w hSw; (try dsimp only at hSw); go_simp; (try with_reducible rfl))
              try simp only [Act.put, List.setIfInBounds_toArray, List.set_cons_zero, List.set_cons_succ]
              refine wpAnyH_take (i := 10) (oi := _) (v := ?_) (by rw [List.getElem?_toArray]; rfl) (by kernel_rfl) (by kernel_rfl) (by kernel_rfl) (fun _ _ _ h => by exact h) (Or.inl ⟨by rfl, ?_⟩) (by assumption) ?_
              rotate_left
              · (intro w hSw; (try dsimp only at hSw); go_simp; (try with_reducible rfl))
              try simp only [Act.put, List.setIfInBounds_toArray, List.set_cons_zero, List.set_cons_succ]
              refine wpAnyH_take (i := 11) (oi := _) (v := ?_) (by rw [List.getElem?_toArray]; rfl) (by kernel_rfl) (by kernel_rfl) (by kernel_rfl) (fun _ _ _ h => by exact h) (Or.inl ⟨by rfl, ?_⟩) (by assumption) ?_
              rotate_left
              · (intro w hSw; (try dsimp only at hSw); go_simp; (try with_reducible rfl))
              try simp only [Act.put, List.setIfInBounds_toArray, List.set_cons_zero, List.set_cons_succ]
              refine wpAnyH_take (i := 12) (oi := _) (v := ?_) (by rw [List.getElem?_toArray]; rfl) (by kernel_rfl) (by kernel_rfl) (by kernel_rfl) (fun _ _ _ h => by exact h) (Or.inl ⟨by rfl, ?_⟩) (by assumption) ?_
              rotate_left
              · (intro w hSw; (try dsimp only at hSw); go_simp; (try with_reducible rfl))
              try simp only [Act.put, List.setIfInBounds_toArray, List.set_cons_zero, List.set_cons_succ]
              refine wpAnyH_take (i := 13) (oi := _) (v := ?_) (by rw [List.getElem?_toArray]; rfl) (by kernel_rfl) (by kernel_rfl) (by kernel_rfl) (fun _ _ _ h => by exact h) (Or.inl ⟨by rfl, ?_⟩) (by assumption) ?_
              rotate_left
              · (intro w hSw; (try dsimp only at hSw); go_simp; (try with_reducible rfl))
              try simp only [Act.put, List.setIfInBounds_toArray, List.set_cons_zero, List.set_cons_succ]
              refine wpAnyH_take (i := 14) (oi := _) (v := ?_) (by rw [List.getElem?_toArray]; rfl) (by kernel_rfl) (by kernel_rfl) (by kernel_rfl) (fun _ _ _ h => by exact h) (Or.inl ⟨by rfl, ?_⟩) (by assumption) ?_
              rotate_left
              · (intro w hSw; (try dsimp only at hSw); obtain ⟨⟨k0, k1, k2, kz⟩, ⟨j0, j1, j2, jz⟩⟩ := hSw; go_simp; (try with_reducible rfl))
              try simp only [Act.put, List.setIfInBounds_toArray, List.set_cons_zero, List.set_cons_succ]
              refine wpAnyH_take (i := 15) (oi := _) (v := ?_) (by rw [List.getElem?_toArray]; rfl) (by kernel_rfl) (by kernel_rfl) (by kernel_rfl) (fun _ _ _ h => by exact h) (Or.inl ⟨by rfl, ?_⟩) (by assumption) ?_
              rotate_left
              · (intro w hSw; (try dsimp only at hSw); obtain ⟨⟨k0, k1, k2, kz⟩, ⟨j0, j1, j2, jz⟩⟩ := hSw; go_simp; (try with_reducible rfl))
              try simp only [Act.put, List.setIfInBounds_toArray, List.set_cons_zero, List.set_cons_succ]
              refine wpAnyH_take (i := 16) (oi := _) (v := ?_) (by rw [List.getElem?_toArray]; rfl) (by kernel_rfl) (by kernel_rfl) (by kernel_rfl) (fun _ _ _ h => by exact h) (Or.inl ⟨by rfl, ?_⟩) (by assumption) ?_
              rotate_left
              · (intro w hSw; (try dsimp only at hSw); obtain ⟨⟨k0, k1, k2, kz⟩, ⟨j0, j1, j2, jz⟩⟩ := hSw; go_simp; (try with_reducible rfl))
              try simp only [Act.put, List.setIfInBounds_toArray, List.set_cons_zero, List.set_cons_succ]
              refine wpAnyH_take (i := 17) (oi := _) (v := ?_) (by rw [List.getElem?_toArray]; rfl) (by kernel_rfl) (by kernel_rfl) (by kernel_rfl) (fun _ _ _ h => by exact h) (Or.inl ⟨by rfl, ?_⟩) (by assumption) ?_
              rotate_left
              · (intro w hSw; (try dsimp only at hSw); obtain ⟨⟨k0, k1, k2, kz⟩, ⟨j0, j1, j2, jz⟩⟩ := hSw; go_simp; (try with_reducible rfl))
              try simp only [Act.put, List.setIfInBounds_toArray, List.set_cons_zero, List.set_cons_succ]
              refine wpAnyH_take (i := 18) (oi := _) (v := ?_) (by rw [List.getElem?_toArray]; rfl) (by kernel_rfl) (by kernel_rfl) (by kernel_rfl) (fun _ _ _ h => by exact h) (Or.inl ⟨by rfl, ?_⟩) (by assumption) ?_
              rotate_left
              · (intro w hSw; (try dsimp only at hSw); obtain ⟨⟨k0, k1, k2, kz⟩, ⟨j0, j1, j2, jz⟩⟩ := hSw; go_simp; (try with_reducible rfl))
              try simp only [Act.put, List.setIfInBounds_toArray, List.set_cons_zero, List.set_cons_succ]
              refine wpAnyH_take (i := 19) (oi := _) (v := ?_) (by rw [List.getElem?_toArray]; rfl) (by kernel_rfl) (by kernel_rfl) (by kernel_rfl) (fun _ _ _ h => by exact h) (Or.inl ⟨by rfl, ?_⟩) (by assumption) ?_
              rotate_left
              · (intro w hSw; (try dsimp only at hSw); go_simp; (try with_reducible rfl))
              try simp only [Act.put, List.setIfInBounds_toArray, List.set_cons_zero, List.set_cons_succ]
              refine wpAnyH_take (i := 20) (oi := _) (v := ?_) (by rw [List.getElem?_toArray]; rfl) (by kernel_rfl) (by kernel_rfl) (by kernel_rfl) (fun _ _ _ h => by exact h) (Or.inl ⟨by rfl, ?_⟩) (by assumption) ?_
              rotate_left
              · (intro w hSw; (try dsimp only at hSw); go_simp; (try with_reducible rfl))
              try simp only [Act.put, List.setIfInBounds_toArray, List.set_cons_zero, List.set_cons_succ]
              refine wpAnyH_take (i := 21) (oi := _) (v := ?_) (by rw [List.getElem?_toArray]; rfl) (by kernel_rfl) (by kernel_rfl) (by kernel_rfl) (fun _ _ _ h => by exact h) (Or.inl ⟨by rfl, ?_⟩) (by assumption) ?_
              rotate_left
              · (intro w hSw; (try dsimp only at hSw); go_simp; (try with_reducible rfl))
              try simp only [Act.put, List.setIfInBounds_toArray, List.set_cons_zero, List.set_cons_succ]
              refine wpAnyH_done (by kernel_rfl) ?_ _
              go_wp2
              go_ret
              exact ⟨rfl, FL.out.trans G8.out⟩
            exact AllReadyH.nil
          exact AllReadyH.nil
        exact AllReadyH.nil
      exact AllReadyH.nil
end Go.Proofs.YtmcjeeeeielhbaaGreat
