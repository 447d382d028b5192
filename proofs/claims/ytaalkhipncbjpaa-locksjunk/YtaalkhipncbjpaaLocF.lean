/- What meets: the document's example. -/
import Derived.Test.YtaalkhipncbjpaaLocE
namespace Go.Proofs.Ytaalkhipncbjpaa
open Go.RowKit
attribute [local go_sem] run_store_float
set_option maxRecDepth 100000 in
theorem at_any (x : Nat) (w : World) : Calls Try.prog 81 #[.float .f64 x] w fun e w' => e = .returned (.func (.func 103) #[] #[.pointer (some ⟨w.heap.size, 0, none⟩)]) ∧ Fr (fun _ => False) w w' := by
  have F0 : Hid (Fr (fun _ => False) w (w.alloc (.cells #[.float .f64 x] 71))) := (Fr.refl (fun _ => False) w).alloc _
  go_enter Try.func81, Try.ntmps81
  go_wp2
  go_ret
  exact ⟨rfl, F0.out⟩
set_option maxRecDepth 100000 in
theorem around_any (x : Nat) (w : World) : Calls Try.prog 84 #[.float .f64 x] w fun e w' => e = .returned (.func (.func 105) #[] #[.pointer (some ⟨w.heap.size, 0, none⟩)]) ∧ w'.cell? ⟨w.heap.size, 0, none⟩ = some (.float .f64 x) ∧ Fr (fun _ => False) w w' := by
  have F0 : Hid (Fr (fun _ => False) w (w.alloc (.cells #[.float .f64 x] 71))) := (Fr.refl (fun _ => False) w).alloc _
  go_enter Try.func84, Try.ntmps84
  go_wp2
  go_ret
  exact ⟨rfl, by simp, F0.out⟩
set_option maxRecDepth 100000 in
theorem contF_nil (fv : Value) (w : World) : Calls Try.prog 45 #[.slice none 0 0, fv] w fun e w' => e = .returned (.bool false) ∧ w' = w := by
  go_enter Try.func45, Try.ntmps45
  go_wp2_with (go_at_call 79; go_in)
  refine wp_loop_rounds 1 ?_
  rw [rounds_succ]
  go_wp2
  go_ret
  exact ⟨rfl, rfl⟩
theorem within_012 (w : World) : Calls Try.prog 106 #[.float .f64 4607182418800017408, .float .f64 0, .float .f64 4611686018427387904] w fun e w' => e = .returned (.bool true) ∧ w' = w := by
  have := within_any 4607182418800017408 0 4611686018427387904 (by decide) (by decide) (by decide) w
  have e1 : (!decide (Fl.rk 4607182418800017408 < Fl.rk 0) && !decide (Fl.rk 4611686018427387904 < Fl.rk 4607182418800017408)) = true := by decide +kernel
  rw [e1] at this
  exact this
set_option maxRecDepth 100000 in
set_option maxHeartbeats 1000000 in
theorem around1 (bx : Nat) (w : World) (h : w.cell? ⟨bx, 0, none⟩ = some (.float .f64 4607182418800017408)) : Calls Try.prog 105 #[.agg #[.float .f64 0, .float .f64 4611686018427387904], .pointer (some ⟨bx, 0, none⟩)] w fun e w' => e = .returned (.bool true) ∧ Fr (fun _ => False) w w' := by
  have F0 : Hid (Fr (fun _ => False) w (w.alloc (.cells #[.float .f64 0, .float .f64 4611686018427387904] 75))) := (Fr.refl (fun _ => False) w).alloc _
  have h1 := F0.out.cell h (by simp)
  go_enter Try.func105, Try.ntmps105
  go_wp2_with fail
  refine (within_012 _).mono ?_
  rintro e w1 ⟨rfl, rfl⟩
  go_wp2
  go_ret
  exact ⟨rfl, F0.out⟩
set_option maxRecDepth 100000 in
set_option maxHeartbeats 1000000 in
theorem contS_one (sg sc bx : Nat) (w : World) (h0 : w.cell? ⟨sg, 0, none⟩ = some (.float .f64 0)) (h1 : w.cell? ⟨sg, 1, none⟩ = some (.float .f64 4611686018427387904)) (h : w.cell? ⟨bx, 0, none⟩ = some (.float .f64 4607182418800017408)) : Calls Try.prog 83 #[.slice (some ⟨sg, 0, none⟩) 1 sc, .func (.func 105) #[] #[.pointer (some ⟨bx, 0, none⟩)]] w fun e w' => e = .returned (.bool true) ∧ Fr (fun _ => False) w w' := by
  have K : Hid (Calls _ _ _ _ _) := around1 bx w h
  clear h
  go_enter Try.func83, Try.ntmps83
  go_wp2_with (go_at_call 104; go_in)
  refine wp_loop_rounds 1 ?_
  rw [rounds_succ]
  go_wp2_with fail
  refine K.out.mono ?_
  rintro e w1 ⟨rfl, f1⟩
  go_wp2
  go_ret
  exact ⟨rfl, f1⟩
set_option maxRecDepth 100000 in
set_option maxHeartbeats 2000000 in
theorem writes1 (x h sg sc : Nat) (w : World) (hb : C7 w h (.int .u64 2) (.int .u64 1) (.int .u64 0) (.slice none 0 0) (.slice (some ⟨sg, 0, none⟩) 1 sc) (.slice none 0 0) (.slice none 0 0)) : Calls Try.prog 80 #[.float .f64 x, .pointer (some ⟨h, 0, none⟩)] w fun e w' => e = .returned (.bool false) ∧ Fr (fun _ => False) w w' := by
  have HB : Hid (C7 w h (.int .u64 2) (.int .u64 1) (.int .u64 0) (.slice none 0 0) (.slice (some ⟨sg, 0, none⟩) 1 sc) (.slice none 0 0) (.slice none 0 0)) := hb
  clear hb
  go_enter Try.func80, Try.ntmps80
  go_wp2_with fail
  refine wp_region_held_drew (S := (fun W : World => C7 W h (.int .u64 2) (.int .u64 1) (.int .u64 0) (.slice none 0 0) (.slice (some ⟨sg, 0, none⟩) 1 sc) (.slice none 0 0) (.slice none 0 0))) (by kernel_rfl) (HB.out.fr ((Fr.refl (fun _ => False) _).drew) (by simp)) (fun hHeld => ?_)
  refine wpAnyH_take (i := 0) (oi := _) (v := ?_) (by rw [List.getElem?_toArray]; rfl) (by kernel_rfl) (by kernel_rfl) (by kernel_rfl) (fun _ _ _ h => by exact h) (Or.inl ⟨by rfl, ?_⟩) (by assumption) ?_
  rotate_left
  · (intro w hSw; (try dsimp only at hSw); go_simp; (try with_reducible rfl))
  try simp only [Act.put, List.setIfInBounds_toArray, List.set_cons_zero, List.set_cons_succ]
  refine wpAnyH_take (i := 1) (oi := _) (v := ?_) (by rw [List.getElem?_toArray]; rfl) (by kernel_rfl) (by kernel_rfl) (by kernel_rfl) (fun _ _ _ h => by exact h) (Or.inl ⟨by rfl, ?_⟩) (by assumption) ?_
  rotate_left
  · (intro w hSw; (try dsimp only at hSw); obtain ⟨d0, d1, d2, d3, d4, d5, d6⟩ := hSw; go_simp; (try with_reducible rfl))
  try simp only [Act.put, List.setIfInBounds_toArray, List.set_cons_zero, List.set_cons_succ]
  refine wpAnyH_take (i := 2) (oi := _) (v := ?_) (by rw [List.getElem?_toArray]; rfl) (by kernel_rfl) (by kernel_rfl) (by kernel_rfl) (fun _ _ _ h => by exact h) (Or.inl ⟨by rfl, ?_⟩) (by assumption) ?_
  rotate_left
  · (intro w hSw; (try dsimp only at hSw); go_simp; (try with_reducible rfl))
  try simp only [Act.put, List.setIfInBounds_toArray, List.set_cons_zero, List.set_cons_succ]
  refine wpAnyH_ready (rs := [3]) (by kernel_rfl) (by simp) ?_
  refine AllReadyH.cons (o := _) (by rw [List.getElem?_toArray]; rfl) (fun K hK => ?_) ?_
  · go_simp
    go_wp2_with (go_at_call 81; refine (at_any _ _).mono ?_; rintro e w5 ⟨rfl, f5⟩)
    have G5 : Hid (Fr (fun _ => False) w w5) := (((Fr.refl (fun _ => False) _).drew) : Fr (fun _ => False) w w.drew).trans f5
    clear f5
    refine hK.out _ _ (HB.out.fr G5.out (by simp)) (fun hHeld => ?_)
    clear hK K
    try simp only [Act.put, List.setIfInBounds_toArray, List.set_cons_zero, List.set_cons_succ]
    refine wpAnyH_ready (rs := [4]) (by kernel_rfl) (by simp) ?_
    refine AllReadyH.cons (o := _) (by rw [List.getElem?_toArray]; rfl) (fun K hK => ?_) ?_
    · go_simp
      go_wp2_with (go_at_call 45; refine (contF_nil _ _).mono ?_; rintro e w6 ⟨rfl, rfl⟩)
      refine hK.out _ _ (HB.out.fr G5.out (by simp)) (fun hHeld => ?_)
      clear hK K
      try simp only [Act.put, List.setIfInBounds_toArray, List.set_cons_zero, List.set_cons_succ]
      refine wpAnyH_take (i := 5) (oi := _) (v := ?_) (by rw [List.getElem?_toArray]; rfl) (by kernel_rfl) (by kernel_rfl) (by kernel_rfl) (fun _ _ _ h => by exact h) (Or.inl ⟨by rfl, ?_⟩) (by assumption) ?_
      rotate_left
      · (intro w hSw; (try dsimp only at hSw); go_simp; (try with_reducible rfl))
      try simp only [Act.put, List.setIfInBounds_toArray, List.set_cons_zero, List.set_cons_succ]
      refine wpAnyH_done (by kernel_rfl) ?_ _
      go_wp2
      go_ret
      exact ⟨rfl, G5.out⟩
    exact AllReadyH.nil
  exact AllReadyH.nil
set_option maxRecDepth 100000 in
set_option maxHeartbeats 2000000 in
theorem reads1 (h sg sc : Nat) (w : World) (hb : C7 w h (.int .u64 2) (.int .u64 1) (.int .u64 0) (.slice none 0 0) (.slice (some ⟨sg, 0, none⟩) 1 sc) (.slice none 0 0) (.slice none 0 0)) (h0 : w.cell? ⟨sg, 0, none⟩ = some (.float .f64 0)) (h1 : w.cell? ⟨sg, 1, none⟩ = some (.float .f64 4611686018427387904)) : Calls Try.prog 82 #[.float .f64 4607182418800017408, .pointer (some ⟨h, 0, none⟩)] w fun e w' => e = .returned (.bool true) ∧ Fr (fun _ => False) w w' := by
  have HB : Hid (C7 w h (.int .u64 2) (.int .u64 1) (.int .u64 0) (.slice none 0 0) (.slice (some ⟨sg, 0, none⟩) 1 sc) (.slice none 0 0) (.slice none 0 0)) := hb
  have HS : Hid (w.cell? ⟨sg, 0, none⟩ = some (.float .f64 0) ∧ w.cell? ⟨sg, 1, none⟩ = some (.float .f64 4611686018427387904)) := ⟨h0, h1⟩
  clear hb h0 h1
  go_enter Try.func82, Try.ntmps82
  go_wp2_with fail
  refine wp_region_held_drew (S := (fun W : World => C7 W h (.int .u64 2) (.int .u64 1) (.int .u64 0) (.slice none 0 0) (.slice (some ⟨sg, 0, none⟩) 1 sc) (.slice none 0 0) (.slice none 0 0) ∧ W.cell? ⟨sg, 0, none⟩ = some (.float .f64 0) ∧ W.cell? ⟨sg, 1, none⟩ = some (.float .f64 4611686018427387904))) (by kernel_rfl) ⟨HB.out.fr ((Fr.refl (fun _ => False) _).drew) (by simp), (Fr.cell ((Fr.refl (fun _ => False) _).drew) HS.out.1 (by simp)), (Fr.cell ((Fr.refl (fun _ => False) _).drew) HS.out.2 (by simp))⟩ (fun hHeld => ?_)
  refine wpAnyH_take (i := 0) (oi := _) (v := ?_) (by rw [List.getElem?_toArray]; rfl) (by kernel_rfl) (by kernel_rfl) (by kernel_rfl) (fun _ _ _ h => by exact h) (Or.inl ⟨by rfl, ?_⟩) (by assumption) ?_
  rotate_left
  · (intro w hSw; (try dsimp only at hSw); go_simp; (try with_reducible rfl))
  try simp only [Act.put, List.setIfInBounds_toArray, List.set_cons_zero, List.set_cons_succ]
  refine wpAnyH_take (i := 1) (oi := _) (v := ?_) (by rw [List.getElem?_toArray]; rfl) (by kernel_rfl) (by kernel_rfl) (by kernel_rfl) (fun _ _ _ h => by exact h) (Or.inl ⟨by rfl, ?_⟩) (by assumption) ?_
  rotate_left
  · (intro w hSw; (try dsimp only at hSw); obtain ⟨⟨d0, d1, d2, d3, d4, d5, d6⟩, g0, g1⟩ := hSw; go_simp; (try with_reducible rfl))
  try simp only [Act.put, List.setIfInBounds_toArray, List.set_cons_zero, List.set_cons_succ]
  refine wpAnyH_take (i := 2) (oi := _) (v := ?_) (by rw [List.getElem?_toArray]; rfl) (by kernel_rfl) (by kernel_rfl) (by kernel_rfl) (fun _ _ _ h => by exact h) (Or.inl ⟨by rfl, ?_⟩) (by assumption) ?_
  rotate_left
  · (intro w hSw; (try dsimp only at hSw); go_simp; (try with_reducible rfl))
  try simp only [Act.put, List.setIfInBounds_toArray, List.set_cons_zero, List.set_cons_succ]
  refine wpAnyH_ready (rs := [3]) (by kernel_rfl) (by simp) ?_
  refine AllReadyH.cons (o := _) (by rw [List.getElem?_toArray]; rfl) (fun K hK => ?_) ?_
  · go_simp
    go_wp2_with (go_at_call 81; refine (at_any _ _).mono ?_; rintro e w5 ⟨rfl, f5⟩)
    have G5 : Hid (Fr (fun _ => False) w w5) := (((Fr.refl (fun _ => False) _).drew) : Fr (fun _ => False) w w.drew).trans f5
    clear f5
    refine hK.out _ _ ⟨HB.out.fr G5.out (by simp), (Fr.cell G5.out HS.out.1 (by simp)), (Fr.cell G5.out HS.out.2 (by simp))⟩ (fun hHeld => ?_)
    clear hK K
    try simp only [Act.put, List.setIfInBounds_toArray, List.set_cons_zero, List.set_cons_succ]
    refine wpAnyH_ready (rs := [4]) (by kernel_rfl) (by simp) ?_
    refine AllReadyH.cons (o := _) (by rw [List.getElem?_toArray]; rfl) (fun K hK => ?_) ?_
    · go_simp
      go_wp2_with (go_at_call 45; refine (contF_nil _ _).mono ?_; rintro e w6 ⟨rfl, rfl⟩)
      refine hK.out _ _ ⟨HB.out.fr G5.out (by simp), (Fr.cell G5.out HS.out.1 (by simp)), (Fr.cell G5.out HS.out.2 (by simp))⟩ (fun hHeld => ?_)
      clear hK K
      try simp only [Act.put, List.setIfInBounds_toArray, List.set_cons_zero, List.set_cons_succ]
      refine wpAnyH_take (i := 5) (oi := _) (v := ?_) (by rw [List.getElem?_toArray]; rfl) (by kernel_rfl) (by kernel_rfl) (by kernel_rfl) (fun _ _ _ h => by exact h) (Or.inl ⟨by rfl, ?_⟩) (by assumption) ?_
      rotate_left
      · (intro w hSw; (try dsimp only at hSw); go_simp; (try with_reducible rfl))
      try simp only [Act.put, List.setIfInBounds_toArray, List.set_cons_zero, List.set_cons_succ]
      refine wpAnyH_take (i := 6) (oi := _) (v := ?_) (by rw [List.getElem?_toArray]; rfl) (by kernel_rfl) (by kernel_rfl) (by kernel_rfl) (fun _ _ _ h => by exact h) (Or.inl ⟨by rfl, ?_⟩) (by assumption) ?_
      rotate_left
      · (intro w hSw; (try dsimp only at hSw); go_simp; (try with_reducible rfl))
      try simp only [Act.put, List.setIfInBounds_toArray, List.set_cons_zero, List.set_cons_succ]
      refine wpAnyH_take (i := 7) (oi := _) (v := ?_) (by rw [List.getElem?_toArray]; rfl) (by kernel_rfl) (by kernel_rfl) (by kernel_rfl) (fun _ _ _ h => by exact h) (Or.inl ⟨by rfl, ?_⟩) (by assumption) ?_
      rotate_left
      · (intro w hSw; (try dsimp only at hSw); obtain ⟨⟨d0, d1, d2, d3, d4, d5, d6⟩, g0, g1⟩ := hSw; go_simp; (try with_reducible rfl))
      try simp only [Act.put, List.setIfInBounds_toArray, List.set_cons_zero, List.set_cons_succ]
      refine wpAnyH_take (i := 8) (oi := _) (v := ?_) (by rw [List.getElem?_toArray]; rfl) (by kernel_rfl) (by kernel_rfl) (by kernel_rfl) (fun _ _ _ h => by exact h) (Or.inl ⟨by rfl, ?_⟩) (by assumption) ?_
      rotate_left
      · (intro w hSw; (try dsimp only at hSw); go_simp; (try with_reducible rfl))
      try simp only [Act.put, List.setIfInBounds_toArray, List.set_cons_zero, List.set_cons_succ]
      refine wpAnyH_ready (rs := [9]) (by kernel_rfl) (by simp) ?_
      refine AllReadyH.cons (o := _) (by rw [List.getElem?_toArray]; rfl) (fun K hK => ?_) ?_
      · go_simp
        go_wp2_with (go_at_call 84; refine (around_any _ _).mono ?_; rintro e w7 ⟨rfl, hc7, f7⟩)
        have G7 : Hid (Fr (fun _ => False) w w7) := G5.out.trans f7
        have HC7 : Hid _ := hc7
        clear f7 hc7
        refine hK.out _ _ ⟨HB.out.fr G7.out (by simp), (Fr.cell G7.out HS.out.1 (by simp)), (Fr.cell G7.out HS.out.2 (by simp))⟩ (fun hHeld => ?_)
        clear hK K
        try simp only [Act.put, List.setIfInBounds_toArray, List.set_cons_zero, List.set_cons_succ]
        refine wpAnyH_ready (rs := [10]) (by kernel_rfl) (by simp) ?_
        refine AllReadyH.cons (o := _) (by rw [List.getElem?_toArray]; rfl) (fun K hK => ?_) ?_
        · go_simp
          go_wp2_with (go_at_call 83; refine (contS_one sg sc _ _ (G7.out.cell HS.out.1 (by simp)) (G7.out.cell HS.out.2 (by simp)) HC7.out).mono ?_; rintro e w8 ⟨rfl, f8⟩)
          have G8 : Hid (Fr (fun _ => False) w w8) := G7.out.trans f8
          clear f8
          refine hK.out _ _ ⟨HB.out.fr G8.out (by simp), (Fr.cell G8.out HS.out.1 (by simp)), (Fr.cell G8.out HS.out.2 (by simp))⟩ (fun hHeld => ?_)
          clear hK K
          try simp only [Act.put, List.setIfInBounds_toArray, List.set_cons_zero, List.set_cons_succ]
          refine wpAnyH_take (i := 11) (oi := _) (v := ?_) (by rw [List.getElem?_toArray]; rfl) (by kernel_rfl) (by kernel_rfl) (by kernel_rfl) (fun _ _ _ h => by exact h) (Or.inl ⟨by rfl, ?_⟩) (by assumption) ?_
          rotate_left
          · (intro w hSw; (try dsimp only at hSw); go_simp; (try with_reducible rfl))
          try simp only [Act.put, List.setIfInBounds_toArray, List.set_cons_zero, List.set_cons_succ]
          refine wpAnyH_take (i := 12) (oi := _) (v := ?_) (by rw [List.getElem?_toArray]; rfl) (by kernel_rfl) (by kernel_rfl) (by kernel_rfl) (fun _ _ _ h => by exact h) (Or.inl ⟨by rfl, ?_⟩) (by assumption) ?_
          rotate_left
          · (intro w hSw; (try dsimp only at hSw); go_simp; (try with_reducible rfl))
          try simp only [Act.put, List.setIfInBounds_toArray, List.set_cons_zero, List.set_cons_succ]
          refine wpAnyH_done (by kernel_rfl) ?_ _
          go_wp2
          go_ret
          exact ⟨rfl, G8.out⟩
        exact AllReadyH.nil
      exact AllReadyH.nil
    exact AllReadyH.nil
  exact AllReadyH.nil
set_option maxRecDepth 100000 in
set_option maxHeartbeats 1000000 in
theorem contW_one (p pc h sg sc : Nat) (w : World) (hp : w.cell? ⟨p, 0, none⟩ = some (.float .f64 4607182418800017408)) (hb : C7 w h (.int .u64 2) (.int .u64 1) (.int .u64 0) (.slice none 0 0) (.slice (some ⟨sg, 0, none⟩) 1 sc) (.slice none 0 0) (.slice none 0 0)) : Calls Try.prog 45 #[.slice (some ⟨p, 0, none⟩) 1 pc, .func (.func 80) #[] #[.pointer (some ⟨h, 0, none⟩)]] w fun e w' => e = .returned (.bool false) ∧ Fr (fun _ => False) w w' := by
  have K : Hid (Calls _ _ _ _ _) := writes1 4607182418800017408 h sg sc w hb
  clear hb
  go_enter Try.func45, Try.ntmps45
  go_wp2_with (go_at_call 79; go_in)
  refine wp_loop_rounds 2 ?_
  rw [rounds_succ]
  go_wp2_with fail
  refine K.out.mono ?_
  rintro e w1 ⟨rfl, f1⟩
  go_wp2
  rw [rounds_succ]
  go_wp2
  go_ret
  exact ⟨rfl, f1⟩
set_option maxRecDepth 100000 in
set_option maxHeartbeats 1000000 in
theorem contR_one (p pc h sg sc : Nat) (w : World) (hp : w.cell? ⟨p, 0, none⟩ = some (.float .f64 4607182418800017408)) (hb : C7 w h (.int .u64 2) (.int .u64 1) (.int .u64 0) (.slice none 0 0) (.slice (some ⟨sg, 0, none⟩) 1 sc) (.slice none 0 0) (.slice none 0 0)) (h0 : w.cell? ⟨sg, 0, none⟩ = some (.float .f64 0)) (h1 : w.cell? ⟨sg, 1, none⟩ = some (.float .f64 4611686018427387904)) : Calls Try.prog 45 #[.slice (some ⟨p, 0, none⟩) 1 pc, .func (.func 82) #[] #[.pointer (some ⟨h, 0, none⟩)]] w fun e w' => e = .returned (.bool true) ∧ Fr (fun _ => False) w w' := by
  have K : Hid (Calls _ _ _ _ _) := reads1 h sg sc w hb h0 h1
  clear hb h0 h1
  go_enter Try.func45, Try.ntmps45
  go_wp2_with (go_at_call 79; go_in)
  refine wp_loop_rounds 1 ?_
  rw [rounds_succ]
  go_wp2_with fail
  refine K.out.mono ?_
  rintro e w1 ⟨rfl, f1⟩
  go_wp2
  go_ret
  exact ⟨rfl, f1⟩
set_option maxRecDepth 100000 in
theorem writes_any (sg sc : Nat) (w : World) : Calls Try.prog 46 #[.agg #[.int .u64 2, .int .u64 1, .int .u64 0, .slice none 0 0, .slice (some ⟨sg, 0, none⟩) 1 sc, .slice none 0 0, .slice none 0 0]] w fun e w' => e = .returned (.func (.func 80) #[] #[.pointer (some ⟨w.heap.size, 0, none⟩)]) ∧ C7 w' w.heap.size (.int .u64 2) (.int .u64 1) (.int .u64 0) (.slice none 0 0) (.slice (some ⟨sg, 0, none⟩) 1 sc) (.slice none 0 0) (.slice none 0 0) ∧ Fr (fun _ => False) w w' := by
  have F0 : Hid (Fr (fun _ => False) w (w.alloc (.cells #[.int .u64 2, .int .u64 1, .int .u64 0, .slice none 0 0, .slice (some ⟨sg, 0, none⟩) 1 sc, .slice none 0 0, .slice none 0 0] 29))) := (Fr.refl (fun _ => False) w).alloc _
  have C0 : Hid (C7 (w.alloc (.cells #[.int .u64 2, .int .u64 1, .int .u64 0, .slice none 0 0, .slice (some ⟨sg, 0, none⟩) 1 sc, .slice none 0 0, .slice none 0 0] 29)) w.heap.size (.int .u64 2) (.int .u64 1) (.int .u64 0) (.slice none 0 0) (.slice (some ⟨sg, 0, none⟩) 1 sc) (.slice none 0 0) (.slice none 0 0)) := C7.new w 29 _ _ _ _ _ _ _
  go_enter Try.func46, Try.ntmps46
  go_wp2
  go_ret
  exact ⟨rfl, C0.out, F0.out⟩
set_option maxRecDepth 100000 in
theorem reads_any (sg sc : Nat) (w : World) : Calls Try.prog 47 #[.agg #[.int .u64 2, .int .u64 1, .int .u64 0, .slice none 0 0, .slice (some ⟨sg, 0, none⟩) 1 sc, .slice none 0 0, .slice none 0 0]] w fun e w' => e = .returned (.func (.func 82) #[] #[.pointer (some ⟨w.heap.size, 0, none⟩)]) ∧ C7 w' w.heap.size (.int .u64 2) (.int .u64 1) (.int .u64 0) (.slice none 0 0) (.slice (some ⟨sg, 0, none⟩) 1 sc) (.slice none 0 0) (.slice none 0 0) ∧ Fr (fun _ => False) w w' := by
  have F0 : Hid (Fr (fun _ => False) w (w.alloc (.cells #[.int .u64 2, .int .u64 1, .int .u64 0, .slice none 0 0, .slice (some ⟨sg, 0, none⟩) 1 sc, .slice none 0 0, .slice none 0 0] 29))) := (Fr.refl (fun _ => False) w).alloc _
  have C0 : Hid (C7 (w.alloc (.cells #[.int .u64 2, .int .u64 1, .int .u64 0, .slice none 0 0, .slice (some ⟨sg, 0, none⟩) 1 sc, .slice none 0 0, .slice none 0 0] 29)) w.heap.size (.int .u64 2) (.int .u64 1) (.int .u64 0) (.slice none 0 0) (.slice (some ⟨sg, 0, none⟩) 1 sc) (.slice none 0 0) (.slice none 0 0)) := C7.new w 29 _ _ _ _ _ _ _
  go_enter Try.func47, Try.ntmps47
  go_wp2
  go_ret
  exact ⟨rfl, C0.out, F0.out⟩
set_option maxRecDepth 100000 in
set_option maxHeartbeats 4000000 in
theorem meet_ab (p pc sg sc : Nat) (da : Option Addr) (dn dc : Nat) (w : World) (hp : w.cell? ⟨p, 0, none⟩ = some (.float .f64 4607182418800017408)) (h0 : w.cell? ⟨sg, 0, none⟩ = some (.float .f64 0)) (h1 : w.cell? ⟨sg, 1, none⟩ = some (.float .f64 4611686018427387904)) : Calls Try.prog 14 #[.agg #[.int .u64 1, .int .u64 1, .int .u64 0, .slice none 0 0, .slice none 0 0, .slice (some ⟨p, 0, none⟩) 1 pc, .slice da dn dc], .agg #[.int .u64 2, .int .u64 1, .int .u64 0, .slice none 0 0, .slice (some ⟨sg, 0, none⟩) 1 sc, .slice none 0 0, .slice none 0 0]] w fun e w' => e = .returned (.bool true) ∧ Fr (fun _ => False) w w' := by
  obtain ⟨W, HW⟩ : ∃ W, Hid (W = (w.alloc (.cells #[.int .u64 1, .int .u64 1, .int .u64 0, .slice none 0 0, .slice none 0 0, .slice (some ⟨p, 0, none⟩) 1 pc, .slice da dn dc] 29)).alloc (.cells #[.int .u64 2, .int .u64 1, .int .u64 0, .slice none 0 0, .slice (some ⟨sg, 0, none⟩) 1 sc, .slice none 0 0, .slice none 0 0] 29)) := ⟨_, rfl⟩
  have F0 : Hid (Fr (fun _ => False) w W) := (show Fr _ _ _ by rw [HW.out]; exact ((Fr.refl (fun _ => False) w).alloc _).alloc _)
  have HB1 : Hid (C7 W w.heap.size (.int .u64 1) (.int .u64 1) (.int .u64 0) (.slice none 0 0) (.slice none 0 0) (.slice (some ⟨p, 0, none⟩) 1 pc) (.slice da dn dc)) := (show C7 _ _ _ _ _ _ _ _ _ by rw [HW.out]; exact (C7.new w 29 _ _ _ _ _ _ _).fr ((Fr.refl (fun _ => False) _).alloc (.cells #[.int .u64 2, .int .u64 1, .int .u64 0, .slice none 0 0, .slice (some ⟨sg, 0, none⟩) 1 sc, .slice none 0 0, .slice none 0 0] 29)) (by simp))
  have HB2 : Hid (C7 W (w.heap.size + 1) (.int .u64 2) (.int .u64 1) (.int .u64 0) (.slice none 0 0) (.slice (some ⟨sg, 0, none⟩) 1 sc) (.slice none 0 0) (.slice none 0 0)) := (show C7 _ _ _ _ _ _ _ _ _ by rw [HW.out]; have := C7.new (w.alloc (.cells #[.int .u64 1, .int .u64 1, .int .u64 0, .slice none 0 0, .slice none 0 0, .slice (some ⟨p, 0, none⟩) 1 pc, .slice da dn dc] 29)) 29 (.int .u64 2) (.int .u64 1) (.int .u64 0) (.slice none 0 0) (.slice (some ⟨sg, 0, none⟩) 1 sc) (.slice none 0 0) (.slice none 0 0); simpa using this)
  have HP : Hid (W.cell? ⟨p, 0, none⟩ = some (.float .f64 4607182418800017408)) := F0.out.cell hp (by simp)
  have HS : Hid (W.cell? ⟨sg, 0, none⟩ = some (.float .f64 0) ∧ W.cell? ⟨sg, 1, none⟩ = some (.float .f64 4611686018427387904)) := ⟨F0.out.cell h0 (by simp), F0.out.cell h1 (by simp)⟩
  obtain ⟨b1, Hb1⟩ : ∃ b1, Hid (w.heap.size = b1) := ⟨_, rfl⟩
  obtain ⟨b2, Hb2⟩ : ∃ b2, Hid (w.heap.size + 1 = b2) := ⟨_, rfl⟩
  rw [Hb1.out] at HB1
  rw [Hb2.out] at HB2
  clear hp h0 h1
  go_enter Try.func14, Try.ntmps14
  go_wp2_with fail
  rw [← HW.out, Hb2.out, Hb1.out]
  refine wp_region_held_drew (S := (fun W : World => C7 W b1 (.int .u64 1) (.int .u64 1) (.int .u64 0) (.slice none 0 0) (.slice none 0 0) (.slice (some ⟨p, 0, none⟩) 1 pc) (.slice da dn dc) ∧ C7 W b2 (.int .u64 2) (.int .u64 1) (.int .u64 0) (.slice none 0 0) (.slice (some ⟨sg, 0, none⟩) 1 sc) (.slice none 0 0) (.slice none 0 0) ∧ W.cell? ⟨p, 0, none⟩ = some (.float .f64 4607182418800017408) ∧ W.cell? ⟨sg, 0, none⟩ = some (.float .f64 0) ∧ W.cell? ⟨sg, 1, none⟩ = some (.float .f64 4611686018427387904))) (by kernel_rfl) ⟨HB1.out.fr ((Fr.refl (fun _ => False) _).drew) (by simp), HB2.out.fr ((Fr.refl (fun _ => False) _).drew) (by simp), (Fr.cell ((Fr.refl (fun _ => False) _).drew) HP.out (by simp)), (Fr.cell ((Fr.refl (fun _ => False) _).drew) HS.out.1 (by simp)), (Fr.cell ((Fr.refl (fun _ => False) _).drew) HS.out.2 (by simp))⟩ (fun hHeld => ?_)
  refine wpAnyH_take (i := 0) (oi := _) (v := ?_) (by rw [List.getElem?_toArray]; rfl) (by kernel_rfl) (by kernel_rfl) (by kernel_rfl) (fun _ _ _ h => by exact h) (Or.inl ⟨by rfl, ?_⟩) (by assumption) ?_
  rotate_left
  · (intro w hSw; (try dsimp only at hSw); go_simp; (try with_reducible rfl))
  try simp only [Act.put, List.setIfInBounds_toArray, List.set_cons_zero, List.set_cons_succ]
  refine wpAnyH_take (i := 1) (oi := _) (v := ?_) (by rw [List.getElem?_toArray]; rfl) (by kernel_rfl) (by kernel_rfl) (by kernel_rfl) (fun _ _ _ h => by exact h) (Or.inl ⟨by rfl, ?_⟩) (by assumption) ?_
  rotate_left
  · (intro w hSw; (try dsimp only at hSw); obtain ⟨⟨d0, d1, d2, d3, d4, d5, d6⟩, ⟨f0, f1, f2, f3, f4, f5, f6⟩, g0, g1, g2⟩ := hSw; go_simp; (try with_reducible rfl))
  try simp only [Act.put, List.setIfInBounds_toArray, List.set_cons_zero, List.set_cons_succ]
  refine wpAnyH_take (i := 2) (oi := _) (v := ?_) (by rw [List.getElem?_toArray]; rfl) (by kernel_rfl) (by kernel_rfl) (by kernel_rfl) (fun _ _ _ h => by exact h) (Or.inl ⟨by rfl, ?_⟩) (by assumption) ?_
  rotate_left
  · (intro w hSw; (try dsimp only at hSw); obtain ⟨⟨d0, d1, d2, d3, d4, d5, d6⟩, ⟨f0, f1, f2, f3, f4, f5, f6⟩, g0, g1, g2⟩ := hSw; go_simp; (try with_reducible rfl))
  try simp only [Act.put, List.setIfInBounds_toArray, List.set_cons_zero, List.set_cons_succ]
  refine wpAnyH_ready (rs := [3]) (by kernel_rfl) (by simp) ?_
  refine AllReadyH.cons (o := _) (by rw [List.getElem?_toArray]; rfl) (fun K hK => ?_) ?_
  · go_simp
    go_wp2_with (go_at_call 46; refine (writes_any sg sc _).mono ?_; rintro e w5 ⟨rfl, h5, f5⟩)
    have G5 : Hid (Fr (fun _ => False) W w5) := (((Fr.refl (fun _ => False) _).drew) : Fr (fun _ => False) W W.drew).trans f5
    have H5 : Hid _ := h5
    clear f5 h5
    refine hK.out _ _ ⟨HB1.out.fr G5.out (by simp), HB2.out.fr G5.out (by simp), (Fr.cell G5.out HP.out (by simp)), (Fr.cell G5.out HS.out.1 (by simp)), (Fr.cell G5.out HS.out.2 (by simp))⟩ (fun hHeld => ?_)
    clear hK K
    try simp only [Act.put, List.setIfInBounds_toArray, List.set_cons_zero, List.set_cons_succ]
    refine wpAnyH_ready (rs := [4]) (by kernel_rfl) (by simp) ?_
    refine AllReadyH.cons (o := _) (by rw [List.getElem?_toArray]; rfl) (fun K hK => ?_) ?_
    · go_simp
      go_wp2_with (go_at_call 45; refine (contW_one p pc _ sg sc _ (G5.out.cell HP.out (by simp)) H5.out).mono ?_; rintro e w6 ⟨rfl, f6⟩)
      have G6 : Hid (Fr (fun _ => False) W w6) := G5.out.trans f6
      clear f6
      refine hK.out _ _ ⟨HB1.out.fr G6.out (by simp), HB2.out.fr G6.out (by simp), (Fr.cell G6.out HP.out (by simp)), (Fr.cell G6.out HS.out.1 (by simp)), (Fr.cell G6.out HS.out.2 (by simp))⟩ (fun hHeld => ?_)
      clear hK K
      try simp only [Act.put, List.setIfInBounds_toArray, List.set_cons_zero, List.set_cons_succ]
      refine wpAnyH_take (i := 5) (oi := _) (v := ?_) (by rw [List.getElem?_toArray]; rfl) (by kernel_rfl) (by kernel_rfl) (by kernel_rfl) (fun _ _ _ h => by exact h) (Or.inl ⟨by rfl, ?_⟩) (by assumption) ?_
      rotate_left
      · (intro w hSw; (try dsimp only at hSw); go_simp; (try with_reducible rfl))
      try simp only [Act.put, List.setIfInBounds_toArray, List.set_cons_zero, List.set_cons_succ]
      refine wpAnyH_take (i := 6) (oi := _) (v := ?_) (by rw [List.getElem?_toArray]; rfl) (by kernel_rfl) (by kernel_rfl) (by kernel_rfl) (fun _ _ _ h => by exact h) (Or.inl ⟨by rfl, ?_⟩) (by assumption) ?_
      rotate_left
      · (intro w hSw; (try dsimp only at hSw); go_simp; (try with_reducible rfl))
      try simp only [Act.put, List.setIfInBounds_toArray, List.set_cons_zero, List.set_cons_succ]
      refine wpAnyH_take (i := 7) (oi := _) (v := ?_) (by rw [List.getElem?_toArray]; rfl) (by kernel_rfl) (by kernel_rfl) (by kernel_rfl) (fun _ _ _ h => by exact h) (Or.inl ⟨by rfl, ?_⟩) (by assumption) ?_
      rotate_left
      · (intro w hSw; (try dsimp only at hSw); obtain ⟨⟨d0, d1, d2, d3, d4, d5, d6⟩, ⟨f0, f1, f2, f3, f4, f5, f6⟩, g0, g1, g2⟩ := hSw; go_simp; (try with_reducible rfl))
      try simp only [Act.put, List.setIfInBounds_toArray, List.set_cons_zero, List.set_cons_succ]
      refine wpAnyH_take (i := 8) (oi := _) (v := ?_) (by rw [List.getElem?_toArray]; rfl) (by kernel_rfl) (by kernel_rfl) (by kernel_rfl) (fun _ _ _ h => by exact h) (Or.inl ⟨by rfl, ?_⟩) (by assumption) ?_
      rotate_left
      · (intro w hSw; (try dsimp only at hSw); obtain ⟨⟨d0, d1, d2, d3, d4, d5, d6⟩, ⟨f0, f1, f2, f3, f4, f5, f6⟩, g0, g1, g2⟩ := hSw; go_simp; (try with_reducible rfl))
      try simp only [Act.put, List.setIfInBounds_toArray, List.set_cons_zero, List.set_cons_succ]
      refine wpAnyH_ready (rs := [9]) (by kernel_rfl) (by simp) ?_
      refine AllReadyH.cons (o := _) (by rw [List.getElem?_toArray]; rfl) (fun K hK => ?_) ?_
      · go_simp
        go_wp2_with (go_at_call 47; refine (reads_any sg sc _).mono ?_; rintro e w7 ⟨rfl, h7, f7⟩)
        have G7 : Hid (Fr (fun _ => False) W w7) := G6.out.trans f7
        have H7 : Hid _ := h7
        clear f7 h7
        refine hK.out _ _ ⟨HB1.out.fr G7.out (by simp), HB2.out.fr G7.out (by simp), (Fr.cell G7.out HP.out (by simp)), (Fr.cell G7.out HS.out.1 (by simp)), (Fr.cell G7.out HS.out.2 (by simp))⟩ (fun hHeld => ?_)
        clear hK K
        try simp only [Act.put, List.setIfInBounds_toArray, List.set_cons_zero, List.set_cons_succ]
        refine wpAnyH_ready (rs := [10]) (by kernel_rfl) (by simp) ?_
        refine AllReadyH.cons (o := _) (by rw [List.getElem?_toArray]; rfl) (fun K hK => ?_) ?_
        · go_simp
          go_wp2_with (go_at_call 45; refine (contR_one p pc _ sg sc _ (G7.out.cell HP.out (by simp)) H7.out (G7.out.cell HS.out.1 (by simp)) (G7.out.cell HS.out.2 (by simp))).mono ?_; rintro e w8 ⟨rfl, f8⟩)
          have G8 : Hid (Fr (fun _ => False) W w8) := G7.out.trans f8
          clear f8
          refine hK.out _ _ ⟨HB1.out.fr G8.out (by simp), HB2.out.fr G8.out (by simp), (Fr.cell G8.out HP.out (by simp)), (Fr.cell G8.out HS.out.1 (by simp)), (Fr.cell G8.out HS.out.2 (by simp))⟩ (fun hHeld => ?_)
          clear hK K
          try simp only [Act.put, List.setIfInBounds_toArray, List.set_cons_zero, List.set_cons_succ]
          refine wpAnyH_take (i := 11) (oi := _) (v := ?_) (by rw [List.getElem?_toArray]; rfl) (by kernel_rfl) (by kernel_rfl) (by kernel_rfl) (fun _ _ _ h => by exact h) (Or.inl ⟨by rfl, ?_⟩) (by assumption) ?_
          rotate_left
          · (intro w hSw; (try dsimp only at hSw); go_simp; (try with_reducible rfl))
          try simp only [Act.put, List.setIfInBounds_toArray, List.set_cons_zero, List.set_cons_succ]
          refine wpAnyH_take (i := 12) (oi := _) (v := ?_) (by rw [List.getElem?_toArray]; rfl) (by kernel_rfl) (by kernel_rfl) (by kernel_rfl) (fun _ _ _ h => by exact h) (Or.inl ⟨by rfl, ?_⟩) (by assumption) ?_
          rotate_left
          · (intro w hSw; (try dsimp only at hSw); go_simp; (try with_reducible rfl))
          try simp only [Act.put, List.setIfInBounds_toArray, List.set_cons_zero, List.set_cons_succ]
          refine wpAnyH_take (i := 13) (oi := _) (v := undef) (by rw [List.getElem?_toArray]; rfl) (by kernel_rfl) (by kernel_rfl) (by kernel_rfl) (fun _ _ _ h => by exact h) (Or.inr ⟨by rfl, rfl⟩) (by assumption) ?_
          try simp only [Act.put, List.setIfInBounds_toArray, List.set_cons_zero, List.set_cons_succ]
          refine wpAnyH_take (i := 14) (oi := _) (v := undef) (by rw [List.getElem?_toArray]; rfl) (by kernel_rfl) (by kernel_rfl) (by kernel_rfl) (fun _ _ _ h => by exact h) (Or.inr ⟨by rfl, rfl⟩) (by assumption) ?_
          try simp only [Act.put, List.setIfInBounds_toArray, List.set_cons_zero, List.set_cons_succ]
          refine wpAnyH_take (i := 15) (oi := _) (v := undef) (by rw [List.getElem?_toArray]; rfl) (by kernel_rfl) (by kernel_rfl) (by kernel_rfl) (fun _ _ _ h => by exact h) (Or.inr ⟨by rfl, rfl⟩) (by assumption) ?_
          try simp only [Act.put, List.setIfInBounds_toArray, List.set_cons_zero, List.set_cons_succ]
          refine wpAnyH_take (i := 16) (oi := _) (v := undef) (by rw [List.getElem?_toArray]; rfl) (by kernel_rfl) (by kernel_rfl) (by kernel_rfl) (fun _ _ _ h => by exact h) (Or.inr ⟨by rfl, rfl⟩) (by assumption) ?_
          try simp only [Act.put, List.setIfInBounds_toArray, List.set_cons_zero, List.set_cons_succ]
          refine wpAnyH_take (i := 17) (oi := _) (v := undef) (by rw [List.getElem?_toArray]; rfl) (by kernel_rfl) (by kernel_rfl) (by kernel_rfl) (fun _ _ _ h => by exact h) (Or.inr ⟨by rfl, rfl⟩) (by assumption) ?_
          try simp only [Act.put, List.setIfInBounds_toArray, List.set_cons_zero, List.set_cons_succ]
          refine wpAnyH_take (i := 18) (oi := _) (v := ?_) (by rw [List.getElem?_toArray]; rfl) (by kernel_rfl) (by kernel_rfl) (by kernel_rfl) (fun _ _ _ h => by exact h) (Or.inl ⟨by rfl, ?_⟩) (by assumption) ?_
          rotate_left
          · (intro w hSw; (try dsimp only at hSw); go_simp; (try with_reducible rfl))
          try simp only [Act.put, List.setIfInBounds_toArray, List.set_cons_zero, List.set_cons_succ]
          refine wpAnyH_take (i := 19) (oi := _) (v := ?_) (by rw [List.getElem?_toArray]; rfl) (by kernel_rfl) (by kernel_rfl) (by kernel_rfl) (fun _ _ _ h => by exact h) (Or.inl ⟨by rfl, ?_⟩) (by assumption) ?_
          rotate_left
          · (intro w hSw; (try dsimp only at hSw); go_simp; (try with_reducible rfl))
          try simp only [Act.put, List.setIfInBounds_toArray, List.set_cons_zero, List.set_cons_succ]
          refine wpAnyH_done (by kernel_rfl) ?_ _
          go_wp2
          go_ret
          exact ⟨rfl, F0.out.trans G8.out⟩
        exact AllReadyH.nil
      exact AllReadyH.nil
    exact AllReadyH.nil
  exact AllReadyH.nil
end Go.Proofs.Ytaalkhipncbjpaa
