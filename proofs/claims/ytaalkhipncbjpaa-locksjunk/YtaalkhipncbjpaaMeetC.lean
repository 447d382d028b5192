/- What a hold writes and reads, for any hold in a box (for LocksMeet). -/
import Derived.Test.YtaalkhipncbjpaaMeetB
namespace Go.Proofs.Ytaalkhipncbjpaa
open Go.RowKit
attribute [local go_sem] run_store_float
set_option maxRecDepth 100000 in
theorem at_cell (x : Nat) (w : World) : Calls Try.prog 81 #[.float .f64 x] w fun e w' => e = .returned (.func (.func 103) #[] #[.pointer (some ⟨w.heap.size, 0, none⟩)]) ∧ w'.cell? ⟨w.heap.size, 0, none⟩ = some (.float .f64 x) ∧ Fr (fun _ => False) w w' := by
  have F0 : Hid (Fr (fun _ => False) w (w.alloc (.cells #[.float .f64 x] 71))) := (Fr.refl (fun _ => False) w).alloc _
  go_enter Try.func81, Try.ntmps81
  go_wp2
  go_ret
  exact ⟨rfl, by simp, F0.out⟩
set_option maxRecDepth 100000 in
set_option maxHeartbeats 4000000 in
theorem writes1_any (x a0 a1 a2 h : Nat) (ga : Option Addr) (g : List Nat) (gc : Nat) (sa : Option Addr) (s : List (Nat × Nat)) (sc : Nat) (pa : Option Addr) (p : List Nat) (pc : Nat) (da : Option Addr) (dn dc : Nat) (hx : x < 18446744073709551616) (w : World) (hb : C7 w h (.int .u64 (a0 : Int)) (.int .u64 (a1 : Int)) (.int .u64 (a2 : Int)) (.slice ga g.length gc) (.slice sa s.length sc) (.slice pa p.length pc) (.slice da dn dc)) (hr : FRow w pa p pc) : Calls Try.prog 80 #[.float .f64 x, .pointer (some ⟨h, 0, none⟩)] w fun e w' => e = .returned (.bool (p.any fun y => decide (Fl.rk x = Fl.rk y))) ∧ Fr (fun _ => False) w w' := by
  have HB : Hid (C7 w h (.int .u64 (a0 : Int)) (.int .u64 (a1 : Int)) (.int .u64 (a2 : Int)) (.slice ga g.length gc) (.slice sa s.length sc) (.slice pa p.length pc) (.slice da dn dc)) := hb
  have HRP : Hid (FRow w pa p pc) := hr
  clear hb hr
  go_enter Try.func80, Try.ntmps80
  go_wp2_with fail
  refine wp_region_held_drew (S := (fun W : World => C7 W h (.int .u64 (a0 : Int)) (.int .u64 (a1 : Int)) (.int .u64 (a2 : Int)) (.slice ga g.length gc) (.slice sa s.length sc) (.slice pa p.length pc) (.slice da dn dc))) (by kernel_rfl) (HB.out.fr ((Fr.refl (fun _ => False) _).drew) (by simp)) (fun hHeld => ?_)
  refine wpAnyH_take (i := 0) (oi := _) (v := ?_) (by rw [List.getElem?_toArray]; rfl) (by kernel_rfl) (by kernel_rfl) (by kernel_rfl) (fun _ _ _ h => by exact h) (Or.inl ⟨by rfl, ?_⟩) (by assumption) ?_
  rotate_left
  · (intro w hSw; (try dsimp only at hSw); go_simp; (try with_reducible rfl))
  try simp only [Act.put, List.setIfInBounds_toArray, List.set_cons_zero, List.set_cons_succ]
  refine wpAnyH_take (i := 1) (oi := _) (v := ?_) (by rw [List.getElem?_toArray]; rfl) (by kernel_rfl) (by kernel_rfl) (by kernel_rfl) (fun _ _ _ h => by exact h) (Or.inl ⟨by rfl, ?_⟩) (by assumption) ?_
  rotate_left
  · (intro w hSw; (try dsimp only at hSw); obtain ⟨d0, d1, d2, d3, d4, d5, d6⟩ := hSw; go_simp; (try with_reducible rfl))
  try simp only [Act.put, List.setIfInBounds_toArray, List.set_cons_zero, List.set_cons_succ]
  refine wpAnyH_take (i := 2) (oi := _) (v := ?_) (by rw [List.getElem?_toArray]; rfl) (by kernel_rfl) (by kernel_rfl) (by kernel_rfl) (fun _ _ _ h => by exact h) (Or.inl ⟨by rfl, ?_⟩) (by assumption) ?_
  rotate_left
  · (intro w hSw; (try dsimp only at hSw); go_simp; (try with_reducible rfl))
  try simp only [Act.put, List.setIfInBounds_toArray, List.set_cons_zero, List.set_cons_succ]
  refine wpAnyH_ready (rs := [3]) (by kernel_rfl) (by simp) ?_
  refine AllReadyH.cons (o := _) (by rw [List.getElem?_toArray]; rfl) (fun K hK => ?_) ?_
  · go_simp
    go_wp2_with (go_at_call 81; refine (at_cell x _).mono ?_; rintro e w5 ⟨rfl, hx5, f5⟩)
    have G5 : Hid (Fr (fun _ => False) w w5) := (((Fr.refl (fun _ => False) _).drew) : Fr (fun _ => False) w w.drew).trans f5
    obtain ⟨bx, Hbx⟩ : ∃ bx, Hid (w.drew.heap.size = bx) := ⟨_, rfl⟩
    rw [Hbx.out] at hx5
    try rw [Hbx.out]
    try rw [show w.heap.size = bx from Hbx.out]
    have KC : Hid (Calls _ _ _ _ _) := contF_101 (fun y => decide (Fl.rk x = Fl.rk y)) (.pointer (some ⟨bx, 0, none⟩)) pa p pc w5 (HRP.out.fr G5.out (by simp)) (fun W y f hy => (at1_any x y bx hx (HRP.out.2.2.1 y hy) W (f.cell hx5 (by simp))).mono (fun e w1 h => ⟨h.1, h.2 ▸ Fr.refl _ _⟩))
    clear f5 hx5
    refine hK.out _ _ (HB.out.fr G5.out (by simp)) (fun hHeld => ?_)
    clear hK K
    try simp only [Act.put, List.setIfInBounds_toArray, List.set_cons_zero, List.set_cons_succ]
    refine wpAnyH_ready (rs := [4]) (by kernel_rfl) (by simp) ?_
    refine AllReadyH.cons (o := _) (by rw [List.getElem?_toArray]; rfl) (fun K hK => ?_) ?_
    · go_simp
      go_wp2_with (go_at_call 45; refine KC.out.mono ?_; rintro e w6 ⟨rfl, f6⟩)
      have G6 : Hid (Fr (fun _ => False) w w6) := G5.out.trans f6
      clear f6
      refine hK.out _ _ (HB.out.fr G6.out (by simp)) (fun hHeld => ?_)
      clear hK K
      try simp only [Act.put, List.setIfInBounds_toArray, List.set_cons_zero, List.set_cons_succ]
      refine wpAnyH_take (i := 5) (oi := _) (v := ?_) (by rw [List.getElem?_toArray]; rfl) (by kernel_rfl) (by kernel_rfl) (by kernel_rfl) (fun _ _ _ h => by exact h) (Or.inl ⟨by rfl, ?_⟩) (by assumption) ?_
      rotate_left
      · (intro w hSw; (try dsimp only at hSw); go_simp; (try with_reducible rfl))
      try simp only [Act.put, List.setIfInBounds_toArray, List.set_cons_zero, List.set_cons_succ]
      refine wpAnyH_done (by kernel_rfl) ?_ _
      go_wp2
      go_ret
      exact ⟨rfl, G6.out⟩
    exact AllReadyH.nil
  exact AllReadyH.nil
set_option maxRecDepth 100000 in
set_option maxHeartbeats 4000000 in
theorem reads1_any (x a0 a1 a2 h : Nat) (ga : Option Addr) (g : List Nat) (gc : Nat) (sa : Option Addr) (s : List (Nat × Nat)) (sc : Nat) (pa : Option Addr) (p : List Nat) (pc : Nat) (da : Option Addr) (dn dc : Nat) (hx : x < 18446744073709551616) (w : World) (hb : C7 w h (.int .u64 (a0 : Int)) (.int .u64 (a1 : Int)) (.int .u64 (a2 : Int)) (.slice ga g.length gc) (.slice sa s.length sc) (.slice pa p.length pc) (.slice da dn dc)) (hg : FRow w ga g gc) (hs : GRow w sa s sc) : Calls Try.prog 82 #[.float .f64 x, .pointer (some ⟨h, 0, none⟩)] w fun e w' => e = .returned (.bool ((g.any fun y => decide (Fl.rk x = Fl.rk y)) || s.any fun y => !decide (Fl.rk x < Fl.rk y.1) && !decide (Fl.rk y.2 < Fl.rk x))) ∧ Fr (fun _ => False) w w' := by
  have HB : Hid (C7 w h (.int .u64 (a0 : Int)) (.int .u64 (a1 : Int)) (.int .u64 (a2 : Int)) (.slice ga g.length gc) (.slice sa s.length sc) (.slice pa p.length pc) (.slice da dn dc)) := hb
  have HRG : Hid (FRow w ga g gc) := hg
  have HRS : Hid (GRow w sa s sc) := hs
  clear hb hg hs
  go_enter Try.func82, Try.ntmps82
  go_wp2_with fail
  refine wp_region_held_drew (S := (fun W : World => C7 W h (.int .u64 (a0 : Int)) (.int .u64 (a1 : Int)) (.int .u64 (a2 : Int)) (.slice ga g.length gc) (.slice sa s.length sc) (.slice pa p.length pc) (.slice da dn dc))) (by kernel_rfl) (HB.out.fr ((Fr.refl (fun _ => False) _).drew) (by simp)) (fun hHeld => ?_)
  refine wpAnyH_take (i := 0) (oi := _) (v := ?_) (by rw [List.getElem?_toArray]; rfl) (by kernel_rfl) (by kernel_rfl) (by kernel_rfl) (fun _ _ _ h => by exact h) (Or.inl ⟨by rfl, ?_⟩) (by assumption) ?_
  rotate_left
  · (intro w hSw; (try dsimp only at hSw); go_simp; (try with_reducible rfl))
  try simp only [Act.put, List.setIfInBounds_toArray, List.set_cons_zero, List.set_cons_succ]
  refine wpAnyH_take (i := 1) (oi := _) (v := ?_) (by rw [List.getElem?_toArray]; rfl) (by kernel_rfl) (by kernel_rfl) (by kernel_rfl) (fun _ _ _ h => by exact h) (Or.inl ⟨by rfl, ?_⟩) (by assumption) ?_
  rotate_left
  · (intro w hSw; (try dsimp only at hSw); obtain ⟨d0, d1, d2, d3, d4, d5, d6⟩ := hSw; go_simp; (try with_reducible rfl))
  try simp only [Act.put, List.setIfInBounds_toArray, List.set_cons_zero, List.set_cons_succ]
  refine wpAnyH_take (i := 2) (oi := _) (v := ?_) (by rw [List.getElem?_toArray]; rfl) (by kernel_rfl) (by kernel_rfl) (by kernel_rfl) (fun _ _ _ h => by exact h) (Or.inl ⟨by rfl, ?_⟩) (by assumption) ?_
  rotate_left
  · (intro w hSw; (try dsimp only at hSw); go_simp; (try with_reducible rfl))
  try simp only [Act.put, List.setIfInBounds_toArray, List.set_cons_zero, List.set_cons_succ]
  refine wpAnyH_ready (rs := [3]) (by kernel_rfl) (by simp) ?_
  refine AllReadyH.cons (o := _) (by rw [List.getElem?_toArray]; rfl) (fun K hK => ?_) ?_
  · go_simp
    go_wp2_with (go_at_call 81; refine (at_cell x _).mono ?_; rintro e w5 ⟨rfl, hx5, f5⟩)
    have G5 : Hid (Fr (fun _ => False) w w5) := (((Fr.refl (fun _ => False) _).drew) : Fr (fun _ => False) w w.drew).trans f5
    obtain ⟨bx, Hbx⟩ : ∃ bx, Hid (w.drew.heap.size = bx) := ⟨_, rfl⟩
    rw [Hbx.out] at hx5
    try rw [Hbx.out]
    try rw [show w.heap.size = bx from Hbx.out]
    have KC : Hid (Calls _ _ _ _ _) := contF_101 (fun y => decide (Fl.rk x = Fl.rk y)) (.pointer (some ⟨bx, 0, none⟩)) ga g gc w5 (HRG.out.fr G5.out (by simp)) (fun W y f hy => (at1_any x y bx hx (HRG.out.2.2.1 y hy) W (f.cell hx5 (by simp))).mono (fun e w1 h => ⟨h.1, h.2 ▸ Fr.refl _ _⟩))
    clear f5 hx5
    refine hK.out _ _ (HB.out.fr G5.out (by simp)) (fun hHeld => ?_)
    clear hK K
    try simp only [Act.put, List.setIfInBounds_toArray, List.set_cons_zero, List.set_cons_succ]
    refine wpAnyH_ready (rs := [4]) (by kernel_rfl) (by simp) ?_
    refine AllReadyH.cons (o := _) (by rw [List.getElem?_toArray]; rfl) (fun K hK => ?_) ?_
    · go_simp
      go_wp2_with (go_at_call 45; refine KC.out.mono ?_; rintro e w6 ⟨rfl, f6⟩)
      have G6 : Hid (Fr (fun _ => False) w w6) := G5.out.trans f6
      clear f6
      refine hK.out _ _ (HB.out.fr G6.out (by simp)) (fun hHeld => ?_)
      clear hK K
      try simp only [Act.put, List.setIfInBounds_toArray, List.set_cons_zero, List.set_cons_succ]
      cases hg : g.any (fun y => decide (Fl.rk x = Fl.rk y))
      all_goals (try rw [Bool.false_or]); (try rw [Bool.true_or])
      · skip
        refine wpAnyH_take (i := 5) (oi := _) (v := ?_) (by rw [List.getElem?_toArray]; rfl) (by kernel_rfl) (by kernel_rfl) (by kernel_rfl) (fun _ _ _ h => by exact h) (Or.inl ⟨by rfl, ?_⟩) (by assumption) ?_
        rotate_left
        · (intro w hSw; (try dsimp only at hSw); go_simp; (try with_reducible rfl))
        try simp only [Act.put, List.setIfInBounds_toArray, List.set_cons_zero, List.set_cons_succ]
        refine wpAnyH_take (i := 6) (oi := _) (v := ?_) (by rw [List.getElem?_toArray]; rfl) (by kernel_rfl) (by kernel_rfl) (by kernel_rfl) (fun _ _ _ h => by exact h) (Or.inl ⟨by rfl, ?_⟩) (by assumption) ?_
        rotate_left
        · (intro w hSw; (try dsimp only at hSw); go_simp; (try with_reducible rfl))
        try simp only [Act.put, List.setIfInBounds_toArray, List.set_cons_zero, List.set_cons_succ]
        refine wpAnyH_take (i := 7) (oi := _) (v := ?_) (by rw [List.getElem?_toArray]; rfl) (by kernel_rfl) (by kernel_rfl) (by kernel_rfl) (fun _ _ _ h => by exact h) (Or.inl ⟨by rfl, ?_⟩) (by assumption) ?_
        rotate_left
        · (intro w hSw; (try dsimp only at hSw); obtain ⟨d0, d1, d2, d3, d4, d5, d6⟩ := hSw; go_simp; (try with_reducible rfl))
        try simp only [Act.put, List.setIfInBounds_toArray, List.set_cons_zero, List.set_cons_succ]
        refine wpAnyH_take (i := 8) (oi := _) (v := ?_) (by rw [List.getElem?_toArray]; rfl) (by kernel_rfl) (by kernel_rfl) (by kernel_rfl) (fun _ _ _ h => by exact h) (Or.inl ⟨by rfl, ?_⟩) (by assumption) ?_
        rotate_left
        · (intro w hSw; (try dsimp only at hSw); go_simp; (try with_reducible rfl))
        try simp only [Act.put, List.setIfInBounds_toArray, List.set_cons_zero, List.set_cons_succ]
        refine wpAnyH_ready (rs := [9]) (by kernel_rfl) (by simp) ?_
        refine AllReadyH.cons (o := _) (by rw [List.getElem?_toArray]; rfl) (fun K hK => ?_) ?_
        · go_simp
          go_wp2_with (go_at_call 84; refine (around_any x _).mono ?_; rintro e w7 ⟨rfl, hx7, f7⟩)
          have G7 : Hid (Fr (fun _ => False) w w7) := G6.out.trans f7
          obtain ⟨by_, Hby⟩ : ∃ by_, Hid (w6.heap.size = by_) := ⟨_, rfl⟩
          rw [Hby.out] at hx7
          try rw [Hby.out]
          have KG : Hid (Calls _ _ _ _ _) := contG (fun y => !decide (Fl.rk x < Fl.rk y.1) && !decide (Fl.rk y.2 < Fl.rk x)) (.pointer (some ⟨by_, 0, none⟩)) sa s sc w7 (HRS.out.fr G7.out (by simp)) (fun W y f hy => around1_any x y.1 y.2 by_ hx (HRS.out.2.2.1 y hy).1 (HRS.out.2.2.1 y hy).2 W (f.cell hx7 (by simp)))
          clear f7 hx7
          refine hK.out _ _ (HB.out.fr G7.out (by simp)) (fun hHeld => ?_)
          clear hK K
          try simp only [Act.put, List.setIfInBounds_toArray, List.set_cons_zero, List.set_cons_succ]
          refine wpAnyH_ready (rs := [10]) (by kernel_rfl) (by simp) ?_
          refine AllReadyH.cons (o := _) (by rw [List.getElem?_toArray]; rfl) (fun K hK => ?_) ?_
          · go_simp
            go_wp2_with (go_at_call 83; refine KG.out.mono ?_; rintro e w8 ⟨rfl, f8⟩)
            have G8 : Hid (Fr (fun _ => False) w w8) := G7.out.trans f8
            clear f8
            refine hK.out _ _ (HB.out.fr G8.out (by simp)) (fun hHeld => ?_)
            clear hK K
            try simp only [Act.put, List.setIfInBounds_toArray, List.set_cons_zero, List.set_cons_succ]
            refine wpAnyH_take (i := 11) (oi := _) (v := ?_) (by rw [List.getElem?_toArray]; rfl) (by kernel_rfl) (by kernel_rfl) (by kernel_rfl) (fun _ _ _ h => by exact h) (Or.inl ⟨by rfl, ?_⟩) (by assumption) ?_
            rotate_left
            · (intro w hSw; (try dsimp only at hSw); go_simp; (try with_reducible rfl))
            try simp only [Act.put, List.setIfInBounds_toArray, List.set_cons_zero, List.set_cons_succ]
            refine wpAnyH_take (i := 12) (oi := _) (v := ?_) (by rw [List.getElem?_toArray]; rfl) (by kernel_rfl) (by kernel_rfl) (by kernel_rfl) (fun _ _ _ h => by exact h) (Or.inl ⟨by rfl, ?_⟩) (by assumption) ?_
            rotate_left
            · (intro w hSw; (try dsimp only at hSw); go_simp; (try with_reducible rfl))
            try simp only [Act.put, List.setIfInBounds_toArray, List.set_cons_zero, List.set_cons_succ]
            refine wpAnyH_done (by kernel_rfl) ?_ _
            go_wp2
            go_ret
            exact ⟨by rw [hg]; rfl, G8.out⟩
          exact AllReadyH.nil
        exact AllReadyH.nil
      · skip
        refine wpAnyH_take (i := 5) (oi := _) (v := ?_) (by rw [List.getElem?_toArray]; rfl) (by kernel_rfl) (by kernel_rfl) (by kernel_rfl) (fun _ _ _ h => by exact h) (Or.inl ⟨by rfl, ?_⟩) (by assumption) ?_
        rotate_left
        · (intro w hSw; (try dsimp only at hSw); go_simp; (try with_reducible rfl))
        try simp only [Act.put, List.setIfInBounds_toArray, List.set_cons_zero, List.set_cons_succ]
        refine wpAnyH_take (i := 6) (oi := _) (v := undef) (by rw [List.getElem?_toArray]; rfl) (by kernel_rfl) (by kernel_rfl) (by kernel_rfl) (fun _ _ _ h => by exact h) (Or.inr ⟨by rfl, rfl⟩) (by assumption) ?_
        try simp only [Act.put, List.setIfInBounds_toArray, List.set_cons_zero, List.set_cons_succ]
        refine wpAnyH_take (i := 7) (oi := _) (v := undef) (by rw [List.getElem?_toArray]; rfl) (by kernel_rfl) (by kernel_rfl) (by kernel_rfl) (fun _ _ _ h => by exact h) (Or.inr ⟨by rfl, rfl⟩) (by assumption) ?_
        try simp only [Act.put, List.setIfInBounds_toArray, List.set_cons_zero, List.set_cons_succ]
        refine wpAnyH_take (i := 8) (oi := _) (v := undef) (by rw [List.getElem?_toArray]; rfl) (by kernel_rfl) (by kernel_rfl) (by kernel_rfl) (fun _ _ _ h => by exact h) (Or.inr ⟨by rfl, rfl⟩) (by assumption) ?_
        try simp only [Act.put, List.setIfInBounds_toArray, List.set_cons_zero, List.set_cons_succ]
        refine wpAnyH_take (i := 9) (oi := _) (v := undef) (by rw [List.getElem?_toArray]; rfl) (by kernel_rfl) (by kernel_rfl) (by kernel_rfl) (fun _ _ _ h => by exact h) (Or.inr ⟨by rfl, rfl⟩) (by assumption) ?_
        try simp only [Act.put, List.setIfInBounds_toArray, List.set_cons_zero, List.set_cons_succ]
        refine wpAnyH_take (i := 10) (oi := _) (v := undef) (by rw [List.getElem?_toArray]; rfl) (by kernel_rfl) (by kernel_rfl) (by kernel_rfl) (fun _ _ _ h => by exact h) (Or.inr ⟨by rfl, rfl⟩) (by assumption) ?_
        try simp only [Act.put, List.setIfInBounds_toArray, List.set_cons_zero, List.set_cons_succ]
        refine wpAnyH_take (i := 11) (oi := _) (v := ?_) (by rw [List.getElem?_toArray]; rfl) (by kernel_rfl) (by kernel_rfl) (by kernel_rfl) (fun _ _ _ h => by exact h) (Or.inl ⟨by rfl, ?_⟩) (by assumption) ?_
        rotate_left
        · (intro w hSw; (try dsimp only at hSw); go_simp; (try with_reducible rfl))
        try simp only [Act.put, List.setIfInBounds_toArray, List.set_cons_zero, List.set_cons_succ]
        refine wpAnyH_take (i := 12) (oi := _) (v := ?_) (by rw [List.getElem?_toArray]; rfl) (by kernel_rfl) (by kernel_rfl) (by kernel_rfl) (fun _ _ _ h => by exact h) (Or.inl ⟨by rfl, ?_⟩) (by assumption) ?_
        rotate_left
        · (intro w hSw; (try dsimp only at hSw); go_simp; (try with_reducible rfl))
        try simp only [Act.put, List.setIfInBounds_toArray, List.set_cons_zero, List.set_cons_succ]
        refine wpAnyH_done (by kernel_rfl) ?_ _
        go_wp2
        go_ret
        exact ⟨by rw [hg]; rfl, G6.out⟩
    exact AllReadyH.nil
  exact AllReadyH.nil
end Go.Proofs.Ytaalkhipncbjpaa
