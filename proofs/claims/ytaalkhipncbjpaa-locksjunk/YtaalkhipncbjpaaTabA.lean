/- The order of any two transactions, and the search for one in any row of holds. -/
import Derived.Test.YtaalkhipncbjpaaMeetH
import Derived.Test.YtaalkhipncbjpaaFlat
namespace Go.Proofs.Ytaalkhipncbjpaa
open Go.RowKit
def cmpN (a b : Nat) : Int := if a < b then -1 else if b < a then 1 else 0
def ordI (s q s2 q2 : Nat) : Int := if cmpN s s2 = 0 then cmpN q q2 else cmpN s s2
theorem ordI_lt (s q s2 q2 : Nat) : ordI s q s2 q2 < 0 ↔ (s < s2 ∨ (s = s2 ∧ q < q2)) := by
  unfold ordI cmpN
  repeat' split
  all_goals omega
theorem ordI_zero (s q s2 q2 : Nat) : ordI s q s2 q2 = 0 ↔ (s = s2 ∧ q = q2) := by
  unfold ordI cmpN
  repeat' split
  all_goals omega
set_option maxRecDepth 100000 in
set_option maxHeartbeats 1000000 in
theorem cmp_any (a b : Nat) (w : World) : Calls Try.prog 108 #[.int .u64 (a : Int), .int .u64 (b : Int)] w fun e w' => e = .returned (.int .i64 (cmpN a b)) ∧ w' = w := by
  unfold cmpN
  by_cases h1 : a < b
  · have z1 : (a : Int) < (b : Int) := by omega
    rw [if_pos h1]
    go_enter Try.func108, Try.ntmps108
    go_wp2_with (go_at_call 113; go_in)
    go_ret
    exact ⟨rfl, rfl⟩
  · have z1 : ¬ (a : Int) < (b : Int) := by omega
    rw [if_neg h1]
    by_cases h2 : b < a
    · have z2 : (b : Int) < (a : Int) := by omega
      rw [if_pos h2]
      go_enter Try.func108, Try.ntmps108
      go_wp2_with (go_at_call 113; go_in)
      go_ret
      exact ⟨rfl, rfl⟩
    · have z2 : ¬ (b : Int) < (a : Int) := by omega
      rw [if_neg h2]
      go_enter Try.func108, Try.ntmps108
      go_wp2_with (go_at_call 113; go_in)
      go_ret
      exact ⟨rfl, rfl⟩
set_option maxRecDepth 100000 in
set_option maxHeartbeats 1000000 in
theorem or_any (b c : Nat) (x y : Int) (w : World) (h0 : w.cell? ⟨b, 0, none⟩ = some (.int .i64 x)) (h1 : w.cell? ⟨b, 1, none⟩ = some (.int .i64 y)) : Calls Try.prog 107 #[.slice (some ⟨b, 0, none⟩) 2 c] w fun e w' => e = .returned (.int .i64 (if x = 0 then y else x)) ∧ w' = w := by
  by_cases hx : x = 0
  · rw [if_pos hx]
    subst hx
    by_cases hy : y = 0
    · subst hy
      exact or_zero b c w h0 h1
    · go_enter Try.func107, Try.ntmps107
      go_wp2
      go_loopw [8] (fun iv wr => ∃ k : Nat, k ≤ 1 ∧ iv = .int .i64 (k : Int) ∧ wr = w) (fun iv _ => 2 - (intOf iv).toNat)
      case atStart => exact ⟨0, by omega, rfl, rfl⟩
      case round =>
        obtain ⟨k, hk, rfl, rfl⟩ := hrel
        match k, hk with
        | 0, _ =>
          go_wp2
          go_roundw
          case rel => exact ⟨1, by omega, by go_num, trivial⟩
          case measure => simp [intOf]
        | 1, _ =>
          go_wp2
          go_ret
          exact ⟨rfl, rfl⟩
  · rw [if_neg hx]
    go_enter Try.func107, Try.ntmps107
    go_wp2
    go_loopw [8] (fun iv wr => iv = .int .i64 0 ∧ wr = w) (fun iv _ => 2 - (intOf iv).toNat)
    case atStart => exact ⟨rfl, rfl⟩
    case round =>
      obtain ⟨rfl, rfl⟩ := hrel
      go_wp2
      go_ret
      exact ⟨rfl, rfl⟩
set_option maxRecDepth 100000 in
set_option maxHeartbeats 2000000 in
theorem order_any (s q s2 q2 : Nat) (w : World) : Calls Try.prog 88 #[.agg #[.int .u64 (s : Int), .int .u64 (q : Int)], .agg #[.int .u64 (s2 : Int), .int .u64 (q2 : Int)]] w fun e w' => e = .returned (.int .i64 (ordI s q s2 q2)) ∧ Fr (fun _ => False) w w' := by
  obtain ⟨W, HW⟩ : ∃ W, Hid (W = (w.alloc (.cells #[.int .u64 (s : Int), .int .u64 (q : Int)] 24)).alloc (.cells #[.int .u64 (s2 : Int), .int .u64 (q2 : Int)] 24)) := ⟨_, rfl⟩
  have hf : Fr (fun _ => False) w W := by rw [HW.out]; exact ((Fr.refl _ _).alloc _).alloc _
  have HF : Hid (Fr (fun _ => False) w W) := hf
  have a0 : W.cell? ⟨w.heap.size, 0, none⟩ = some (.int .u64 (s : Int)) := by rw [HW.out]; simp
  have a1 : W.cell? ⟨w.heap.size, 1, none⟩ = some (.int .u64 (q : Int)) := by rw [HW.out]; simp
  have b0 : W.cell? ⟨w.heap.size + 1, 0, none⟩ = some (.int .u64 (s2 : Int)) := by rw [HW.out]; simp
  have b1 : W.cell? ⟨w.heap.size + 1, 1, none⟩ = some (.int .u64 (q2 : Int)) := by rw [HW.out]; simp
  unfold ordI
  have K1 : Hid (∀ W, Calls _ _ _ _ _) := cmp_any s s2
  have K2 : Hid (∀ W, Calls _ _ _ _ _) := cmp_any q q2
  generalize cmpN s s2 = x at *
  generalize cmpN q q2 = y at *
  have KO : Hid (∀ (b c : Nat) (W1 : World), W1.cell? ⟨b, 0, none⟩ = some (.int .i64 x) → W1.cell? ⟨b, 1, none⟩ = some (.int .i64 y) → Calls Try.prog 107 #[.slice (some ⟨b, 0, none⟩) 2 c] W1 fun e w' => e = .returned (.int .i64 (if x = 0 then y else x)) ∧ w' = W1) := fun b c W1 h0 h1 => or_any b c x y W1 h0 h1
  generalize (if x = 0 then y else x) = z at *
  have HS : Hid (∀ W1, Fr (fun _ => False) W W1 → W1.cell? ⟨w.heap.size, 0, none⟩ = some (.int .u64 (s : Int)) ∧ W1.cell? ⟨w.heap.size, 1, none⟩ = some (.int .u64 (q : Int)) ∧ W1.cell? ⟨w.heap.size + 1, 0, none⟩ = some (.int .u64 (s2 : Int)) ∧ W1.cell? ⟨w.heap.size + 1, 1, none⟩ = some (.int .u64 (q2 : Int))) := fun W1 f => ⟨f.cell a0 (by simp), f.cell a1 (by simp), f.cell b0 (by simp), f.cell b1 (by simp)⟩
  clear hf a0 a1 b0 b1
  go_enter Try.func88, Try.ntmps88
  go_wp2_with fail
  rw [← HW.out]
  refine wp_region_held_drew (S := (fun W1 : World => W1.cell? ⟨w.heap.size, 0, none⟩ = some (.int .u64 (s : Int)) ∧ W1.cell? ⟨w.heap.size, 1, none⟩ = some (.int .u64 (q : Int)) ∧ W1.cell? ⟨w.heap.size + 1, 0, none⟩ = some (.int .u64 (s2 : Int)) ∧ W1.cell? ⟨w.heap.size + 1, 1, none⟩ = some (.int .u64 (q2 : Int)))) (by kernel_rfl) (HS.out _ ((Fr.refl _ _).drew)) (fun hHeld => ?_)
  refine wpAnyH_take (i := 0) (oi := _) (v := ?_) (by rw [List.getElem?_toArray]; rfl) (by kernel_rfl) (by kernel_rfl) (by kernel_rfl) (fun _ _ _ h => by exact h) (Or.inl ⟨by rfl, ?_⟩) (by assumption) ?_
  rotate_left
  · (intro w hSw; (try dsimp only at hSw); go_simp; (try with_reducible rfl))
  try simp only [Act.put, List.setIfInBounds_toArray, List.set_cons_zero, List.set_cons_succ]
  refine wpAnyH_take (i := 1) (oi := _) (v := ?_) (by rw [List.getElem?_toArray]; rfl) (by kernel_rfl) (by kernel_rfl) (by kernel_rfl) (fun _ _ _ h => by exact h) (Or.inl ⟨by rfl, ?_⟩) (by assumption) ?_
  rotate_left
  · (intro w hSw; (try dsimp only at hSw); obtain ⟨q1, q3, q4, q5⟩ := hSw; go_simp; (try with_reducible rfl))
  try simp only [Act.put, List.setIfInBounds_toArray, List.set_cons_zero, List.set_cons_succ]
  refine wpAnyH_take (i := 2) (oi := _) (v := ?_) (by rw [List.getElem?_toArray]; rfl) (by kernel_rfl) (by kernel_rfl) (by kernel_rfl) (fun _ _ _ h => by exact h) (Or.inl ⟨by rfl, ?_⟩) (by assumption) ?_
  rotate_left
  · (intro w hSw; (try dsimp only at hSw); go_simp; (try with_reducible rfl))
  try simp only [Act.put, List.setIfInBounds_toArray, List.set_cons_zero, List.set_cons_succ]
  refine wpAnyH_take (i := 3) (oi := _) (v := ?_) (by rw [List.getElem?_toArray]; rfl) (by kernel_rfl) (by kernel_rfl) (by kernel_rfl) (fun _ _ _ h => by exact h) (Or.inl ⟨by rfl, ?_⟩) (by assumption) ?_
  rotate_left
  · (intro w hSw; (try dsimp only at hSw); obtain ⟨q1, q3, q4, q5⟩ := hSw; go_simp; (try with_reducible rfl))
  try simp only [Act.put, List.setIfInBounds_toArray, List.set_cons_zero, List.set_cons_succ]
  refine wpAnyH_take (i := 5) (oi := _) (v := ?_) (by rw [List.getElem?_toArray]; rfl) (by kernel_rfl) (by kernel_rfl) (by kernel_rfl) (fun _ _ _ h => by exact h) (Or.inl ⟨by rfl, ?_⟩) (by assumption) ?_
  rotate_left
  · (intro w hSw; (try dsimp only at hSw); go_simp; (try with_reducible rfl))
  try simp only [Act.put, List.setIfInBounds_toArray, List.set_cons_zero, List.set_cons_succ]
  refine wpAnyH_take (i := 6) (oi := _) (v := ?_) (by rw [List.getElem?_toArray]; rfl) (by kernel_rfl) (by kernel_rfl) (by kernel_rfl) (fun _ _ _ h => by exact h) (Or.inl ⟨by rfl, ?_⟩) (by assumption) ?_
  rotate_left
  · (intro w hSw; (try dsimp only at hSw); obtain ⟨q1, q3, q4, q5⟩ := hSw; go_simp; (try with_reducible rfl))
  try simp only [Act.put, List.setIfInBounds_toArray, List.set_cons_zero, List.set_cons_succ]
  refine wpAnyH_take (i := 7) (oi := _) (v := ?_) (by rw [List.getElem?_toArray]; rfl) (by kernel_rfl) (by kernel_rfl) (by kernel_rfl) (fun _ _ _ h => by exact h) (Or.inl ⟨by rfl, ?_⟩) (by assumption) ?_
  rotate_left
  · (intro w hSw; (try dsimp only at hSw); go_simp; (try with_reducible rfl))
  try simp only [Act.put, List.setIfInBounds_toArray, List.set_cons_zero, List.set_cons_succ]
  refine wpAnyH_take (i := 8) (oi := _) (v := ?_) (by rw [List.getElem?_toArray]; rfl) (by kernel_rfl) (by kernel_rfl) (by kernel_rfl) (fun _ _ _ h => by exact h) (Or.inl ⟨by rfl, ?_⟩) (by assumption) ?_
  rotate_left
  · (intro w hSw; (try dsimp only at hSw); obtain ⟨q1, q3, q4, q5⟩ := hSw; go_simp; (try with_reducible rfl))
  try simp only [Act.put, List.setIfInBounds_toArray, List.set_cons_zero, List.set_cons_succ]
  refine wpAnyH_ready (rs := [4]) (by kernel_rfl) (by simp) ?_
  refine AllReadyH.cons (o := _) (by rw [List.getElem?_toArray]; rfl) (fun K hK => ?_) ?_
  · go_simp
    go_wp2_with (go_at_call 108; refine (K1.out _).mono ?_; rintro e w5 ⟨rfl, rfl⟩)
    refine hK.out _ _ (HS.out _ ((Fr.refl _ _).drew)) (fun hHeld => ?_)
    clear hK K
    try simp only [Act.put, List.setIfInBounds_toArray, List.set_cons_zero, List.set_cons_succ]
    refine wpAnyH_ready (rs := [9]) (by kernel_rfl) (by simp) ?_
    refine AllReadyH.cons (o := _) (by rw [List.getElem?_toArray]; rfl) (fun K hK => ?_) ?_
    · go_simp
      go_wp2_with (go_at_call 108; refine (K2.out _).mono ?_; rintro e w5 ⟨rfl, rfl⟩)
      refine hK.out _ _ (HS.out _ ((Fr.refl _ _).drew)) (fun hHeld => ?_)
      clear hK K
      try simp only [Act.put, List.setIfInBounds_toArray, List.set_cons_zero, List.set_cons_succ]
      refine wpAnyH_ready (rs := [10]) (by kernel_rfl) (by simp) ?_
      refine AllReadyH.cons (o := _) (by rw [List.getElem?_toArray]; rfl) (fun K hK => ?_) ?_
      · go_simp
        refine hK.out _ _ (HS.out _ ((Fr.refl _ _).drew.alloc _)) (fun hHeld => ?_)
        clear hK K
        try simp only [Act.put, List.setIfInBounds_toArray, List.set_cons_zero, List.set_cons_succ]
        refine wpAnyH_ready (rs := [11]) (by kernel_rfl) (by simp) ?_
        refine AllReadyH.cons (o := _) (by rw [List.getElem?_toArray]; rfl) (fun K hK => ?_) ?_
        · go_simp
          go_wp2_with (go_at_call 107; refine (KO.out _ _ _ (by simp) (by simp)).mono ?_; rintro e w5 ⟨rfl, rfl⟩)
          refine hK.out _ _ (HS.out _ ((Fr.refl _ _).drew.alloc _)) (fun hHeld => ?_)
          clear hK K
          try simp only [Act.put, List.setIfInBounds_toArray, List.set_cons_zero, List.set_cons_succ]
          refine wpAnyH_take (i := 12) (oi := _) (v := ?_) (by rw [List.getElem?_toArray]; rfl) (by kernel_rfl) (by kernel_rfl) (by kernel_rfl) (fun _ _ _ h => by exact h) (Or.inl ⟨by rfl, ?_⟩) (by assumption) ?_
          rotate_left
          · (intro w hSw; (try dsimp only at hSw); go_simp; (try with_reducible rfl))
          try simp only [Act.put, List.setIfInBounds_toArray, List.set_cons_zero, List.set_cons_succ]
          refine wpAnyH_done (by kernel_rfl) ?_ _
          go_wp2
          go_ret
          exact ⟨rfl, HF.out.trans ((Fr.refl _ W).drew.alloc _)⟩
        exact AllReadyH.nil
      exact AllReadyH.nil
    exact AllReadyH.nil
  exact AllReadyH.nil
/-- a hold is seven cells. -/
instance encH : Enc Hd := ⟨fun x => [.int .u64 (x.a0 : Int), .int .u64 (x.a1 : Int), .int .u64 (x.a2 : Int), .slice x.ga x.g.length x.gc, .slice x.sa x.s.length x.sc, .slice x.pa x.p.length x.pc, .slice x.da x.dl.length x.dc], 7, ⟨0, 0, 0, none, [], 0, none, [], 0, none, [], 0, none, [], 0⟩, by decide, fun _ => rfl, fun x u hu => by
  simp only [List.mem_cons, List.not_mem_nil, or_false] at hu
  rcases hu with rfl | rfl | rfl | rfl | rfl | rfl | rfl <;> rfl⟩
def dH : Hd := ⟨0, 0, 0, none, [], 0, none, [], 0, none, [], 0, none, [], 0⟩
theorem getH (l : List Hd) (k : Nat) : l.getD k (Enc.dflt : Hd) = l.getD k dH := rfl
theorem RowF.seven {w : World} {ao : Option Addr} {l : List Hd} {cap : Nat} (h : RowF w ao l cap) {k : Nat} (hk : k < l.length) : ∃ (b off : Nat) (x : Hd), ao = some ⟨b, off, none⟩ ∧ Hid (l.getD k dH = x) ∧ x ∈ l ∧
    w.cell? ⟨b, off + k * 7, none⟩ = some (.int .u64 (x.a0 : Int)) ∧ w.cell? ⟨b, off + k * 7 + 1, none⟩ = some (.int .u64 (x.a1 : Int)) ∧ w.cell? ⟨b, off + k * 7 + 2, none⟩ = some (.int .u64 (x.a2 : Int)) ∧
    w.cell? ⟨b, off + k * 7 + 3, none⟩ = some (.slice x.ga x.g.length x.gc) ∧ w.cell? ⟨b, off + k * 7 + 4, none⟩ = some (.slice x.sa x.s.length x.sc) ∧ w.cell? ⟨b, off + k * 7 + 5, none⟩ = some (.slice x.pa x.p.length x.pc) ∧ w.cell? ⟨b, off + k * 7 + 6, none⟩ = some (.slice x.da x.dl.length x.dc) := by
  obtain ⟨b, off, he, hc⟩ := h.2.2.2 (fun e => by rw [e] at hk; simp at hk)
  have hc2 := hc k hk
  refine ⟨b, off, l.getD k dH, he, rfl, ?_, hc2 0 (by decide), hc2 1 (by decide), hc2 2 (by decide), hc2 3 (by decide), hc2 4 (by decide), hc2 5 (by decide), hc2 6 (by decide)⟩
  rw [List.getD_eq_getElem?_getD, List.getElem?_eq_getElem hk]
  exact List.getElem_mem _
set_option maxRecDepth 100000 in
set_option maxHeartbeats 1000000 in
theorem place1_any (x : Hd) (s q : Nat) (w : World) : Calls Try.prog 87 #[.agg #[.int .u64 (x.a0 : Int), .int .u64 (x.a1 : Int), .int .u64 (x.a2 : Int), .slice x.ga x.g.length x.gc, .slice x.sa x.s.length x.sc, .slice x.pa x.p.length x.pc, .slice x.da x.dl.length x.dc], .agg #[.int .u64 (s : Int), .int .u64 (q : Int)]] w fun e w' => e = .returned (.int .i64 (ordI x.a0 x.a1 s q)) ∧ Fr (fun _ => False) w w' := by
  have F0 : Hid (Fr (fun _ => False) w _) := ((Fr.refl (fun _ => False) w).alloc (.cells #[.int .u64 (x.a0 : Int), .int .u64 (x.a1 : Int), .int .u64 (x.a2 : Int), .slice x.ga x.g.length x.gc, .slice x.sa x.s.length x.sc, .slice x.pa x.p.length x.pc, .slice x.da x.dl.length x.dc] 29)).alloc (.cells #[.int .u64 (s : Int), .int .u64 (q : Int)] 24)
  go_enter Try.func87, Try.ntmps87
  go_wp2_with fail
  refine (order_any x.a0 x.a1 s q _).mono ?_
  rintro e w1 ⟨rfl, f1⟩
  go_wp2
  go_ret
  exact ⟨rfl, F0.out.trans f1⟩
/-- a hold's transaction is ahead of one. -/
def Hd.lt (x : Hd) (s q : Nat) : Prop := x.a0 < s ∨ (x.a0 = s ∧ x.a1 < q)
instance (x : Hd) (s q : Nat) : Decidable (x.lt s q) := by unfold Hd.lt; infer_instance
/-- holds by their transactions, rising. -/
def Srt (l : List Hd) : Prop := ∀ i j, i < j → j < l.length → (l.getD i dH).lt (l.getD j dH).a0 (l.getD j dH).a1
end Go.Proofs.Ytaalkhipncbjpaa
