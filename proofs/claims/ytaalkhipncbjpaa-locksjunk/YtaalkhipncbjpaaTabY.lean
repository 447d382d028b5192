/- ahead, Decode. -/
import Derived.Test.YtaalkhipncbjpaaTabX
import Derived.Test.YtaalkhipncbjpaaTabQ
namespace Go.Proofs.Ytaalkhipncbjpaa
open Go Go.RowKit
attribute [local go_sem] run_store_float
def aheadB (l : List Hd) (s q : Nat) : Bool := l.all fun x => decide (x.lt s q)
theorem ahead_last {l : List Hd} (hs : Srt l) {j : Nat} (hj : l.length = j + 1) (s q : Nat) : aheadB l s q = decide ((l.getD j dH).lt s q) := by
  unfold aheadB
  rw [Bool.eq_iff_iff, List.all_eq_true, decide_eq_true_iff]
  constructor
  · intro h
    have := h (l.getD j dH) (by rw [gd (by omega)]; exact List.getElem_mem _)
    exact of_decide_eq_true this
  · intro h x hx
    obtain ⟨i, hi, rfl⟩ := List.getElem_of_mem hx
    refine decide_eq_true ?_
    rw [← gd hi]
    by_cases hij : i = j
    · rw [hij]; exact h
    · have := hs i j (by omega) (by omega)
      unfold Hd.lt at this h ⊢
      omega
set_option maxRecDepth 100000 in
set_option maxHeartbeats 4000000 in
theorem aheadT_any (s q base tb : Nat) (ao : Option Addr) (cap : Nat) (l : List Hd) (w : World) (hT : TabP w base tb ao cap l) (hlen : l.length ≤ 1000) :
    Calls Try.prog 74 #[.pointer (some ⟨tb, 0, none⟩), .agg #[.int .u64 (s : Int), .int .u64 (q : Int)]] w fun e w' => e = .returned (.bool (aheadB l s q)) ∧ Fr (fun _ => False) w w' := by
  have F0 : Hid (Fr (fun _ => False) w (w.alloc (.cells #[.int .u64 (s : Int), .int .u64 (q : Int)] 24))) := (Fr.refl (fun _ => False) w).alloc _
  have HI0 : Hid (C2 (w.alloc (.cells #[.int .u64 (s : Int), .int .u64 (q : Int)] 24)) w.heap.size (.int .u64 (s : Int)) (.int .u64 (q : Int))) := C2.new w 24 _ _
  have HT : Hid (TabP (w.alloc (.cells #[.int .u64 (s : Int), .int .u64 (q : Int)] 24)) base tb ao cap l) := hT.fr F0.out
  have hc := HT.out.cell
  obtain ⟨bx, Hbx⟩ : ∃ bx, Hid (w.heap.size = bx) := ⟨_, rfl⟩
  obtain ⟨W0, HW0⟩ : ∃ W, Hid ((w.alloc (.cells #[.int .u64 (s : Int), .int .u64 (q : Int)] 24)) = W) := ⟨_, rfl⟩
  rw [HW0.out] at F0 HI0 HT
  rw [Hbx.out] at HI0
  have HF0D : Hid (Fr (fun _ => False) w W0.drew) := F0.out.drew
  obtain ⟨T, HTT⟩ : ∃ T, Hid (aheadB l s q = T) := ⟨_, rfl⟩
  rw [HTT.out]
  clear hT
  by_cases hl0 : l.length = 0
  · have hl : l = [] := List.eq_nil_of_length_eq_zero hl0
    subst hl
    have hT9 := HTT.out
    have : T = true := hT9.symm
    subst this
    go_enter Try.func74, Try.ntmps74
    go_wp2_with fail
    rw [HW0.out, Hbx.out]
    clear hc hl0 hT9
    refine wp_region_held_drew (S := (fun _ : World => True)) (by kernel_rfl) trivial (fun hHeld => ?_)
    refine wpAnyH_take (i := 0) (oi := _) (v := ?_) (by rw [List.getElem?_toArray]; rfl) (by kernel_rfl) (by kernel_rfl) (by kernel_rfl) (fun _ _ _ h => by exact h) (Or.inl ⟨by rfl, ?_⟩) (by assumption) ?_
    rotate_left
    · (intro w hSw; (try dsimp only at hSw); go_simp; (try with_reducible rfl))
    try simp only [Act.put, List.setIfInBounds_toArray, List.set_cons_zero, List.set_cons_succ]
    refine wpAnyH_take (i := 1) (oi := _) (v := ?_) (by rw [List.getElem?_toArray]; rfl) (by kernel_rfl) (by kernel_rfl) (by kernel_rfl) (fun _ _ _ h => by exact h) (Or.inl ⟨by rfl, ?_⟩) (by assumption) ?_
    rotate_left
    · (intro w hSw; (try dsimp only at hSw); go_simp; (try with_reducible rfl))
    try simp only [Act.put, List.setIfInBounds_toArray, List.set_cons_zero, List.set_cons_succ]
    refine wpAnyH_take (i := 2) (oi := _) (v := ?_) (by rw [List.getElem?_toArray]; rfl) (by kernel_rfl) (by kernel_rfl) (by kernel_rfl) (fun _ _ _ h => by exact h) (Or.inl ⟨by rfl, ?_⟩) (by assumption) ?_
    rotate_left
    · (intro w hSw; (try dsimp only at hSw); go_simp; (try with_reducible rfl))
    try simp only [Act.put, List.setIfInBounds_toArray, List.set_cons_zero, List.set_cons_succ]
    refine wpAnyH_take (i := 3) (oi := _) (v := undef) (by rw [List.getElem?_toArray]; rfl) (by kernel_rfl) (by kernel_rfl) (by kernel_rfl) (fun _ _ _ h => by exact h) (Or.inr ⟨by rfl, rfl⟩) (by assumption) ?_
    try simp only [Act.put, List.setIfInBounds_toArray, List.set_cons_zero, List.set_cons_succ]
    refine wpAnyH_take (i := 4) (oi := _) (v := undef) (by rw [List.getElem?_toArray]; rfl) (by kernel_rfl) (by kernel_rfl) (by kernel_rfl) (fun _ _ _ h => by exact h) (Or.inr ⟨by rfl, rfl⟩) (by assumption) ?_
    try simp only [Act.put, List.setIfInBounds_toArray, List.set_cons_zero, List.set_cons_succ]
    refine wpAnyH_take (i := 5) (oi := _) (v := undef) (by rw [List.getElem?_toArray]; rfl) (by kernel_rfl) (by kernel_rfl) (by kernel_rfl) (fun _ _ _ h => by exact h) (Or.inr ⟨by rfl, rfl⟩) (by assumption) ?_
    try simp only [Act.put, List.setIfInBounds_toArray, List.set_cons_zero, List.set_cons_succ]
    refine wpAnyH_take (i := 6) (oi := _) (v := undef) (by rw [List.getElem?_toArray]; rfl) (by kernel_rfl) (by kernel_rfl) (by kernel_rfl) (fun _ _ _ h => by exact h) (Or.inr ⟨by rfl, rfl⟩) (by assumption) ?_
    try simp only [Act.put, List.setIfInBounds_toArray, List.set_cons_zero, List.set_cons_succ]
    refine wpAnyH_take (i := 7) (oi := _) (v := undef) (by rw [List.getElem?_toArray]; rfl) (by kernel_rfl) (by kernel_rfl) (by kernel_rfl) (fun _ _ _ h => by exact h) (Or.inr ⟨by rfl, rfl⟩) (by assumption) ?_
    try simp only [Act.put, List.setIfInBounds_toArray, List.set_cons_zero, List.set_cons_succ]
    refine wpAnyH_take (i := 8) (oi := _) (v := undef) (by rw [List.getElem?_toArray]; rfl) (by kernel_rfl) (by kernel_rfl) (by kernel_rfl) (fun _ _ _ h => by exact h) (Or.inr ⟨by rfl, rfl⟩) (by assumption) ?_
    try simp only [Act.put, List.setIfInBounds_toArray, List.set_cons_zero, List.set_cons_succ]
    refine wpAnyH_take (i := 9) (oi := _) (v := undef) (by rw [List.getElem?_toArray]; rfl) (by kernel_rfl) (by kernel_rfl) (by kernel_rfl) (fun _ _ _ h => by exact h) (Or.inr ⟨by rfl, rfl⟩) (by assumption) ?_
    try simp only [Act.put, List.setIfInBounds_toArray, List.set_cons_zero, List.set_cons_succ]
    refine wpAnyH_take (i := 10) (oi := _) (v := undef) (by rw [List.getElem?_toArray]; rfl) (by kernel_rfl) (by kernel_rfl) (by kernel_rfl) (fun _ _ _ h => by exact h) (Or.inr ⟨by rfl, rfl⟩) (by assumption) ?_
    try simp only [Act.put, List.setIfInBounds_toArray, List.set_cons_zero, List.set_cons_succ]
    refine wpAnyH_take (i := 11) (oi := _) (v := undef) (by rw [List.getElem?_toArray]; rfl) (by kernel_rfl) (by kernel_rfl) (by kernel_rfl) (fun _ _ _ h => by exact h) (Or.inr ⟨by rfl, rfl⟩) (by assumption) ?_
    try simp only [Act.put, List.setIfInBounds_toArray, List.set_cons_zero, List.set_cons_succ]
    refine wpAnyH_take (i := 12) (oi := _) (v := undef) (by rw [List.getElem?_toArray]; rfl) (by kernel_rfl) (by kernel_rfl) (by kernel_rfl) (fun _ _ _ h => by exact h) (Or.inr ⟨by rfl, rfl⟩) (by assumption) ?_
    try simp only [Act.put, List.setIfInBounds_toArray, List.set_cons_zero, List.set_cons_succ]
    refine wpAnyH_take (i := 13) (oi := _) (v := undef) (by rw [List.getElem?_toArray]; rfl) (by kernel_rfl) (by kernel_rfl) (by kernel_rfl) (fun _ _ _ h => by exact h) (Or.inr ⟨by rfl, rfl⟩) (by assumption) ?_
    try simp only [Act.put, List.setIfInBounds_toArray, List.set_cons_zero, List.set_cons_succ]
    refine wpAnyH_take (i := 14) (oi := _) (v := undef) (by rw [List.getElem?_toArray]; rfl) (by kernel_rfl) (by kernel_rfl) (by kernel_rfl) (fun _ _ _ h => by exact h) (Or.inr ⟨by rfl, rfl⟩) (by assumption) ?_
    try simp only [Act.put, List.setIfInBounds_toArray, List.set_cons_zero, List.set_cons_succ]
    refine wpAnyH_take (i := 15) (oi := _) (v := ?_) (by rw [List.getElem?_toArray]; rfl) (by kernel_rfl) (by kernel_rfl) (by kernel_rfl) (fun _ _ _ h => by exact h) (Or.inl ⟨by rfl, ?_⟩) (by assumption) ?_
    rotate_left
    · (intro w hSw; (try dsimp only at hSw); go_simp; (try with_reducible rfl))
    try simp only [Act.put, List.setIfInBounds_toArray, List.set_cons_zero, List.set_cons_succ]
    refine wpAnyH_take (i := 16) (oi := _) (v := ?_) (by rw [List.getElem?_toArray]; rfl) (by kernel_rfl) (by kernel_rfl) (by kernel_rfl) (fun _ _ _ h => by exact h) (Or.inl ⟨by rfl, ?_⟩) (by assumption) ?_
    rotate_left
    · (intro w hSw; (try dsimp only at hSw); go_simp; (try with_reducible rfl))
    try simp only [Act.put, List.setIfInBounds_toArray, List.set_cons_zero, List.set_cons_succ]
    refine wpAnyH_done (by kernel_rfl) ?_ _
    go_wp2
    go_ret
    exact ⟨rfl, HF0D.out⟩
  · obtain ⟨j, HJ⟩ : ∃ j, Hid (l.length = j + 1) := ⟨l.length - 1, (show _ = _ by omega)⟩
    have hj := HJ.out
    obtain ⟨b, off, y, hao, Hy, _, d0, d1, _, _, _, _, _⟩ := HT.out.row.seven (show j < l.length by omega)
    have HSS : Hid (∀ W, Fr (fun _ => False) W0 W → W.cell? ⟨tb, 0, none⟩ = some (.slice ao l.length cap) ∧ W.cell? ⟨b, off + j * 7, none⟩ = some (.int .u64 (y.a0 : Int)) ∧ W.cell? ⟨b, off + j * 7 + 1, none⟩ = some (.int .u64 (y.a1 : Int)) ∧ C2 W bx (.int .u64 (s : Int)) (.int .u64 (q : Int))) := fun W f => ⟨f.cell HT.out.cell (by simp), f.cell d0 (by simp), f.cell d1 (by simp), HI0.out.fr f (by simp)⟩
    obtain ⟨o, Ho⟩ : ∃ o, Hid (ordI y.a0 y.a1 s q = o) := ⟨_, rfl⟩
    have HAH : Hid ((o < 0 → T = true) ∧ (¬ o < 0 → T = false)) := by
      have h1 := ordI_lt y.a0 y.a1 s q
      rw [Ho.out] at h1
      have h2 := ahead_last HT.out.srt HJ.out s q
      rw [HTT.out, Hy.out] at h2
      refine ⟨fun h => ?_, fun h => ?_⟩
      · rw [h2]; exact decide_eq_true (h1.1 h)
      · rw [h2]; exact decide_eq_false (fun e => h (h1.2 e))
    have nW : IntKind.i64.wrap ((l.length : Int) - 1) = (j : Int) := by rw [IntKind.wrap_i64]; omega
    have n0 : ¬ ((l.length : Int) = 0) := by omega
    have n1 : ((l.length : Int) == 0) = false := by simpa using hl0
    have n2 : (0 : Int) ≤ (j : Int) := by omega
    have n3 : (j : Int) < (l.length : Int) := by omega
    subst hao
    clear d0 d1 hj
    go_enter Try.func74, Try.ntmps74
    go_wp2_with fail
    rw [HW0.out, Hbx.out]
    clear hc
    refine wp_region_held_drew (S := (fun W1 : World => W1.cell? ⟨tb, 0, none⟩ = some (.slice (some ⟨b, off, none⟩) l.length cap) ∧ W1.cell? ⟨b, off + j * 7, none⟩ = some (.int .u64 (y.a0 : Int)) ∧ W1.cell? ⟨b, off + j * 7 + 1, none⟩ = some (.int .u64 (y.a1 : Int)) ∧ C2 W1 bx (.int .u64 (s : Int)) (.int .u64 (q : Int)))) (by kernel_rfl) (HSS.out _ (Fr.refl _ _).drew) (fun hHeld => ?_)
    refine wpAnyH_take (i := 0) (oi := _) (v := ?_) (by rw [List.getElem?_toArray]; rfl) (by kernel_rfl) (by kernel_rfl) (by kernel_rfl) (fun _ _ _ h => by exact h) (Or.inl ⟨by rfl, ?_⟩) (by assumption) ?_
    rotate_left
    · (intro w hSw; (try dsimp only at hSw); go_simp; (try with_reducible rfl))
    try simp only [Act.put, List.setIfInBounds_toArray, List.set_cons_zero, List.set_cons_succ]
    refine wpAnyH_take (i := 1) (oi := _) (v := ?_) (by rw [List.getElem?_toArray]; rfl) (by kernel_rfl) (by kernel_rfl) (by kernel_rfl) (fun _ _ _ h => by exact h) (Or.inl ⟨by rfl, ?_⟩) (by assumption) ?_
    rotate_left
    · (intro w hSw; (try dsimp only at hSw); go_simp; (try with_reducible rfl))
    try simp only [Act.put, List.setIfInBounds_toArray, List.set_cons_zero, List.set_cons_succ]
    refine wpAnyH_take (i := 2) (oi := _) (v := ?_) (by rw [List.getElem?_toArray]; rfl) (by kernel_rfl) (by kernel_rfl) (by kernel_rfl) (fun _ _ _ h => by exact h) (Or.inl ⟨by rfl, ?_⟩) (by assumption) ?_
    rotate_left
    · (intro w hSw; (try dsimp only at hSw); go_simp; (try with_reducible rfl))
    try simp only [Act.put, List.setIfInBounds_toArray, List.set_cons_zero, List.set_cons_succ]
    refine wpAnyH_take (i := 3) (oi := _) (v := ?_) (by rw [List.getElem?_toArray]; rfl) (by kernel_rfl) (by kernel_rfl) (by kernel_rfl) (fun _ _ _ h => by exact h) (Or.inl ⟨by rfl, ?_⟩) (by assumption) ?_
    rotate_left
    · (intro w hSw; (try dsimp only at hSw); go_simp; (try with_reducible rfl))
    try simp only [Act.put, List.setIfInBounds_toArray, List.set_cons_zero, List.set_cons_succ]
    refine wpAnyH_take (i := 4) (oi := _) (v := ?_) (by rw [List.getElem?_toArray]; rfl) (by kernel_rfl) (by kernel_rfl) (by kernel_rfl) (fun _ _ _ h => by exact h) (Or.inl ⟨by rfl, ?_⟩) (by assumption) ?_
    rotate_left
    · (intro w hSw; (try dsimp only at hSw); go_simp; (try with_reducible rfl))
    try simp only [Act.put, List.setIfInBounds_toArray, List.set_cons_zero, List.set_cons_succ]
    refine wpAnyH_take (i := 5) (oi := _) (v := ?_) (by rw [List.getElem?_toArray]; rfl) (by kernel_rfl) (by kernel_rfl) (by kernel_rfl) (fun _ _ _ h => by exact h) (Or.inl ⟨by rfl, ?_⟩) (by assumption) ?_
    rotate_left
    · (intro w hSw; (try dsimp only at hSw); go_simp; (try with_reducible rfl))
    try simp only [Act.put, List.setIfInBounds_toArray, List.set_cons_zero, List.set_cons_succ]
    refine wpAnyH_take (i := 6) (oi := _) (v := ?_) (by rw [List.getElem?_toArray]; rfl) (by kernel_rfl) (by kernel_rfl) (by kernel_rfl) (fun _ _ _ h => by exact h) (Or.inl ⟨by rfl, ?_⟩) (by assumption) ?_
    rotate_left
    · (intro w hSw; (try dsimp only at hSw); obtain ⟨c0, d0, d1, ⟨i0, i1⟩⟩ := hSw; go_simp; (try with_reducible rfl))
    try simp only [Act.put, List.setIfInBounds_toArray, List.set_cons_zero, List.set_cons_succ]
    refine wpAnyH_take (i := 7) (oi := _) (v := ?_) (by rw [List.getElem?_toArray]; rfl) (by kernel_rfl) (by kernel_rfl) (by kernel_rfl) (fun _ _ _ h => by exact h) (Or.inl ⟨by rfl, ?_⟩) (by assumption) ?_
    rotate_left
    · (intro w hSw; (try dsimp only at hSw); go_simp; (try with_reducible rfl))
    try simp only [Act.put, List.setIfInBounds_toArray, List.set_cons_zero, List.set_cons_succ]
    refine wpAnyH_take (i := 8) (oi := _) (v := ?_) (by rw [List.getElem?_toArray]; rfl) (by kernel_rfl) (by kernel_rfl) (by kernel_rfl) (fun _ _ _ h => by exact h) (Or.inl ⟨by rfl, ?_⟩) (by assumption) ?_
    rotate_left
    · (intro w hSw; (try dsimp only at hSw); go_simp; (try with_reducible rfl))
    try simp only [Act.put, List.setIfInBounds_toArray, List.set_cons_zero, List.set_cons_succ]
    refine wpAnyH_take (i := 9) (oi := _) (v := ?_) (by rw [List.getElem?_toArray]; rfl) (by kernel_rfl) (by kernel_rfl) (by kernel_rfl) (fun _ _ _ h => by exact h) (Or.inl ⟨by rfl, ?_⟩) (by assumption) ?_
    rotate_left
    · (intro w hSw; (try dsimp only at hSw); go_simp; (try with_reducible rfl))
    try simp only [Act.put, List.setIfInBounds_toArray, List.set_cons_zero, List.set_cons_succ]
    refine wpAnyH_take (i := 10) (oi := _) (v := ?_) (by rw [List.getElem?_toArray]; rfl) (by kernel_rfl) (by kernel_rfl) (by kernel_rfl) (fun _ _ _ h => by exact h) (Or.inl ⟨by rfl, ?_⟩) (by assumption) ?_
    rotate_left
    · (intro w hSw; (try dsimp only at hSw); go_simp; (try with_reducible rfl))
    try simp only [Act.put, List.setIfInBounds_toArray, List.set_cons_zero, List.set_cons_succ]
    refine wpAnyH_take (i := 11) (oi := _) (v := ?_) (by rw [List.getElem?_toArray]; rfl) (by kernel_rfl) (by kernel_rfl) (by kernel_rfl) (fun _ _ _ h => by exact h) (Or.inl ⟨by rfl, ?_⟩) (by assumption) ?_
    rotate_left
    · (intro w hSw; (try dsimp only at hSw); obtain ⟨c0, d0, d1, ⟨i0, i1⟩⟩ := hSw; go_simp; (try with_reducible rfl))
    try simp only [Act.put, List.setIfInBounds_toArray, List.set_cons_zero, List.set_cons_succ]
    refine wpAnyH_take (i := 12) (oi := _) (v := ?_) (by rw [List.getElem?_toArray]; rfl) (by kernel_rfl) (by kernel_rfl) (by kernel_rfl) (fun _ _ _ h => by exact h) (Or.inl ⟨by rfl, ?_⟩) (by assumption) ?_
    rotate_left
    · (intro w hSw; (try dsimp only at hSw); obtain ⟨c0, d0, d1, ⟨i0, i1⟩⟩ := hSw; go_simp; (try with_reducible rfl))
    try simp only [Act.put, List.setIfInBounds_toArray, List.set_cons_zero, List.set_cons_succ]
    refine wpAnyH_ready (rs := [13]) (by kernel_rfl) (by simp) ?_
    refine AllReadyH.cons (o := _) (by rw [List.getElem?_toArray]; rfl) (fun K hK => ?_) ?_
    · go_simp
      go_wp2_with (go_at_call 88; refine (order_any y.a0 y.a1 s q _).mono ?_; rintro e w9 ⟨rfl, f9⟩)
      have HF9 : Hid (Fr (fun _ => False) W0 w9) := ((Fr.refl _ _).drew).trans f9
      clear f9
      rw [Ho.out]
      refine hK.out _ _ (HSS.out _ HF9.out) (fun hHeld => ?_)
      clear hK K
      try simp only [Act.put, List.setIfInBounds_toArray, List.set_cons_zero, List.set_cons_succ]
      by_cases ho : o < 0
      · have hoB : decide (o < 0) = true := decide_eq_true ho
        refine wpAnyH_take (i := 14) (oi := _) (v := ?_) (by rw [List.getElem?_toArray]; rfl) (by kernel_rfl) (by kernel_rfl) (by kernel_rfl) (fun _ _ _ h => by exact h) (Or.inl ⟨by rfl, ?_⟩) (by assumption) ?_
        rotate_left
        · (intro w hSw; (try dsimp only at hSw); go_simp; (try with_reducible rfl))
        try simp only [Act.put, List.setIfInBounds_toArray, List.set_cons_zero, List.set_cons_succ]
        refine wpAnyH_take (i := 15) (oi := _) (v := ?_) (by rw [List.getElem?_toArray]; rfl) (by kernel_rfl) (by kernel_rfl) (by kernel_rfl) (fun _ _ _ h => by exact h) (Or.inl ⟨by rfl, ?_⟩) (by assumption) ?_
        rotate_left
        · (intro w hSw; (try dsimp only at hSw); go_simp; (try with_reducible rfl))
        try simp only [Act.put, List.setIfInBounds_toArray, List.set_cons_zero, List.set_cons_succ]
        refine wpAnyH_take (i := 16) (oi := _) (v := ?_) (by rw [List.getElem?_toArray]; rfl) (by kernel_rfl) (by kernel_rfl) (by kernel_rfl) (fun _ _ _ h => by exact h) (Or.inl ⟨by rfl, ?_⟩) (by assumption) ?_
        rotate_left
        · (intro w hSw; (try dsimp only at hSw); go_simp; (try with_reducible rfl))
        try simp only [Act.put, List.setIfInBounds_toArray, List.set_cons_zero, List.set_cons_succ]
        have hT9 := HAH.out.1 ho
        subst hT9
        refine wpAnyH_done (by kernel_rfl) ?_ _
        go_wp2
        go_ret
        exact ⟨rfl, F0.out.trans HF9.out⟩
      · have hoB : decide (o < 0) = false := decide_eq_false ho
        refine wpAnyH_take (i := 14) (oi := _) (v := ?_) (by rw [List.getElem?_toArray]; rfl) (by kernel_rfl) (by kernel_rfl) (by kernel_rfl) (fun _ _ _ h => by exact h) (Or.inl ⟨by rfl, ?_⟩) (by assumption) ?_
        rotate_left
        · (intro w hSw; (try dsimp only at hSw); go_simp; (try with_reducible rfl))
        try simp only [Act.put, List.setIfInBounds_toArray, List.set_cons_zero, List.set_cons_succ]
        refine wpAnyH_take (i := 15) (oi := _) (v := ?_) (by rw [List.getElem?_toArray]; rfl) (by kernel_rfl) (by kernel_rfl) (by kernel_rfl) (fun _ _ _ h => by exact h) (Or.inl ⟨by rfl, ?_⟩) (by assumption) ?_
        rotate_left
        · (intro w hSw; (try dsimp only at hSw); go_simp; (try with_reducible rfl))
        try simp only [Act.put, List.setIfInBounds_toArray, List.set_cons_zero, List.set_cons_succ]
        refine wpAnyH_take (i := 16) (oi := _) (v := ?_) (by rw [List.getElem?_toArray]; rfl) (by kernel_rfl) (by kernel_rfl) (by kernel_rfl) (fun _ _ _ h => by exact h) (Or.inl ⟨by rfl, ?_⟩) (by assumption) ?_
        rotate_left
        · (intro w hSw; (try dsimp only at hSw); go_simp; (try with_reducible rfl))
        try simp only [Act.put, List.setIfInBounds_toArray, List.set_cons_zero, List.set_cons_succ]
        have hT9 := HAH.out.2 (by omega)
        subst hT9
        refine wpAnyH_done (by kernel_rfl) ?_ _
        go_wp2
        go_ret
        exact ⟨rfl, F0.out.trans HF9.out⟩
    exact AllReadyH.nil
theorem TabP.frLow {S : Nat → Prop} {w w1 : World} {base tb : Nat} {ao : Option Addr} {cap : Nat} {l : List Hd} (h : TabP w base tb ao cap l) (f : Fr S w w1) (hs : ∀ k, S k → k < base) : TabP w1 base tb ao cap l := by
  have hlo := h.low
  have ht : ¬ S tb := fun e => by have := hs _ e; omega
  exact ⟨f.cell h.cell ht, (f.frozenEq (a := ⟨tb, 0, none⟩) h.lt ht).trans h.free, h.low, h.own.fr f (fun k e e2 => by have := h.own.lt k e; have := hs _ e2; omega), h.beside, h.srt, h.alone, fun x hx => (h.ok x hx).frD f (h.ins x hx) (fun k hk e => by have := hs _ e; omega), h.ins, h.sh⟩
theorem encX_ge (x : Hd) : 40 ≤ (encX x).length := by
  unfold encX
  simp [Crc.le_length, encFl_len, encS_len]
  omega
theorem encs_ge (l : List Hd) : 40 * l.length ≤ (l.flatMap encX).length := by
  induction l with
  | nil => exact Nat.le_refl _
  | cons x l ih => rw [List.flatMap_cons, List.length_append, List.length_cons]; have := encX_ge x; omega
theorem at_end {l : List Hd} {s q p : Nat} (h : ∀ x ∈ l, x.lt s q) (hp : At l s q p) : p = l.length := by
  have h1 := hp.le
  rcases Nat.lt_or_ge p l.length with hlt | hge
  · have h2 := hp.hi p (Nat.le_refl _) hlt
    exact absurd (h _ (by rw [gd hlt]; exact List.getElem_mem _)) h2
  · omega
theorem put_end {l : List Hd} {x : Hd} : putH l l.length x = l ++ [x] := by
  rw [put_new (by unfold heldAt; exact decide_eq_false (fun h => by omega))]
  simp
set_option maxRecDepth 100000 in
set_option maxHeartbeats 16000000 in
theorem dec_any (ao : Option Addr) (l : List Nat) (cap : Nat) (w : World) (hr : Row w ao l cap) (hlen : l.length ≤ 5000) :
    Calls Try.prog 33 #[.slice ao l.length cap] w fun e w' => Fr (fun _ => False) w w' ∧ (e = .returned (.tuple #[.pointer none, .int .i64 5]) ∨ ∃ (tb : Nat) (a1 : Option Addr) (c1 : Nat) (ls : List Hd), e = .returned (.tuple #[.pointer (some ⟨tb, 0, none⟩), .int .i64 0]) ∧ Hid (TabP w' tb tb a1 c1 ls ∧ encT ls = l ∧ (∀ x ∈ ls, x.u) ∧ ls.length ≤ 125 ∧ w.heap.size ≤ tb)) := by
  have K0 : Hid (Calls _ _ _ _ _) := read_gen w ao l cap hr
  have HBL : Hid (l ≠ [] → ∀ a, ao = some a → a.block < w.heap.size) := fun hne a ha => by
    obtain ⟨g, off, hg, hc⟩ := hr.2.2.2.2 hne
    rw [hg] at ha
    cases ha
    exact World.block_lt_of_cell? _ _ (hc 0 (List.length_pos_iff.2 hne))
  obtain ⟨rb, Hrb⟩ : ∃ r, Hid (w.heap.size = r) := ⟨_, rfl⟩
  rw [Hrb.out] at K0 HBL
  clear hr
  go_enter Try.func33, Try.ntmps33
  go_wp2_with fail
  refine K0.out.mono ?_
  rintro e w1 ⟨rfl, h1, f1⟩
  have F1 : Hid (Fr (fun _ => False) w w1) := f1
  have HRX1 : Hid (Rx w1 rb rb ⟨l, false⟩) := ⟨ao, cap, h1, HBL.out⟩
  have FA : Hid (Fr (fun _ => False) w1 (w1.alloc (.cells #[.slice none 0 0] 88))) := (Fr.refl _ _).alloc _
  have HT2 : Hid (TabP (w1.alloc (.cells #[.slice none 0 0] 88)) w1.heap.size w1.heap.size none 0 []) := tab_new w1 88
  have HRX2 : Hid (Rx (w1.alloc (.cells #[.slice none 0 0] 88)) rb rb ⟨l, false⟩) := HRX1.out.fr FA.out (by simp) (by simp)
  have F2 : Hid (Fr (fun _ => False) w (w1.alloc (.cells #[.slice none 0 0] 88))) := F1.out.trans FA.out
  have HLT : Hid (rb < w1.heap.size) := HRX1.out.lt
  have KN : Hid (Calls _ _ _ _ _) := new_any w1
  clear h1 f1 K0 FA
  go_wp2_with fail
  refine KN.out.mono ?_
  rintro e w2 ⟨rfl, hw2⟩
  rw [hw2]
  clear hw2 KN
  obtain ⟨tb, Htb⟩ : ∃ t, Hid (w1.heap.size = t) := ⟨_, rfl⟩
  obtain ⟨W2, HW2⟩ : ∃ W, Hid (w1.alloc (.cells #[.slice none 0 0] 88) = W) := ⟨_, rfl⟩
  rw [HW2.out] at HT2 HRX2 F2 ⊢
  rw [Htb.out] at HT2 HLT ⊢
  have KL : Hid (Calls _ _ _ _ _) := left_x HRX2.out
  go_wp2_with fail
  refine KL.out.mono ?_
  rintro e w3 ⟨rfl, hw3⟩
  rw [hw3]
  clear hw3 KL
  have KC : Hid (Calls _ _ _ _ _) := count_x l.length HRX2.out (by omega)
  go_wp2_with fail
  refine KC.out.mono ?_
  rintro e w4 ⟨n, cs, rfl, EN, ES, hn, h4, f4⟩
  have HRX4 : Hid (Rx w4 rb rb cs) := h4
  have HT4 : Hid (TabP w4 tb tb none 0 []) := HT2.out.frLow f4 (fun k e => by have := HLT.out; omega)
  have F4 : Hid (Fr (fun _ => False) w w4) := F2.out.trans' f4 (fun i hi e => by have := Hrb.out; omega)
  have HNL : Hid (n ≤ 5000) := (show _ ≤ _ by omega)
  have HCL : Hid (cs.bad = false → Crc.le 4 n ++ cs.l = l) := (show _ → _ by
    intro hb
    rw [ES.out] at hb
    have h9 := cnt_back ⟨l, false⟩ l.length HRX1.out.byte hb
    rw [EN.out, ES.out]
    exact h9.2.1.symm)
  clear h4 f4 KC
  go_wp2
  go_loopw [14] (fun iv wr => ∃ (k : Nat) (a1 : Option Addr) (c1 : Nat) (ls : List Hd) (s : Rs), k ≤ n ∧ iv = .int .i64 (k : Int) ∧ Hid (ls.length = k) ∧ Hid (TabP wr tb tb a1 c1 ls) ∧ Hid (Rx wr rb rb s) ∧ Hid (s.bad = false → cs.bad = false ∧ cs.l = ls.flatMap encX ++ s.l) ∧ Hid (∀ x ∈ ls, x.u) ∧ Hid (k = 0 ∨ s.bad = false) ∧ Hid (Fr (fun _ => False) w wr)) (fun iv _ => n - (intOf iv).toNat)
  case atStart => exact ⟨0, none, 0, [], cs, Nat.zero_le _, rfl, rfl, HT4.out, HRX4.out, fun h => ⟨h, rfl⟩, fun x hx => (by cases hx), Or.inl rfl, F4.out⟩
  case round =>
    obtain ⟨k, a1, c1, ls, s, hk, rfl, HLL, HT, HR, HCS, HU, HK0, HF⟩ := hrel
    have HK125 : Hid (k ≤ 125) := (show _ ≤ _ by
      rcases HK0.out with h | h
      · omega
      · obtain ⟨h5, h6⟩ := HCS.out h
        have h7 := HCL.out h5
        have h8 := congrArg List.length h7
        rw [h6] at h8
        simp only [List.length_append, Crc.le_length] at h8
        have h9 := encs_ge ls
        rw [HLL.out] at h9
        omega)
    by_cases hlt : k < n
    · have z2 : (k : Int) < (n : Int) := by omega
      have KR : Hid (Calls _ _ _ _ _) := read_x HR.out (by have := HT.out.lt; have := HLT.out; omega) (Nat.le_refl _)
      go_wp2_with fail
      refine KR.out.mono ?_
      rintro e w5 ⟨x, t, rfl, ET, EK, HXX, h5, f5⟩
      have HX5 : Hid (Rx w5 rb rb t) := h5
      have HT5 : Hid (TabP w5 tb tb a1 c1 ls) := HT.out.frLow f5 (fun k e => by have := HLT.out; omega)
      have F5 : Hid (Fr (fun _ => False) w w5) := HF.out.trans' f5 (fun i hi e => by have := Hrb.out; omega)
      have FB : Hid (Fr (fun _ => False) w5 (w5.alloc (.cells #[.int .u64 (x.a0 : Int), .int .u64 (x.a1 : Int), .int .u64 (x.a2 : Int), .slice x.ga x.g.length x.gc, .slice x.sa x.s.length x.sc, .slice x.pa x.p.length x.pc, .slice x.da x.dl.length x.dc] 29))) := (Fr.refl _ _).alloc _
      have HB6 : Hid (C7 (w5.alloc (.cells #[.int .u64 (x.a0 : Int), .int .u64 (x.a1 : Int), .int .u64 (x.a2 : Int), .slice x.ga x.g.length x.gc, .slice x.sa x.s.length x.sc, .slice x.pa x.p.length x.pc, .slice x.da x.dl.length x.dc] 29)) w5.heap.size (.int .u64 (x.a0 : Int)) (.int .u64 (x.a1 : Int)) (.int .u64 (x.a2 : Int)) (.slice x.ga x.g.length x.gc) (.slice x.sa x.s.length x.sc) (.slice x.pa x.p.length x.pc) (.slice x.da x.dl.length x.dc)) := C7.new w5 29 _ _ _ _ _ _ _
      have HX6 : Hid (Rx (w5.alloc (.cells #[.int .u64 (x.a0 : Int), .int .u64 (x.a1 : Int), .int .u64 (x.a2 : Int), .slice x.ga x.g.length x.gc, .slice x.sa x.s.length x.sc, .slice x.pa x.p.length x.pc, .slice x.da x.dl.length x.dc] 29)) rb rb t) := HX5.out.fr FB.out (by simp) (by simp)
      have HT6 : Hid (TabP (w5.alloc (.cells #[.int .u64 (x.a0 : Int), .int .u64 (x.a1 : Int), .int .u64 (x.a2 : Int), .slice x.ga x.g.length x.gc, .slice x.sa x.s.length x.sc, .slice x.pa x.p.length x.pc, .slice x.da x.dl.length x.dc] 29)) tb tb a1 c1 ls) := HT5.out.fr FB.out
      have F6 : Hid (Fr (fun _ => False) w (w5.alloc (.cells #[.int .u64 (x.a0 : Int), .int .u64 (x.a1 : Int), .int .u64 (x.a2 : Int), .slice x.ga x.g.length x.gc, .slice x.sa x.s.length x.sc, .slice x.pa x.p.length x.pc, .slice x.da x.dl.length x.dc] 29))) := F5.out.trans FB.out
      have HOK6 : Hid (x.ok (w5.alloc (.cells #[.int .u64 (x.a0 : Int), .int .u64 (x.a1 : Int), .int .u64 (x.a2 : Int), .slice x.ga x.g.length x.gc, .slice x.sa x.s.length x.sc, .slice x.pa x.p.length x.pc, .slice x.da x.dl.length x.dc] 29)) ∧ x.sh ∧ x.u) := ⟨HXX.out.1.fr FB.out, HXX.out.2.1, HXX.out.2.2.1⟩
      have KB : Hid (Calls _ _ _ _ _) := bad_x HX6.out
      have KA : Hid (Calls _ _ _ _ _) := aheadT_any x.a0 x.a1 tb tb a1 c1 ls (w5.alloc (.cells #[.int .u64 (x.a0 : Int), .int .u64 (x.a1 : Int), .int .u64 (x.a2 : Int), .slice x.ga x.g.length x.gc, .slice x.sa x.s.length x.sc, .slice x.pa x.p.length x.pc, .slice x.da x.dl.length x.dc] 29)) HT6.out (by have := HLL.out; have := HK125.out; omega)
      obtain ⟨xb, Hxb⟩ : ∃ b, Hid (w5.heap.size = b) := ⟨_, rfl⟩
      obtain ⟨bd, Hbd⟩ : ∃ bd, Hid (t.bad = bd) := ⟨_, rfl⟩
      obtain ⟨ab, Hab⟩ : ∃ ab, Hid (aheadB ls x.a0 x.a1 = ab) := ⟨_, rfl⟩
      rw [Hxb.out] at HB6
      rw [Hbd.out] at KB
      rw [Hab.out] at KA
      clear h5 f5 KR HX5 HT5
      go_wp2_with fail
      obtain ⟨W6, HW6⟩ : ∃ W, Hid (w5.alloc (.cells #[.int .u64 (x.a0 : Int), .int .u64 (x.a1 : Int), .int .u64 (x.a2 : Int), .slice x.ga x.g.length x.gc, .slice x.sa x.s.length x.sc, .slice x.pa x.p.length x.pc, .slice x.da x.dl.length x.dc] 29) = W) := ⟨_, rfl⟩
      rw [HW6.out] at HB6 HX6 HT6 F6 HOK6 KB KA ⊢
      rw [Hxb.out]
      refine KB.out.mono ?_
      rintro e w7 ⟨rfl, hw7⟩
      rw [hw7]
      clear hw7 KB
      cases bd with
      | true =>
        go_wp2
        go_ret2
        exact ⟨F6.out, Or.inl rfl⟩
      | false =>
        obtain ⟨d0, d1, d2, d3, d4, d5, d6⟩ := HB6.out
        go_wp2_with fail
        refine KA.out.mono ?_
        rintro e w8 ⟨rfl, f8⟩
        have F8 : Hid (Fr (fun _ => False) W6 w8) := f8
        clear f8 KA d0 d1 d2 d3 d4 d5 d6
        cases ab with
        | false =>
          go_wp2
          go_ret2
          exact ⟨F6.out.trans F8.out, Or.inl rfl⟩
        | true =>
          obtain ⟨d0, d1, d2, d3, d4, d5, d6⟩ := HB6.out.fr F8.out (by simp)
          have KT : Hid (Calls _ _ _ _ _) := take_at x tb tb a1 c1 ls w8 (HT6.out.fr F8.out) (HOK6.out.1.fr F8.out) HOK6.out.2.1 (by have := HLL.out; have := HK125.out; omega)
          go_wp2_with fail
          refine KT.out.mono ?_
          rintro e w9 (⟨_, rfl, f9⟩ | ⟨_, rfl, p, y, a9, c9, hat, hlk, hT9, _, f9⟩)
          · have F9 : Hid (Fr (fun _ => False) w w9) := (F6.out.trans F8.out).trans f9
            clear f9 KT d0 d1 d2 d3 d4 d5 d6
            go_wp2
            go_ret2
            exact ⟨F9.out, Or.inl rfl⟩
          · have hall : ∀ z ∈ ls, z.lt x.a0 x.a1 := fun z hz => of_decide_eq_true (List.all_eq_true.1 Hab.out z hz)
            have hpe := at_end hall hat
            subst hpe
            rw [put_end] at hT9
            have HT10 : Hid (TabP w9 tb tb a9 c9 (ls ++ [y])) := hT9
            have FX9 : Hid (Fr (fun k => k = tb ∨ ∃ a, a1 = some a ∧ a.block = k) w8 w9) := f9
            have HLOW : Hid (∀ k, (k = tb ∨ ∃ a, a1 = some a ∧ a.block = k) → tb ≤ k) := fun k e => by
              rcases e with e | ⟨a, ha, e⟩
              · omega
              · have := (HT6.out.blk a ha).2.1; omega
            have HR10 : Hid (Rx w9 rb rb t) := (HX6.out.fr F8.out (by simp) (by simp)).frB FX9.out (fun k e => by have := HLOW.out k e; have := HLT.out; omega)
            have HSZ : Hid (w.heap.size < tb) := (show _ < _ by have := HLT.out; have := Hrb.out; omega)
            have F10 : Hid (Fr (fun _ => False) w w9) := (F6.out.trans F8.out).trans' FX9.out (fun i hi e => by have := HLOW.out i e; have := HSZ.out; omega)
            have hky := (like_iff y x).1 hlk
            have HC10 : Hid (t.bad = false → cs.bad = false ∧ cs.l = (ls ++ [y]).flatMap encX ++ t.l) := (show _ → _ by
              intro hb
              have hb2 := hb
              rw [ET.out] at hb2
              obtain ⟨g1, g2, _⟩ := hold_back s HR.out.byte hb2
              obtain ⟨g4, g5⟩ := HCS.out g1
              refine ⟨g4, ?_⟩
              rw [g5, g2, List.flatMap_append, List.flatMap_cons, List.flatMap_nil, List.append_nil, encX_key y, hky, EK.out hb, ET.out, List.append_assoc])
            have HU10 : Hid (∀ z ∈ ls ++ [y], z.u) := (show ∀ _ ∈ _, _ by
              intro z hz
              rcases List.mem_append.1 hz with hz | hz
              · exact HU.out z hz
              · rw [List.mem_singleton] at hz
                subst hz
                have := HOK6.out.2.2
                unfold Hd.u at this ⊢
                rw [hlk.1, hlk.2.1, hlk.2.2.1]
                exact this)
            have HL10 : Hid ((ls ++ [y]).length = k + 1) := (show _ = _ by rw [List.length_append, HLL.out]; rfl)
            clear f9 hT9 hat hlk hky hall KT d0 d1 d2 d3 d4 d5 d6
            go_wp2
            go_roundw
            case rel => exact ⟨k + 1, a9, c9, ls ++ [y], t, by omega, by go_num, HL10.out, HT10.out, HR10.out, HC10.out, HU10.out, Or.inr Hbd.out, F10.out⟩
            case measure => simp [intOf]; omega
    · have z2 : ¬ (k : Int) < (n : Int) := by omega
      have KE : Hid (Calls _ _ _ _ _) := end_x HR.out
      obtain ⟨eb, Heb⟩ : ∃ eb, Hid (endV s = eb) := ⟨_, rfl⟩
      rw [Heb.out] at KE
      go_wp2_with fail
      refine KE.out.mono ?_
      rintro e w5 ⟨rfl, hw5⟩
      rw [hw5]
      clear hw5 KE
      cases eb with
      | false =>
        go_wp2
        go_ret2
        exact ⟨HF.out, Or.inl rfl⟩
      | true =>
        have HEND : Hid (encT ls = l) := (show _ = _ by
          have h9 := Heb.out
          unfold endV at h9
          simp only [Bool.and_eq_true, Bool.not_eq_true', beq_iff_eq] at h9
          obtain ⟨h10, h11⟩ := h9
          obtain ⟨h12, h13⟩ := HCS.out h10
          have h14 := HCL.out h12
          have h15 : s.l = [] := List.eq_nil_of_length_eq_zero (by omega)
          rw [h13, h15, List.append_nil] at h14
          have h16 : n = ls.length := by rw [HLL.out]; omega
          unfold encT
          rw [← h16]
          exact h14)
        go_wp2
        go_ret2
        exact ⟨HF.out, Or.inr ⟨tb, a1, c1, ls, rfl, ⟨HT.out, HEND.out, HU.out, by rw [HLL.out]; exact HK125.out, by have := HLT.out; have := Hrb.out; omega⟩⟩⟩
end Go.Proofs.Ytaalkhipncbjpaa
