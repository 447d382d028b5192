/- The document's Drop and Take, of any list of holds. -/
import Derived.Test.YtaalkhipncbjpaaTabM
import Derived.Test.YtaalkhipncbjpaaTapeC
namespace Go.Proofs.Ytaalkhipncbjpaa
open Go Go.RowKit
attribute [local go_sem] run_store_float
theorem filter_take_succ (l : List Hd) (f : Hd → Bool) (k : Nat) (hk : k < l.length) : (l.take (k + 1)).filter f = (l.take k).filter f ++ (if f (l.getD k dH) = true then [l.getD k dH] else []) := by
  rw [List.take_succ_eq_append_getElem hk, List.filter_append, gd hk]
  congr 1
  by_cases h : f l[k] = true
  · rw [if_pos h, List.filter_cons_of_pos h]; rfl
  · rw [if_neg h, List.filter_cons_of_neg h]; rfl
set_option maxRecDepth 100000 in
set_option maxHeartbeats 8000000 in
theorem refdrop_any (s q : Nat) (ao : Option Addr) (l : List Hd) (cap : Nat) (w : World) (hr : RowF w ao l cap) (hlen : l.length ≤ 1000) :
    Calls Try.prog 20 #[.slice ao l.length cap, .agg #[.int .u64 (s : Int), .int .u64 (q : Int)]] w fun e w' => ∃ a1 c1, e = .returned (.slice a1 (l.filter fun x => !x.is s q).length c1) ∧ OwnF w' w.heap.size 29 (.slice a1 (l.filter fun x => !x.is s q).length c1) (l.filter fun x => !x.is s q) ∧ Fr (fun _ => False) w w' := by
  have F0 : Hid (Fr (fun _ => False) w (w.alloc (.cells #[.int .u64 (s : Int), .int .u64 (q : Int)] 24))) := (Fr.refl (fun _ => False) w).alloc _
  have HI0 : Hid (C2 (w.alloc (.cells #[.int .u64 (s : Int), .int .u64 (q : Int)] 24)) w.heap.size (.int .u64 (s : Int)) (.int .u64 (q : Int))) := C2.new w 24 _ _
  have HR : Hid (RowF w ao l cap) := hr
  have hl1 : l.length ≤ 9223372036854775807 := hr.lens.1
  obtain ⟨bx, Hbx⟩ : ∃ bx, Hid (w.heap.size = bx) := ⟨_, rfl⟩
  obtain ⟨W0, HW0⟩ : ∃ W, Hid ((w.alloc (.cells #[.int .u64 (s : Int), .int .u64 (q : Int)] 24)) = W) := ⟨_, rfl⟩
  obtain ⟨B, HB⟩ : ∃ B, Hid (W0.heap.size = B) := ⟨_, rfl⟩
  rw [HW0.out] at F0 HI0
  have HBW : Hid (w.heap.size ≤ B) := (show _ ≤ _ by rw [← HB.out]; exact F0.out.size)
  rw [Hbx.out] at HI0
  clear hr
  go_enter Try.func20, Try.ntmps20
  go_wp2
  rw [Hbx.out, HW0.out]
  go_loopw [5, 6] (fun ov iv wr => ∃ (k : Nat) (m : List Hd) (a1 : Option Addr) (c1 : Nat), k ≤ l.length ∧ iv = .int .i64 (k : Int) ∧ ov = .slice a1 m.length c1 ∧ Hid (m = (l.take k).filter fun x => !x.is s q) ∧ Hid (OwnF wr B 29 (.slice a1 m.length c1) m) ∧ Hid (Fr (fun _ => False) W0 wr)) (fun _ iv _ => l.length - (intOf iv).toNat)
  case atStart => exact ⟨0, [], none, 0, Nat.zero_le _, rfl, rfl, (by show [] = (List.take 0 l).filter _; simp), OwnF.nil _ _ _, Fr.refl _ _⟩
  case round =>
    obtain ⟨k, m, a1, c1, hk, rfl, rfl, HMM, HO, HF⟩ := hrel
    by_cases hlt : k < l.length
    · obtain ⟨b, off, x, hao, Hx, hmem, d0, d1, d2, d3, d4, d5, d6⟩ := (HR.out.fr (F0.out.trans HF.out) (by simp)).seven hlt
      have HSS : Hid (∀ W, Fr (fun _ => False) wr W → (fun W1 : World => (W1.cell? ⟨b, off + k * 7, none⟩ = some (.int .u64 (x.a0 : Int)) ∧ W1.cell? ⟨b, off + k * 7 + 1, none⟩ = some (.int .u64 (x.a1 : Int)) ∧ W1.cell? ⟨b, off + k * 7 + 2, none⟩ = some (.int .u64 (x.a2 : Int)) ∧ W1.cell? ⟨b, off + k * 7 + 3, none⟩ = some (.slice x.ga x.g.length x.gc) ∧ W1.cell? ⟨b, off + k * 7 + 4, none⟩ = some (.slice x.sa x.s.length x.sc) ∧ W1.cell? ⟨b, off + k * 7 + 5, none⟩ = some (.slice x.pa x.p.length x.pc) ∧ W1.cell? ⟨b, off + k * 7 + 6, none⟩ = some (.slice x.da x.dl.length x.dc)) ∧ C2 W1 bx (.int .u64 (s : Int)) (.int .u64 (q : Int))) W) := fun W f => ⟨⟨f.cell d0 (by simp), f.cell d1 (by simp), f.cell d2 (by simp), f.cell d3 (by simp), f.cell d4 (by simp), f.cell d5 (by simp), f.cell d6 (by simp)⟩, (HI0.out.fr HF.out (by simp)).fr f (by simp)⟩
      have HML : Hid (m.length ≤ 1000) := (show _ ≤ _ by rw [HMM.out]; refine Nat.le_trans (List.length_filter_le _ _) ?_; simp; omega)
      have hn := filter_take_succ l (fun x => !x.is s q) k hlt
      rw [Hx.out, ← HMM.out] at hn
      have HN : Hid ((l.take (k + 1)).filter (fun x => !x.is s q) = m ++ (if (!x.is s q) = true then [x] else [])) := hn
      subst hao
      have z1 : (0 : Int) ≤ (k : Int) := by omega
      have z2 : (k : Int) < (l.length : Int) := by omega
      clear hmem hn d0 d1 d2 d3 d4 d5 d6
      obtain ⟨t, Ht⟩ : ∃ t, Hid (x.is s q = t) := ⟨_, rfl⟩
      cases t with
      | true =>
        have e0 : (x.a0 : Int) = (s : Int) := by have := of_decide_eq_true Ht.out; omega
        have e1 : (x.a1 : Int) = (q : Int) := by have := of_decide_eq_true Ht.out; omega
        go_wp2_with fail
        refine wp_region_held_drew (S := (fun W1 : World => (W1.cell? ⟨b, off + k * 7, none⟩ = some (.int .u64 (x.a0 : Int)) ∧ W1.cell? ⟨b, off + k * 7 + 1, none⟩ = some (.int .u64 (x.a1 : Int)) ∧ W1.cell? ⟨b, off + k * 7 + 2, none⟩ = some (.int .u64 (x.a2 : Int)) ∧ W1.cell? ⟨b, off + k * 7 + 3, none⟩ = some (.slice x.ga x.g.length x.gc) ∧ W1.cell? ⟨b, off + k * 7 + 4, none⟩ = some (.slice x.sa x.s.length x.sc) ∧ W1.cell? ⟨b, off + k * 7 + 5, none⟩ = some (.slice x.pa x.p.length x.pc) ∧ W1.cell? ⟨b, off + k * 7 + 6, none⟩ = some (.slice x.da x.dl.length x.dc)) ∧ C2 W1 bx (.int .u64 (s : Int)) (.int .u64 (q : Int)))) (by kernel_rfl) (HSS.out _ (Fr.refl _ _).drew) (fun hHeld => ?_)
        refine wpAnyH_take (i := 0) (oi := _) (v := ?_) (by rw [List.getElem?_toArray]; rfl) (by kernel_rfl) (by kernel_rfl) (by kernel_rfl) (fun _ _ _ h => by exact h) (Or.inl ⟨by rfl, ?_⟩) (by assumption) ?_
        rotate_left
        · (intro w hSw; (try dsimp only at hSw); go_simp; (try with_reducible rfl))
        try simp only [Act.put, List.setIfInBounds_toArray, List.set_cons_zero, List.set_cons_succ]
        refine wpAnyH_take (i := 1) (oi := _) (v := ?_) (by rw [List.getElem?_toArray]; rfl) (by kernel_rfl) (by kernel_rfl) (by kernel_rfl) (fun _ _ _ h => by exact h) (Or.inl ⟨by rfl, ?_⟩) (by assumption) ?_
        rotate_left
        · (intro w hSw; (try dsimp only at hSw); go_simp; (try with_reducible rfl))
        try simp only [Act.put, List.setIfInBounds_toArray, List.set_cons_zero, List.set_cons_succ]
        refine wpAnyH_take (i := 2) (oi := _) (v := ?_) (by rw [List.getElem?_toArray]; rfl) (by kernel_rfl) (by kernel_rfl) (by kernel_rfl) (fun _ _ _ h => by exact h) (Or.inl ⟨by rfl, ?_⟩) (by assumption) ?_
        rotate_left
        · (intro w hSw; (try dsimp only at hSw); go_simp; (try with_reducible rfl))
        try simp only [Act.put, List.setIfInBounds_toArray, List.set_cons_zero, List.set_cons_succ]
        refine wpAnyH_take (i := 3) (oi := _) (v := ?_) (by rw [List.getElem?_toArray]; rfl) (by kernel_rfl) (by kernel_rfl) (by kernel_rfl) (fun _ _ _ h => by exact h) (Or.inl ⟨by rfl, ?_⟩) (by assumption) ?_
        rotate_left
        · (intro w hSw; (try dsimp only at hSw); go_simp; (try with_reducible rfl))
        try simp only [Act.put, List.setIfInBounds_toArray, List.set_cons_zero, List.set_cons_succ]
        refine wpAnyH_take (i := 4) (oi := _) (v := ?_) (by rw [List.getElem?_toArray]; rfl) (by kernel_rfl) (by kernel_rfl) (by kernel_rfl) (fun _ _ _ h => by exact h) (Or.inl ⟨by rfl, ?_⟩) (by assumption) ?_
        rotate_left
        · (intro w hSw; (try dsimp only at hSw); obtain ⟨⟨d0, d1, d2, d3, d4, d5, d6⟩, ⟨i0, i1⟩⟩ := hSw; go_simp; (try with_reducible rfl))
        try simp only [Act.put, List.setIfInBounds_toArray, List.set_cons_zero, List.set_cons_succ]
        refine wpAnyH_take (i := 5) (oi := _) (v := ?_) (by rw [List.getElem?_toArray]; rfl) (by kernel_rfl) (by kernel_rfl) (by kernel_rfl) (fun _ _ _ h => by exact h) (Or.inl ⟨by rfl, ?_⟩) (by assumption) ?_
        rotate_left
        · (intro w hSw; (try dsimp only at hSw); obtain ⟨⟨d0, d1, d2, d3, d4, d5, d6⟩, ⟨i0, i1⟩⟩ := hSw; go_simp; (try with_reducible rfl))
        try simp only [Act.put, List.setIfInBounds_toArray, List.set_cons_zero, List.set_cons_succ]
        refine wpAnyH_take (i := 6) (oi := _) (v := ?_) (by rw [List.getElem?_toArray]; rfl) (by kernel_rfl) (by kernel_rfl) (by kernel_rfl) (fun _ _ _ h => by exact h) (Or.inl ⟨by rfl, ?_⟩) (by assumption) ?_
        rotate_left
        · (intro w hSw; (try dsimp only at hSw); go_simp; (try with_reducible rfl))
        try simp only [Act.put, List.setIfInBounds_toArray, List.set_cons_zero, List.set_cons_succ]
        refine wpAnyH_done (by kernel_rfl) ?_ _
        obtain ⟨wD, HWD⟩ : ∃ W, Hid (wr.drew = W) := ⟨_, rfl⟩
        have HFD : Hid (Fr (fun _ => False) W0 wr.drew) := HF.out.drew
        have HSD := HSS.out _ (Fr.refl _ wr).drew
        rw [HWD.out] at HFD HSD ⊢
        clear e0 e1
        go_wp2
        go_roundw
        case rel => exact ⟨k + 1, m, a1, c1, by omega, by go_num, rfl, (show _ = _ by rw [HN.out, Ht.out]; simp), HO.out.fr (((Fr.refl (fun _ => False) wr).drew).trans (by rw [HWD.out]; exact Fr.refl _ _)) (by simp), HFD.out⟩
        case measure => simp [intOf]; omega
      | false =>
        have e2 : (x.a0 : Int) = (s : Int) → (x.a1 : Int) ≠ (q : Int) := by have := of_decide_eq_false Ht.out; omega
        by_cases e0 : (x.a0 : Int) = (s : Int)
        · have hne : ¬ (x.a1 : Int) = (q : Int) := e2 e0
          clear e2
          go_wp2_with fail
          refine wp_region_held_drew (S := (fun W1 : World => (W1.cell? ⟨b, off + k * 7, none⟩ = some (.int .u64 (x.a0 : Int)) ∧ W1.cell? ⟨b, off + k * 7 + 1, none⟩ = some (.int .u64 (x.a1 : Int)) ∧ W1.cell? ⟨b, off + k * 7 + 2, none⟩ = some (.int .u64 (x.a2 : Int)) ∧ W1.cell? ⟨b, off + k * 7 + 3, none⟩ = some (.slice x.ga x.g.length x.gc) ∧ W1.cell? ⟨b, off + k * 7 + 4, none⟩ = some (.slice x.sa x.s.length x.sc) ∧ W1.cell? ⟨b, off + k * 7 + 5, none⟩ = some (.slice x.pa x.p.length x.pc) ∧ W1.cell? ⟨b, off + k * 7 + 6, none⟩ = some (.slice x.da x.dl.length x.dc)) ∧ C2 W1 bx (.int .u64 (s : Int)) (.int .u64 (q : Int)))) (by kernel_rfl) (HSS.out _ (Fr.refl _ _).drew) (fun hHeld => ?_)
          refine wpAnyH_take (i := 0) (oi := _) (v := ?_) (by rw [List.getElem?_toArray]; rfl) (by kernel_rfl) (by kernel_rfl) (by kernel_rfl) (fun _ _ _ h => by exact h) (Or.inl ⟨by rfl, ?_⟩) (by assumption) ?_
          rotate_left
          · (intro w hSw; (try dsimp only at hSw); go_simp; (try with_reducible rfl))
          try simp only [Act.put, List.setIfInBounds_toArray, List.set_cons_zero, List.set_cons_succ]
          refine wpAnyH_take (i := 1) (oi := _) (v := ?_) (by rw [List.getElem?_toArray]; rfl) (by kernel_rfl) (by kernel_rfl) (by kernel_rfl) (fun _ _ _ h => by exact h) (Or.inl ⟨by rfl, ?_⟩) (by assumption) ?_
          rotate_left
          · (intro w hSw; (try dsimp only at hSw); go_simp; (try with_reducible rfl))
          try simp only [Act.put, List.setIfInBounds_toArray, List.set_cons_zero, List.set_cons_succ]
          refine wpAnyH_take (i := 2) (oi := _) (v := ?_) (by rw [List.getElem?_toArray]; rfl) (by kernel_rfl) (by kernel_rfl) (by kernel_rfl) (fun _ _ _ h => by exact h) (Or.inl ⟨by rfl, ?_⟩) (by assumption) ?_
          rotate_left
          · (intro w hSw; (try dsimp only at hSw); go_simp; (try with_reducible rfl))
          try simp only [Act.put, List.setIfInBounds_toArray, List.set_cons_zero, List.set_cons_succ]
          refine wpAnyH_take (i := 3) (oi := _) (v := ?_) (by rw [List.getElem?_toArray]; rfl) (by kernel_rfl) (by kernel_rfl) (by kernel_rfl) (fun _ _ _ h => by exact h) (Or.inl ⟨by rfl, ?_⟩) (by assumption) ?_
          rotate_left
          · (intro w hSw; (try dsimp only at hSw); go_simp; (try with_reducible rfl))
          try simp only [Act.put, List.setIfInBounds_toArray, List.set_cons_zero, List.set_cons_succ]
          refine wpAnyH_take (i := 4) (oi := _) (v := ?_) (by rw [List.getElem?_toArray]; rfl) (by kernel_rfl) (by kernel_rfl) (by kernel_rfl) (fun _ _ _ h => by exact h) (Or.inl ⟨by rfl, ?_⟩) (by assumption) ?_
          rotate_left
          · (intro w hSw; (try dsimp only at hSw); obtain ⟨⟨d0, d1, d2, d3, d4, d5, d6⟩, ⟨i0, i1⟩⟩ := hSw; go_simp; (try with_reducible rfl))
          try simp only [Act.put, List.setIfInBounds_toArray, List.set_cons_zero, List.set_cons_succ]
          refine wpAnyH_take (i := 5) (oi := _) (v := ?_) (by rw [List.getElem?_toArray]; rfl) (by kernel_rfl) (by kernel_rfl) (by kernel_rfl) (fun _ _ _ h => by exact h) (Or.inl ⟨by rfl, ?_⟩) (by assumption) ?_
          rotate_left
          · (intro w hSw; (try dsimp only at hSw); obtain ⟨⟨d0, d1, d2, d3, d4, d5, d6⟩, ⟨i0, i1⟩⟩ := hSw; go_simp; (try with_reducible rfl))
          try simp only [Act.put, List.setIfInBounds_toArray, List.set_cons_zero, List.set_cons_succ]
          refine wpAnyH_take (i := 6) (oi := _) (v := ?_) (by rw [List.getElem?_toArray]; rfl) (by kernel_rfl) (by kernel_rfl) (by kernel_rfl) (fun _ _ _ h => by exact h) (Or.inl ⟨by rfl, ?_⟩) (by assumption) ?_
          rotate_left
          · (intro w hSw; (try dsimp only at hSw); go_simp; (try with_reducible rfl))
          try simp only [Act.put, List.setIfInBounds_toArray, List.set_cons_zero, List.set_cons_succ]
          refine wpAnyH_done (by kernel_rfl) ?_ _
          obtain ⟨wD, HWD⟩ : ∃ W, Hid (wr.drew = W) := ⟨_, rfl⟩
          have HFD : Hid (Fr (fun _ => False) W0 wr.drew) := HF.out.drew
          have HSD := HSS.out _ (Fr.refl _ wr).drew
          rw [HWD.out] at HFD HSD ⊢
          clear e0 hne
          obtain ⟨⟨d0, d1, d2, d3, d4, d5, d6⟩, _⟩ := HSD
          have FA : Hid (Fr (fun _ => False) W0 (wD.alloc (.cells #[.int .u64 (x.a0 : Int), .int .u64 (x.a1 : Int), .int .u64 (x.a2 : Int), .slice x.ga x.g.length x.gc, .slice x.sa x.s.length x.sc, .slice x.pa x.p.length x.pc, .slice x.da x.dl.length x.dc] 29))) := HFD.out.alloc _
          have HC : Hid (∀ j u, (flat [x])[j]? = some u → (wD.alloc (.cells #[.int .u64 (x.a0 : Int), .int .u64 (x.a1 : Int), .int .u64 (x.a2 : Int), .slice x.ga x.g.length x.gc, .slice x.sa x.s.length x.sc, .slice x.pa x.p.length x.pc, .slice x.da x.dl.length x.dc] 29)).cell? ((⟨wD.heap.size, 0, none⟩ : Addr).add j) = some u) := one_f wD x 29 _ rfl
          have HOA : Hid (OwnF (wD.alloc (.cells #[.int .u64 (x.a0 : Int), .int .u64 (x.a1 : Int), .int .u64 (x.a2 : Int), .slice x.ga x.g.length x.gc, .slice x.sa x.s.length x.sc, .slice x.pa x.p.length x.pc, .slice x.da x.dl.length x.dc] 29)) B 29 (.slice a1 m.length c1) m) := HO.out.fr (((Fr.refl (fun _ => False) wr).drew).trans (by rw [HWD.out]; exact (Fr.refl _ _).alloc _)) (by simp)
          have hbase : B ≤ (wD.alloc (.cells #[.int .u64 (x.a0 : Int), .int .u64 (x.a1 : Int), .int .u64 (x.a2 : Int), .slice x.ga x.g.length x.gc, .slice x.sa x.s.length x.sc, .slice x.pa x.p.length x.pc, .slice x.da x.dl.length x.dc] 29)).heap.size := by have := FA.out.size; have := F0.out.size; have := HB.out; omega
          have hbnd : m.length + 1 ≤ 1000000 := by have := HML.out; omega
          go_wp2_with (at_builtin; refine wpList_append_f rfl _ _ 40 29 rfl Try.underlying40 (.agg #[.int .u64 0, .int .u64 0, .int .u64 0, .slice none 0 0, .slice none 0 0, .slice none 0 0, .slice none 0 0]) 120 Try.info29 rfl (by decide) B _ m rfl HOA.out ⟨wD.heap.size, 0, none⟩ [x] 1 rfl HC.out hbase hbnd ?_)
          all_goals
            intro v7 w7 ho7 hg7 hat7
            obtain ⟨a7, c7, hv7, _⟩ := ho7.form
            obtain ⟨m7, Hm7⟩ : ∃ m7, Hid (m ++ [x] = m7) := ⟨_, rfl⟩
            rw [Hm7.out] at hv7 ho7
            subst hv7
            have HO7 : Hid (OwnF w7 B 29 (.slice a7 m7.length c7) m7) := ho7
            have HF7 : Hid (Fr (fun _ => False) W0 w7) := FA.out.grown hg7 (fun j hj => .inr (by have := (HOA.out.lt j hj).1; have := HB.out; omega))
            clear ho7 hg7 hat7 d0 d1 d2 d3 d4 d5 d6
            go_wp2
            go_roundw
            case rel => exact ⟨k + 1, m7, a7, c7, by omega, by go_num, rfl, (show _ = _ by rw [← Hm7.out, HN.out, Ht.out]; rfl), HO7.out, HF7.out⟩
            case measure => simp [intOf]; omega
        · have hne := e0
          clear e2
          go_wp2_with fail
          refine wp_region_held_drew (S := (fun W1 : World => (W1.cell? ⟨b, off + k * 7, none⟩ = some (.int .u64 (x.a0 : Int)) ∧ W1.cell? ⟨b, off + k * 7 + 1, none⟩ = some (.int .u64 (x.a1 : Int)) ∧ W1.cell? ⟨b, off + k * 7 + 2, none⟩ = some (.int .u64 (x.a2 : Int)) ∧ W1.cell? ⟨b, off + k * 7 + 3, none⟩ = some (.slice x.ga x.g.length x.gc) ∧ W1.cell? ⟨b, off + k * 7 + 4, none⟩ = some (.slice x.sa x.s.length x.sc) ∧ W1.cell? ⟨b, off + k * 7 + 5, none⟩ = some (.slice x.pa x.p.length x.pc) ∧ W1.cell? ⟨b, off + k * 7 + 6, none⟩ = some (.slice x.da x.dl.length x.dc)) ∧ C2 W1 bx (.int .u64 (s : Int)) (.int .u64 (q : Int)))) (by kernel_rfl) (HSS.out _ (Fr.refl _ _).drew) (fun hHeld => ?_)
          refine wpAnyH_take (i := 0) (oi := _) (v := ?_) (by rw [List.getElem?_toArray]; rfl) (by kernel_rfl) (by kernel_rfl) (by kernel_rfl) (fun _ _ _ h => by exact h) (Or.inl ⟨by rfl, ?_⟩) (by assumption) ?_
          rotate_left
          · (intro w hSw; (try dsimp only at hSw); go_simp; (try with_reducible rfl))
          try simp only [Act.put, List.setIfInBounds_toArray, List.set_cons_zero, List.set_cons_succ]
          refine wpAnyH_take (i := 1) (oi := _) (v := ?_) (by rw [List.getElem?_toArray]; rfl) (by kernel_rfl) (by kernel_rfl) (by kernel_rfl) (fun _ _ _ h => by exact h) (Or.inl ⟨by rfl, ?_⟩) (by assumption) ?_
          rotate_left
          · (intro w hSw; (try dsimp only at hSw); go_simp; (try with_reducible rfl))
          try simp only [Act.put, List.setIfInBounds_toArray, List.set_cons_zero, List.set_cons_succ]
          refine wpAnyH_take (i := 2) (oi := _) (v := ?_) (by rw [List.getElem?_toArray]; rfl) (by kernel_rfl) (by kernel_rfl) (by kernel_rfl) (fun _ _ _ h => by exact h) (Or.inl ⟨by rfl, ?_⟩) (by assumption) ?_
          rotate_left
          · (intro w hSw; (try dsimp only at hSw); go_simp; (try with_reducible rfl))
          try simp only [Act.put, List.setIfInBounds_toArray, List.set_cons_zero, List.set_cons_succ]
          refine wpAnyH_take (i := 3) (oi := _) (v := ?_) (by rw [List.getElem?_toArray]; rfl) (by kernel_rfl) (by kernel_rfl) (by kernel_rfl) (fun _ _ _ h => by exact h) (Or.inl ⟨by rfl, ?_⟩) (by assumption) ?_
          rotate_left
          · (intro w hSw; (try dsimp only at hSw); go_simp; (try with_reducible rfl))
          try simp only [Act.put, List.setIfInBounds_toArray, List.set_cons_zero, List.set_cons_succ]
          refine wpAnyH_take (i := 4) (oi := _) (v := ?_) (by rw [List.getElem?_toArray]; rfl) (by kernel_rfl) (by kernel_rfl) (by kernel_rfl) (fun _ _ _ h => by exact h) (Or.inl ⟨by rfl, ?_⟩) (by assumption) ?_
          rotate_left
          · (intro w hSw; (try dsimp only at hSw); obtain ⟨⟨d0, d1, d2, d3, d4, d5, d6⟩, ⟨i0, i1⟩⟩ := hSw; go_simp; (try with_reducible rfl))
          try simp only [Act.put, List.setIfInBounds_toArray, List.set_cons_zero, List.set_cons_succ]
          refine wpAnyH_take (i := 5) (oi := _) (v := ?_) (by rw [List.getElem?_toArray]; rfl) (by kernel_rfl) (by kernel_rfl) (by kernel_rfl) (fun _ _ _ h => by exact h) (Or.inl ⟨by rfl, ?_⟩) (by assumption) ?_
          rotate_left
          · (intro w hSw; (try dsimp only at hSw); obtain ⟨⟨d0, d1, d2, d3, d4, d5, d6⟩, ⟨i0, i1⟩⟩ := hSw; go_simp; (try with_reducible rfl))
          try simp only [Act.put, List.setIfInBounds_toArray, List.set_cons_zero, List.set_cons_succ]
          refine wpAnyH_take (i := 6) (oi := _) (v := ?_) (by rw [List.getElem?_toArray]; rfl) (by kernel_rfl) (by kernel_rfl) (by kernel_rfl) (fun _ _ _ h => by exact h) (Or.inl ⟨by rfl, ?_⟩) (by assumption) ?_
          rotate_left
          · (intro w hSw; (try dsimp only at hSw); go_simp; (try with_reducible rfl))
          try simp only [Act.put, List.setIfInBounds_toArray, List.set_cons_zero, List.set_cons_succ]
          refine wpAnyH_done (by kernel_rfl) ?_ _
          obtain ⟨wD, HWD⟩ : ∃ W, Hid (wr.drew = W) := ⟨_, rfl⟩
          have HFD : Hid (Fr (fun _ => False) W0 wr.drew) := HF.out.drew
          have HSD := HSS.out _ (Fr.refl _ wr).drew
          rw [HWD.out] at HFD HSD ⊢
          clear e0 hne
          obtain ⟨⟨d0, d1, d2, d3, d4, d5, d6⟩, _⟩ := HSD
          have FA : Hid (Fr (fun _ => False) W0 (wD.alloc (.cells #[.int .u64 (x.a0 : Int), .int .u64 (x.a1 : Int), .int .u64 (x.a2 : Int), .slice x.ga x.g.length x.gc, .slice x.sa x.s.length x.sc, .slice x.pa x.p.length x.pc, .slice x.da x.dl.length x.dc] 29))) := HFD.out.alloc _
          have HC : Hid (∀ j u, (flat [x])[j]? = some u → (wD.alloc (.cells #[.int .u64 (x.a0 : Int), .int .u64 (x.a1 : Int), .int .u64 (x.a2 : Int), .slice x.ga x.g.length x.gc, .slice x.sa x.s.length x.sc, .slice x.pa x.p.length x.pc, .slice x.da x.dl.length x.dc] 29)).cell? ((⟨wD.heap.size, 0, none⟩ : Addr).add j) = some u) := one_f wD x 29 _ rfl
          have HOA : Hid (OwnF (wD.alloc (.cells #[.int .u64 (x.a0 : Int), .int .u64 (x.a1 : Int), .int .u64 (x.a2 : Int), .slice x.ga x.g.length x.gc, .slice x.sa x.s.length x.sc, .slice x.pa x.p.length x.pc, .slice x.da x.dl.length x.dc] 29)) B 29 (.slice a1 m.length c1) m) := HO.out.fr (((Fr.refl (fun _ => False) wr).drew).trans (by rw [HWD.out]; exact (Fr.refl _ _).alloc _)) (by simp)
          have hbase : B ≤ (wD.alloc (.cells #[.int .u64 (x.a0 : Int), .int .u64 (x.a1 : Int), .int .u64 (x.a2 : Int), .slice x.ga x.g.length x.gc, .slice x.sa x.s.length x.sc, .slice x.pa x.p.length x.pc, .slice x.da x.dl.length x.dc] 29)).heap.size := by have := FA.out.size; have := F0.out.size; have := HB.out; omega
          have hbnd : m.length + 1 ≤ 1000000 := by have := HML.out; omega
          go_wp2_with (at_builtin; refine wpList_append_f rfl _ _ 40 29 rfl Try.underlying40 (.agg #[.int .u64 0, .int .u64 0, .int .u64 0, .slice none 0 0, .slice none 0 0, .slice none 0 0, .slice none 0 0]) 120 Try.info29 rfl (by decide) B _ m rfl HOA.out ⟨wD.heap.size, 0, none⟩ [x] 1 rfl HC.out hbase hbnd ?_)
          all_goals
            intro v7 w7 ho7 hg7 hat7
            obtain ⟨a7, c7, hv7, _⟩ := ho7.form
            obtain ⟨m7, Hm7⟩ : ∃ m7, Hid (m ++ [x] = m7) := ⟨_, rfl⟩
            rw [Hm7.out] at hv7 ho7
            subst hv7
            have HO7 : Hid (OwnF w7 B 29 (.slice a7 m7.length c7) m7) := ho7
            have HF7 : Hid (Fr (fun _ => False) W0 w7) := FA.out.grown hg7 (fun j hj => .inr (by have := (HOA.out.lt j hj).1; have := HB.out; omega))
            clear ho7 hg7 hat7 d0 d1 d2 d3 d4 d5 d6
            go_wp2
            go_roundw
            case rel => exact ⟨k + 1, m7, a7, c7, by omega, by go_num, rfl, (show _ = _ by rw [← Hm7.out, HN.out, Ht.out]; rfl), HO7.out, HF7.out⟩
            case measure => simp [intOf]; omega
    · have z2 : ¬ (k : Int) < (l.length : Int) := by omega
      have hm : m = l.filter fun x => !x.is s q := by have := HMM.out; rwa [List.take_of_length_le (by omega)] at this
      subst hm
      go_wp2
      go_ret
      exact ⟨a1, c1, rfl, HO.out.rebase HBW.out, F0.out.trans HF.out⟩
set_option maxRecDepth 100000 in
set_option maxHeartbeats 16000000 in
theorem reftake_any (h : Hd) (ao : Option Addr) (l : List Hd) (cap : Nat) (w : World) (hr : RowF w ao l cap) (hok : ∀ x ∈ l, x.ok w) (hh : h.ok w) (hlen : l.length ≤ 1000) :
    Calls Try.prog 22 #[.slice ao l.length cap, .agg #[.int .u64 (h.a0 : Int), .int .u64 (h.a1 : Int), .int .u64 (h.a2 : Int), .slice h.ga h.g.length h.gc, .slice h.sa h.s.length h.sc, .slice h.pa h.p.length h.pc, .slice h.da h.dl.length h.dc]] w fun e w' =>
      ((l.any (fun x => !x.id h && x.meets h)) = true ∧ e = .returned (.tuple #[.slice ao l.length cap, .bool false]) ∧ Fr (fun _ => False) w w') ∨
      ((l.any (fun x => !x.id h && x.meets h)) = false ∧ ∃ a1 c1, e = .returned (.tuple #[.slice a1 ((l.filter fun x => !x.is h.a0 h.a1) ++ [h]).length c1, .bool true]) ∧ OwnF w' w.heap.size 29 (.slice a1 ((l.filter fun x => !x.is h.a0 h.a1) ++ [h]).length c1) ((l.filter fun x => !x.is h.a0 h.a1) ++ [h]) ∧ Fr (fun _ => False) w w') := by
  have F0 : Hid (Fr (fun _ => False) w (w.alloc (.cells #[.int .u64 (h.a0 : Int), .int .u64 (h.a1 : Int), .int .u64 (h.a2 : Int), .slice h.ga h.g.length h.gc, .slice h.sa h.s.length h.sc, .slice h.pa h.p.length h.pc, .slice h.da h.dl.length h.dc] 29))) := (Fr.refl (fun _ => False) w).alloc _
  have HB0 : Hid (C7 (w.alloc (.cells #[.int .u64 (h.a0 : Int), .int .u64 (h.a1 : Int), .int .u64 (h.a2 : Int), .slice h.ga h.g.length h.gc, .slice h.sa h.s.length h.sc, .slice h.pa h.p.length h.pc, .slice h.da h.dl.length h.dc] 29)) w.heap.size (.int .u64 (h.a0 : Int)) (.int .u64 (h.a1 : Int)) (.int .u64 (h.a2 : Int)) (.slice h.ga h.g.length h.gc) (.slice h.sa h.s.length h.sc) (.slice h.pa h.p.length h.pc) (.slice h.da h.dl.length h.dc)) := C7.new w 29 _ _ _ _ _ _ _
  have HR : Hid (RowF w ao l cap) := hr
  have HOK : Hid (∀ x ∈ l, x.ok w) := hok
  have HH : Hid (h.ok w) := hh
  have hl1 : l.length ≤ 9223372036854775807 := hr.lens.1
  have HFL : Hid ((l.filter fun x => !x.is h.a0 h.a1).length ≤ 1000) := Nat.le_trans (List.length_filter_le _ _) hlen
  obtain ⟨T, HTT⟩ : ∃ T, Hid ((l.any fun x => !x.id h && x.meets h) = T) := ⟨_, rfl⟩
  obtain ⟨M, HMM⟩ : ∃ M, Hid ((l.filter fun x => !x.is h.a0 h.a1) ++ [h] = M) := ⟨_, rfl⟩
  rw [HTT.out, HMM.out]
  obtain ⟨bx, Hbx⟩ : ∃ bx, Hid (w.heap.size = bx) := ⟨_, rfl⟩
  obtain ⟨W0, HW0⟩ : ∃ W, Hid ((w.alloc (.cells #[.int .u64 (h.a0 : Int), .int .u64 (h.a1 : Int), .int .u64 (h.a2 : Int), .slice h.ga h.g.length h.gc, .slice h.sa h.s.length h.sc, .slice h.pa h.p.length h.pc, .slice h.da h.dl.length h.dc] 29)) = W) := ⟨_, rfl⟩
  rw [HW0.out] at F0 HB0
  rw [Hbx.out] at HB0
  clear hr hok hh
  go_enter Try.func22, Try.ntmps22
  go_wp2
  rw [Hbx.out, HW0.out]
  go_loopw [6] (fun iv wr => ∃ k : Nat, k ≤ l.length ∧ iv = .int .i64 (k : Int) ∧ Hid ((l.take k).any (fun x => !x.id h && x.meets h) = false) ∧ Hid (Fr (fun _ => False) W0 wr)) (fun iv _ => l.length - (intOf iv).toNat)
  case atStart => exact ⟨0, Nat.zero_le _, rfl, (by show (List.take 0 l).any _ = false; simp), Fr.refl _ _⟩
  case round =>
    obtain ⟨k, hk, rfl, HA, HF⟩ := hrel
    by_cases hlt : k < l.length
    · obtain ⟨b, off, x, hao, Hx, hmem, d0, d1, d2, d3, d4, d5, d6⟩ := (HR.out.fr (F0.out.trans HF.out) (by simp)).seven hlt
      have HSS : Hid (∀ W, Fr (fun _ => False) wr W → (fun W1 : World => (W1.cell? ⟨b, off + k * 7, none⟩ = some (.int .u64 (x.a0 : Int)) ∧ W1.cell? ⟨b, off + k * 7 + 1, none⟩ = some (.int .u64 (x.a1 : Int)) ∧ W1.cell? ⟨b, off + k * 7 + 2, none⟩ = some (.int .u64 (x.a2 : Int)) ∧ W1.cell? ⟨b, off + k * 7 + 3, none⟩ = some (.slice x.ga x.g.length x.gc) ∧ W1.cell? ⟨b, off + k * 7 + 4, none⟩ = some (.slice x.sa x.s.length x.sc) ∧ W1.cell? ⟨b, off + k * 7 + 5, none⟩ = some (.slice x.pa x.p.length x.pc) ∧ W1.cell? ⟨b, off + k * 7 + 6, none⟩ = some (.slice x.da x.dl.length x.dc)) ∧ C7 W1 bx (.int .u64 (h.a0 : Int)) (.int .u64 (h.a1 : Int)) (.int .u64 (h.a2 : Int)) (.slice h.ga h.g.length h.gc) (.slice h.sa h.s.length h.sc) (.slice h.pa h.p.length h.pc) (.slice h.da h.dl.length h.dc)) W) := fun W f => ⟨⟨f.cell d0 (by simp), f.cell d1 (by simp), f.cell d2 (by simp), f.cell d3 (by simp), f.cell d4 (by simp), f.cell d5 (by simp), f.cell d6 (by simp)⟩, (HB0.out.fr HF.out (by simp)).fr f (by simp)⟩
      have hn : (fun x : Hd => !x.id h && x.meets h) (l.getD k dH) = false → (l.take (k + 1)).any (fun x => !x.id h && x.meets h) = false := any_take_succ l (fun x => !x.id h && x.meets h) dH k hlt HA.out
      have ht : (fun x : Hd => !x.id h && x.meets h) (l.getD k dH) = true → l.any (fun x => !x.id h && x.meets h) = true := any_at l (fun x => !x.id h && x.meets h) dH k hlt
      rw [Hx.out] at hn ht
      have HN : Hid ((!x.id h && x.meets h) = false → (l.take (k + 1)).any (fun x => !x.id h && x.meets h) = false) := hn
      have HT : Hid ((!x.id h && x.meets h) = true → l.any (fun x => !x.id h && x.meets h) = true) := ht
      have KM : Hid (∀ W, Fr (fun _ => False) wr W → Calls _ _ _ _ _) := fun W f => refmeet_any x h W ((HOK.out x hmem).fr ((F0.out.trans HF.out).trans f)) (HH.out.fr ((F0.out.trans HF.out).trans f))
      obtain ⟨mm, Hmm⟩ : ∃ t, Hid (x.meets h = t) := ⟨_, rfl⟩
      rw [Hmm.out] at KM
      subst hao
      have z1 : (0 : Int) ≤ (k : Int) := by omega
      have z2 : (k : Int) < (l.length : Int) := by omega
      clear hmem hn ht d0 d1 d2 d3 d4 d5 d6
      obtain ⟨t, Ht⟩ : ∃ t, Hid (x.id h = t) := ⟨_, rfl⟩
      cases t with
      | true =>
        have e0 : (x.a0 : Int) = (h.a0 : Int) := by have := of_decide_eq_true Ht.out; omega
        have e1 : (x.a1 : Int) = (h.a1 : Int) := by have := of_decide_eq_true Ht.out; omega
        go_wp2_with fail
        refine wp_region_held_drew (S := (fun W1 : World => (W1.cell? ⟨b, off + k * 7, none⟩ = some (.int .u64 (x.a0 : Int)) ∧ W1.cell? ⟨b, off + k * 7 + 1, none⟩ = some (.int .u64 (x.a1 : Int)) ∧ W1.cell? ⟨b, off + k * 7 + 2, none⟩ = some (.int .u64 (x.a2 : Int)) ∧ W1.cell? ⟨b, off + k * 7 + 3, none⟩ = some (.slice x.ga x.g.length x.gc) ∧ W1.cell? ⟨b, off + k * 7 + 4, none⟩ = some (.slice x.sa x.s.length x.sc) ∧ W1.cell? ⟨b, off + k * 7 + 5, none⟩ = some (.slice x.pa x.p.length x.pc) ∧ W1.cell? ⟨b, off + k * 7 + 6, none⟩ = some (.slice x.da x.dl.length x.dc)) ∧ C7 W1 bx (.int .u64 (h.a0 : Int)) (.int .u64 (h.a1 : Int)) (.int .u64 (h.a2 : Int)) (.slice h.ga h.g.length h.gc) (.slice h.sa h.s.length h.sc) (.slice h.pa h.p.length h.pc) (.slice h.da h.dl.length h.dc))) (by kernel_rfl) (HSS.out _ (Fr.refl _ _).drew) (fun hHeld => ?_)
        refine wpAnyH_take (i := 0) (oi := _) (v := ?_) (by rw [List.getElem?_toArray]; rfl) (by kernel_rfl) (by kernel_rfl) (by kernel_rfl) (fun _ _ _ h => by exact h) (Or.inl ⟨by rfl, ?_⟩) (by assumption) ?_
        rotate_left
        · (intro w hSw; (try dsimp only at hSw); go_simp; (try with_reducible rfl))
        try simp only [Act.put, List.setIfInBounds_toArray, List.set_cons_zero, List.set_cons_succ]
        refine wpAnyH_take (i := 1) (oi := _) (v := ?_) (by rw [List.getElem?_toArray]; rfl) (by kernel_rfl) (by kernel_rfl) (by kernel_rfl) (fun _ _ _ h => by exact h) (Or.inl ⟨by rfl, ?_⟩) (by assumption) ?_
        rotate_left
        · (intro w hSw; (try dsimp only at hSw); go_simp; (try with_reducible rfl))
        try simp only [Act.put, List.setIfInBounds_toArray, List.set_cons_zero, List.set_cons_succ]
        refine wpAnyH_take (i := 2) (oi := _) (v := ?_) (by rw [List.getElem?_toArray]; rfl) (by kernel_rfl) (by kernel_rfl) (by kernel_rfl) (fun _ _ _ h => by exact h) (Or.inl ⟨by rfl, ?_⟩) (by assumption) ?_
        rotate_left
        · (intro w hSw; (try dsimp only at hSw); go_simp; (try with_reducible rfl))
        try simp only [Act.put, List.setIfInBounds_toArray, List.set_cons_zero, List.set_cons_succ]
        refine wpAnyH_take (i := 3) (oi := _) (v := ?_) (by rw [List.getElem?_toArray]; rfl) (by kernel_rfl) (by kernel_rfl) (by kernel_rfl) (fun _ _ _ h => by exact h) (Or.inl ⟨by rfl, ?_⟩) (by assumption) ?_
        rotate_left
        · (intro w hSw; (try dsimp only at hSw); go_simp; (try with_reducible rfl))
        try simp only [Act.put, List.setIfInBounds_toArray, List.set_cons_zero, List.set_cons_succ]
        refine wpAnyH_take (i := 4) (oi := _) (v := ?_) (by rw [List.getElem?_toArray]; rfl) (by kernel_rfl) (by kernel_rfl) (by kernel_rfl) (fun _ _ _ h => by exact h) (Or.inl ⟨by rfl, ?_⟩) (by assumption) ?_
        rotate_left
        · (intro w hSw; (try dsimp only at hSw); obtain ⟨⟨d0, d1, d2, d3, d4, d5, d6⟩, ⟨i0, i1, i2, i3, i4, i5, i6⟩⟩ := hSw; go_simp; (try with_reducible rfl))
        try simp only [Act.put, List.setIfInBounds_toArray, List.set_cons_zero, List.set_cons_succ]
        refine wpAnyH_take (i := 5) (oi := _) (v := ?_) (by rw [List.getElem?_toArray]; rfl) (by kernel_rfl) (by kernel_rfl) (by kernel_rfl) (fun _ _ _ h => by exact h) (Or.inl ⟨by rfl, ?_⟩) (by assumption) ?_
        rotate_left
        · (intro w hSw; (try dsimp only at hSw); go_simp; (try with_reducible rfl))
        try simp only [Act.put, List.setIfInBounds_toArray, List.set_cons_zero, List.set_cons_succ]
        refine wpAnyH_take (i := 6) (oi := _) (v := ?_) (by rw [List.getElem?_toArray]; rfl) (by kernel_rfl) (by kernel_rfl) (by kernel_rfl) (fun _ _ _ h => by exact h) (Or.inl ⟨by rfl, ?_⟩) (by assumption) ?_
        rotate_left
        · (intro w hSw; (try dsimp only at hSw); obtain ⟨⟨d0, d1, d2, d3, d4, d5, d6⟩, ⟨i0, i1, i2, i3, i4, i5, i6⟩⟩ := hSw; go_simp; (try with_reducible rfl))
        try simp only [Act.put, List.setIfInBounds_toArray, List.set_cons_zero, List.set_cons_succ]
        refine wpAnyH_take (i := 7) (oi := _) (v := ?_) (by rw [List.getElem?_toArray]; rfl) (by kernel_rfl) (by kernel_rfl) (by kernel_rfl) (fun _ _ _ h => by exact h) (Or.inl ⟨by rfl, ?_⟩) (by assumption) ?_
        rotate_left
        · (intro w hSw; (try dsimp only at hSw); go_simp; (try with_reducible rfl))
        try simp only [Act.put, List.setIfInBounds_toArray, List.set_cons_zero, List.set_cons_succ]
        refine wpAnyH_take (i := 8) (oi := _) (v := ?_) (by rw [List.getElem?_toArray]; rfl) (by kernel_rfl) (by kernel_rfl) (by kernel_rfl) (fun _ _ _ h => by exact h) (Or.inl ⟨by rfl, ?_⟩) (by assumption) ?_
        rotate_left
        · (intro w hSw; (try dsimp only at hSw); go_simp; (try with_reducible rfl))
        try simp only [Act.put, List.setIfInBounds_toArray, List.set_cons_zero, List.set_cons_succ]
        refine wpAnyH_take (i := 9) (oi := _) (v := undef) (by rw [List.getElem?_toArray]; rfl) (by kernel_rfl) (by kernel_rfl) (by kernel_rfl) (fun _ _ _ h => by exact h) (Or.inr ⟨by rfl, rfl⟩) (by assumption) ?_
        try simp only [Act.put, List.setIfInBounds_toArray, List.set_cons_zero, List.set_cons_succ]
        refine wpAnyH_take (i := 10) (oi := _) (v := undef) (by rw [List.getElem?_toArray]; rfl) (by kernel_rfl) (by kernel_rfl) (by kernel_rfl) (fun _ _ _ h => by exact h) (Or.inr ⟨by rfl, rfl⟩) (by assumption) ?_
        try simp only [Act.put, List.setIfInBounds_toArray, List.set_cons_zero, List.set_cons_succ]
        refine wpAnyH_take (i := 11) (oi := _) (v := undef) (by rw [List.getElem?_toArray]; rfl) (by kernel_rfl) (by kernel_rfl) (by kernel_rfl) (fun _ _ _ h => by exact h) (Or.inr ⟨by rfl, rfl⟩) (by assumption) ?_
        try simp only [Act.put, List.setIfInBounds_toArray, List.set_cons_zero, List.set_cons_succ]
        refine wpAnyH_take (i := 12) (oi := _) (v := undef) (by rw [List.getElem?_toArray]; rfl) (by kernel_rfl) (by kernel_rfl) (by kernel_rfl) (fun _ _ _ h => by exact h) (Or.inr ⟨by rfl, rfl⟩) (by assumption) ?_
        try simp only [Act.put, List.setIfInBounds_toArray, List.set_cons_zero, List.set_cons_succ]
        refine wpAnyH_take (i := 13) (oi := _) (v := undef) (by rw [List.getElem?_toArray]; rfl) (by kernel_rfl) (by kernel_rfl) (by kernel_rfl) (fun _ _ _ h => by exact h) (Or.inr ⟨by rfl, rfl⟩) (by assumption) ?_
        try simp only [Act.put, List.setIfInBounds_toArray, List.set_cons_zero, List.set_cons_succ]
        refine wpAnyH_take (i := 14) (oi := _) (v := undef) (by rw [List.getElem?_toArray]; rfl) (by kernel_rfl) (by kernel_rfl) (by kernel_rfl) (fun _ _ _ h => by exact h) (Or.inr ⟨by rfl, rfl⟩) (by assumption) ?_
        try simp only [Act.put, List.setIfInBounds_toArray, List.set_cons_zero, List.set_cons_succ]
        refine wpAnyH_take (i := 15) (oi := _) (v := ?_) (by rw [List.getElem?_toArray]; rfl) (by kernel_rfl) (by kernel_rfl) (by kernel_rfl) (fun _ _ _ h => by exact h) (Or.inl ⟨by rfl, ?_⟩) (by assumption) ?_
        rotate_left
        · (intro w hSw; (try dsimp only at hSw); go_simp; (try with_reducible rfl))
        try simp only [Act.put, List.setIfInBounds_toArray, List.set_cons_zero, List.set_cons_succ]
        refine wpAnyH_done (by kernel_rfl) ?_ _
        have HFM : Hid (Fr (fun _ => False) W0 wr.drew) := HF.out.trans (Fr.refl _ wr).drew
        go_wp2
        go_roundw
        case rel => exact ⟨k + 1, by omega, by go_num, HN.out (by rw [Ht.out]; rfl), HFM.out⟩
        case measure => simp [intOf]; omega
      | false =>
        have e2 : (x.a0 : Int) = (h.a0 : Int) → (x.a1 : Int) ≠ (h.a1 : Int) := by have := of_decide_eq_false Ht.out; omega
        by_cases e0 : (x.a0 : Int) = (h.a0 : Int)
        · have e1 : ¬ (x.a1 : Int) = (h.a1 : Int) := e2 e0
          clear e2
          rw [e0] at KM
          go_wp2_with fail
          cases mm with
          | true =>
            refine wp_region_held_drew (S := (fun W1 : World => (W1.cell? ⟨b, off + k * 7, none⟩ = some (.int .u64 (x.a0 : Int)) ∧ W1.cell? ⟨b, off + k * 7 + 1, none⟩ = some (.int .u64 (x.a1 : Int)) ∧ W1.cell? ⟨b, off + k * 7 + 2, none⟩ = some (.int .u64 (x.a2 : Int)) ∧ W1.cell? ⟨b, off + k * 7 + 3, none⟩ = some (.slice x.ga x.g.length x.gc) ∧ W1.cell? ⟨b, off + k * 7 + 4, none⟩ = some (.slice x.sa x.s.length x.sc) ∧ W1.cell? ⟨b, off + k * 7 + 5, none⟩ = some (.slice x.pa x.p.length x.pc) ∧ W1.cell? ⟨b, off + k * 7 + 6, none⟩ = some (.slice x.da x.dl.length x.dc)) ∧ C7 W1 bx (.int .u64 (h.a0 : Int)) (.int .u64 (h.a1 : Int)) (.int .u64 (h.a2 : Int)) (.slice h.ga h.g.length h.gc) (.slice h.sa h.s.length h.sc) (.slice h.pa h.p.length h.pc) (.slice h.da h.dl.length h.dc))) (by kernel_rfl) (HSS.out _ (Fr.refl _ _).drew) (fun hHeld => ?_)
            refine wpAnyH_take (i := 0) (oi := _) (v := ?_) (by rw [List.getElem?_toArray]; rfl) (by kernel_rfl) (by kernel_rfl) (by kernel_rfl) (fun _ _ _ h => by exact h) (Or.inl ⟨by rfl, ?_⟩) (by assumption) ?_
            rotate_left
            · (intro w hSw; (try dsimp only at hSw); go_simp; (try with_reducible rfl))
            try simp only [Act.put, List.setIfInBounds_toArray, List.set_cons_zero, List.set_cons_succ]
            refine wpAnyH_take (i := 1) (oi := _) (v := ?_) (by rw [List.getElem?_toArray]; rfl) (by kernel_rfl) (by kernel_rfl) (by kernel_rfl) (fun _ _ _ h => by exact h) (Or.inl ⟨by rfl, ?_⟩) (by assumption) ?_
            rotate_left
            · (intro w hSw; (try dsimp only at hSw); go_simp; (try with_reducible rfl))
            try simp only [Act.put, List.setIfInBounds_toArray, List.set_cons_zero, List.set_cons_succ]
            refine wpAnyH_take (i := 2) (oi := _) (v := ?_) (by rw [List.getElem?_toArray]; rfl) (by kernel_rfl) (by kernel_rfl) (by kernel_rfl) (fun _ _ _ h => by exact h) (Or.inl ⟨by rfl, ?_⟩) (by assumption) ?_
            rotate_left
            · (intro w hSw; (try dsimp only at hSw); go_simp; (try with_reducible rfl))
            try simp only [Act.put, List.setIfInBounds_toArray, List.set_cons_zero, List.set_cons_succ]
            refine wpAnyH_take (i := 3) (oi := _) (v := ?_) (by rw [List.getElem?_toArray]; rfl) (by kernel_rfl) (by kernel_rfl) (by kernel_rfl) (fun _ _ _ h => by exact h) (Or.inl ⟨by rfl, ?_⟩) (by assumption) ?_
            rotate_left
            · (intro w hSw; (try dsimp only at hSw); go_simp; (try with_reducible rfl))
            try simp only [Act.put, List.setIfInBounds_toArray, List.set_cons_zero, List.set_cons_succ]
            refine wpAnyH_take (i := 4) (oi := _) (v := ?_) (by rw [List.getElem?_toArray]; rfl) (by kernel_rfl) (by kernel_rfl) (by kernel_rfl) (fun _ _ _ h => by exact h) (Or.inl ⟨by rfl, ?_⟩) (by assumption) ?_
            rotate_left
            · (intro w hSw; (try dsimp only at hSw); obtain ⟨⟨d0, d1, d2, d3, d4, d5, d6⟩, ⟨i0, i1, i2, i3, i4, i5, i6⟩⟩ := hSw; go_simp; (try with_reducible rfl))
            try simp only [Act.put, List.setIfInBounds_toArray, List.set_cons_zero, List.set_cons_succ]
            refine wpAnyH_take (i := 5) (oi := _) (v := ?_) (by rw [List.getElem?_toArray]; rfl) (by kernel_rfl) (by kernel_rfl) (by kernel_rfl) (fun _ _ _ h => by exact h) (Or.inl ⟨by rfl, ?_⟩) (by assumption) ?_
            rotate_left
            · (intro w hSw; (try dsimp only at hSw); go_simp; (try with_reducible rfl))
            try simp only [Act.put, List.setIfInBounds_toArray, List.set_cons_zero, List.set_cons_succ]
            refine wpAnyH_take (i := 6) (oi := _) (v := ?_) (by rw [List.getElem?_toArray]; rfl) (by kernel_rfl) (by kernel_rfl) (by kernel_rfl) (fun _ _ _ h => by exact h) (Or.inl ⟨by rfl, ?_⟩) (by assumption) ?_
            rotate_left
            · (intro w hSw; (try dsimp only at hSw); obtain ⟨⟨d0, d1, d2, d3, d4, d5, d6⟩, ⟨i0, i1, i2, i3, i4, i5, i6⟩⟩ := hSw; go_simp; (try with_reducible rfl))
            try simp only [Act.put, List.setIfInBounds_toArray, List.set_cons_zero, List.set_cons_succ]
            refine wpAnyH_take (i := 7) (oi := _) (v := ?_) (by rw [List.getElem?_toArray]; rfl) (by kernel_rfl) (by kernel_rfl) (by kernel_rfl) (fun _ _ _ h => by exact h) (Or.inl ⟨by rfl, ?_⟩) (by assumption) ?_
            rotate_left
            · (intro w hSw; (try dsimp only at hSw); go_simp; (try with_reducible rfl))
            try simp only [Act.put, List.setIfInBounds_toArray, List.set_cons_zero, List.set_cons_succ]
            refine wpAnyH_take (i := 8) (oi := _) (v := ?_) (by rw [List.getElem?_toArray]; rfl) (by kernel_rfl) (by kernel_rfl) (by kernel_rfl) (fun _ _ _ h => by exact h) (Or.inl ⟨by rfl, ?_⟩) (by assumption) ?_
            rotate_left
            · (intro w hSw; (try dsimp only at hSw); go_simp; (try with_reducible rfl))
            try simp only [Act.put, List.setIfInBounds_toArray, List.set_cons_zero, List.set_cons_succ]
            refine wpAnyH_take (i := 9) (oi := _) (v := ?_) (by rw [List.getElem?_toArray]; rfl) (by kernel_rfl) (by kernel_rfl) (by kernel_rfl) (fun _ _ _ h => by exact h) (Or.inl ⟨by rfl, ?_⟩) (by assumption) ?_
            rotate_left
            · (intro w hSw; (try dsimp only at hSw); go_simp; (try with_reducible rfl))
            try simp only [Act.put, List.setIfInBounds_toArray, List.set_cons_zero, List.set_cons_succ]
            refine wpAnyH_take (i := 10) (oi := _) (v := ?_) (by rw [List.getElem?_toArray]; rfl) (by kernel_rfl) (by kernel_rfl) (by kernel_rfl) (fun _ _ _ h => by exact h) (Or.inl ⟨by rfl, ?_⟩) (by assumption) ?_
            rotate_left
            · (intro w hSw; (try dsimp only at hSw); go_simp; (try with_reducible rfl))
            try simp only [Act.put, List.setIfInBounds_toArray, List.set_cons_zero, List.set_cons_succ]
            refine wpAnyH_take (i := 11) (oi := _) (v := ?_) (by rw [List.getElem?_toArray]; rfl) (by kernel_rfl) (by kernel_rfl) (by kernel_rfl) (fun _ _ _ h => by exact h) (Or.inl ⟨by rfl, ?_⟩) (by assumption) ?_
            rotate_left
            · (intro w hSw; (try dsimp only at hSw); go_simp; (try with_reducible rfl))
            try simp only [Act.put, List.setIfInBounds_toArray, List.set_cons_zero, List.set_cons_succ]
            refine wpAnyH_take (i := 12) (oi := _) (v := ?_) (by rw [List.getElem?_toArray]; rfl) (by kernel_rfl) (by kernel_rfl) (by kernel_rfl) (fun _ _ _ h => by exact h) (Or.inl ⟨by rfl, ?_⟩) (by assumption) ?_
            rotate_left
            · (intro w hSw; (try dsimp only at hSw); obtain ⟨⟨d0, d1, d2, d3, d4, d5, d6⟩, ⟨i0, i1, i2, i3, i4, i5, i6⟩⟩ := hSw; go_simp; (try with_reducible rfl))
            try simp only [Act.put, List.setIfInBounds_toArray, List.set_cons_zero, List.set_cons_succ]
            refine wpAnyH_take (i := 13) (oi := _) (v := ?_) (by rw [List.getElem?_toArray]; rfl) (by kernel_rfl) (by kernel_rfl) (by kernel_rfl) (fun _ _ _ h => by exact h) (Or.inl ⟨by rfl, ?_⟩) (by assumption) ?_
            rotate_left
            · (intro w hSw; (try dsimp only at hSw); obtain ⟨⟨d0, d1, d2, d3, d4, d5, d6⟩, ⟨i0, i1, i2, i3, i4, i5, i6⟩⟩ := hSw; go_simp; (try with_reducible rfl))
            try simp only [Act.put, List.setIfInBounds_toArray, List.set_cons_zero, List.set_cons_succ]
            refine wpAnyH_ready (rs := [14]) (by kernel_rfl) (by simp) ?_
            refine AllReadyH.cons (o := _) (by rw [List.getElem?_toArray]; rfl) (fun K hK => ?_) ?_
            · go_simp
              go_wp2_with (go_at_call 15; refine (KM.out _ (Fr.refl _ wr).drew).mono ?_; rintro e wM ⟨rfl, fM⟩)
              have GM : Hid (Fr (fun _ => False) wr wM) := ((Fr.refl _ wr).drew).trans fM
              clear fM
              refine hK.out _ _ (HSS.out _ GM.out) (fun hHeld => ?_)
              clear hK K
              try simp only [Act.put, List.setIfInBounds_toArray, List.set_cons_zero, List.set_cons_succ]
              refine wpAnyH_take (i := 15) (oi := _) (v := ?_) (by rw [List.getElem?_toArray]; rfl) (by kernel_rfl) (by kernel_rfl) (by kernel_rfl) (fun _ _ _ h => by exact h) (Or.inl ⟨by rfl, ?_⟩) (by assumption) ?_
              rotate_left
              · (intro w hSw; (try dsimp only at hSw); go_simp; (try with_reducible rfl))
              try simp only [Act.put, List.setIfInBounds_toArray, List.set_cons_zero, List.set_cons_succ]
              refine wpAnyH_done (by kernel_rfl) ?_ _
              have hT := HTT.out.symm.trans (HT.out (by rw [Ht.out, Hmm.out]; rfl))
              subst hT
              have HFM : Hid (Fr (fun _ => False) W0 wM) := HF.out.trans GM.out
              go_wp2
              go_ret2
              exact ⟨rfl, F0.out.trans HFM.out⟩
            exact AllReadyH.nil
          | false =>
            refine wp_region_held_drew (S := (fun W1 : World => (W1.cell? ⟨b, off + k * 7, none⟩ = some (.int .u64 (x.a0 : Int)) ∧ W1.cell? ⟨b, off + k * 7 + 1, none⟩ = some (.int .u64 (x.a1 : Int)) ∧ W1.cell? ⟨b, off + k * 7 + 2, none⟩ = some (.int .u64 (x.a2 : Int)) ∧ W1.cell? ⟨b, off + k * 7 + 3, none⟩ = some (.slice x.ga x.g.length x.gc) ∧ W1.cell? ⟨b, off + k * 7 + 4, none⟩ = some (.slice x.sa x.s.length x.sc) ∧ W1.cell? ⟨b, off + k * 7 + 5, none⟩ = some (.slice x.pa x.p.length x.pc) ∧ W1.cell? ⟨b, off + k * 7 + 6, none⟩ = some (.slice x.da x.dl.length x.dc)) ∧ C7 W1 bx (.int .u64 (h.a0 : Int)) (.int .u64 (h.a1 : Int)) (.int .u64 (h.a2 : Int)) (.slice h.ga h.g.length h.gc) (.slice h.sa h.s.length h.sc) (.slice h.pa h.p.length h.pc) (.slice h.da h.dl.length h.dc))) (by kernel_rfl) (HSS.out _ (Fr.refl _ _).drew) (fun hHeld => ?_)
            refine wpAnyH_take (i := 0) (oi := _) (v := ?_) (by rw [List.getElem?_toArray]; rfl) (by kernel_rfl) (by kernel_rfl) (by kernel_rfl) (fun _ _ _ h => by exact h) (Or.inl ⟨by rfl, ?_⟩) (by assumption) ?_
            rotate_left
            · (intro w hSw; (try dsimp only at hSw); go_simp; (try with_reducible rfl))
            try simp only [Act.put, List.setIfInBounds_toArray, List.set_cons_zero, List.set_cons_succ]
            refine wpAnyH_take (i := 1) (oi := _) (v := ?_) (by rw [List.getElem?_toArray]; rfl) (by kernel_rfl) (by kernel_rfl) (by kernel_rfl) (fun _ _ _ h => by exact h) (Or.inl ⟨by rfl, ?_⟩) (by assumption) ?_
            rotate_left
            · (intro w hSw; (try dsimp only at hSw); go_simp; (try with_reducible rfl))
            try simp only [Act.put, List.setIfInBounds_toArray, List.set_cons_zero, List.set_cons_succ]
            refine wpAnyH_take (i := 2) (oi := _) (v := ?_) (by rw [List.getElem?_toArray]; rfl) (by kernel_rfl) (by kernel_rfl) (by kernel_rfl) (fun _ _ _ h => by exact h) (Or.inl ⟨by rfl, ?_⟩) (by assumption) ?_
            rotate_left
            · (intro w hSw; (try dsimp only at hSw); go_simp; (try with_reducible rfl))
            try simp only [Act.put, List.setIfInBounds_toArray, List.set_cons_zero, List.set_cons_succ]
            refine wpAnyH_take (i := 3) (oi := _) (v := ?_) (by rw [List.getElem?_toArray]; rfl) (by kernel_rfl) (by kernel_rfl) (by kernel_rfl) (fun _ _ _ h => by exact h) (Or.inl ⟨by rfl, ?_⟩) (by assumption) ?_
            rotate_left
            · (intro w hSw; (try dsimp only at hSw); go_simp; (try with_reducible rfl))
            try simp only [Act.put, List.setIfInBounds_toArray, List.set_cons_zero, List.set_cons_succ]
            refine wpAnyH_take (i := 4) (oi := _) (v := ?_) (by rw [List.getElem?_toArray]; rfl) (by kernel_rfl) (by kernel_rfl) (by kernel_rfl) (fun _ _ _ h => by exact h) (Or.inl ⟨by rfl, ?_⟩) (by assumption) ?_
            rotate_left
            · (intro w hSw; (try dsimp only at hSw); obtain ⟨⟨d0, d1, d2, d3, d4, d5, d6⟩, ⟨i0, i1, i2, i3, i4, i5, i6⟩⟩ := hSw; go_simp; (try with_reducible rfl))
            try simp only [Act.put, List.setIfInBounds_toArray, List.set_cons_zero, List.set_cons_succ]
            refine wpAnyH_take (i := 5) (oi := _) (v := ?_) (by rw [List.getElem?_toArray]; rfl) (by kernel_rfl) (by kernel_rfl) (by kernel_rfl) (fun _ _ _ h => by exact h) (Or.inl ⟨by rfl, ?_⟩) (by assumption) ?_
            rotate_left
            · (intro w hSw; (try dsimp only at hSw); go_simp; (try with_reducible rfl))
            try simp only [Act.put, List.setIfInBounds_toArray, List.set_cons_zero, List.set_cons_succ]
            refine wpAnyH_take (i := 6) (oi := _) (v := ?_) (by rw [List.getElem?_toArray]; rfl) (by kernel_rfl) (by kernel_rfl) (by kernel_rfl) (fun _ _ _ h => by exact h) (Or.inl ⟨by rfl, ?_⟩) (by assumption) ?_
            rotate_left
            · (intro w hSw; (try dsimp only at hSw); obtain ⟨⟨d0, d1, d2, d3, d4, d5, d6⟩, ⟨i0, i1, i2, i3, i4, i5, i6⟩⟩ := hSw; go_simp; (try with_reducible rfl))
            try simp only [Act.put, List.setIfInBounds_toArray, List.set_cons_zero, List.set_cons_succ]
            refine wpAnyH_take (i := 7) (oi := _) (v := ?_) (by rw [List.getElem?_toArray]; rfl) (by kernel_rfl) (by kernel_rfl) (by kernel_rfl) (fun _ _ _ h => by exact h) (Or.inl ⟨by rfl, ?_⟩) (by assumption) ?_
            rotate_left
            · (intro w hSw; (try dsimp only at hSw); go_simp; (try with_reducible rfl))
            try simp only [Act.put, List.setIfInBounds_toArray, List.set_cons_zero, List.set_cons_succ]
            refine wpAnyH_take (i := 8) (oi := _) (v := ?_) (by rw [List.getElem?_toArray]; rfl) (by kernel_rfl) (by kernel_rfl) (by kernel_rfl) (fun _ _ _ h => by exact h) (Or.inl ⟨by rfl, ?_⟩) (by assumption) ?_
            rotate_left
            · (intro w hSw; (try dsimp only at hSw); go_simp; (try with_reducible rfl))
            try simp only [Act.put, List.setIfInBounds_toArray, List.set_cons_zero, List.set_cons_succ]
            refine wpAnyH_take (i := 9) (oi := _) (v := ?_) (by rw [List.getElem?_toArray]; rfl) (by kernel_rfl) (by kernel_rfl) (by kernel_rfl) (fun _ _ _ h => by exact h) (Or.inl ⟨by rfl, ?_⟩) (by assumption) ?_
            rotate_left
            · (intro w hSw; (try dsimp only at hSw); go_simp; (try with_reducible rfl))
            try simp only [Act.put, List.setIfInBounds_toArray, List.set_cons_zero, List.set_cons_succ]
            refine wpAnyH_take (i := 10) (oi := _) (v := ?_) (by rw [List.getElem?_toArray]; rfl) (by kernel_rfl) (by kernel_rfl) (by kernel_rfl) (fun _ _ _ h => by exact h) (Or.inl ⟨by rfl, ?_⟩) (by assumption) ?_
            rotate_left
            · (intro w hSw; (try dsimp only at hSw); go_simp; (try with_reducible rfl))
            try simp only [Act.put, List.setIfInBounds_toArray, List.set_cons_zero, List.set_cons_succ]
            refine wpAnyH_take (i := 11) (oi := _) (v := ?_) (by rw [List.getElem?_toArray]; rfl) (by kernel_rfl) (by kernel_rfl) (by kernel_rfl) (fun _ _ _ h => by exact h) (Or.inl ⟨by rfl, ?_⟩) (by assumption) ?_
            rotate_left
            · (intro w hSw; (try dsimp only at hSw); go_simp; (try with_reducible rfl))
            try simp only [Act.put, List.setIfInBounds_toArray, List.set_cons_zero, List.set_cons_succ]
            refine wpAnyH_take (i := 12) (oi := _) (v := ?_) (by rw [List.getElem?_toArray]; rfl) (by kernel_rfl) (by kernel_rfl) (by kernel_rfl) (fun _ _ _ h => by exact h) (Or.inl ⟨by rfl, ?_⟩) (by assumption) ?_
            rotate_left
            · (intro w hSw; (try dsimp only at hSw); obtain ⟨⟨d0, d1, d2, d3, d4, d5, d6⟩, ⟨i0, i1, i2, i3, i4, i5, i6⟩⟩ := hSw; go_simp; (try with_reducible rfl))
            try simp only [Act.put, List.setIfInBounds_toArray, List.set_cons_zero, List.set_cons_succ]
            refine wpAnyH_take (i := 13) (oi := _) (v := ?_) (by rw [List.getElem?_toArray]; rfl) (by kernel_rfl) (by kernel_rfl) (by kernel_rfl) (fun _ _ _ h => by exact h) (Or.inl ⟨by rfl, ?_⟩) (by assumption) ?_
            rotate_left
            · (intro w hSw; (try dsimp only at hSw); obtain ⟨⟨d0, d1, d2, d3, d4, d5, d6⟩, ⟨i0, i1, i2, i3, i4, i5, i6⟩⟩ := hSw; go_simp; (try with_reducible rfl))
            try simp only [Act.put, List.setIfInBounds_toArray, List.set_cons_zero, List.set_cons_succ]
            refine wpAnyH_ready (rs := [14]) (by kernel_rfl) (by simp) ?_
            refine AllReadyH.cons (o := _) (by rw [List.getElem?_toArray]; rfl) (fun K hK => ?_) ?_
            · go_simp
              go_wp2_with (go_at_call 15; refine (KM.out _ (Fr.refl _ wr).drew).mono ?_; rintro e wM ⟨rfl, fM⟩)
              have GM : Hid (Fr (fun _ => False) wr wM) := ((Fr.refl _ wr).drew).trans fM
              clear fM
              refine hK.out _ _ (HSS.out _ GM.out) (fun hHeld => ?_)
              clear hK K
              try simp only [Act.put, List.setIfInBounds_toArray, List.set_cons_zero, List.set_cons_succ]
              refine wpAnyH_take (i := 15) (oi := _) (v := ?_) (by rw [List.getElem?_toArray]; rfl) (by kernel_rfl) (by kernel_rfl) (by kernel_rfl) (fun _ _ _ h => by exact h) (Or.inl ⟨by rfl, ?_⟩) (by assumption) ?_
              rotate_left
              · (intro w hSw; (try dsimp only at hSw); go_simp; (try with_reducible rfl))
              try simp only [Act.put, List.setIfInBounds_toArray, List.set_cons_zero, List.set_cons_succ]
              refine wpAnyH_done (by kernel_rfl) ?_ _
              have HFM : Hid (Fr (fun _ => False) W0 wM) := HF.out.trans GM.out
              go_wp2
              go_roundw
              case rel => exact ⟨k + 1, by omega, by go_num, HN.out (by rw [Ht.out, Hmm.out]; rfl), HFM.out⟩
              case measure => simp [intOf]; omega
            exact AllReadyH.nil
        · clear e2
          go_wp2_with fail
          cases mm with
          | true =>
            refine wp_region_held_drew (S := (fun W1 : World => (W1.cell? ⟨b, off + k * 7, none⟩ = some (.int .u64 (x.a0 : Int)) ∧ W1.cell? ⟨b, off + k * 7 + 1, none⟩ = some (.int .u64 (x.a1 : Int)) ∧ W1.cell? ⟨b, off + k * 7 + 2, none⟩ = some (.int .u64 (x.a2 : Int)) ∧ W1.cell? ⟨b, off + k * 7 + 3, none⟩ = some (.slice x.ga x.g.length x.gc) ∧ W1.cell? ⟨b, off + k * 7 + 4, none⟩ = some (.slice x.sa x.s.length x.sc) ∧ W1.cell? ⟨b, off + k * 7 + 5, none⟩ = some (.slice x.pa x.p.length x.pc) ∧ W1.cell? ⟨b, off + k * 7 + 6, none⟩ = some (.slice x.da x.dl.length x.dc)) ∧ C7 W1 bx (.int .u64 (h.a0 : Int)) (.int .u64 (h.a1 : Int)) (.int .u64 (h.a2 : Int)) (.slice h.ga h.g.length h.gc) (.slice h.sa h.s.length h.sc) (.slice h.pa h.p.length h.pc) (.slice h.da h.dl.length h.dc))) (by kernel_rfl) (HSS.out _ (Fr.refl _ _).drew) (fun hHeld => ?_)
            refine wpAnyH_take (i := 0) (oi := _) (v := ?_) (by rw [List.getElem?_toArray]; rfl) (by kernel_rfl) (by kernel_rfl) (by kernel_rfl) (fun _ _ _ h => by exact h) (Or.inl ⟨by rfl, ?_⟩) (by assumption) ?_
            rotate_left
            · (intro w hSw; (try dsimp only at hSw); go_simp; (try with_reducible rfl))
            try simp only [Act.put, List.setIfInBounds_toArray, List.set_cons_zero, List.set_cons_succ]
            refine wpAnyH_take (i := 1) (oi := _) (v := ?_) (by rw [List.getElem?_toArray]; rfl) (by kernel_rfl) (by kernel_rfl) (by kernel_rfl) (fun _ _ _ h => by exact h) (Or.inl ⟨by rfl, ?_⟩) (by assumption) ?_
            rotate_left
            · (intro w hSw; (try dsimp only at hSw); go_simp; (try with_reducible rfl))
            try simp only [Act.put, List.setIfInBounds_toArray, List.set_cons_zero, List.set_cons_succ]
            refine wpAnyH_take (i := 2) (oi := _) (v := ?_) (by rw [List.getElem?_toArray]; rfl) (by kernel_rfl) (by kernel_rfl) (by kernel_rfl) (fun _ _ _ h => by exact h) (Or.inl ⟨by rfl, ?_⟩) (by assumption) ?_
            rotate_left
            · (intro w hSw; (try dsimp only at hSw); go_simp; (try with_reducible rfl))
            try simp only [Act.put, List.setIfInBounds_toArray, List.set_cons_zero, List.set_cons_succ]
            refine wpAnyH_take (i := 3) (oi := _) (v := ?_) (by rw [List.getElem?_toArray]; rfl) (by kernel_rfl) (by kernel_rfl) (by kernel_rfl) (fun _ _ _ h => by exact h) (Or.inl ⟨by rfl, ?_⟩) (by assumption) ?_
            rotate_left
            · (intro w hSw; (try dsimp only at hSw); go_simp; (try with_reducible rfl))
            try simp only [Act.put, List.setIfInBounds_toArray, List.set_cons_zero, List.set_cons_succ]
            refine wpAnyH_take (i := 4) (oi := _) (v := ?_) (by rw [List.getElem?_toArray]; rfl) (by kernel_rfl) (by kernel_rfl) (by kernel_rfl) (fun _ _ _ h => by exact h) (Or.inl ⟨by rfl, ?_⟩) (by assumption) ?_
            rotate_left
            · (intro w hSw; (try dsimp only at hSw); obtain ⟨⟨d0, d1, d2, d3, d4, d5, d6⟩, ⟨i0, i1, i2, i3, i4, i5, i6⟩⟩ := hSw; go_simp; (try with_reducible rfl))
            try simp only [Act.put, List.setIfInBounds_toArray, List.set_cons_zero, List.set_cons_succ]
            refine wpAnyH_take (i := 5) (oi := _) (v := ?_) (by rw [List.getElem?_toArray]; rfl) (by kernel_rfl) (by kernel_rfl) (by kernel_rfl) (fun _ _ _ h => by exact h) (Or.inl ⟨by rfl, ?_⟩) (by assumption) ?_
            rotate_left
            · (intro w hSw; (try dsimp only at hSw); go_simp; (try with_reducible rfl))
            try simp only [Act.put, List.setIfInBounds_toArray, List.set_cons_zero, List.set_cons_succ]
            refine wpAnyH_take (i := 6) (oi := _) (v := ?_) (by rw [List.getElem?_toArray]; rfl) (by kernel_rfl) (by kernel_rfl) (by kernel_rfl) (fun _ _ _ h => by exact h) (Or.inl ⟨by rfl, ?_⟩) (by assumption) ?_
            rotate_left
            · (intro w hSw; (try dsimp only at hSw); obtain ⟨⟨d0, d1, d2, d3, d4, d5, d6⟩, ⟨i0, i1, i2, i3, i4, i5, i6⟩⟩ := hSw; go_simp; (try with_reducible rfl))
            try simp only [Act.put, List.setIfInBounds_toArray, List.set_cons_zero, List.set_cons_succ]
            refine wpAnyH_take (i := 7) (oi := _) (v := ?_) (by rw [List.getElem?_toArray]; rfl) (by kernel_rfl) (by kernel_rfl) (by kernel_rfl) (fun _ _ _ h => by exact h) (Or.inl ⟨by rfl, ?_⟩) (by assumption) ?_
            rotate_left
            · (intro w hSw; (try dsimp only at hSw); go_simp; (try with_reducible rfl))
            try simp only [Act.put, List.setIfInBounds_toArray, List.set_cons_zero, List.set_cons_succ]
            refine wpAnyH_take (i := 8) (oi := _) (v := ?_) (by rw [List.getElem?_toArray]; rfl) (by kernel_rfl) (by kernel_rfl) (by kernel_rfl) (fun _ _ _ h => by exact h) (Or.inl ⟨by rfl, ?_⟩) (by assumption) ?_
            rotate_left
            · (intro w hSw; (try dsimp only at hSw); go_simp; (try with_reducible rfl))
            try simp only [Act.put, List.setIfInBounds_toArray, List.set_cons_zero, List.set_cons_succ]
            refine wpAnyH_take (i := 9) (oi := _) (v := ?_) (by rw [List.getElem?_toArray]; rfl) (by kernel_rfl) (by kernel_rfl) (by kernel_rfl) (fun _ _ _ h => by exact h) (Or.inl ⟨by rfl, ?_⟩) (by assumption) ?_
            rotate_left
            · (intro w hSw; (try dsimp only at hSw); go_simp; (try with_reducible rfl))
            try simp only [Act.put, List.setIfInBounds_toArray, List.set_cons_zero, List.set_cons_succ]
            refine wpAnyH_take (i := 10) (oi := _) (v := ?_) (by rw [List.getElem?_toArray]; rfl) (by kernel_rfl) (by kernel_rfl) (by kernel_rfl) (fun _ _ _ h => by exact h) (Or.inl ⟨by rfl, ?_⟩) (by assumption) ?_
            rotate_left
            · (intro w hSw; (try dsimp only at hSw); go_simp; (try with_reducible rfl))
            try simp only [Act.put, List.setIfInBounds_toArray, List.set_cons_zero, List.set_cons_succ]
            refine wpAnyH_take (i := 11) (oi := _) (v := ?_) (by rw [List.getElem?_toArray]; rfl) (by kernel_rfl) (by kernel_rfl) (by kernel_rfl) (fun _ _ _ h => by exact h) (Or.inl ⟨by rfl, ?_⟩) (by assumption) ?_
            rotate_left
            · (intro w hSw; (try dsimp only at hSw); go_simp; (try with_reducible rfl))
            try simp only [Act.put, List.setIfInBounds_toArray, List.set_cons_zero, List.set_cons_succ]
            refine wpAnyH_take (i := 12) (oi := _) (v := ?_) (by rw [List.getElem?_toArray]; rfl) (by kernel_rfl) (by kernel_rfl) (by kernel_rfl) (fun _ _ _ h => by exact h) (Or.inl ⟨by rfl, ?_⟩) (by assumption) ?_
            rotate_left
            · (intro w hSw; (try dsimp only at hSw); obtain ⟨⟨d0, d1, d2, d3, d4, d5, d6⟩, ⟨i0, i1, i2, i3, i4, i5, i6⟩⟩ := hSw; go_simp; (try with_reducible rfl))
            try simp only [Act.put, List.setIfInBounds_toArray, List.set_cons_zero, List.set_cons_succ]
            refine wpAnyH_take (i := 13) (oi := _) (v := ?_) (by rw [List.getElem?_toArray]; rfl) (by kernel_rfl) (by kernel_rfl) (by kernel_rfl) (fun _ _ _ h => by exact h) (Or.inl ⟨by rfl, ?_⟩) (by assumption) ?_
            rotate_left
            · (intro w hSw; (try dsimp only at hSw); obtain ⟨⟨d0, d1, d2, d3, d4, d5, d6⟩, ⟨i0, i1, i2, i3, i4, i5, i6⟩⟩ := hSw; go_simp; (try with_reducible rfl))
            try simp only [Act.put, List.setIfInBounds_toArray, List.set_cons_zero, List.set_cons_succ]
            refine wpAnyH_ready (rs := [14]) (by kernel_rfl) (by simp) ?_
            refine AllReadyH.cons (o := _) (by rw [List.getElem?_toArray]; rfl) (fun K hK => ?_) ?_
            · go_simp
              go_wp2_with (go_at_call 15; refine (KM.out _ (Fr.refl _ wr).drew).mono ?_; rintro e wM ⟨rfl, fM⟩)
              have GM : Hid (Fr (fun _ => False) wr wM) := ((Fr.refl _ wr).drew).trans fM
              clear fM
              refine hK.out _ _ (HSS.out _ GM.out) (fun hHeld => ?_)
              clear hK K
              try simp only [Act.put, List.setIfInBounds_toArray, List.set_cons_zero, List.set_cons_succ]
              refine wpAnyH_take (i := 15) (oi := _) (v := ?_) (by rw [List.getElem?_toArray]; rfl) (by kernel_rfl) (by kernel_rfl) (by kernel_rfl) (fun _ _ _ h => by exact h) (Or.inl ⟨by rfl, ?_⟩) (by assumption) ?_
              rotate_left
              · (intro w hSw; (try dsimp only at hSw); go_simp; (try with_reducible rfl))
              try simp only [Act.put, List.setIfInBounds_toArray, List.set_cons_zero, List.set_cons_succ]
              refine wpAnyH_done (by kernel_rfl) ?_ _
              have hT := HTT.out.symm.trans (HT.out (by rw [Ht.out, Hmm.out]; rfl))
              subst hT
              have HFM : Hid (Fr (fun _ => False) W0 wM) := HF.out.trans GM.out
              go_wp2
              go_ret2
              exact ⟨rfl, F0.out.trans HFM.out⟩
            exact AllReadyH.nil
          | false =>
            refine wp_region_held_drew (S := (fun W1 : World => (W1.cell? ⟨b, off + k * 7, none⟩ = some (.int .u64 (x.a0 : Int)) ∧ W1.cell? ⟨b, off + k * 7 + 1, none⟩ = some (.int .u64 (x.a1 : Int)) ∧ W1.cell? ⟨b, off + k * 7 + 2, none⟩ = some (.int .u64 (x.a2 : Int)) ∧ W1.cell? ⟨b, off + k * 7 + 3, none⟩ = some (.slice x.ga x.g.length x.gc) ∧ W1.cell? ⟨b, off + k * 7 + 4, none⟩ = some (.slice x.sa x.s.length x.sc) ∧ W1.cell? ⟨b, off + k * 7 + 5, none⟩ = some (.slice x.pa x.p.length x.pc) ∧ W1.cell? ⟨b, off + k * 7 + 6, none⟩ = some (.slice x.da x.dl.length x.dc)) ∧ C7 W1 bx (.int .u64 (h.a0 : Int)) (.int .u64 (h.a1 : Int)) (.int .u64 (h.a2 : Int)) (.slice h.ga h.g.length h.gc) (.slice h.sa h.s.length h.sc) (.slice h.pa h.p.length h.pc) (.slice h.da h.dl.length h.dc))) (by kernel_rfl) (HSS.out _ (Fr.refl _ _).drew) (fun hHeld => ?_)
            refine wpAnyH_take (i := 0) (oi := _) (v := ?_) (by rw [List.getElem?_toArray]; rfl) (by kernel_rfl) (by kernel_rfl) (by kernel_rfl) (fun _ _ _ h => by exact h) (Or.inl ⟨by rfl, ?_⟩) (by assumption) ?_
            rotate_left
            · (intro w hSw; (try dsimp only at hSw); go_simp; (try with_reducible rfl))
            try simp only [Act.put, List.setIfInBounds_toArray, List.set_cons_zero, List.set_cons_succ]
            refine wpAnyH_take (i := 1) (oi := _) (v := ?_) (by rw [List.getElem?_toArray]; rfl) (by kernel_rfl) (by kernel_rfl) (by kernel_rfl) (fun _ _ _ h => by exact h) (Or.inl ⟨by rfl, ?_⟩) (by assumption) ?_
            rotate_left
            · (intro w hSw; (try dsimp only at hSw); go_simp; (try with_reducible rfl))
            try simp only [Act.put, List.setIfInBounds_toArray, List.set_cons_zero, List.set_cons_succ]
            refine wpAnyH_take (i := 2) (oi := _) (v := ?_) (by rw [List.getElem?_toArray]; rfl) (by kernel_rfl) (by kernel_rfl) (by kernel_rfl) (fun _ _ _ h => by exact h) (Or.inl ⟨by rfl, ?_⟩) (by assumption) ?_
            rotate_left
            · (intro w hSw; (try dsimp only at hSw); go_simp; (try with_reducible rfl))
            try simp only [Act.put, List.setIfInBounds_toArray, List.set_cons_zero, List.set_cons_succ]
            refine wpAnyH_take (i := 3) (oi := _) (v := ?_) (by rw [List.getElem?_toArray]; rfl) (by kernel_rfl) (by kernel_rfl) (by kernel_rfl) (fun _ _ _ h => by exact h) (Or.inl ⟨by rfl, ?_⟩) (by assumption) ?_
            rotate_left
            · (intro w hSw; (try dsimp only at hSw); go_simp; (try with_reducible rfl))
            try simp only [Act.put, List.setIfInBounds_toArray, List.set_cons_zero, List.set_cons_succ]
            refine wpAnyH_take (i := 4) (oi := _) (v := ?_) (by rw [List.getElem?_toArray]; rfl) (by kernel_rfl) (by kernel_rfl) (by kernel_rfl) (fun _ _ _ h => by exact h) (Or.inl ⟨by rfl, ?_⟩) (by assumption) ?_
            rotate_left
            · (intro w hSw; (try dsimp only at hSw); obtain ⟨⟨d0, d1, d2, d3, d4, d5, d6⟩, ⟨i0, i1, i2, i3, i4, i5, i6⟩⟩ := hSw; go_simp; (try with_reducible rfl))
            try simp only [Act.put, List.setIfInBounds_toArray, List.set_cons_zero, List.set_cons_succ]
            refine wpAnyH_take (i := 5) (oi := _) (v := ?_) (by rw [List.getElem?_toArray]; rfl) (by kernel_rfl) (by kernel_rfl) (by kernel_rfl) (fun _ _ _ h => by exact h) (Or.inl ⟨by rfl, ?_⟩) (by assumption) ?_
            rotate_left
            · (intro w hSw; (try dsimp only at hSw); go_simp; (try with_reducible rfl))
            try simp only [Act.put, List.setIfInBounds_toArray, List.set_cons_zero, List.set_cons_succ]
            refine wpAnyH_take (i := 6) (oi := _) (v := ?_) (by rw [List.getElem?_toArray]; rfl) (by kernel_rfl) (by kernel_rfl) (by kernel_rfl) (fun _ _ _ h => by exact h) (Or.inl ⟨by rfl, ?_⟩) (by assumption) ?_
            rotate_left
            · (intro w hSw; (try dsimp only at hSw); obtain ⟨⟨d0, d1, d2, d3, d4, d5, d6⟩, ⟨i0, i1, i2, i3, i4, i5, i6⟩⟩ := hSw; go_simp; (try with_reducible rfl))
            try simp only [Act.put, List.setIfInBounds_toArray, List.set_cons_zero, List.set_cons_succ]
            refine wpAnyH_take (i := 7) (oi := _) (v := ?_) (by rw [List.getElem?_toArray]; rfl) (by kernel_rfl) (by kernel_rfl) (by kernel_rfl) (fun _ _ _ h => by exact h) (Or.inl ⟨by rfl, ?_⟩) (by assumption) ?_
            rotate_left
            · (intro w hSw; (try dsimp only at hSw); go_simp; (try with_reducible rfl))
            try simp only [Act.put, List.setIfInBounds_toArray, List.set_cons_zero, List.set_cons_succ]
            refine wpAnyH_take (i := 8) (oi := _) (v := ?_) (by rw [List.getElem?_toArray]; rfl) (by kernel_rfl) (by kernel_rfl) (by kernel_rfl) (fun _ _ _ h => by exact h) (Or.inl ⟨by rfl, ?_⟩) (by assumption) ?_
            rotate_left
            · (intro w hSw; (try dsimp only at hSw); go_simp; (try with_reducible rfl))
            try simp only [Act.put, List.setIfInBounds_toArray, List.set_cons_zero, List.set_cons_succ]
            refine wpAnyH_take (i := 9) (oi := _) (v := ?_) (by rw [List.getElem?_toArray]; rfl) (by kernel_rfl) (by kernel_rfl) (by kernel_rfl) (fun _ _ _ h => by exact h) (Or.inl ⟨by rfl, ?_⟩) (by assumption) ?_
            rotate_left
            · (intro w hSw; (try dsimp only at hSw); go_simp; (try with_reducible rfl))
            try simp only [Act.put, List.setIfInBounds_toArray, List.set_cons_zero, List.set_cons_succ]
            refine wpAnyH_take (i := 10) (oi := _) (v := ?_) (by rw [List.getElem?_toArray]; rfl) (by kernel_rfl) (by kernel_rfl) (by kernel_rfl) (fun _ _ _ h => by exact h) (Or.inl ⟨by rfl, ?_⟩) (by assumption) ?_
            rotate_left
            · (intro w hSw; (try dsimp only at hSw); go_simp; (try with_reducible rfl))
            try simp only [Act.put, List.setIfInBounds_toArray, List.set_cons_zero, List.set_cons_succ]
            refine wpAnyH_take (i := 11) (oi := _) (v := ?_) (by rw [List.getElem?_toArray]; rfl) (by kernel_rfl) (by kernel_rfl) (by kernel_rfl) (fun _ _ _ h => by exact h) (Or.inl ⟨by rfl, ?_⟩) (by assumption) ?_
            rotate_left
            · (intro w hSw; (try dsimp only at hSw); go_simp; (try with_reducible rfl))
            try simp only [Act.put, List.setIfInBounds_toArray, List.set_cons_zero, List.set_cons_succ]
            refine wpAnyH_take (i := 12) (oi := _) (v := ?_) (by rw [List.getElem?_toArray]; rfl) (by kernel_rfl) (by kernel_rfl) (by kernel_rfl) (fun _ _ _ h => by exact h) (Or.inl ⟨by rfl, ?_⟩) (by assumption) ?_
            rotate_left
            · (intro w hSw; (try dsimp only at hSw); obtain ⟨⟨d0, d1, d2, d3, d4, d5, d6⟩, ⟨i0, i1, i2, i3, i4, i5, i6⟩⟩ := hSw; go_simp; (try with_reducible rfl))
            try simp only [Act.put, List.setIfInBounds_toArray, List.set_cons_zero, List.set_cons_succ]
            refine wpAnyH_take (i := 13) (oi := _) (v := ?_) (by rw [List.getElem?_toArray]; rfl) (by kernel_rfl) (by kernel_rfl) (by kernel_rfl) (fun _ _ _ h => by exact h) (Or.inl ⟨by rfl, ?_⟩) (by assumption) ?_
            rotate_left
            · (intro w hSw; (try dsimp only at hSw); obtain ⟨⟨d0, d1, d2, d3, d4, d5, d6⟩, ⟨i0, i1, i2, i3, i4, i5, i6⟩⟩ := hSw; go_simp; (try with_reducible rfl))
            try simp only [Act.put, List.setIfInBounds_toArray, List.set_cons_zero, List.set_cons_succ]
            refine wpAnyH_ready (rs := [14]) (by kernel_rfl) (by simp) ?_
            refine AllReadyH.cons (o := _) (by rw [List.getElem?_toArray]; rfl) (fun K hK => ?_) ?_
            · go_simp
              go_wp2_with (go_at_call 15; refine (KM.out _ (Fr.refl _ wr).drew).mono ?_; rintro e wM ⟨rfl, fM⟩)
              have GM : Hid (Fr (fun _ => False) wr wM) := ((Fr.refl _ wr).drew).trans fM
              clear fM
              refine hK.out _ _ (HSS.out _ GM.out) (fun hHeld => ?_)
              clear hK K
              try simp only [Act.put, List.setIfInBounds_toArray, List.set_cons_zero, List.set_cons_succ]
              refine wpAnyH_take (i := 15) (oi := _) (v := ?_) (by rw [List.getElem?_toArray]; rfl) (by kernel_rfl) (by kernel_rfl) (by kernel_rfl) (fun _ _ _ h => by exact h) (Or.inl ⟨by rfl, ?_⟩) (by assumption) ?_
              rotate_left
              · (intro w hSw; (try dsimp only at hSw); go_simp; (try with_reducible rfl))
              try simp only [Act.put, List.setIfInBounds_toArray, List.set_cons_zero, List.set_cons_succ]
              refine wpAnyH_done (by kernel_rfl) ?_ _
              have HFM : Hid (Fr (fun _ => False) W0 wM) := HF.out.trans GM.out
              go_wp2
              go_roundw
              case rel => exact ⟨k + 1, by omega, by go_num, HN.out (by rw [Ht.out, Hmm.out]; rfl), HFM.out⟩
              case measure => simp [intOf]; omega
            exact AllReadyH.nil
    · have z2 : ¬ (k : Int) < (l.length : Int) := by omega
      have HALL : Hid ((l.any fun x => !x.id h && x.meets h) = false) := by have := HA.out; show _ = _; rwa [List.take_of_length_le (by omega)] at this
      have hT := HTT.out.symm.trans HALL.out
      subst hT
      have KD : Hid (∀ W, Fr (fun _ => False) wr W → Calls _ _ _ _ _) := fun W f => refdrop_any h.a0 h.a1 ao l cap W (HR.out.fr ((F0.out.trans HF.out).trans f) (by simp)) hlen
      go_wp2_with fail
      refine wp_region_held_drew (S := (fun W1 : World => C7 W1 bx (.int .u64 (h.a0 : Int)) (.int .u64 (h.a1 : Int)) (.int .u64 (h.a2 : Int)) (.slice h.ga h.g.length h.gc) (.slice h.sa h.s.length h.sc) (.slice h.pa h.p.length h.pc) (.slice h.da h.dl.length h.dc))) (by kernel_rfl) (HB0.out.fr HF.out.drew (by simp)) (fun hHeld => ?_)
      refine wpAnyH_take (i := 0) (oi := _) (v := ?_) (by rw [List.getElem?_toArray]; rfl) (by kernel_rfl) (by kernel_rfl) (by kernel_rfl) (fun _ _ _ h => by exact h) (Or.inl ⟨by rfl, ?_⟩) (by assumption) ?_
      rotate_left
      · (intro w hSw; (try dsimp only at hSw); go_simp; (try with_reducible rfl))
      try simp only [Act.put, List.setIfInBounds_toArray, List.set_cons_zero, List.set_cons_succ]
      refine wpAnyH_take (i := 1) (oi := _) (v := ?_) (by rw [List.getElem?_toArray]; rfl) (by kernel_rfl) (by kernel_rfl) (by kernel_rfl) (fun _ _ _ h => by exact h) (Or.inl ⟨by rfl, ?_⟩) (by assumption) ?_
      rotate_left
      · (intro w hSw; (try dsimp only at hSw); go_simp; (try with_reducible rfl))
      try simp only [Act.put, List.setIfInBounds_toArray, List.set_cons_zero, List.set_cons_succ]
      refine wpAnyH_take (i := 2) (oi := _) (v := ?_) (by rw [List.getElem?_toArray]; rfl) (by kernel_rfl) (by kernel_rfl) (by kernel_rfl) (fun _ _ _ h => by exact h) (Or.inl ⟨by rfl, ?_⟩) (by assumption) ?_
      rotate_left
      · (intro w hSw; (try dsimp only at hSw); obtain ⟨i0, i1, i2, i3, i4, i5, i6⟩ := hSw; go_simp; (try with_reducible rfl))
      try simp only [Act.put, List.setIfInBounds_toArray, List.set_cons_zero, List.set_cons_succ]
      refine wpAnyH_take (i := 4) (oi := _) (v := ?_) (by rw [List.getElem?_toArray]; rfl) (by kernel_rfl) (by kernel_rfl) (by kernel_rfl) (fun _ _ _ h => by exact h) (Or.inl ⟨by rfl, ?_⟩) (by assumption) ?_
      rotate_left
      · (intro w hSw; (try dsimp only at hSw); obtain ⟨i0, i1, i2, i3, i4, i5, i6⟩ := hSw; go_simp; (try with_reducible rfl))
      try simp only [Act.put, List.setIfInBounds_toArray, List.set_cons_zero, List.set_cons_succ]
      refine wpAnyH_ready (rs := [3, 5]) (by kernel_rfl) (by simp) ?_
      refine AllReadyH.cons (o := _) (by rw [List.getElem?_toArray]; rfl) (fun K hK => ?_) ?_
      · go_simp
        go_wp2_with (go_at_call 20; refine (KD.out _ ((Fr.refl _ wr).drew)).mono ?_; rintro e wD ⟨a1, c1, rfl, hoD, fD⟩)
        have HOD : Hid (OwnF wD wr.heap.size 29 (.slice a1 (l.filter fun x => !x.is h.a0 h.a1).length c1) (l.filter fun x => !x.is h.a0 h.a1)) := hoD
        have GD2 : Hid (Fr (fun _ => False) wr.drew wD) := fD
        have GD : Hid (Fr (fun _ => False) wr wD) := Fr.trans ((Fr.refl _ wr).drew) fD
        clear hoD fD
        refine hK.out _ _ (HB0.out.fr (HF.out.trans GD.out) (by simp)) (fun hHeld => ?_)
        clear hK K
        try simp only [Act.put, List.setIfInBounds_toArray, List.set_cons_zero, List.set_cons_succ]
        have FA : Hid (Fr (fun _ => False) wD (wD.alloc (.cells #[.int .u64 (h.a0 : Int), .int .u64 (h.a1 : Int), .int .u64 (h.a2 : Int), .slice h.ga h.g.length h.gc, .slice h.sa h.s.length h.sc, .slice h.pa h.p.length h.pc, .slice h.da h.dl.length h.dc] 29))) := (Fr.refl _ _).alloc _
        refine wpAnyH_ready (rs := [5]) (by kernel_rfl) (by simp) ?_
        refine AllReadyH.cons (o := _) (by rw [List.getElem?_toArray]; rfl) (fun K hK => ?_) ?_
        · go_simp
          refine hK.out _ _ (HB0.out.fr (HF.out.trans (GD.out.trans FA.out)) (by simp)) (fun hHeld => ?_)
          clear hK K
          try simp only [Act.put, List.setIfInBounds_toArray, List.set_cons_zero, List.set_cons_succ]
          refine wpAnyH_ready (rs := [6]) (by kernel_rfl) (by simp) ?_
          refine AllReadyH.cons (o := _) (by rw [List.getElem?_toArray]; rfl) (fun K hK => ?_) ?_
          · refine if_step (by rfl) ?_
            refine step_append_f (α := Hd) (.tmp 33) (.tmp 35) 40 29 rfl Try.underlying40 _ 120 Try.info29 rfl (by decide) wr.heap.size _ (l.filter fun x => !x.is h.a0 h.a1) rfl (HOD.out.fr FA.out (by simp)) ⟨wD.heap.size, 0, none⟩ [h] 1 rfl (one_f wD h 29 _ rfl) ?_ (by have := HFL.out; simp only [List.length_cons, List.length_nil]; omega) ?_
            · exact (GD.out.trans FA.out).size
            intro v7 w7 ho7 hg7 hat7
            obtain ⟨a7, c7, hv7, _⟩ := ho7.form
            rw [HMM.out] at hv7 ho7
            subst hv7
            have HO7 : Hid (OwnF w7 w.heap.size 29 (.slice a7 M.length c7) M) := ho7.rebase (by have := F0.out.size; have := HF.out.size; omega)
            have HW7 : Hid (Fr (fun _ => False) W0 w7) := (HF.out.trans (GD.out.trans FA.out)).grown hg7 (fun j hj => .inr (by have := (OwnF.lt (HOD.out.fr FA.out (by simp)) j hj).1; have := F0.out.size; have := HF.out.size; omega))
            clear ho7 hg7 hat7
            refine hK.out _ _ (HB0.out.fr HW7.out (by simp)) (fun hHeld => ?_)
            clear hK K
            try simp only [Act.put, List.setIfInBounds_toArray, List.set_cons_zero, List.set_cons_succ]
            refine wpAnyH_take (i := 7) (oi := _) (v := ?_) (by rw [List.getElem?_toArray]; rfl) (by kernel_rfl) (by kernel_rfl) (by kernel_rfl) (fun _ _ _ h => by exact h) (Or.inl ⟨by rfl, ?_⟩) (by assumption) ?_
            rotate_left
            · (intro w hSw; (try dsimp only at hSw); go_simp; (try with_reducible rfl))
            try simp only [Act.put, List.setIfInBounds_toArray, List.set_cons_zero, List.set_cons_succ]
            refine wpAnyH_take (i := 8) (oi := _) (v := ?_) (by rw [List.getElem?_toArray]; rfl) (by kernel_rfl) (by kernel_rfl) (by kernel_rfl) (fun _ _ _ h => by exact h) (Or.inl ⟨by rfl, ?_⟩) (by assumption) ?_
            rotate_left
            · (intro w hSw; (try dsimp only at hSw); go_simp; (try with_reducible rfl))
            try simp only [Act.put, List.setIfInBounds_toArray, List.set_cons_zero, List.set_cons_succ]
            refine wpAnyH_done (by kernel_rfl) ?_ _
            go_wp2
            go_ret2
            first | exact ⟨HO7.out, F0.out.trans HW7.out⟩ | exact ⟨rfl, a7, c7, rfl, HO7.out, F0.out.trans HW7.out⟩ | exact ⟨a7, c7, rfl, HO7.out, F0.out.trans HW7.out⟩ | exact ⟨⟨a7, c7, rfl, HO7.out⟩, F0.out.trans HW7.out⟩ | trace_state
          exact AllReadyH.nil
        exact AllReadyH.nil
      refine AllReadyH.cons (o := _) (by rw [List.getElem?_toArray]; rfl) (fun K hK => ?_) ?_
      · go_simp
        have FA : Hid (Fr (fun _ => False) wr (wr.drew.alloc (.cells #[.int .u64 (h.a0 : Int), .int .u64 (h.a1 : Int), .int .u64 (h.a2 : Int), .slice h.ga h.g.length h.gc, .slice h.sa h.s.length h.sc, .slice h.pa h.p.length h.pc, .slice h.da h.dl.length h.dc] 29))) := ((Fr.refl _ wr).drew).alloc _
        refine hK.out _ _ (HB0.out.fr (HF.out.trans FA.out) (by simp)) (fun hHeld => ?_)
        clear hK K
        try simp only [Act.put, List.setIfInBounds_toArray, List.set_cons_zero, List.set_cons_succ]
        refine wpAnyH_ready (rs := [3]) (by kernel_rfl) (by simp) ?_
        refine AllReadyH.cons (o := _) (by rw [List.getElem?_toArray]; rfl) (fun K hK => ?_) ?_
        · go_simp
          go_wp2_with (go_at_call 20; refine (KD.out _ FA.out).mono ?_; rintro e wD ⟨a1, c1, rfl, hoD, fD⟩)
          have HOD : Hid (OwnF wD (wr.drew.alloc (.cells #[.int .u64 (h.a0 : Int), .int .u64 (h.a1 : Int), .int .u64 (h.a2 : Int), .slice h.ga h.g.length h.gc, .slice h.sa h.s.length h.sc, .slice h.pa h.p.length h.pc, .slice h.da h.dl.length h.dc] 29)).heap.size 29 (.slice a1 (l.filter fun x => !x.is h.a0 h.a1).length c1) (l.filter fun x => !x.is h.a0 h.a1)) := hoD
          have GD2 : Hid (Fr (fun _ => False) (wr.drew.alloc (.cells #[.int .u64 (h.a0 : Int), .int .u64 (h.a1 : Int), .int .u64 (h.a2 : Int), .slice h.ga h.g.length h.gc, .slice h.sa h.s.length h.sc, .slice h.pa h.p.length h.pc, .slice h.da h.dl.length h.dc] 29)) wD) := fD
          have GD : Hid (Fr (fun _ => False) wr wD) := Fr.trans FA.out fD
          clear hoD fD
          refine hK.out _ _ (HB0.out.fr (HF.out.trans GD.out) (by simp)) (fun hHeld => ?_)
          clear hK K
          try simp only [Act.put, List.setIfInBounds_toArray, List.set_cons_zero, List.set_cons_succ]
          refine wpAnyH_ready (rs := [6]) (by kernel_rfl) (by simp) ?_
          refine AllReadyH.cons (o := _) (by rw [List.getElem?_toArray]; rfl) (fun K hK => ?_) ?_
          · refine if_step (by rfl) ?_
            refine step_append_f (α := Hd) (.tmp 33) (.tmp 35) 40 29 rfl Try.underlying40 _ 120 Try.info29 rfl (by decide) (wr.drew.alloc (.cells #[.int .u64 (h.a0 : Int), .int .u64 (h.a1 : Int), .int .u64 (h.a2 : Int), .slice h.ga h.g.length h.gc, .slice h.sa h.s.length h.sc, .slice h.pa h.p.length h.pc, .slice h.da h.dl.length h.dc] 29)).heap.size _ (l.filter fun x => !x.is h.a0 h.a1) rfl HOD.out ⟨wr.heap.size, 0, none⟩ [h] 1 rfl (fun j u hu => GD2.out.cell (one_f wr.drew h 29 _ rfl j u hu) (by simp)) ?_ (by have := HFL.out; simp only [List.length_cons, List.length_nil]; omega) ?_
            · exact GD2.out.size
            intro v7 w7 ho7 hg7 hat7
            obtain ⟨a7, c7, hv7, _⟩ := ho7.form
            rw [HMM.out] at hv7 ho7
            subst hv7
            have HO7 : Hid (OwnF w7 w.heap.size 29 (.slice a7 M.length c7) M) := ho7.rebase (by have := F0.out.size; have := HF.out.size; have := FA.out.size; omega)
            have HW7 : Hid (Fr (fun _ => False) W0 w7) := (HF.out.trans GD.out).grown hg7 (fun j hj => .inr (by have := (OwnF.lt HOD.out j hj).1; have := F0.out.size; have := HF.out.size; have := FA.out.size; omega))
            clear ho7 hg7 hat7
            refine hK.out _ _ (HB0.out.fr HW7.out (by simp)) (fun hHeld => ?_)
            clear hK K
            try simp only [Act.put, List.setIfInBounds_toArray, List.set_cons_zero, List.set_cons_succ]
            refine wpAnyH_take (i := 7) (oi := _) (v := ?_) (by rw [List.getElem?_toArray]; rfl) (by kernel_rfl) (by kernel_rfl) (by kernel_rfl) (fun _ _ _ h => by exact h) (Or.inl ⟨by rfl, ?_⟩) (by assumption) ?_
            rotate_left
            · (intro w hSw; (try dsimp only at hSw); go_simp; (try with_reducible rfl))
            try simp only [Act.put, List.setIfInBounds_toArray, List.set_cons_zero, List.set_cons_succ]
            refine wpAnyH_take (i := 8) (oi := _) (v := ?_) (by rw [List.getElem?_toArray]; rfl) (by kernel_rfl) (by kernel_rfl) (by kernel_rfl) (fun _ _ _ h => by exact h) (Or.inl ⟨by rfl, ?_⟩) (by assumption) ?_
            rotate_left
            · (intro w hSw; (try dsimp only at hSw); go_simp; (try with_reducible rfl))
            try simp only [Act.put, List.setIfInBounds_toArray, List.set_cons_zero, List.set_cons_succ]
            refine wpAnyH_done (by kernel_rfl) ?_ _
            go_wp2
            go_ret2
            first | exact ⟨HO7.out, F0.out.trans HW7.out⟩ | exact ⟨rfl, a7, c7, rfl, HO7.out, F0.out.trans HW7.out⟩ | exact ⟨a7, c7, rfl, HO7.out, F0.out.trans HW7.out⟩ | exact ⟨⟨a7, c7, rfl, HO7.out⟩, F0.out.trans HW7.out⟩ | trace_state
          exact AllReadyH.nil
        exact AllReadyH.nil
      exact AllReadyH.nil
end Go.Proofs.Ytaalkhipncbjpaa
