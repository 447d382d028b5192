/- The document's Held and Drop, of any list of holds. -/
import Derived.Test.YtaalkhipncbjpaaTabK
namespace Go.Proofs.Ytaalkhipncbjpaa
open Go Go.RowKit
attribute [local go_sem] run_store_float
theorem is_bool (x : Hd) (s q : Nat) : (((x.a0 : Int) == (s : Int)) && ((x.a1 : Int) == (q : Int))) = x.is s q := by
  unfold Hd.is
  rw [Bool.eq_iff_iff]
  simp
  omega
set_option maxRecDepth 100000 in
set_option maxHeartbeats 8000000 in
theorem held_any (s q : Nat) (ao : Option Addr) (l : List Hd) (cap : Nat) (w : World) (hr : RowF w ao l cap) (hok : ∀ x ∈ l, x.ok w) :
    Calls Try.prog 19 #[.slice ao l.length cap, .agg #[.int .u64 (s : Int), .int .u64 (q : Int)]] w fun e w' => ∃ (x : Hd), e = .returned (.tuple #[.agg #[.int .u64 (x.a0 : Int), .int .u64 (x.a1 : Int), .int .u64 (x.a2 : Int), .slice x.ga x.g.length x.gc, .slice x.sa x.s.length x.sc, .slice x.pa x.p.length x.pc, .slice x.da x.dl.length x.dc], .bool (l.any fun x => x.is s q)]) ∧ x.ok w' ∧ ((l.any fun x => x.is s q) = true → x ∈ l ∧ x.is s q = true) ∧ Fr (fun _ => False) w w' := by
  obtain ⟨T, HTT⟩ : ∃ T, Hid ((l.any fun x => x.is s q) = T) := ⟨_, rfl⟩
  rw [HTT.out]
  have F0 : Hid (Fr (fun _ => False) w ((w.alloc (.cells #[.int .u64 (s : Int), .int .u64 (q : Int)] 24)).alloc (.cells #[.int .u64 0, .int .u64 0, .int .u64 0, .slice none 0 0, .slice none 0 0, .slice none 0 0, .slice none 0 0] 29))) := ((Fr.refl (fun _ => False) w).alloc _).alloc _
  have HR0 : Hid (Z7 ((w.alloc (.cells #[.int .u64 (s : Int), .int .u64 (q : Int)] 24)).alloc (.cells #[.int .u64 0, .int .u64 0, .int .u64 0, .slice none 0 0, .slice none 0 0, .slice none 0 0, .slice none 0 0] 29)) (w.heap.size + 1) (.int .u64 0) (.int .u64 0) (.int .u64 0) (.slice none 0 0) (.slice none 0 0) (.slice none 0 0) (.slice none 0 0)) := (show Z7 _ _ _ _ _ _ _ _ _ by have := Z7.new (w.alloc (.cells #[.int .u64 (s : Int), .int .u64 (q : Int)] 24)) 29 (.int .u64 0) (.int .u64 0) (.int .u64 0) (.slice none 0 0) (.slice none 0 0) (.slice none 0 0) (.slice none 0 0); simpa using this)
  have HI0 : Hid (C2 ((w.alloc (.cells #[.int .u64 (s : Int), .int .u64 (q : Int)] 24)).alloc (.cells #[.int .u64 0, .int .u64 0, .int .u64 0, .slice none 0 0, .slice none 0 0, .slice none 0 0, .slice none 0 0] 29)) w.heap.size (.int .u64 (s : Int)) (.int .u64 (q : Int))) := (C2.new w 24 _ _).fr ((Fr.refl (fun _ => False) _).alloc _) (by simp)
  have HR : Hid (RowF w ao l cap) := hr
  have HOK : Hid (∀ x ∈ l, x.ok w) := hok
  have hl1 : l.length ≤ 9223372036854775807 := hr.lens.1
  obtain ⟨bx, Hbx⟩ : ∃ bx, Hid (w.heap.size = bx) := ⟨_, rfl⟩
  obtain ⟨rx, Hrx⟩ : ∃ rx, Hid (w.heap.size + 1 = rx) := ⟨_, rfl⟩
  obtain ⟨W0, HW0⟩ : ∃ W, Hid (((w.alloc (.cells #[.int .u64 (s : Int), .int .u64 (q : Int)] 24)).alloc (.cells #[.int .u64 0, .int .u64 0, .int .u64 0, .slice none 0 0, .slice none 0 0, .slice none 0 0, .slice none 0 0] 29)) = W) := ⟨_, rfl⟩
  rw [HW0.out] at F0 HR0 HI0
  rw [Hbx.out] at HI0
  rw [Hrx.out] at HR0
  clear hr hok
  go_enter Try.func19, Try.ntmps19
  go_wp2
  rw [Hrx.out, Hbx.out, HW0.out]
  go_loopw [6] (fun iv wr => ∃ k : Nat, k ≤ l.length ∧ iv = .int .i64 (k : Int) ∧ Hid ((l.take k).any (fun x => x.is s q) = false) ∧ Hid (Fr (fun _ => False) W0 wr)) (fun iv _ => l.length - (intOf iv).toNat)
  case atStart => exact ⟨0, Nat.zero_le _, rfl, (by show (List.take 0 l).any _ = false; simp), Fr.refl _ _⟩
  case round =>
    obtain ⟨k, hk, rfl, HA, HF⟩ := hrel
    by_cases hlt : k < l.length
    · obtain ⟨b, off, x, hao, Hx, hmem, d0, d1, d2, d3, d4, d5, d6⟩ := (HR.out.fr (F0.out.trans HF.out) (by simp)).seven hlt
      have HSS : Hid (∀ W, Fr (fun _ => False) wr W → (fun W1 : World => (W1.cell? ⟨b, off + k * 7, none⟩ = some (.int .u64 (x.a0 : Int)) ∧ W1.cell? ⟨b, off + k * 7 + 1, none⟩ = some (.int .u64 (x.a1 : Int)) ∧ W1.cell? ⟨b, off + k * 7 + 2, none⟩ = some (.int .u64 (x.a2 : Int)) ∧ W1.cell? ⟨b, off + k * 7 + 3, none⟩ = some (.slice x.ga x.g.length x.gc) ∧ W1.cell? ⟨b, off + k * 7 + 4, none⟩ = some (.slice x.sa x.s.length x.sc) ∧ W1.cell? ⟨b, off + k * 7 + 5, none⟩ = some (.slice x.pa x.p.length x.pc) ∧ W1.cell? ⟨b, off + k * 7 + 6, none⟩ = some (.slice x.da x.dl.length x.dc)) ∧ C2 W1 bx (.int .u64 (s : Int)) (.int .u64 (q : Int))) W) := fun W f => ⟨⟨f.cell d0 (by simp), f.cell d1 (by simp), f.cell d2 (by simp), f.cell d3 (by simp), f.cell d4 (by simp), f.cell d5 (by simp), f.cell d6 (by simp)⟩, (HI0.out.fr HF.out (by simp)).fr f (by simp)⟩
      have hn : (l.getD k dH).is s q = false → (l.take (k + 1)).any (fun x => x.is s q) = false := any_take_succ l (fun x => x.is s q) dH k hlt HA.out
      have ht : (l.getD k dH).is s q = true → l.any (fun x => x.is s q) = true := any_at l (fun x => x.is s q) dH k hlt
      rw [Hx.out] at hn ht
      have HN : Hid (x.is s q = false → (l.take (k + 1)).any (fun x => x.is s q) = false) := hn
      have HT : Hid (x.is s q = true → l.any (fun x => x.is s q) = true) := ht
      have HM : Hid (x ∈ l) := hmem
      subst hao
      have z1 : (0 : Int) ≤ (k : Int) := by omega
      have z2 : (k : Int) < (l.length : Int) := by omega
      clear hmem hn ht d0 d1 d2 d3 d4 d5 d6
      obtain ⟨t, Ht⟩ : ∃ t, Hid (x.is s q = t) := ⟨_, rfl⟩
      cases t with
      | true =>
        have e0 : (x.a0 : Int) = (s : Int) := by have := of_decide_eq_true Ht.out; omega
        have e1 : (x.a1 : Int) = (q : Int) := by have := of_decide_eq_true Ht.out; omega
        have hT := HTT.out.symm.trans (HT.out Ht.out)
        subst hT
        go_wp2_with fail
        refine wp_region_held_drew (S := (fun W1 : World => (W1.cell? ⟨b, off + k * 7, none⟩ = some (.int .u64 (x.a0 : Int)) ∧ W1.cell? ⟨b, off + k * 7 + 1, none⟩ = some (.int .u64 (x.a1 : Int)) ∧ W1.cell? ⟨b, off + k * 7 + 2, none⟩ = some (.int .u64 (x.a2 : Int)) ∧ W1.cell? ⟨b, off + k * 7 + 3, none⟩ = some (.slice x.ga x.g.length x.gc) ∧ W1.cell? ⟨b, off + k * 7 + 4, none⟩ = some (.slice x.sa x.s.length x.sc) ∧ W1.cell? ⟨b, off + k * 7 + 5, none⟩ = some (.slice x.pa x.p.length x.pc) ∧ W1.cell? ⟨b, off + k * 7 + 6, none⟩ = some (.slice x.da x.dl.length x.dc)) ∧ C2 W1 bx (.int .u64 (s : Int)) (.int .u64 (q : Int)))) (by kernel_rfl) (HSS.out _ (Fr.refl _ _).drew) (fun hHeld => ?_)
        refine wpAnyH_take (i := 0) (oi := _) (v := ?_) (by rw [List.getElem?_toArray]; rfl) (by kernel_rfl) (by kernel_rfl) (by kernel_rfl) (fun _ _ _ h => by exact h) (Or.inl ⟨by rfl, ?_⟩) (by assumption) ?_
        rotate_left
        · (intro w hSw; (try dsimp only at hSw); go_simp; (try with_reducible rfl))
        try simp only [Act.put, List.setIfInBounds_toArray, List.set_cons_zero, List.set_cons_succ]
        refine wpAnyH_take (i := 1) (oi := _) (v := ?_) (by rw [List.getElem?_toArray]; rfl) (by kernel_rfl) (by kernel_rfl) (by kernel_rfl) (fun _ _ _ h => by exact h) (Or.inl ⟨by rfl, ?_⟩) (by assumption) ?_
        rotate_left
        · (intro w hSw; (try dsimp only at hSw); go_simp; (try with_reducible rfl))
        try simp only [Act.put, List.setIfInBounds_toArray, List.set_cons_zero, List.set_cons_succ]
        refine wpAnyH_take (i := 2) (oi := _) (v := ?_) (by rw [List.getElem?_toArray]; rfl) (by kernel_rfl) (by kernel_rfl) (by kernel_rfl) (fun _ _ _ h => by exact h) (Or.inl ⟨by rfl, ?_⟩) (by assumption) ?_
        rotate_left
        · (intro w hSw; (try dsimp only at hSw); go_simp; (try with_reducible rfl))
        try simp only [Act.put, List.setIfInBounds_toArray, List.set_cons_zero, List.set_cons_succ]
        refine wpAnyH_take (i := 3) (oi := _) (v := ?_) (by rw [List.getElem?_toArray]; rfl) (by kernel_rfl) (by kernel_rfl) (by kernel_rfl) (fun _ _ _ h => by exact h) (Or.inl ⟨by rfl, ?_⟩) (by assumption) ?_
        rotate_left
        · (intro w hSw; (try dsimp only at hSw); go_simp; (try with_reducible rfl))
        try simp only [Act.put, List.setIfInBounds_toArray, List.set_cons_zero, List.set_cons_succ]
        refine wpAnyH_take (i := 4) (oi := _) (v := ?_) (by rw [List.getElem?_toArray]; rfl) (by kernel_rfl) (by kernel_rfl) (by kernel_rfl) (fun _ _ _ h => by exact h) (Or.inl ⟨by rfl, ?_⟩) (by assumption) ?_
        rotate_left
        · (intro w hSw; (try dsimp only at hSw); obtain ⟨⟨d0, d1, d2, d3, d4, d5, d6⟩, ⟨i0, i1⟩⟩ := hSw; go_simp; (try with_reducible rfl))
        try simp only [Act.put, List.setIfInBounds_toArray, List.set_cons_zero, List.set_cons_succ]
        refine wpAnyH_take (i := 5) (oi := _) (v := ?_) (by rw [List.getElem?_toArray]; rfl) (by kernel_rfl) (by kernel_rfl) (by kernel_rfl) (fun _ _ _ h => by exact h) (Or.inl ⟨by rfl, ?_⟩) (by assumption) ?_
        rotate_left
        · (intro w hSw; (try dsimp only at hSw); obtain ⟨⟨d0, d1, d2, d3, d4, d5, d6⟩, ⟨i0, i1⟩⟩ := hSw; go_simp; (try with_reducible rfl))
        try simp only [Act.put, List.setIfInBounds_toArray, List.set_cons_zero, List.set_cons_succ]
        refine wpAnyH_take (i := 6) (oi := _) (v := ?_) (by rw [List.getElem?_toArray]; rfl) (by kernel_rfl) (by kernel_rfl) (by kernel_rfl) (fun _ _ _ h => by exact h) (Or.inl ⟨by rfl, ?_⟩) (by assumption) ?_
        rotate_left
        · (intro w hSw; (try dsimp only at hSw); go_simp; (try with_reducible rfl))
        try simp only [Act.put, List.setIfInBounds_toArray, List.set_cons_zero, List.set_cons_succ]
        refine wpAnyH_done (by kernel_rfl) ?_ _
        clear e0 e1
        obtain ⟨wD, HWD⟩ : ∃ W, Hid (wr.drew = W) := ⟨_, rfl⟩
        have HFD : Hid (Fr (fun _ => False) W0 wr.drew) := HF.out.drew
        have HSD := HSS.out _ (Fr.refl _ wr).drew
        rw [HWD.out] at HFD HSD ⊢
        obtain ⟨⟨d0, d1, d2, d3, d4, d5, d6⟩, _⟩ := HSD
        have HRE : Hid (Z7 wD rx (.int .u64 0) (.int .u64 0) (.int .u64 0) (.slice none 0 0) (.slice none 0 0) (.slice none 0 0) (.slice none 0 0)) := HR0.out.fr HFD.out (by simp)
        obtain ⟨⟨y0, y1, y2, y3, y4, y5, y6⟩, yz⟩ := HRE.out
        go_wp2
        obtain ⟨hq, fq⟩ := HRE.out.put7 (.int .u64 (x.a0 : Int)) (.int .u64 (x.a1 : Int)) (.int .u64 (x.a2 : Int)) (.slice x.ga x.g.length x.gc) (.slice x.sa x.s.length x.sc) (.slice x.pa x.p.length x.pc) (.slice x.da x.dl.length x.dc)
        clear y0 y1 y2 y3 y4 y5 y6 yz d0 d1 d2 d3 d4 d5 d6
        try simp only [Exit.inBlock, Exit.then]
        refine bodyPost_ret (v := .tuple #[.agg #[.int .u64 (x.a0 : Int), .int .u64 (x.a1 : Int), .int .u64 (x.a2 : Int), .slice x.ga x.g.length x.gc, .slice x.sa x.s.length x.sc, .slice x.pa x.p.length x.pc, .slice x.da x.dl.length x.dc], .bool true]) ?_ rfl ⟨x, rfl, ((HOK.out x HM.out).fr (F0.out.trans HFD.out)).frD fq ((HOK.out x HM.out).lt) (fun k hk e => by have := Hrx.out; omega), ⟨HM.out, Ht.out⟩, (F0.out.trans HFD.out).trans' fq (fun i hi h => by have := Hrx.out; omega)⟩
        revert hq
        generalize (((((((wD.setCell _ _).setCell _ _).setCell _ _).setCell _ _).setCell _ _).setCell _ _).setCell _ _) = WQ
        intro hq
        obtain ⟨⟨d0, d1, d2, d3, d4, d5, d6⟩, _⟩ := hq
        simp [results, Try.results19, go_sem, *]
      | false =>
        have e2 : (x.a0 : Int) = (s : Int) → (x.a1 : Int) ≠ (q : Int) := by have := of_decide_eq_false Ht.out; omega
        by_cases e0 : (x.a0 : Int) = (s : Int)
        · have e1 : ¬ (x.a1 : Int) = (q : Int) := e2 e0
          clear e2
          go_wp2_with fail
          refine wp_region_held_drew (S := (fun W1 : World => (W1.cell? ⟨b, off + k * 7, none⟩ = some (.int .u64 (x.a0 : Int)) ∧ W1.cell? ⟨b, off + k * 7 + 1, none⟩ = some (.int .u64 (x.a1 : Int)) ∧ W1.cell? ⟨b, off + k * 7 + 2, none⟩ = some (.int .u64 (x.a2 : Int)) ∧ W1.cell? ⟨b, off + k * 7 + 3, none⟩ = some (.slice x.ga x.g.length x.gc) ∧ W1.cell? ⟨b, off + k * 7 + 4, none⟩ = some (.slice x.sa x.s.length x.sc) ∧ W1.cell? ⟨b, off + k * 7 + 5, none⟩ = some (.slice x.pa x.p.length x.pc) ∧ W1.cell? ⟨b, off + k * 7 + 6, none⟩ = some (.slice x.da x.dl.length x.dc)) ∧ C2 W1 bx (.int .u64 (s : Int)) (.int .u64 (q : Int)))) (by kernel_rfl) (HSS.out _ (Fr.refl _ _).drew) (fun hHeld => ?_)
          refine wpAnyH_take (i := 0) (oi := _) (v := ?_) (by rw [List.getElem?_toArray]; rfl) (by kernel_rfl) (by kernel_rfl) (by kernel_rfl) (fun _ _ _ h => by exact h) (Or.inl ⟨by rfl, ?_⟩) (by assumption) ?_
          rotate_left
          · (intro w hSw; (try dsimp only at hSw); go_simp; (try with_reducible rfl))
          try simp only [Act.put, List.setIfInBounds_toArray, List.set_cons_zero, List.set_cons_succ]
          refine wpAnyH_take (i := 1) (oi := _) (v := ?_) (by rw [List.getElem?_toArray]; rfl) (by kernel_rfl) (by kernel_rfl) (by kernel_rfl) (fun _ _ _ h => by exact h) (Or.inl ⟨by rfl, ?_⟩) (by assumption) ?_
          rotate_left
          · (intro w hSw; (try dsimp only at hSw); go_simp; (try with_reducible rfl))
          try simp only [Act.put, List.setIfInBounds_toArray, List.set_cons_zero, List.set_cons_succ]
          refine wpAnyH_take (i := 2) (oi := _) (v := ?_) (by rw [List.getElem?_toArray]; rfl) (by kernel_rfl) (by kernel_rfl) (by kernel_rfl) (fun _ _ _ h => by exact h) (Or.inl ⟨by rfl, ?_⟩) (by assumption) ?_
          rotate_left
          · (intro w hSw; (try dsimp only at hSw); go_simp; (try with_reducible rfl))
          try simp only [Act.put, List.setIfInBounds_toArray, List.set_cons_zero, List.set_cons_succ]
          refine wpAnyH_take (i := 3) (oi := _) (v := ?_) (by rw [List.getElem?_toArray]; rfl) (by kernel_rfl) (by kernel_rfl) (by kernel_rfl) (fun _ _ _ h => by exact h) (Or.inl ⟨by rfl, ?_⟩) (by assumption) ?_
          rotate_left
          · (intro w hSw; (try dsimp only at hSw); go_simp; (try with_reducible rfl))
          try simp only [Act.put, List.setIfInBounds_toArray, List.set_cons_zero, List.set_cons_succ]
          refine wpAnyH_take (i := 4) (oi := _) (v := ?_) (by rw [List.getElem?_toArray]; rfl) (by kernel_rfl) (by kernel_rfl) (by kernel_rfl) (fun _ _ _ h => by exact h) (Or.inl ⟨by rfl, ?_⟩) (by assumption) ?_
          rotate_left
          · (intro w hSw; (try dsimp only at hSw); obtain ⟨⟨d0, d1, d2, d3, d4, d5, d6⟩, ⟨i0, i1⟩⟩ := hSw; go_simp; (try with_reducible rfl))
          try simp only [Act.put, List.setIfInBounds_toArray, List.set_cons_zero, List.set_cons_succ]
          refine wpAnyH_take (i := 5) (oi := _) (v := ?_) (by rw [List.getElem?_toArray]; rfl) (by kernel_rfl) (by kernel_rfl) (by kernel_rfl) (fun _ _ _ h => by exact h) (Or.inl ⟨by rfl, ?_⟩) (by assumption) ?_
          rotate_left
          · (intro w hSw; (try dsimp only at hSw); obtain ⟨⟨d0, d1, d2, d3, d4, d5, d6⟩, ⟨i0, i1⟩⟩ := hSw; go_simp; (try with_reducible rfl))
          try simp only [Act.put, List.setIfInBounds_toArray, List.set_cons_zero, List.set_cons_succ]
          refine wpAnyH_take (i := 6) (oi := _) (v := ?_) (by rw [List.getElem?_toArray]; rfl) (by kernel_rfl) (by kernel_rfl) (by kernel_rfl) (fun _ _ _ h => by exact h) (Or.inl ⟨by rfl, ?_⟩) (by assumption) ?_
          rotate_left
          · (intro w hSw; (try dsimp only at hSw); go_simp; (try with_reducible rfl))
          try simp only [Act.put, List.setIfInBounds_toArray, List.set_cons_zero, List.set_cons_succ]
          refine wpAnyH_done (by kernel_rfl) ?_ _
          have HFD : Hid (Fr (fun _ => False) W0 wr.drew) := HF.out.drew
          go_wp2
          go_roundw
          case rel => exact ⟨k + 1, by omega, by go_num, HN.out Ht.out, HFD.out⟩
          case measure => simp [intOf]; omega
        · clear e2
          go_wp2_with fail
          refine wp_region_held_drew (S := (fun W1 : World => (W1.cell? ⟨b, off + k * 7, none⟩ = some (.int .u64 (x.a0 : Int)) ∧ W1.cell? ⟨b, off + k * 7 + 1, none⟩ = some (.int .u64 (x.a1 : Int)) ∧ W1.cell? ⟨b, off + k * 7 + 2, none⟩ = some (.int .u64 (x.a2 : Int)) ∧ W1.cell? ⟨b, off + k * 7 + 3, none⟩ = some (.slice x.ga x.g.length x.gc) ∧ W1.cell? ⟨b, off + k * 7 + 4, none⟩ = some (.slice x.sa x.s.length x.sc) ∧ W1.cell? ⟨b, off + k * 7 + 5, none⟩ = some (.slice x.pa x.p.length x.pc) ∧ W1.cell? ⟨b, off + k * 7 + 6, none⟩ = some (.slice x.da x.dl.length x.dc)) ∧ C2 W1 bx (.int .u64 (s : Int)) (.int .u64 (q : Int)))) (by kernel_rfl) (HSS.out _ (Fr.refl _ _).drew) (fun hHeld => ?_)
          refine wpAnyH_take (i := 0) (oi := _) (v := ?_) (by rw [List.getElem?_toArray]; rfl) (by kernel_rfl) (by kernel_rfl) (by kernel_rfl) (fun _ _ _ h => by exact h) (Or.inl ⟨by rfl, ?_⟩) (by assumption) ?_
          rotate_left
          · (intro w hSw; (try dsimp only at hSw); go_simp; (try with_reducible rfl))
          try simp only [Act.put, List.setIfInBounds_toArray, List.set_cons_zero, List.set_cons_succ]
          refine wpAnyH_take (i := 1) (oi := _) (v := ?_) (by rw [List.getElem?_toArray]; rfl) (by kernel_rfl) (by kernel_rfl) (by kernel_rfl) (fun _ _ _ h => by exact h) (Or.inl ⟨by rfl, ?_⟩) (by assumption) ?_
          rotate_left
          · (intro w hSw; (try dsimp only at hSw); go_simp; (try with_reducible rfl))
          try simp only [Act.put, List.setIfInBounds_toArray, List.set_cons_zero, List.set_cons_succ]
          refine wpAnyH_take (i := 2) (oi := _) (v := ?_) (by rw [List.getElem?_toArray]; rfl) (by kernel_rfl) (by kernel_rfl) (by kernel_rfl) (fun _ _ _ h => by exact h) (Or.inl ⟨by rfl, ?_⟩) (by assumption) ?_
          rotate_left
          · (intro w hSw; (try dsimp only at hSw); go_simp; (try with_reducible rfl))
          try simp only [Act.put, List.setIfInBounds_toArray, List.set_cons_zero, List.set_cons_succ]
          refine wpAnyH_take (i := 3) (oi := _) (v := ?_) (by rw [List.getElem?_toArray]; rfl) (by kernel_rfl) (by kernel_rfl) (by kernel_rfl) (fun _ _ _ h => by exact h) (Or.inl ⟨by rfl, ?_⟩) (by assumption) ?_
          rotate_left
          · (intro w hSw; (try dsimp only at hSw); go_simp; (try with_reducible rfl))
          try simp only [Act.put, List.setIfInBounds_toArray, List.set_cons_zero, List.set_cons_succ]
          refine wpAnyH_take (i := 4) (oi := _) (v := ?_) (by rw [List.getElem?_toArray]; rfl) (by kernel_rfl) (by kernel_rfl) (by kernel_rfl) (fun _ _ _ h => by exact h) (Or.inl ⟨by rfl, ?_⟩) (by assumption) ?_
          rotate_left
          · (intro w hSw; (try dsimp only at hSw); obtain ⟨⟨d0, d1, d2, d3, d4, d5, d6⟩, ⟨i0, i1⟩⟩ := hSw; go_simp; (try with_reducible rfl))
          try simp only [Act.put, List.setIfInBounds_toArray, List.set_cons_zero, List.set_cons_succ]
          refine wpAnyH_take (i := 5) (oi := _) (v := ?_) (by rw [List.getElem?_toArray]; rfl) (by kernel_rfl) (by kernel_rfl) (by kernel_rfl) (fun _ _ _ h => by exact h) (Or.inl ⟨by rfl, ?_⟩) (by assumption) ?_
          rotate_left
          · (intro w hSw; (try dsimp only at hSw); obtain ⟨⟨d0, d1, d2, d3, d4, d5, d6⟩, ⟨i0, i1⟩⟩ := hSw; go_simp; (try with_reducible rfl))
          try simp only [Act.put, List.setIfInBounds_toArray, List.set_cons_zero, List.set_cons_succ]
          refine wpAnyH_take (i := 6) (oi := _) (v := ?_) (by rw [List.getElem?_toArray]; rfl) (by kernel_rfl) (by kernel_rfl) (by kernel_rfl) (fun _ _ _ h => by exact h) (Or.inl ⟨by rfl, ?_⟩) (by assumption) ?_
          rotate_left
          · (intro w hSw; (try dsimp only at hSw); go_simp; (try with_reducible rfl))
          try simp only [Act.put, List.setIfInBounds_toArray, List.set_cons_zero, List.set_cons_succ]
          refine wpAnyH_done (by kernel_rfl) ?_ _
          have HFD : Hid (Fr (fun _ => False) W0 wr.drew) := HF.out.drew
          go_wp2
          go_roundw
          case rel => exact ⟨k + 1, by omega, by go_num, HN.out Ht.out, HFD.out⟩
          case measure => simp [intOf]; omega
    · have z2 : ¬ (k : Int) < (l.length : Int) := by omega
      have HALL : Hid (l.any (fun x => x.is s q) = false) := by have := HA.out; show _ = _; rwa [List.take_of_length_le (by omega)] at this
      have HRE : Hid (Z7 wr rx (.int .u64 0) (.int .u64 0) (.int .u64 0) (.slice none 0 0) (.slice none 0 0) (.slice none 0 0) (.slice none 0 0)) := HR0.out.fr HF.out (by simp)
      have hT := HTT.out.symm.trans HALL.out
      subst hT
      obtain ⟨⟨y0, y1, y2, y3, y4, y5, y6⟩, yz⟩ := HRE.out
      go_wp2
      obtain ⟨hq, fq⟩ := HRE.out.put7 (.int .u64 0) (.int .u64 0) (.int .u64 0) (.slice none 0 0) (.slice none 0 0) (.slice none 0 0) (.slice none 0 0)
      clear y0 y1 y2 y3 y4 y5 y6 yz
      refine bodyPost_ret (v := .tuple #[.agg #[.int .u64 0, .int .u64 0, .int .u64 0, .slice none 0 0, .slice none 0 0, .slice none 0 0, .slice none 0 0], .bool false]) ?_ rfl ⟨dH, rfl, ⟨⟨Nat.le_refl _, Nat.zero_le _, by simp [dH], fun h => absurd rfl h⟩, ⟨Nat.le_refl _, Nat.zero_le _, by simp [dH], fun h => absurd rfl h⟩, ⟨Nat.le_refl _, Nat.zero_le _, by simp [dH], fun h => absurd rfl h⟩, row_nil _⟩, (F0.out.trans HF.out).trans' fq (fun i hi h => by have := Hrx.out; omega)⟩
      revert hq
      generalize (((((((wr.setCell _ _).setCell _ _).setCell _ _).setCell _ _).setCell _ _).setCell _ _).setCell _ _) = WQ
      intro hq
      obtain ⟨⟨d0, d1, d2, d3, d4, d5, d6⟩, _⟩ := hq
      simp [results, Try.results19, go_sem, *]
end Go.Proofs.Ytaalkhipncbjpaa
