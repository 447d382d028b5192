/- slices.Delete of one hold; Drop, of any table. -/
import Derived.Test.YtaalkhipncbjpaaTabI
import Derived.Test.YtaalkhipncbjpaaTabK
namespace Go.Proofs.Ytaalkhipncbjpaa
open Go Go.RowKit
section
variable {P : Program}
/-- append, of elements of k cells, where there is room, within a row that is not frozen. -/
theorem run_append_k (w : World) (t ty elem : TypeId) (k g n cap : Nat) (i : TypeInfo) (a : Addr) (m c : Nat) (cur : Array Value) (tt : TypeId) (cs : List Value)
    (hu : P.underlying t = some (.slice elem)) (hi : P.info? elem = some i) (hk : i.size = k)
    (hg : w.heap[g]? = some (.cells cur tt (0, 0))) (hn : cs.length = m * k) (hroom : n + m ≤ cap)
    (hsrc : ∀ j v, cs[j]? = some v → w.cell? (a.add j) = some v) (hfit : n * k + cs.length ≤ cur.size) (h1 : ∀ v ∈ cs, v.oneCell' = true) :
    (Builtin.append_ #[t, t] ty #[.slice (some ⟨g, 0, none⟩) n cap, .slice (some a) m c]).run P w = .ok (.slice (some ⟨g, 0, none⟩) (n + m) cap) (w.setRow g (over cur.toList (n * k) cs).toArray) := by
  subst hk
  have hfc := run_firstCells_some (P := P) w i.size m a m c cs hn hsrc
  have hst := run_storeCells_at P g (n * i.size) tt cs 0 cur w hg (by simpa using hfit) h1
  simp only [Nat.add_zero] at hst
  simp [Builtin.append_, run_underlying hu, sizeOf, typeInfo, hi, Builtin.lenOf, hroom, hfc, Addr.add_lit, hst, over]
/-- clear, of one element of k cells. -/
theorem run_clear_k (w : World) (t ty e : TypeId) (z : Value) (k g o c : Nat) (cur : Array Value) (tt : TypeId) (ht : P.underlying t = some (.slice e)) (hv : ∀ w, (zeroValue e).run P w = .ok z w) (hzc : (Builtin.zeroCells z.cells 1).toList = z.cells.toList) (hk : z.cells.toList.length = k)
    (hg : w.heap[g]? = some (.cells cur tt (0, 0))) (hfit : o + k ≤ cur.size) (h1 : ∀ v ∈ z.cells.toList, v.oneCell' = true) :
    (Builtin.clear_ #[t] ty #[.slice (some ⟨g, o, none⟩) 1 c]).run P w = .ok (.tuple #[]) (w.setRow g (over cur.toList o z.cells.toList).toArray) := by
  have hst := run_storeCells_at P g o tt z.cells.toList 0 cur w hg (by simpa [hk] using hfit) h1
  simp only [Nat.add_zero] at hst
  simp [Builtin.clear_, run_underlying ht, hv, hzc, hst, over]
end
theorem Fr.setRow (w : World) (g : Nat) (cs : Array Value) : Fr (fun k => k = g) w (w.setRow g cs) :=
  ⟨rfl, rfl, rfl, by simp, fun k _ hs => setRow_other _ g k _ hs⟩
theorem over_drop_take {β : Type} (c f : List β) (a b n : Nat) (z : List β) (hf : c.take n = f) (hab : a ≤ b) (hbn : b ≤ n) (hn : n ≤ c.length) (hz : z.length = b - a) :
    (over (over c a (f.drop b)) (a + (n - b)) z).take (a + (n - b)) = f.take a ++ f.drop b ∧ (over (over c a (f.drop b)) (a + (n - b)) z).length = c.length := by
  have hfl : f.length = n := by rw [← hf]; simp; omega
  have hdl : (f.drop b).length = n - b := by simp [hfl]
  have h1 : (over c a (f.drop b)).length = c.length := over_len _ _ _ (by omega)
  refine ⟨?_, by rw [over_len _ _ _ (by omega)]; exact h1⟩
  rw [over_take _ _ _ (by omega)]
  unfold over
  have h2 : (c.take a).length = a := by simp; omega
  rw [List.take_append_of_le_length (by simp [hdl]; omega), List.take_of_length_le (by simp [hdl]; omega), ← hf, List.take_take, Nat.min_eq_left (by omega)]
set_option maxRecDepth 100000 in
set_option maxHeartbeats 8000000 in
theorem delete_any (base g cap : Nat) (l : List Hd) (i m : Nat) (w : World) (ho : OwnF w base 29 (.slice (some ⟨g, 0, none⟩) l.length cap) l) (hm : l.length = i + m + 1) (hlen : l.length ≤ 1000) :
    Calls Try.prog 51 #[.slice (some ⟨g, 0, none⟩) l.length cap, .int .i64 (i : Int), .int .i64 ((i : Int) + 1)] w fun e w' => e = .returned (.slice (some ⟨g, 0, none⟩) (i + m) cap) ∧ OwnF w' base 29 (.slice (some ⟨g, 0, none⟩) (i + m) cap) (l.take i ++ l.drop (i + 1)) ∧ Fr (fun k => k = g) w w' := by
  have h7 : Enc.sz Hd = 7 := rfl
  rcases ho.2 with ⟨he, _⟩ | ⟨g', cp, cur, he, hbg, hg, hn, hmx, hs, ht⟩
  · cases he
  · cases he
    rw [h7] at hs ht
    have HG : Hid (w.drew.heap[g]? = some (.cells cur 29 (0, 0))) := hg
    have HFL : Hid ((flat l).length = l.length * 7) := flat_length l
    have HT : Hid (cur.toList.take (l.length * 7) = flat l) := ht
    have HS : Hid (cur.toList.length = cap * 7) := (show _ = _ by simpa using hs)
    have HS2 : Hid (cur.size = cap * 7) := hs
    have HM : Hid (cap ≤ maxLen) := hmx
    have hcap : l.length ≤ cap := hn
    have hcm : cap ≤ 9223372036854775807 := by have := HM.out; simpa [maxLen] using this
    have HCS : Hid (((flat l).drop ((i + 1) * 7)).length = m * 7) := (show _ = _ by rw [List.length_drop, HFL.out]; omega)
    have HON : Hid (∀ v ∈ (flat l).drop ((i + 1) * 7), v.oneCell' = true) := fun v hv => flat_one l v (List.mem_of_mem_drop hv)
    obtain ⟨A, hA, HSRC⟩ : ∃ A : Addr, (if cap = i + 1 then some (⟨g, 0, none⟩ : Addr) else some ⟨g, (i + 1) * 7, none⟩) = some A ∧ Hid (∀ j v, ((flat l).drop ((i + 1) * 7))[j]? = some v → w.drew.cell? (A.add j) = some v) := by
      by_cases hc : cap = i + 1
      · refine ⟨⟨g, 0, none⟩, by simp [hc], fun j v hv => ?_⟩
        have := (List.getElem?_eq_some_iff.1 hv).1
        have := HCS.out
        omega
      · refine ⟨⟨g, (i + 1) * 7, none⟩, by simp [hc], fun j v hj => ?_⟩
        rw [add_lit, cell_of_row w.drew g _ cur 29 (0, 0) HG.out]
        rw [List.getElem?_drop, ← HT.out, List.getElem?_take] at hj
        split at hj
        · simpa using hj
        · cases hj
    obtain ⟨ti, hti, _, hts, _⟩ := info_parts Try.info29
    obtain ⟨W1, HW1⟩ : ∃ W1, Hid (w.drew.setRow g (over cur.toList (i * 7) ((flat l).drop ((i + 1) * 7))).toArray = W1) := ⟨_, rfl⟩
    have HAP : Hid (∀ ty c, (Builtin.append_ #[40, 40] ty #[.slice (some ⟨g, 0, none⟩) i cap, .slice (some A) m c]).run Try.prog w.drew = .ok (.slice (some ⟨g, 0, none⟩) (i + m) cap) W1) := fun ty c => by
      rw [← HW1.out]
      exact run_append_k w.drew 40 ty 29 7 g i cap ti A m c cur 29 _ Try.underlying40 hti hts HG.out HCS.out (by omega) HSRC.out (by rw [HCS.out, HS2.out]; omega) HON.out
    have HG1 : Hid (W1.heap[g]? = some (.cells (over cur.toList (i * 7) ((flat l).drop ((i + 1) * 7))).toArray 29 (0, 0))) := (show _ = _ by rw [← HW1.out]; exact setRow_heap w.drew g cur _ 29 (0, 0) HG.out)
    have HL1 : Hid ((over cur.toList (i * 7) ((flat l).drop ((i + 1) * 7))).length = cap * 7) := (show _ = _ by rw [over_len _ _ _ (by rw [HCS.out, HS.out]; omega)]; exact HS.out)
    have hz29 : ∀ w, (zeroValue 29).run Try.prog w = .ok (.agg #[.int .u64 0, .int .u64 0, .int .u64 0, .slice none 0 0, .slice none 0 0, .slice none 0 0, .slice none 0 0]) w := fun w => by simp [zeroValue, typeInfo, *]
    obtain ⟨W2, HW2⟩ : ∃ W2, Hid (W1.setRow g (over (over cur.toList (i * 7) ((flat l).drop ((i + 1) * 7))) ((i + m) * 7) [.int .u64 0, .int .u64 0, .int .u64 0, .slice none 0 0, .slice none 0 0, .slice none 0 0, .slice none 0 0]).toArray = W2) := ⟨_, rfl⟩
    have hcl : ∀ c, (Builtin.clear_ #[40] 0 #[.slice (some ⟨g, (i + m) * 7, none⟩) 1 c]).run Try.prog W1 = .ok (.tuple #[]) W2 := fun c => by
      rw [← HW2.out]
      have h3 := run_clear_k (P := Try.prog) W1 40 0 29 (.agg #[.int .u64 0, .int .u64 0, .int .u64 0, .slice none 0 0, .slice none 0 0, .slice none 0 0, .slice none 0 0]) 7 g ((i + m) * 7) c _ 29 Try.underlying40 hz29 (by kernel_rfl) (by kernel_rfl) HG1.out (by rw [List.size_toArray, HL1.out]; omega) (fun v hv => by simp only [Value.cells, List.mem_cons, List.not_mem_nil, or_false] at hv; rcases hv with rfl | rfl | rfl | rfl | rfl | rfl | rfl <;> rfl)
      exact h3
    have HF : Hid (Fr (fun k => k = g) w W2) := by
      show Fr _ _ _
      rw [← HW2.out, ← HW1.out]
      exact ((Fr.refl (fun k => k = g) w).drew.trans (Fr.setRow _ _ _)).trans (Fr.setRow _ _ _)
    have HO2 : Hid (OwnF W2 base 29 (.slice (some ⟨g, 0, none⟩) (i + m) cap) (l.take i ++ l.drop (i + 1))) := by
      have hll : (l.take i ++ l.drop (i + 1)).length = i + m := by simp; omega
      have hod := over_drop_take cur.toList (flat l) (i * 7) ((i + 1) * 7) (l.length * 7) [.int .u64 0, .int .u64 0, .int .u64 0, .slice none 0 0, .slice none 0 0, .slice none 0 0, .slice none 0 0] HT.out (by omega) (by omega) (by rw [HS.out]; omega) (by simp; omega)
      rw [show i * 7 + (l.length * 7 - (i + 1) * 7) = (i + m) * 7 by omega] at hod
      refine ⟨by rw [flat_length], ?_⟩
      rw [hll]
      refine .inr ⟨g, cap, _, rfl, hbg, (by rw [← HW2.out]; exact setRow_heap W1 g _ _ 29 (0, 0) HG1.out), by omega, HM.out, (by rw [List.size_toArray, hod.2, HS.out, h7]), ?_⟩
      rw [h7, flat_append, flat_take, flat_drop l (i + 1) (by omega), h7]
      exact hod.1
    clear ho hbg hg hn hs ht hmx hti hts hz29
    rw [hm] at hcap hlen ⊢
    have n1 : (i : Int) ≤ (i : Int) + 1 := by omega
    have n2 : ((i : Int) + 1).toNat = i + 1 := by omega
    have n3 : i + m + 1 - (i + 1) = m := by omega
    have n4 : ¬ ((i : Int) = (i : Int) + 1) := by omega
    have n5 : (i : Int) + 1 ≤ ((i + m + 1 : Nat) : Int) := by omega
    have n6 : ((i + m + 1 : Nat) : Int) ≤ (cap : Int) := by omega
    have n7 : (0 : Int) ≤ (i : Int) + 1 := by omega
    have n8 : i + m + 1 - (i + m) = 1 := by omega
    have n9 : ¬ (cap = i + m) := by omega
    have n10 : ((i + m : Nat) : Int) ≤ ((i + m + 1 : Nat) : Int) := by omega
    have n11 : ((i + m : Nat) : Int).toNat = i + m := by omega
    have n12 : (0 : Int) ≤ ((i + m : Nat) : Int) := by omega
    have n13 : (i : Int) ≤ (cap : Int) := by omega
    have n14 : (i : Int) ≤ (i : Int) + (m : Int) := by omega
    have n15 : (i : Int) + (m : Int) + 1 ≤ (cap : Int) := by omega
    have n16 : (i : Int) + (m : Int) ≤ (i : Int) + (m : Int) + 1 := by omega
    have n17 : ((i : Int) + (m : Int)).toNat = i + m := by omega
    have n18 : (0 : Int) ≤ (i : Int) + (m : Int) := by omega
    have n19 : ((i : Int) + (m : Int) + 1).toNat = i + m + 1 := by omega
    have n20 : (i : Int) + 1 ≤ (i : Int) + (m : Int) + 1 := by omega
    go_enter Try.func51, Try.ntmps51
    go_wp2_with fail
    refine wp_region_held_drew (S := (fun _ : World => True)) (by kernel_rfl) trivial (fun hHeld => ?_)
    refine wpAnyH_take (i := 0) (oi := _) (v := ?_) (by rw [List.getElem?_toArray]; rfl) (by kernel_rfl) (by kernel_rfl) (by kernel_rfl) (fun _ _ _ h => by exact h) (Or.inl ⟨by rfl, ?_⟩) (by assumption) ?_
    rotate_left
    · (intro w hSw; (try dsimp only at hSw); go_simp; (try with_reducible rfl))
    try simp only [Act.put, List.setIfInBounds_toArray, List.set_cons_zero, List.set_cons_succ]
    refine wpAnyH_take (i := 1) (oi := _) (v := ?_) (by rw [List.getElem?_toArray]; rfl) (by kernel_rfl) (by kernel_rfl) (by kernel_rfl) (fun _ _ _ h => by exact h) (Or.inl ⟨by rfl, ?_⟩) (by assumption) ?_
    rotate_left
    · (intro w hSw; (try dsimp only at hSw); go_simp; (try with_reducible rfl))
    try simp only [Act.put, List.setIfInBounds_toArray, List.set_cons_zero, List.set_cons_succ]
    refine wpAnyH_take (i := 2) (oi := _) (v := ?_) (by rw [List.getElem?_toArray]; rfl) (by kernel_rfl) (by kernel_rfl) (by kernel_rfl) (fun _ _ _ h => by exact h) (Or.inl ⟨by rfl, ?_⟩) (by assumption) ?_
    rotate_left
    · (intro w hSw; (try dsimp only at hSw); go_simp; (try with_reducible rfl))
    try simp only [Act.put, List.setIfInBounds_toArray, List.set_cons_zero, List.set_cons_succ]
    refine wpAnyH_take (i := 3) (oi := _) (v := ?_) (by rw [List.getElem?_toArray]; rfl) (by kernel_rfl) (by kernel_rfl) (by kernel_rfl) (fun _ _ _ h => by exact h) (Or.inl ⟨by rfl, ?_⟩) (by assumption) ?_
    rotate_left
    · (intro w hSw; (try dsimp only at hSw); go_simp; (try with_reducible rfl))
    try simp only [Act.put, List.setIfInBounds_toArray, List.set_cons_zero, List.set_cons_succ]
    refine wpAnyH_take (i := 4) (oi := _) (v := ?_) (by rw [List.getElem?_toArray]; rfl) (by kernel_rfl) (by kernel_rfl) (by kernel_rfl) (fun _ _ _ h => by exact h) (Or.inl ⟨by rfl, ?_⟩) (by assumption) ?_
    rotate_left
    · (intro w hSw; (try dsimp only at hSw); go_simp; (try with_reducible rfl))
    try simp only [Act.put, List.setIfInBounds_toArray, List.set_cons_zero, List.set_cons_succ]
    refine wpAnyH_take (i := 5) (oi := _) (v := ?_) (by rw [List.getElem?_toArray]; rfl) (by kernel_rfl) (by kernel_rfl) (by kernel_rfl) (fun _ _ _ h => by exact h) (Or.inl ⟨by rfl, ?_⟩) (by assumption) ?_
    rotate_left
    · (intro w hSw; (try dsimp only at hSw); go_simp; (try with_reducible rfl))
    try simp only [Act.put, List.setIfInBounds_toArray, List.set_cons_zero, List.set_cons_succ]
    refine wpAnyH_ready (rs := [6]) (by kernel_rfl) (by simp) ?_
    refine AllReadyH.cons (o := _) (by rw [List.getElem?_toArray]; rfl) (fun K hK => ?_) ?_
    · refine if_step rfl ?_
      refine Lib.wp_append_run _ (.tmp 22) (.tmp 25) 40 40 rfl _ _ rfl rfl _ _ (HAP.out _ _) ?_
      refine hK.out _ _ trivial (fun hHeld => ?_)
      clear hK K
      try simp only [Act.put, List.setIfInBounds_toArray, List.set_cons_zero, List.set_cons_succ]
      refine wpAnyH_take (i := 7) (oi := _) (v := ?_) (by rw [List.getElem?_toArray]; rfl) (by kernel_rfl) (by kernel_rfl) (by kernel_rfl) (fun _ _ _ h => by exact h) (Or.inl ⟨by rfl, ?_⟩) (by assumption) ?_
      rotate_left
      · (intro w hSw; (try dsimp only at hSw); go_simp; (try with_reducible rfl))
      try simp only [Act.put, List.setIfInBounds_toArray, List.set_cons_zero]
      refine wpAnyH_done (by kernel_rfl) ?_ _
      go_wp2
      go_ret
      exact ⟨rfl, HO2.out, HF.out⟩
    exact AllReadyH.nil
/-- a world in which the cell tells of the same row, cut. -/
theorem TabP.cut {w wA wI : World} {base tb g cap : Nat} {l m : List Hd} (h : TabP w base tb (some ⟨g, 0, none⟩) cap l) (fA : Fr (fun _ => False) w wA) (fI : Fr (fun k => k = g) wA wI) (hs : m.Sublist l)
    (ho : OwnF wI base 29 (.slice (some ⟨g, 0, none⟩) m.length cap) m) :
    TabP (wI.setCell ⟨tb, 0, none⟩ (.slice (some ⟨g, 0, none⟩) m.length cap)) base tb (some ⟨g, 0, none⟩) cap m := by
  have hlt := h.lt
  have hfs := fA.size
  have hnt : tb ≠ g := fun e => h.beside _ rfl e.symm
  have hc := fI.cell (fA.cell h.cell (by simp)) hnt
  have hz : wI.frozen? ⟨tb, 0, none⟩ = false := (fI.frozenEq (a := ⟨tb, 0, none⟩) (by show tb < _; omega) hnt).trans ((fA.frozenEq (a := ⟨tb, 0, none⟩) hlt (by simp)).trans h.free)
  have FS : Fr (fun k => k = tb) wI (wI.setCell ⟨tb, 0, none⟩ (.slice (some ⟨g, 0, none⟩) m.length cap)) := (Fr.refl (fun k => k = tb) wI).setCell (p := ⟨tb, 0, none⟩) (Or.inl rfl) _
  refine ⟨World.cell?_setCell_same _ _ _ hc, by simpa using hz, h.low, ho.fr FS (fun k e e2 => ?_), h.beside, (srt_iff _).2 (((srt_iff _).1 h.srt).sublist hs), List.Pairwise.sublist hs h.alone, fun y hy => ?_, fun y hy => h.ins y (hs.subset hy), fun y hy => h.sh y (hs.subset hy)⟩
  · obtain ⟨ao1, cc, e1, _, hb1⟩ := ho.row
    cases e1
    have h1 := (hb1 _ rfl).2.2.1
    rw [h1] at e
    cases e
    exact hnt e2.symm
  · have hy2 := hs.subset hy
    exact (((h.ok y hy2).fr fA).frD fI (h.ins y hy2) (fun k hk e => hk.2.2 _ rfl e)).frD FS (h.ins y hy2) (fun k hk e => hk.2.1 e)
set_option maxRecDepth 100000 in
set_option maxHeartbeats 8000000 in
theorem drop_any (s q : Nat) (base tb : Nat) (ao : Option Addr) (cap : Nat) (l : List Hd) (w : World) (hT : TabP w base tb ao cap l) (hlen : l.length ≤ 1000) :
    Calls Try.prog 21 #[.pointer (some ⟨tb, 0, none⟩), .agg #[.int .u64 (s : Int), .int .u64 (q : Int)]] w fun e w' => e = .returned (.bool (l.any fun x => x.is s q)) ∧ TabP w' base tb ao cap (l.filter fun x => !x.is s q) ∧ Fr (fun k => k = tb ∨ ∃ a, ao = some a ∧ a.block = k) w w' := by
  have F0 : Hid (Fr (fun _ => False) w (w.alloc (.cells #[.int .u64 (s : Int), .int .u64 (q : Int)] 24))) := ((Fr.refl (fun _ => False) w).alloc _)
  have KP : Hid (Calls _ _ _ _ _) := place_any s q tb ao l cap _ (hT.fr F0.out).cell (hT.fr F0.out).row hT.srt (by omega)
  have HT : Hid (TabP w base tb ao cap l) := hT
  have HL : Hid (l.length ≤ 1000) := hlen
  obtain ⟨tt, Htt⟩ : ∃ t, Hid ((l.any fun x => x.is s q) = t) := ⟨_, rfl⟩
  obtain ⟨m, Hm⟩ : ∃ m, Hid ((l.filter fun x => !x.is s q) = m) := ⟨_, rfl⟩
  rw [Htt.out, Hm.out]
  clear hT hlen
  go_enter Try.func21, Try.ntmps21
  go_wp2_with fail
  refine KP.out.mono ?_
  rintro e w2 ⟨p, bb, rfl, HBB, hp1, hp2, hp3, f2⟩
  have F2 : Hid (Fr (fun _ => False) w w2) := F0.out.trans f2
  have HP : Hid (At l s q p) := ⟨hp1, hp2, hp3⟩
  have HE : Hid (l.take p ++ l.drop (skipAt l s q p) = m) := (show _ = _ by rw [← Hm.out]; exact drop_eq HT.out.srt HP.out)
  have HD : Hid (heldAt l s q p = tt) := (show _ = _ by rw [← Htt.out]; exact held_is HT.out.srt HP.out)
  have HB : Hid (bb = tt) := (show _ = _ by rw [← HD.out]; exact HBB.out)
  clear f2 hp1 hp2 hp3 KP
  have hbt := HB.out
  subst hbt
  cases bb with
  | false =>
    have he : l = m := by
      rw [← HE.out]
      unfold skipAt
      rw [if_neg (by rw [HD.out]; simp), List.take_append_drop]
    subst he
    have HT2 : Hid (TabP w2 base tb ao cap l) := HT.out.fr F2.out
    have HF2 : Hid (Fr (fun k => k = tb ∨ ∃ a, ao = some a ∧ a.block = k) w w2) := F2.out.mono (fun _ _ h => h.elim)
    go_wp2
    go_ret
    exact ⟨rfl, HT2.out, HF2.out⟩
  | true =>
    have hh := of_decide_eq_true HD.out
    obtain ⟨g, hg⟩ := HT.out.some_of hh.1
    subst hg
    have HT2 : Hid (TabP w2 base tb (some ⟨g, 0, none⟩) cap l) := HT.out.fr F2.out
    have hc := HT2.out.cell
    have hfz := HT2.out.free
    obtain ⟨n, HN⟩ : ∃ n, Hid (l.length = p + n + 1) := ⟨l.length - p - 1, (show _ = _ by omega)⟩
    have KD : Hid (Calls _ _ _ _ _) := delete_any base g cap l p n w2 HT2.out.own HN.out HL.out
    have HE2 : Hid (l.take p ++ l.drop (p + 1) = m) := (show _ = _ by have := HE.out; unfold skipAt at this; rwa [if_pos HD.out] at this)
    rw [HE2.out] at KD
    have HML : Hid (m.length = p + n) := (show _ = _ by rw [← HE2.out]; have := HN.out; simp; omega)
    rw [← HML.out] at KD
    have n6 : IntKind.i64.wrap ((p : Int) + 1) = (p : Int) + 1 := by rw [IntKind.wrap_i64]; have := HL.out; omega
    clear hh
    go_wp2_with fail
    refine KD.out.mono ?_
    rintro e w3 ⟨rfl, hO3, f3⟩
    have hc3 := f3.cell hc (fun e => HT.out.beside _ rfl e.symm)
    have hz3 : w3.frozen? ⟨tb, 0, none⟩ = false := (f3.frozenEq (a := ⟨tb, 0, none⟩) HT2.out.lt (fun e => HT.out.beside _ rfl e.symm)).trans hfz
    have HT4 : Hid (TabP (w3.setCell ⟨tb, 0, none⟩ (.slice (some ⟨g, 0, none⟩) m.length cap)) base tb (some ⟨g, 0, none⟩) cap m) := HT2.out.cut (Fr.refl _ _) f3 (by rw [← Hm.out]; exact List.filter_sublist) hO3
    have HF4 : Hid (Fr (fun k => k = tb ∨ ∃ a, some (⟨g, 0, none⟩ : Addr) = some a ∧ a.block = k) w (w3.setCell ⟨tb, 0, none⟩ (.slice (some ⟨g, 0, none⟩) m.length cap))) := ((F2.out.mono (fun _ _ h => h.elim)).trans (f3.mono (fun k _ h => .inr ⟨_, rfl, h.symm⟩))).setCell (p := ⟨tb, 0, none⟩) (Or.inl (Or.inl rfl)) _
    clear hc hfz hO3 f3
    go_wp2
    go_ret
    exact ⟨rfl, HT4.out, HF4.out⟩
end Go.Proofs.Ytaalkhipncbjpaa
