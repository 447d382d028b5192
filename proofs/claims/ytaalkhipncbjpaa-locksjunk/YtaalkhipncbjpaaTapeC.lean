/- The document's tape: a hold. -/
import Derived.Test.YtaalkhipncbjpaaTapeB
import Derived.Test.YtaalkhipncbjpaaSameA
namespace Go.Proofs.Ytaalkhipncbjpaa
open Go.RowKit
attribute [local go_sem] run_store_float
instance encF : Enc Nat := ⟨fun x => [.float .f64 x], 1, 0, by decide, fun _ => rfl, fun x u hu => by
  simp at hu
  subst hu; rfl⟩
instance encG : Enc (Nat × Nat) := ⟨fun y => [.float .f64 y.1, .float .f64 y.2], 2, (0, 0), by decide, fun _ => rfl, fun x u hu => by
  simp at hu
  rcases hu with rfl | rfl <;> rfl⟩
theorem Try.info75 : (Try.prog.info? 75).map (fun i => (i.zero, i.size, i.bytes)) = some (some (.agg #[.float .f64 0, .float .f64 0]), 2, 16) := by kernel_rfl
theorem if_step {c : Prop} [Decidable c] {A B : Prop} (hc : c) (h : A) : if c then A else B := by rw [if_pos hc]; exact h
section
variable {α : Type} [Enc α]
theorem step_append_f {P : Program} {w : World} {o : Oper} {a : Act} {Q : Exit → Act → World → Prop} {K : Act → World → Prop} (s x : Operand) (st e : TypeId)
    (ho : o.op = .call { callee := .builtin .append, args := #[s, x], argTypes := #[st, st] }) (hst : P.underlying st = some (.slice e)) (z : Value) (bytes : Nat) (hinfo : (P.info? e).map (fun i => (i.zero, i.size, i.bytes)) = some (some z, Enc.sz α, bytes)) (hzs : z.cells.size = Enc.sz α) (hby : bytes ≤ 4096)
    (base : Nat) (v : Value) (l : List α) (hs : a.eval s = v) (hown : OwnF w base e v l) (ad : Addr) (m : List α) (cap : Nat) (hx : a.eval x = .slice (some ad) m.length cap)
    (hcell : ∀ j u, (flat m)[j]? = some u → w.cell? (ad.add j) = some u) (hbase : base ≤ w.heap.size) (hlen : l.length + m.length ≤ 1000000)
    (h : ∀ v' w', OwnF w' base e v' (l ++ m) → w.grownBy w' v.ownBlock → (v'.ownBlock = v.ownBlock ∨ v'.ownBlock = some w.heap.size) → K (a.put o.dst v') w') :
    Oper.wp P o a w K Q := by
  obtain ⟨v', w', hrun, h1, h2, h3⟩ := run_append_f (P := P) w st o.type e hst z bytes hinfo hzs hby base v l hown ad m cap hcell hbase hlen
  unfold Oper.wp execOp
  simp only [ho, resolve, invoke, builtin, Sem.run_bind, Sem.run_pure, Result.andThen_ok, List.map_toArray, List.map_cons, List.map_nil, hs, hx, hrun]
  exact h v' w' h1 h2 h3
end
theorem OwnF.frow {w : World} {base : Nat} {ao : Option Addr} {l : List Nat} {cap : Nat} (h : OwnF w base 71 (.slice ao l.length cap) l) (hb : ∀ z ∈ l, z < 18446744073709551616) : FRow w ao l cap ∧ ∀ a, ao = some a → base ≤ a.block ∧ a.block < w.heap.size := by
  obtain ⟨a, c, hv, hr, ho⟩ := h.row
  cases hv
  refine ⟨⟨hr.1, hr.2.1, hb, fun hne => ?_⟩, fun a ha => h.lt _ (ho a ha).2.2.1⟩
  obtain ⟨b, off, ha, hc⟩ := hr.2.2.2 hne
  exact ⟨b, off, ha, fun i hi => by have := hc i hi 0 (by decide); simpa [Enc.sz, Enc.cells, Enc.dflt] using this⟩
theorem OwnF.grow {w : World} {base : Nat} {ao : Option Addr} {l : List (Nat × Nat)} {cap : Nat} (h : OwnF w base 75 (.slice ao l.length cap) l) (hb : ∀ z ∈ l, z.1 < 18446744073709551616 ∧ z.2 < 18446744073709551616) : GRow w ao l cap ∧ ∀ a, ao = some a → base ≤ a.block ∧ a.block < w.heap.size := by
  obtain ⟨a, c, hv, hr, ho⟩ := h.row
  cases hv
  refine ⟨⟨hr.1, hr.2.1, hb, fun hne => ?_⟩, fun a ha => h.lt _ (ho a ha).2.2.1⟩
  obtain ⟨b, off, ha, hc⟩ := hr.2.2.2 hne
  exact ⟨b, off, ha, fun i hi => ⟨by have := hc i hi 0 (by decide); simpa [Enc.sz, Enc.cells, Enc.dflt] using this, by have := hc i hi 1 (by decide); rw [Nat.add_assoc]; simpa [Enc.sz, Enc.cells, Enc.dflt] using this⟩⟩
section
variable {w w1 : World} {g : Nat} {v0 v1 v2 v3 v4 v5 v6 : Value}
theorem Z7.put3 (h : Z7 w g v0 v1 v2 v3 v4 v5 v6) (u : Value) : Z7 (w.setCell ⟨g, 3, none⟩ u) g v0 v1 v2 u v4 v5 v6 := by
  obtain ⟨⟨h0, h1, h2, h3, h4, h5, h6⟩, hz⟩ := h
  exact ⟨⟨(World.cell?_setCell_other _ _ _ _ (by simp)).trans h0, (World.cell?_setCell_other _ _ _ _ (by simp)).trans h1, (World.cell?_setCell_other _ _ _ _ (by simp)).trans h2, World.cell?_setCell_same _ _ _ h3, (World.cell?_setCell_other _ _ _ _ (by simp)).trans h4, (World.cell?_setCell_other _ _ _ _ (by simp)).trans h5, (World.cell?_setCell_other _ _ _ _ (by simp)).trans h6⟩, fun j => by simpa using hz j⟩
theorem Z7.put4' (h : Z7 w g v0 v1 v2 v3 v4 v5 v6) (u : Value) : Z7 (w.setCell ⟨g, 4, none⟩ u) g v0 v1 v2 v3 u v5 v6 := by
  obtain ⟨⟨h0, h1, h2, h3, h4, h5, h6⟩, hz⟩ := h
  exact ⟨⟨(World.cell?_setCell_other _ _ _ _ (by simp)).trans h0, (World.cell?_setCell_other _ _ _ _ (by simp)).trans h1, (World.cell?_setCell_other _ _ _ _ (by simp)).trans h2, (World.cell?_setCell_other _ _ _ _ (by simp)).trans h3, World.cell?_setCell_same _ _ _ h4, (World.cell?_setCell_other _ _ _ _ (by simp)).trans h5, (World.cell?_setCell_other _ _ _ _ (by simp)).trans h6⟩, fun j => by simpa using hz j⟩
theorem Z7.put5 (h : Z7 w g v0 v1 v2 v3 v4 v5 v6) (u : Value) : Z7 (w.setCell ⟨g, 5, none⟩ u) g v0 v1 v2 v3 v4 u v6 := by
  obtain ⟨⟨h0, h1, h2, h3, h4, h5, h6⟩, hz⟩ := h
  exact ⟨⟨(World.cell?_setCell_other _ _ _ _ (by simp)).trans h0, (World.cell?_setCell_other _ _ _ _ (by simp)).trans h1, (World.cell?_setCell_other _ _ _ _ (by simp)).trans h2, (World.cell?_setCell_other _ _ _ _ (by simp)).trans h3, (World.cell?_setCell_other _ _ _ _ (by simp)).trans h4, World.cell?_setCell_same _ _ _ h5, (World.cell?_setCell_other _ _ _ _ (by simp)).trans h6⟩, fun j => by simpa using hz j⟩
theorem Z7.put6 (h : Z7 w g v0 v1 v2 v3 v4 v5 v6) (u : Value) : Z7 (w.setCell ⟨g, 6, none⟩ u) g v0 v1 v2 v3 v4 v5 u := by
  obtain ⟨⟨h0, h1, h2, h3, h4, h5, h6⟩, hz⟩ := h
  exact ⟨⟨(World.cell?_setCell_other _ _ _ _ (by simp)).trans h0, (World.cell?_setCell_other _ _ _ _ (by simp)).trans h1, (World.cell?_setCell_other _ _ _ _ (by simp)).trans h2, (World.cell?_setCell_other _ _ _ _ (by simp)).trans h3, (World.cell?_setCell_other _ _ _ _ (by simp)).trans h4, (World.cell?_setCell_other _ _ _ _ (by simp)).trans h5, World.cell?_setCell_same _ _ _ h6⟩, fun j => by simpa using hz j⟩
end
section
variable {w w1 : World} {tb : Nat} {ao : Option Addr} {l : List Nat} {cap i : Nat}
set_option maxRecDepth 100000 in
set_option maxHeartbeats 16000000 in
theorem hold_any (h : Tp w tb ao l cap i) (hne : l ≠ [] → ∀ a, ao = some a → a.block < w.heap.size) : Calls Try.prog 11 #[.pointer (some ⟨tb, 0, none⟩)] w fun e w' => ∃ x : Hd, e = .returned (.agg #[.int .u64 (x.a0 : Int), .int .u64 (x.a1 : Int), .int .u64 (x.a2 : Int), .slice x.ga x.g.length x.gc, .slice x.sa x.s.length x.sc, .slice x.pa x.p.length x.pc, .slice x.da x.dl.length x.dc]) ∧ x.ok w' ∧ ((∀ a, x.ga = some a → w.heap.size ≤ a.block) ∧ (∀ a, x.sa = some a → w.heap.size ≤ a.block) ∧ (∀ a, x.pa = some a → w.heap.size ≤ a.block) ∧ (∀ a, x.da = some a → w.heap.size ≤ a.block)) ∧ (∃ j, Tp w' tb ao l cap j) ∧ Fr (fun k => k = tb) w w' := by
  obtain ⟨W0, HW0⟩ : ∃ W, Hid (W = w.alloc (.cells #[.int .u64 0, .int .u64 0, .int .u64 0, .slice none 0 0, .slice none 0 0, .slice none 0 0, .slice none 0 0] 29)) := ⟨_, rfl⟩
  have F0 : Hid (Fr (fun k => k = tb) w W0) := (show Fr _ _ _ by rw [HW0.out]; exact (Fr.refl _ w).alloc _)
  have HR0 : Hid (Z7 W0 w.heap.size (.int .u64 0) (.int .u64 0) (.int .u64 0) (.slice none 0 0) (.slice none 0 0) (.slice none 0 0) (.slice none 0 0)) := (show Z7 _ _ _ _ _ _ _ _ _ by rw [HW0.out]; exact Z7.new w 29 _ _ _ _ _ _ _)
  have HT0 : Hid (Tp W0 tb ao l cap i) := (show Tp _ _ _ _ _ _ by rw [HW0.out]; exact h.fr ((Fr.refl (fun _ => False) w).alloc _) (by simp) (by simp))
  have HLT : Hid (tb < w.heap.size) := h.lt
  have HN0 : Hid (l ≠ [] → ∀ a, ao = some a → a.block < w.heap.size) := hne
  have HS0 : Hid (w.heap.size < W0.heap.size) := HR0.out.lt
  clear h hne
  go_enter Try.func11, Try.ntmps11
  have K0 : Hid (Calls _ _ _ _ _) := of_any HT0.out (fun hl a ha => by have := HN0.out hl a ha; have := HS0.out; omega)
  go_wp2_with fail
  rw [← HW0.out]
  obtain ⟨rb, Hrb⟩ : ∃ rb, Hid (w.heap.size = rb) := ⟨_, rfl⟩
  rw [Hrb.out] at HR0
  rw [Hrb.out]
  refine K0.out.mono ?_
  rintro e w1 ⟨s0, q0, rfl, ⟨j1, hj1⟩, f1⟩
  have T1 : Hid (Tp w1 tb ao l cap j1) := hj1
  have F1 : Hid (Fr (fun k => k = tb) W0 w1) := f1
  clear hj1 f1 K0
  have K1 : Hid (Calls _ _ _ _ _) := next_any T1.out 4 (by omega) (by omega)
  go_wp2_with fail
  refine K1.out.mono ?_
  rintro e w2 ⟨r2, rfl, hr2, ⟨j2, hj2⟩, f2⟩
  have T2 : Hid (Tp w2 tb ao l cap j2) := hj2
  have F2 : Hid (Fr (fun k => k = tb) W0 w2) := F1.out.trans f2
  have p2 : (0 : Int) ≤ (r2 : Int) := by omega
  have q2 : (r2 : Int) < 4 := by omega
  clear hj2 f2 K1
  obtain ⟨e0, He0⟩ : ∃ e0 : Nat, Hid ((1 : Int) + (r2 : Int) = (e0 : Int)) := ⟨1 + r2, by show _ = _; omega⟩
  have HZ1 : Hid (Z7 (w2.alloc (.cells #[.int .u64 (s0 : Int), .int .u64 (q0 : Int), .int .u64 (1 + (r2 : Int)), .slice none 0 0, .slice none 0 0, .slice none 0 0, .slice none 0 0] 29)) w2.heap.size (.int .u64 (s0 : Int)) (.int .u64 (q0 : Int)) (.int .u64 (1 + (r2 : Int))) (.slice none 0 0) (.slice none 0 0) (.slice none 0 0) (.slice none 0 0)) := Z7.new w2 29 _ _ _ _ _ _ _
  have FA : Hid (Fr (fun k => k = tb) W0 (w2.alloc (.cells #[.int .u64 (s0 : Int), .int .u64 (q0 : Int), .int .u64 (1 + (r2 : Int)), .slice none 0 0, .slice none 0 0, .slice none 0 0, .slice none 0 0] 29))) := F2.out.alloc _
  have HTA : Hid (Tp (w2.alloc (.cells #[.int .u64 (s0 : Int), .int .u64 (q0 : Int), .int .u64 (1 + (r2 : Int)), .slice none 0 0, .slice none 0 0, .slice none 0 0, .slice none 0 0] 29)) tb ao l cap j2) := T2.out.fr ((Fr.refl (fun _ => False) _).alloc _) (by simp) (by simp)
  have HH2 : Hid (W0.heap.size ≤ w2.heap.size) := F2.out.size
  obtain ⟨hb, Hhb⟩ : ∃ hb, Hid (w2.heap.size = hb) := ⟨_, rfl⟩
  rw [He0.out] at HZ1 FA HTA
  obtain ⟨WA, HWA⟩ : ∃ W, Hid (W = w2.alloc (.cells #[.int .u64 (s0 : Int), .int .u64 (q0 : Int), .int .u64 (e0 : Int), .slice none 0 0, .slice none 0 0, .slice none 0 0, .slice none 0 0] 29)) := ⟨_, rfl⟩
  rw [← HWA.out] at HZ1 FA HTA
  rw [Hhb.out] at HZ1 HH2
  go_wp2_with fail
  rw [He0.out, ← HWA.out, Hhb.out]
  have K2 : Hid (Calls _ _ _ _ _) := next_any HTA.out 3 (by omega) (by omega)
  clear p2 q2
  refine K2.out.mono ?_
  rintro e w3 ⟨n1, rfl, hn1, ⟨j3, hj3⟩, f3⟩
  have HT0 : Hid (Tp w3 tb ao l cap j3) := hj3
  have FB : Hid (Fr (fun k => k = tb) W0 w3) := FA.out.trans f3
  have HZ0 : Hid (Z7 w3 hb (.int .u64 (s0 : Int)) (.int .u64 (q0 : Int)) (.int .u64 (e0 : Int)) (.slice none 0 0) (.slice none 0 0) (.slice none 0 0) (.slice none 0 0)) := HZ1.out.fr f3 (by have := HLT.out; have := HS0.out; have := HH2.out; omega)
  have HN : Hid (l ≠ [] → ∀ a, ao = some a → a.block < w.heap.size) := HN0
  have HAP : Hid (tb < w.heap.size ∧ w.heap.size < hb ∧ hb < w3.heap.size) := ⟨HLT.out, by have := HS0.out; have := HH2.out; omega, HZ0.out.lt⟩
  clear hj3 f3 K2 HZ1 FA HTA HWA T1 T2 F1 F2
  go_wp2
  go_loopw [5] (fun iv wr => ∃ (k : Nat) (g : List Nat) (ga : Option Addr) (gc j : Nat), k ≤ n1 ∧ iv = .int .i64 (k : Int) ∧ Hid (g.length = k) ∧ (∀ z ∈ g, z < 18446744073709551616) ∧ Hid (OwnF wr w3.heap.size 71 (.slice ga g.length gc) g) ∧ Hid (Z7 wr hb (.int .u64 (s0 : Int)) (.int .u64 (q0 : Int)) (.int .u64 (e0 : Int)) (.slice ga g.length gc) (.slice none 0 0) (.slice none 0 0) (.slice none 0 0)) ∧ Hid (Tp wr tb ao l cap j) ∧ Hid (Fr (fun k => k = tb ∨ k = hb) w3 wr)) (fun iv _ => n1 - (intOf iv).toNat)
  case atStart => exact ⟨0, [], none, 0, _, Nat.zero_le _, rfl, rfl, (by simp), OwnF.nil _ _ _, HZ0, HT0, Fr.refl _ _⟩
  case round =>
    obtain ⟨k, g, ga, gc, j, hk, rfl, hlen, hxs, HO, HZ, HT, HF⟩ := hrel
    by_cases hlt : k < n1
    · have z1 : (k : Int) < (n1 : Int) := by omega
      have HSZ : Hid (w3.heap.size ≤ wr.heap.size) := HF.out.size
      go_wp2_with fail
      refine wp_region_held_drew (S := (fun _ : World => True)) (by kernel_rfl) trivial (fun hHeld => ?_)
      refine wpAnyH_take (i := 0) (oi := _) (v := ?_) (by rw [List.getElem?_toArray]; rfl) (by kernel_rfl) (by kernel_rfl) (by kernel_rfl) (fun _ _ _ h => by exact h) (Or.inl ⟨by rfl, ?_⟩) (by assumption) ?_
      rotate_left
      · (intro w hSw; (try dsimp only at hSw); go_simp; (try with_reducible rfl))
      try simp only [Act.put, List.setIfInBounds_toArray, List.set_cons_zero, List.set_cons_succ]
      refine wpAnyH_take (i := 2) (oi := _) (v := ?_) (by rw [List.getElem?_toArray]; rfl) (by kernel_rfl) (by kernel_rfl) (by kernel_rfl) (fun _ _ _ h => by exact h) (Or.inl ⟨by rfl, ?_⟩) (by assumption) ?_
      rotate_left
      · (intro w hSw; (try dsimp only at hSw); go_simp; (try with_reducible rfl))
      try simp only [Act.put, List.setIfInBounds_toArray, List.set_cons_zero, List.set_cons_succ]
      refine wpAnyH_ready (rs := [1, 3]) (by kernel_rfl) (by simp) ?_
      refine AllReadyH.cons (o := _) (by rw [List.getElem?_toArray]; rfl) (fun K hK => ?_) ?_
      · have lc := (HZ.out.fr ((Fr.refl (fun k => k = tb) wr).drew) (by have := HAP.out; omega)).c3
        go_simp
        clear lc
        refine hK.out _ _ trivial (fun hHeld => ?_)
        clear hK K
        try simp only [Act.put, List.setIfInBounds_toArray, List.set_cons_zero, List.set_cons_succ]
        refine wpAnyH_ready (rs := [3]) (by kernel_rfl) (by simp) ?_
        refine AllReadyH.cons (o := _) (by rw [List.getElem?_toArray]; rfl) (fun K hK => ?_) ?_
        · go_simp
          go_wp2_with (go_at_call 37; refine (float_any (HT.out.fr ((Fr.refl (fun _ => False) wr).drew) (by simp) (by simp))).mono ?_; rintro e wx5 ⟨x, rfl, hx, ⟨j0, t0⟩, f0⟩)
          have HX0 : Hid (x < 18446744073709551616) := hx
          have T0 : Hid (Tp wx5 tb ao l cap j0) := t0
          have G0 : Hid (Fr (fun k => k = tb) wr wx5) := (((Fr.refl (fun k => k = tb) wr).drew)).trans f0
          clear t0 f0 hx
          refine hK.out _ _ trivial (fun hHeld => ?_)
          clear hK K
          try simp only [Act.put, List.setIfInBounds_toArray, List.set_cons_zero, List.set_cons_succ]
          refine wpAnyH_ready (rs := [4]) (by kernel_rfl) (by simp) ?_
          refine AllReadyH.cons (o := _) (by rw [List.getElem?_toArray]; rfl) (fun K hK => ?_) ?_
          · go_simp
            have GA : Hid (Fr (fun k => k = tb) wr (wx5.alloc (.cells #[.float .f64 x] 71))) := (G0.out).alloc _
            have TA : Hid (Tp (wx5.alloc (.cells #[.float .f64 x] 71)) tb ao l cap _) := (T0.out).fr ((Fr.refl (fun _ => False) _).alloc _) (by simp) (by simp)
            refine hK.out _ _ trivial (fun hHeld => ?_)
            clear hK K
            try simp only [Act.put, List.setIfInBounds_toArray, List.set_cons_zero, List.set_cons_succ]
            refine wpAnyH_ready (rs := [5]) (by kernel_rfl) (by simp) ?_
            refine AllReadyH.cons (o := _) (by rw [List.getElem?_toArray]; rfl) (fun K hK => ?_) ?_
            · refine if_step (by rfl) ?_
              refine step_append_f (α := Nat) (.tmp 23) (.tmp 26) 25 71 rfl Try.underlying25 _ 8 Try.info71 rfl (by decide) w3.heap.size _ g rfl (HO.out.fr GA.out (fun k hk e => by have := HO.out.lt k hk; have := HAP.out; omega)) ⟨wx5.heap.size, 0, none⟩ [x] 1 rfl (one_f wx5 x 71 _ rfl) (Nat.le_trans HSZ.out (GA.out).size) (by have := hlen.out; simp; omega) ?_
              intro v7 w7 o7 g7 k7
              obtain ⟨l9, Hl9⟩ : ∃ l9, Hid (g ++ [x] = l9) := ⟨_, rfl⟩
              rw [Hl9.out] at o7
              obtain ⟨a7, c7, hv7, _, _⟩ := o7.row
              subst hv7
              have O7 : Hid (OwnF w7 w3.heap.size 71 (.slice a7 l9.length c7) l9) := o7
              have G7 : Hid (Fr (fun k => k = tb ∨ w3.heap.size ≤ k) wr w7) := ((GA.out).mono (fun _ _ h => Or.inl h)).trans ((Fr.refl _ _).grown g7 (fun k hk => .inl (Or.inr (HO.out.lt k hk).1)))
              have T7 : Hid (Tp w7 tb ao l cap _) := (TA.out).fr ((Fr.refl (fun k => w3.heap.size ≤ k) _).grown g7 (fun k hk => .inl (HO.out.lt k hk).1)) (by have := HAP.out; omega) (fun hl a ha e => by have := HN.out hl a ha; have := HAP.out; omega)
              clear o7 g7 k7
              refine hK.out _ _ trivial (fun hHeld => ?_)
              clear hK K
              try simp only [Act.put, List.setIfInBounds_toArray, List.set_cons_zero, List.set_cons_succ]
              refine wpAnyH_take (i := 6) (oi := _) (v := ?_) (by rw [List.getElem?_toArray]; rfl) (by kernel_rfl) (by kernel_rfl) (by kernel_rfl) (fun _ _ _ h => by exact h) (Or.inl ⟨by rfl, ?_⟩) (by assumption) ?_
              rotate_left
              · (intro w hSw; (try dsimp only at hSw); go_simp; (try with_reducible rfl))
              try simp only [Act.put, List.setIfInBounds_toArray, List.set_cons_zero, List.set_cons_succ]
              refine wpAnyH_ready (rs := [7]) (by kernel_rfl) (by simp) ?_
              refine AllReadyH.cons (o := _) (by rw [List.getElem?_toArray]; rfl) (fun K hK => ?_) ?_
              · have HZ7 : Hid (Z7 w7 hb _ _ _ _ (.slice none 0 0) (.slice none 0 0) (.slice none 0 0)) := HZ.out.fr G7.out (by have := HAP.out; omega)
                have lc := HZ7.out.c3
                have lz := HZ7.out.z 3
                go_simp
                clear lc lz
                refine hK.out _ _ trivial (fun hHeld => ?_)
                clear hK K
                try simp only [Act.put, List.setIfInBounds_toArray, List.set_cons_zero, List.set_cons_succ]
                refine wpAnyH_done (by kernel_rfl) ?_ _
                have HZ8 : Hid (Z7 w7 hb _ _ _ _ (.slice none 0 0) (.slice none 0 0) (.slice none 0 0)) := HZ.out.fr G7.out (by have := HAP.out; omega)
                have FS : Hid (Fr (fun k => k = hb) w7 (w7.setCell ⟨hb, 3, none⟩ (.slice a7 l9.length c7))) := (Fr.refl (fun k => k = hb) w7).setCell (p := ⟨hb, 3, none⟩) (Or.inl rfl) _
                have HZ9 : Hid (Z7 (w7.setCell ⟨hb, 3, none⟩ (.slice a7 l9.length c7)) hb _ _ _ (.slice a7 l9.length c7) (.slice none 0 0) (.slice none 0 0) (.slice none 0 0)) := HZ8.out.put3 _
                have O9 : Hid (OwnF (w7.setCell ⟨hb, 3, none⟩ (.slice a7 l9.length c7)) w3.heap.size 71 (.slice a7 l9.length c7) l9) := O7.out.fr FS.out (fun k hk e => by have := O7.out.lt k hk; have := HAP.out; omega)
                have T9 : Hid (Tp (w7.setCell ⟨hb, 3, none⟩ (.slice a7 l9.length c7)) tb ao l cap _) := T7.out.fr FS.out (by have := HAP.out; omega) (fun hl a ha e => by have := HN.out hl a ha; have := HAP.out; omega)
                have F9 : Hid (Fr (fun k => k = tb ∨ k = hb) w3 (w7.setCell ⟨hb, 3, none⟩ (.slice a7 l9.length c7))) := (HF.out.trans' G7.out (fun i hi h => by omega)).trans' FS.out (fun i hi h => Or.inr h)
                go_wp2
                go_roundw
                case rel => exact ⟨k + 1, l9, a7, c7, _, by omega, by go_num, (show _ = _ by rw [← Hl9.out, List.length_append, hlen.out]; rfl), (by rw [← Hl9.out]; exact (fun z hz => (List.mem_append.1 hz).elim (hxs z) (fun h => by rw [List.mem_singleton] at h; subst h; exact HX0.out))), O9, HZ9, T9, F9⟩
                case measure => simp [intOf]; omega
              exact AllReadyH.nil
            exact AllReadyH.nil
          exact AllReadyH.nil
        exact AllReadyH.nil
      refine AllReadyH.cons (o := _) (by rw [List.getElem?_toArray]; rfl) (fun K hK => ?_) ?_
      · go_simp
        go_wp2_with (go_at_call 37; refine (float_any (HT.out.fr ((Fr.refl (fun _ => False) wr).drew) (by simp) (by simp))).mono ?_; rintro e wx5 ⟨x, rfl, hx, ⟨j0, t0⟩, f0⟩)
        have HX0 : Hid (x < 18446744073709551616) := hx
        have T0 : Hid (Tp wx5 tb ao l cap j0) := t0
        have G0 : Hid (Fr (fun k => k = tb) wr wx5) := (((Fr.refl (fun k => k = tb) wr).drew)).trans f0
        clear t0 f0 hx
        refine hK.out _ _ trivial (fun hHeld => ?_)
        clear hK K
        try simp only [Act.put, List.setIfInBounds_toArray, List.set_cons_zero, List.set_cons_succ]
        refine wpAnyH_ready (rs := [1, 4]) (by kernel_rfl) (by simp) ?_
        refine AllReadyH.cons (o := _) (by rw [List.getElem?_toArray]; rfl) (fun K hK => ?_) ?_
        · have lc := (HZ.out.fr G0.out (by have := HAP.out; omega)).c3
          go_simp
          clear lc
          refine hK.out _ _ trivial (fun hHeld => ?_)
          clear hK K
          try simp only [Act.put, List.setIfInBounds_toArray, List.set_cons_zero, List.set_cons_succ]
          refine wpAnyH_ready (rs := [4]) (by kernel_rfl) (by simp) ?_
          refine AllReadyH.cons (o := _) (by rw [List.getElem?_toArray]; rfl) (fun K hK => ?_) ?_
          · go_simp
            have GA : Hid (Fr (fun k => k = tb) wr (wx5.alloc (.cells #[.float .f64 x] 71))) := (G0.out).alloc _
            have TA : Hid (Tp (wx5.alloc (.cells #[.float .f64 x] 71)) tb ao l cap _) := (T0.out).fr ((Fr.refl (fun _ => False) _).alloc _) (by simp) (by simp)
            refine hK.out _ _ trivial (fun hHeld => ?_)
            clear hK K
            try simp only [Act.put, List.setIfInBounds_toArray, List.set_cons_zero, List.set_cons_succ]
            refine wpAnyH_ready (rs := [5]) (by kernel_rfl) (by simp) ?_
            refine AllReadyH.cons (o := _) (by rw [List.getElem?_toArray]; rfl) (fun K hK => ?_) ?_
            · refine if_step (by rfl) ?_
              refine step_append_f (α := Nat) (.tmp 23) (.tmp 26) 25 71 rfl Try.underlying25 _ 8 Try.info71 rfl (by decide) w3.heap.size _ g rfl (HO.out.fr GA.out (fun k hk e => by have := HO.out.lt k hk; have := HAP.out; omega)) ⟨wx5.heap.size, 0, none⟩ [x] 1 rfl (one_f wx5 x 71 _ rfl) (Nat.le_trans HSZ.out (GA.out).size) (by have := hlen.out; simp; omega) ?_
              intro v7 w7 o7 g7 k7
              obtain ⟨l9, Hl9⟩ : ∃ l9, Hid (g ++ [x] = l9) := ⟨_, rfl⟩
              rw [Hl9.out] at o7
              obtain ⟨a7, c7, hv7, _, _⟩ := o7.row
              subst hv7
              have O7 : Hid (OwnF w7 w3.heap.size 71 (.slice a7 l9.length c7) l9) := o7
              have G7 : Hid (Fr (fun k => k = tb ∨ w3.heap.size ≤ k) wr w7) := ((GA.out).mono (fun _ _ h => Or.inl h)).trans ((Fr.refl _ _).grown g7 (fun k hk => .inl (Or.inr (HO.out.lt k hk).1)))
              have T7 : Hid (Tp w7 tb ao l cap _) := (TA.out).fr ((Fr.refl (fun k => w3.heap.size ≤ k) _).grown g7 (fun k hk => .inl (HO.out.lt k hk).1)) (by have := HAP.out; omega) (fun hl a ha e => by have := HN.out hl a ha; have := HAP.out; omega)
              clear o7 g7 k7
              refine hK.out _ _ trivial (fun hHeld => ?_)
              clear hK K
              try simp only [Act.put, List.setIfInBounds_toArray, List.set_cons_zero, List.set_cons_succ]
              refine wpAnyH_take (i := 6) (oi := _) (v := ?_) (by rw [List.getElem?_toArray]; rfl) (by kernel_rfl) (by kernel_rfl) (by kernel_rfl) (fun _ _ _ h => by exact h) (Or.inl ⟨by rfl, ?_⟩) (by assumption) ?_
              rotate_left
              · (intro w hSw; (try dsimp only at hSw); go_simp; (try with_reducible rfl))
              try simp only [Act.put, List.setIfInBounds_toArray, List.set_cons_zero, List.set_cons_succ]
              refine wpAnyH_ready (rs := [7]) (by kernel_rfl) (by simp) ?_
              refine AllReadyH.cons (o := _) (by rw [List.getElem?_toArray]; rfl) (fun K hK => ?_) ?_
              · have HZ7 : Hid (Z7 w7 hb _ _ _ _ (.slice none 0 0) (.slice none 0 0) (.slice none 0 0)) := HZ.out.fr G7.out (by have := HAP.out; omega)
                have lc := HZ7.out.c3
                have lz := HZ7.out.z 3
                go_simp
                clear lc lz
                refine hK.out _ _ trivial (fun hHeld => ?_)
                clear hK K
                try simp only [Act.put, List.setIfInBounds_toArray, List.set_cons_zero, List.set_cons_succ]
                refine wpAnyH_done (by kernel_rfl) ?_ _
                have HZ8 : Hid (Z7 w7 hb _ _ _ _ (.slice none 0 0) (.slice none 0 0) (.slice none 0 0)) := HZ.out.fr G7.out (by have := HAP.out; omega)
                have FS : Hid (Fr (fun k => k = hb) w7 (w7.setCell ⟨hb, 3, none⟩ (.slice a7 l9.length c7))) := (Fr.refl (fun k => k = hb) w7).setCell (p := ⟨hb, 3, none⟩) (Or.inl rfl) _
                have HZ9 : Hid (Z7 (w7.setCell ⟨hb, 3, none⟩ (.slice a7 l9.length c7)) hb _ _ _ (.slice a7 l9.length c7) (.slice none 0 0) (.slice none 0 0) (.slice none 0 0)) := HZ8.out.put3 _
                have O9 : Hid (OwnF (w7.setCell ⟨hb, 3, none⟩ (.slice a7 l9.length c7)) w3.heap.size 71 (.slice a7 l9.length c7) l9) := O7.out.fr FS.out (fun k hk e => by have := O7.out.lt k hk; have := HAP.out; omega)
                have T9 : Hid (Tp (w7.setCell ⟨hb, 3, none⟩ (.slice a7 l9.length c7)) tb ao l cap _) := T7.out.fr FS.out (by have := HAP.out; omega) (fun hl a ha e => by have := HN.out hl a ha; have := HAP.out; omega)
                have F9 : Hid (Fr (fun k => k = tb ∨ k = hb) w3 (w7.setCell ⟨hb, 3, none⟩ (.slice a7 l9.length c7))) := (HF.out.trans' G7.out (fun i hi h => by omega)).trans' FS.out (fun i hi h => Or.inr h)
                go_wp2
                go_roundw
                case rel => exact ⟨k + 1, l9, a7, c7, _, by omega, by go_num, (show _ = _ by rw [← Hl9.out, List.length_append, hlen.out]; rfl), (by rw [← Hl9.out]; exact (fun z hz => (List.mem_append.1 hz).elim (hxs z) (fun h => by rw [List.mem_singleton] at h; subst h; exact HX0.out))), O9, HZ9, T9, F9⟩
                case measure => simp [intOf]; omega
              exact AllReadyH.nil
            exact AllReadyH.nil
          exact AllReadyH.nil
        refine AllReadyH.cons (o := _) (by rw [List.getElem?_toArray]; rfl) (fun K hK => ?_) ?_
        · go_simp
          have GA : Hid (Fr (fun k => k = tb) wr (wx5.alloc (.cells #[.float .f64 x] 71))) := (G0.out).alloc _
          have TA : Hid (Tp (wx5.alloc (.cells #[.float .f64 x] 71)) tb ao l cap _) := (T0.out).fr ((Fr.refl (fun _ => False) _).alloc _) (by simp) (by simp)
          refine hK.out _ _ trivial (fun hHeld => ?_)
          clear hK K
          try simp only [Act.put, List.setIfInBounds_toArray, List.set_cons_zero, List.set_cons_succ]
          refine wpAnyH_ready (rs := [1]) (by kernel_rfl) (by simp) ?_
          refine AllReadyH.cons (o := _) (by rw [List.getElem?_toArray]; rfl) (fun K hK => ?_) ?_
          · have lc := (HZ.out.fr GA.out (by have := HAP.out; omega)).c3
            go_simp
            clear lc
            refine hK.out _ _ trivial (fun hHeld => ?_)
            clear hK K
            try simp only [Act.put, List.setIfInBounds_toArray, List.set_cons_zero, List.set_cons_succ]
            refine wpAnyH_ready (rs := [5]) (by kernel_rfl) (by simp) ?_
            refine AllReadyH.cons (o := _) (by rw [List.getElem?_toArray]; rfl) (fun K hK => ?_) ?_
            · refine if_step (by rfl) ?_
              refine step_append_f (α := Nat) (.tmp 23) (.tmp 26) 25 71 rfl Try.underlying25 _ 8 Try.info71 rfl (by decide) w3.heap.size _ g rfl (HO.out.fr GA.out (fun k hk e => by have := HO.out.lt k hk; have := HAP.out; omega)) ⟨wx5.heap.size, 0, none⟩ [x] 1 rfl (one_f wx5 x 71 _ rfl) (Nat.le_trans HSZ.out (GA.out).size) (by have := hlen.out; simp; omega) ?_
              intro v7 w7 o7 g7 k7
              obtain ⟨l9, Hl9⟩ : ∃ l9, Hid (g ++ [x] = l9) := ⟨_, rfl⟩
              rw [Hl9.out] at o7
              obtain ⟨a7, c7, hv7, _, _⟩ := o7.row
              subst hv7
              have O7 : Hid (OwnF w7 w3.heap.size 71 (.slice a7 l9.length c7) l9) := o7
              have G7 : Hid (Fr (fun k => k = tb ∨ w3.heap.size ≤ k) wr w7) := ((GA.out).mono (fun _ _ h => Or.inl h)).trans ((Fr.refl _ _).grown g7 (fun k hk => .inl (Or.inr (HO.out.lt k hk).1)))
              have T7 : Hid (Tp w7 tb ao l cap _) := (TA.out).fr ((Fr.refl (fun k => w3.heap.size ≤ k) _).grown g7 (fun k hk => .inl (HO.out.lt k hk).1)) (by have := HAP.out; omega) (fun hl a ha e => by have := HN.out hl a ha; have := HAP.out; omega)
              clear o7 g7 k7
              refine hK.out _ _ trivial (fun hHeld => ?_)
              clear hK K
              try simp only [Act.put, List.setIfInBounds_toArray, List.set_cons_zero, List.set_cons_succ]
              refine wpAnyH_take (i := 6) (oi := _) (v := ?_) (by rw [List.getElem?_toArray]; rfl) (by kernel_rfl) (by kernel_rfl) (by kernel_rfl) (fun _ _ _ h => by exact h) (Or.inl ⟨by rfl, ?_⟩) (by assumption) ?_
              rotate_left
              · (intro w hSw; (try dsimp only at hSw); go_simp; (try with_reducible rfl))
              try simp only [Act.put, List.setIfInBounds_toArray, List.set_cons_zero, List.set_cons_succ]
              refine wpAnyH_ready (rs := [7]) (by kernel_rfl) (by simp) ?_
              refine AllReadyH.cons (o := _) (by rw [List.getElem?_toArray]; rfl) (fun K hK => ?_) ?_
              · have HZ7 : Hid (Z7 w7 hb _ _ _ _ (.slice none 0 0) (.slice none 0 0) (.slice none 0 0)) := HZ.out.fr G7.out (by have := HAP.out; omega)
                have lc := HZ7.out.c3
                have lz := HZ7.out.z 3
                go_simp
                clear lc lz
                refine hK.out _ _ trivial (fun hHeld => ?_)
                clear hK K
                try simp only [Act.put, List.setIfInBounds_toArray, List.set_cons_zero, List.set_cons_succ]
                refine wpAnyH_done (by kernel_rfl) ?_ _
                have HZ8 : Hid (Z7 w7 hb _ _ _ _ (.slice none 0 0) (.slice none 0 0) (.slice none 0 0)) := HZ.out.fr G7.out (by have := HAP.out; omega)
                have FS : Hid (Fr (fun k => k = hb) w7 (w7.setCell ⟨hb, 3, none⟩ (.slice a7 l9.length c7))) := (Fr.refl (fun k => k = hb) w7).setCell (p := ⟨hb, 3, none⟩) (Or.inl rfl) _
                have HZ9 : Hid (Z7 (w7.setCell ⟨hb, 3, none⟩ (.slice a7 l9.length c7)) hb _ _ _ (.slice a7 l9.length c7) (.slice none 0 0) (.slice none 0 0) (.slice none 0 0)) := HZ8.out.put3 _
                have O9 : Hid (OwnF (w7.setCell ⟨hb, 3, none⟩ (.slice a7 l9.length c7)) w3.heap.size 71 (.slice a7 l9.length c7) l9) := O7.out.fr FS.out (fun k hk e => by have := O7.out.lt k hk; have := HAP.out; omega)
                have T9 : Hid (Tp (w7.setCell ⟨hb, 3, none⟩ (.slice a7 l9.length c7)) tb ao l cap _) := T7.out.fr FS.out (by have := HAP.out; omega) (fun hl a ha e => by have := HN.out hl a ha; have := HAP.out; omega)
                have F9 : Hid (Fr (fun k => k = tb ∨ k = hb) w3 (w7.setCell ⟨hb, 3, none⟩ (.slice a7 l9.length c7))) := (HF.out.trans' G7.out (fun i hi h => by omega)).trans' FS.out (fun i hi h => Or.inr h)
                go_wp2
                go_roundw
                case rel => exact ⟨k + 1, l9, a7, c7, _, by omega, by go_num, (show _ = _ by rw [← Hl9.out, List.length_append, hlen.out]; rfl), (by rw [← Hl9.out]; exact (fun z hz => (List.mem_append.1 hz).elim (hxs z) (fun h => by rw [List.mem_singleton] at h; subst h; exact HX0.out))), O9, HZ9, T9, F9⟩
                case measure => simp [intOf]; omega
              exact AllReadyH.nil
            exact AllReadyH.nil
          exact AllReadyH.nil
        exact AllReadyH.nil
      exact AllReadyH.nil
    · have z1 : ¬ (k : Int) < (n1 : Int) := by omega
      obtain ⟨hfr, hbk⟩ := OwnF.frow HO.out hxs
      have HGg : Hid (FRow wr ga g gc) := hfr
      have HBg : Hid (∀ a, ga = some a → w3.heap.size ≤ a.block ∧ a.block < wr.heap.size) := hbk
      rename World => wa
      have F3a : Hid (Fr (fun k => k = tb ∨ k = hb) w3 wa) := HF.out
      have K3 : Hid (Calls _ _ _ _ _) := next_any HT.out 3 (by omega) (by omega)
      have HZa : Hid _ := HZ
      clear hfr hbk HO HF hxs
      go_wp2_with fail
      refine K3.out.mono ?_
      rintro e w4 ⟨r4, rfl, hr4, ⟨j4, hj4⟩, f4⟩
      have HT0 : Hid (Tp w4 tb ao l cap j4) := hj4
      have Fa4 : Hid (Fr (fun k => k = tb ∨ k = hb) wa w4) := f4.mono (fun _ _ h => Or.inl h)
      have HZ0 : Hid (Z7 w4 hb (.int .u64 (s0 : Int)) (.int .u64 (q0 : Int)) (.int .u64 (e0 : Int)) (.slice ga g.length gc) (.slice none 0 0) (.slice none 0 0) (.slice none 0 0)) := HZa.out.fr f4 (by have := HAP.out; omega)
      have HAPg : Hid (tb < w.heap.size ∧ w.heap.size < hb ∧ hb < w3.heap.size) := HAP
      have HAP : Hid (tb < w.heap.size ∧ w.heap.size < hb ∧ hb < w4.heap.size) := ⟨HAPg.out.1, HAPg.out.2.1, HZ0.out.lt⟩
      obtain ⟨n2, Hn2⟩ : ∃ n2 : Nat, Hid ((r4 : Int) / 2 = (n2 : Int)) := ⟨r4 / 2, by show _ = _; omega⟩
      have hn2 : n2 ≤ 1 := by have := Hn2.out; omega
      clear hj4 f4 K3 HZ HT HZa
      go_wp2
      rw [Hn2.out]
      clear hr4
      go_loopw [6] (fun iv wr => ∃ (k : Nat) (s : List (Nat × Nat)) (sa : Option Addr) (sc j : Nat), k ≤ n2 ∧ iv = .int .i64 (k : Int) ∧ Hid (s.length = k) ∧ (∀ z ∈ s, z.1 < 18446744073709551616 ∧ z.2 < 18446744073709551616) ∧ Hid (OwnF wr w4.heap.size 75 (.slice sa s.length sc) s) ∧ Hid (Z7 wr hb (.int .u64 (s0 : Int)) (.int .u64 (q0 : Int)) (.int .u64 (e0 : Int)) (.slice ga g.length gc) (.slice sa s.length sc) (.slice none 0 0) (.slice none 0 0)) ∧ Hid (Tp wr tb ao l cap j) ∧ Hid (Fr (fun k => k = tb ∨ k = hb) w4 wr)) (fun iv _ => n2 - (intOf iv).toNat)
      case atStart => exact ⟨0, [], none, 0, _, Nat.zero_le _, rfl, rfl, (by simp), OwnF.nil _ _ _, HZ0, HT0, Fr.refl _ _⟩
      case round =>
        obtain ⟨k, s, sa, sc, j, hk, rfl, hlen, hxs, HO, HZ, HT, HF⟩ := hrel
        by_cases hlt : k < n2
        · have z1 : (k : Int) < (n2 : Int) := by omega
          have HSZ : Hid (w4.heap.size ≤ wr.heap.size) := HF.out.size
          go_wp2_with fail
          refine wp_region_held_drew (S := (fun _ : World => True)) (by kernel_rfl) trivial (fun hHeld => ?_)
          refine wpAnyH_take (i := 0) (oi := _) (v := ?_) (by rw [List.getElem?_toArray]; rfl) (by kernel_rfl) (by kernel_rfl) (by kernel_rfl) (fun _ _ _ h => by exact h) (Or.inl ⟨by rfl, ?_⟩) (by assumption) ?_
          rotate_left
          · (intro w hSw; (try dsimp only at hSw); go_simp; (try with_reducible rfl))
          try simp only [Act.put, List.setIfInBounds_toArray, List.set_cons_zero, List.set_cons_succ]
          refine wpAnyH_take (i := 2) (oi := _) (v := ?_) (by rw [List.getElem?_toArray]; rfl) (by kernel_rfl) (by kernel_rfl) (by kernel_rfl) (fun _ _ _ h => by exact h) (Or.inl ⟨by rfl, ?_⟩) (by assumption) ?_
          rotate_left
          · (intro w hSw; (try dsimp only at hSw); go_simp; (try with_reducible rfl))
          try simp only [Act.put, List.setIfInBounds_toArray, List.set_cons_zero, List.set_cons_succ]
          refine wpAnyH_take (i := 4) (oi := _) (v := ?_) (by rw [List.getElem?_toArray]; rfl) (by kernel_rfl) (by kernel_rfl) (by kernel_rfl) (fun _ _ _ h => by exact h) (Or.inl ⟨by rfl, ?_⟩) (by assumption) ?_
          rotate_left
          · (intro w hSw; (try dsimp only at hSw); go_simp; (try with_reducible rfl))
          try simp only [Act.put, List.setIfInBounds_toArray, List.set_cons_zero, List.set_cons_succ]
          refine wpAnyH_ready (rs := [1, 3]) (by kernel_rfl) (by simp) ?_
          refine AllReadyH.cons (o := _) (by rw [List.getElem?_toArray]; rfl) (fun K hK => ?_) ?_
          · have lc := (HZ.out.fr ((Fr.refl (fun k => k = tb) wr).drew) (by have := HAP.out; omega)).c4
            go_simp
            clear lc
            refine hK.out _ _ trivial (fun hHeld => ?_)
            clear hK K
            try simp only [Act.put, List.setIfInBounds_toArray, List.set_cons_zero, List.set_cons_succ]
            refine wpAnyH_ready (rs := [3]) (by kernel_rfl) (by simp) ?_
            refine AllReadyH.cons (o := _) (by rw [List.getElem?_toArray]; rfl) (fun K hK => ?_) ?_
            · go_simp
              go_wp2_with (go_at_call 37; refine (float_any (HT.out.fr ((Fr.refl (fun _ => False) wr).drew) (by simp) (by simp))).mono ?_; rintro e wx5 ⟨x, rfl, hx, ⟨j0, t0⟩, f0⟩)
              have HX0 : Hid (x < 18446744073709551616) := hx
              have T0 : Hid (Tp wx5 tb ao l cap j0) := t0
              have G0 : Hid (Fr (fun k => k = tb) wr wx5) := (((Fr.refl (fun k => k = tb) wr).drew)).trans f0
              clear t0 f0 hx
              refine hK.out _ _ trivial (fun hHeld => ?_)
              clear hK K
              try simp only [Act.put, List.setIfInBounds_toArray, List.set_cons_zero, List.set_cons_succ]
              refine wpAnyH_ready (rs := [5]) (by kernel_rfl) (by simp) ?_
              refine AllReadyH.cons (o := _) (by rw [List.getElem?_toArray]; rfl) (fun K hK => ?_) ?_
              · go_simp
                go_wp2_with (go_at_call 37; refine (float_any T0.out).mono ?_; rintro e wx6 ⟨y, rfl, hy, ⟨j1, t1⟩, f1⟩)
                have HX1 : Hid (y < 18446744073709551616) := hy
                have T1 : Hid (Tp wx6 tb ao l cap j1) := t1
                have G1 : Hid (Fr (fun k => k = tb) wr wx6) := (G0.out).trans f1
                clear t1 f1 hy
                refine hK.out _ _ trivial (fun hHeld => ?_)
                clear hK K
                try simp only [Act.put, List.setIfInBounds_toArray, List.set_cons_zero, List.set_cons_succ]
                refine wpAnyH_take (i := 6) (oi := _) (v := ?_) (by rw [List.getElem?_toArray]; rfl) (by kernel_rfl) (by kernel_rfl) (by kernel_rfl) (fun _ _ _ h => by exact h) (Or.inl ⟨by rfl, ?_⟩) (by assumption) ?_
                rotate_left
                · (intro w hSw; (try dsimp only at hSw); go_simp; (try with_reducible rfl))
                try simp only [Act.put, List.setIfInBounds_toArray, List.set_cons_zero, List.set_cons_succ]
                refine wpAnyH_ready (rs := [7]) (by kernel_rfl) (by simp) ?_
                refine AllReadyH.cons (o := _) (by rw [List.getElem?_toArray]; rfl) (fun K hK => ?_) ?_
                · go_simp
                  have GA : Hid (Fr (fun k => k = tb) wr (wx6.alloc (.cells #[.float .f64 x, .float .f64 y] 75))) := (G1.out).alloc _
                  have TA : Hid (Tp (wx6.alloc (.cells #[.float .f64 x, .float .f64 y] 75)) tb ao l cap _) := (T1.out).fr ((Fr.refl (fun _ => False) _).alloc _) (by simp) (by simp)
                  refine hK.out _ _ trivial (fun hHeld => ?_)
                  clear hK K
                  try simp only [Act.put, List.setIfInBounds_toArray, List.set_cons_zero, List.set_cons_succ]
                  refine wpAnyH_ready (rs := [8]) (by kernel_rfl) (by simp) ?_
                  refine AllReadyH.cons (o := _) (by rw [List.getElem?_toArray]; rfl) (fun K hK => ?_) ?_
                  · refine if_step (by rfl) ?_
                    refine step_append_f (α := (Nat × Nat)) (.tmp 38) (.tmp 44) 26 75 rfl Try.underlying26 _ 16 Try.info75 rfl (by decide) w4.heap.size _ s rfl (HO.out.fr GA.out (fun k hk e => by have := HO.out.lt k hk; have := HAP.out; omega)) ⟨wx6.heap.size, 0, none⟩ [(x, y)] 1 rfl (one_f wx6 (x, y) 75 _ rfl) (Nat.le_trans HSZ.out (GA.out).size) (by have := hlen.out; simp; omega) ?_
                    intro v7 w7 o7 g7 k7
                    obtain ⟨l9, Hl9⟩ : ∃ l9, Hid (s ++ [(x, y)] = l9) := ⟨_, rfl⟩
                    rw [Hl9.out] at o7
                    obtain ⟨a7, c7, hv7, _, _⟩ := o7.row
                    subst hv7
                    have O7 : Hid (OwnF w7 w4.heap.size 75 (.slice a7 l9.length c7) l9) := o7
                    have G7 : Hid (Fr (fun k => k = tb ∨ w4.heap.size ≤ k) wr w7) := ((GA.out).mono (fun _ _ h => Or.inl h)).trans ((Fr.refl _ _).grown g7 (fun k hk => .inl (Or.inr (HO.out.lt k hk).1)))
                    have T7 : Hid (Tp w7 tb ao l cap _) := (TA.out).fr ((Fr.refl (fun k => w4.heap.size ≤ k) _).grown g7 (fun k hk => .inl (HO.out.lt k hk).1)) (by have := HAP.out; omega) (fun hl a ha e => by have := HN.out hl a ha; have := HAP.out; omega)
                    clear o7 g7 k7
                    refine hK.out _ _ trivial (fun hHeld => ?_)
                    clear hK K
                    try simp only [Act.put, List.setIfInBounds_toArray, List.set_cons_zero, List.set_cons_succ]
                    refine wpAnyH_take (i := 9) (oi := _) (v := ?_) (by rw [List.getElem?_toArray]; rfl) (by kernel_rfl) (by kernel_rfl) (by kernel_rfl) (fun _ _ _ h => by exact h) (Or.inl ⟨by rfl, ?_⟩) (by assumption) ?_
                    rotate_left
                    · (intro w hSw; (try dsimp only at hSw); go_simp; (try with_reducible rfl))
                    try simp only [Act.put, List.setIfInBounds_toArray, List.set_cons_zero, List.set_cons_succ]
                    refine wpAnyH_ready (rs := [10]) (by kernel_rfl) (by simp) ?_
                    refine AllReadyH.cons (o := _) (by rw [List.getElem?_toArray]; rfl) (fun K hK => ?_) ?_
                    · have HZ7 : Hid (Z7 w7 hb _ _ _ (.slice ga g.length gc) _ (.slice none 0 0) (.slice none 0 0)) := HZ.out.fr G7.out (by have := HAP.out; omega)
                      have lc := HZ7.out.c4
                      have lz := HZ7.out.z 4
                      go_simp
                      clear lc lz
                      refine hK.out _ _ trivial (fun hHeld => ?_)
                      clear hK K
                      try simp only [Act.put, List.setIfInBounds_toArray, List.set_cons_zero, List.set_cons_succ]
                      refine wpAnyH_done (by kernel_rfl) ?_ _
                      have HZ8 : Hid (Z7 w7 hb _ _ _ (.slice ga g.length gc) _ (.slice none 0 0) (.slice none 0 0)) := HZ.out.fr G7.out (by have := HAP.out; omega)
                      have FS : Hid (Fr (fun k => k = hb) w7 (w7.setCell ⟨hb, 4, none⟩ (.slice a7 l9.length c7))) := (Fr.refl (fun k => k = hb) w7).setCell (p := ⟨hb, 4, none⟩) (Or.inl rfl) _
                      have HZ9 : Hid (Z7 (w7.setCell ⟨hb, 4, none⟩ (.slice a7 l9.length c7)) hb _ _ _ (.slice ga g.length gc) (.slice a7 l9.length c7) (.slice none 0 0) (.slice none 0 0)) := HZ8.out.put4' _
                      have O9 : Hid (OwnF (w7.setCell ⟨hb, 4, none⟩ (.slice a7 l9.length c7)) w4.heap.size 75 (.slice a7 l9.length c7) l9) := O7.out.fr FS.out (fun k hk e => by have := O7.out.lt k hk; have := HAP.out; omega)
                      have T9 : Hid (Tp (w7.setCell ⟨hb, 4, none⟩ (.slice a7 l9.length c7)) tb ao l cap _) := T7.out.fr FS.out (by have := HAP.out; omega) (fun hl a ha e => by have := HN.out hl a ha; have := HAP.out; omega)
                      have F9 : Hid (Fr (fun k => k = tb ∨ k = hb) w4 (w7.setCell ⟨hb, 4, none⟩ (.slice a7 l9.length c7))) := (HF.out.trans' G7.out (fun i hi h => by omega)).trans' FS.out (fun i hi h => Or.inr h)
                      go_wp2
                      go_roundw
                      case rel => exact ⟨k + 1, l9, a7, c7, _, by omega, by go_num, (show _ = _ by rw [← Hl9.out, List.length_append, hlen.out]; rfl), (by rw [← Hl9.out]; exact (fun z hz => (List.mem_append.1 hz).elim (hxs z) (fun h => by rw [List.mem_singleton] at h; subst h; exact ⟨HX0.out, HX1.out⟩))), O9, HZ9, T9, F9⟩
                      case measure => simp [intOf]; omega
                    exact AllReadyH.nil
                  exact AllReadyH.nil
                exact AllReadyH.nil
              exact AllReadyH.nil
            exact AllReadyH.nil
          refine AllReadyH.cons (o := _) (by rw [List.getElem?_toArray]; rfl) (fun K hK => ?_) ?_
          · go_simp
            go_wp2_with (go_at_call 37; refine (float_any (HT.out.fr ((Fr.refl (fun _ => False) wr).drew) (by simp) (by simp))).mono ?_; rintro e wx5 ⟨x, rfl, hx, ⟨j0, t0⟩, f0⟩)
            have HX0 : Hid (x < 18446744073709551616) := hx
            have T0 : Hid (Tp wx5 tb ao l cap j0) := t0
            have G0 : Hid (Fr (fun k => k = tb) wr wx5) := (((Fr.refl (fun k => k = tb) wr).drew)).trans f0
            clear t0 f0 hx
            refine hK.out _ _ trivial (fun hHeld => ?_)
            clear hK K
            try simp only [Act.put, List.setIfInBounds_toArray, List.set_cons_zero, List.set_cons_succ]
            refine wpAnyH_ready (rs := [1, 5]) (by kernel_rfl) (by simp) ?_
            refine AllReadyH.cons (o := _) (by rw [List.getElem?_toArray]; rfl) (fun K hK => ?_) ?_
            · have lc := (HZ.out.fr G0.out (by have := HAP.out; omega)).c4
              go_simp
              clear lc
              refine hK.out _ _ trivial (fun hHeld => ?_)
              clear hK K
              try simp only [Act.put, List.setIfInBounds_toArray, List.set_cons_zero, List.set_cons_succ]
              refine wpAnyH_ready (rs := [5]) (by kernel_rfl) (by simp) ?_
              refine AllReadyH.cons (o := _) (by rw [List.getElem?_toArray]; rfl) (fun K hK => ?_) ?_
              · go_simp
                go_wp2_with (go_at_call 37; refine (float_any T0.out).mono ?_; rintro e wx6 ⟨y, rfl, hy, ⟨j1, t1⟩, f1⟩)
                have HX1 : Hid (y < 18446744073709551616) := hy
                have T1 : Hid (Tp wx6 tb ao l cap j1) := t1
                have G1 : Hid (Fr (fun k => k = tb) wr wx6) := (G0.out).trans f1
                clear t1 f1 hy
                refine hK.out _ _ trivial (fun hHeld => ?_)
                clear hK K
                try simp only [Act.put, List.setIfInBounds_toArray, List.set_cons_zero, List.set_cons_succ]
                refine wpAnyH_take (i := 6) (oi := _) (v := ?_) (by rw [List.getElem?_toArray]; rfl) (by kernel_rfl) (by kernel_rfl) (by kernel_rfl) (fun _ _ _ h => by exact h) (Or.inl ⟨by rfl, ?_⟩) (by assumption) ?_
                rotate_left
                · (intro w hSw; (try dsimp only at hSw); go_simp; (try with_reducible rfl))
                try simp only [Act.put, List.setIfInBounds_toArray, List.set_cons_zero, List.set_cons_succ]
                refine wpAnyH_ready (rs := [7]) (by kernel_rfl) (by simp) ?_
                refine AllReadyH.cons (o := _) (by rw [List.getElem?_toArray]; rfl) (fun K hK => ?_) ?_
                · go_simp
                  have GA : Hid (Fr (fun k => k = tb) wr (wx6.alloc (.cells #[.float .f64 x, .float .f64 y] 75))) := (G1.out).alloc _
                  have TA : Hid (Tp (wx6.alloc (.cells #[.float .f64 x, .float .f64 y] 75)) tb ao l cap _) := (T1.out).fr ((Fr.refl (fun _ => False) _).alloc _) (by simp) (by simp)
                  refine hK.out _ _ trivial (fun hHeld => ?_)
                  clear hK K
                  try simp only [Act.put, List.setIfInBounds_toArray, List.set_cons_zero, List.set_cons_succ]
                  refine wpAnyH_ready (rs := [8]) (by kernel_rfl) (by simp) ?_
                  refine AllReadyH.cons (o := _) (by rw [List.getElem?_toArray]; rfl) (fun K hK => ?_) ?_
                  · refine if_step (by rfl) ?_
                    refine step_append_f (α := (Nat × Nat)) (.tmp 38) (.tmp 44) 26 75 rfl Try.underlying26 _ 16 Try.info75 rfl (by decide) w4.heap.size _ s rfl (HO.out.fr GA.out (fun k hk e => by have := HO.out.lt k hk; have := HAP.out; omega)) ⟨wx6.heap.size, 0, none⟩ [(x, y)] 1 rfl (one_f wx6 (x, y) 75 _ rfl) (Nat.le_trans HSZ.out (GA.out).size) (by have := hlen.out; simp; omega) ?_
                    intro v7 w7 o7 g7 k7
                    obtain ⟨l9, Hl9⟩ : ∃ l9, Hid (s ++ [(x, y)] = l9) := ⟨_, rfl⟩
                    rw [Hl9.out] at o7
                    obtain ⟨a7, c7, hv7, _, _⟩ := o7.row
                    subst hv7
                    have O7 : Hid (OwnF w7 w4.heap.size 75 (.slice a7 l9.length c7) l9) := o7
                    have G7 : Hid (Fr (fun k => k = tb ∨ w4.heap.size ≤ k) wr w7) := ((GA.out).mono (fun _ _ h => Or.inl h)).trans ((Fr.refl _ _).grown g7 (fun k hk => .inl (Or.inr (HO.out.lt k hk).1)))
                    have T7 : Hid (Tp w7 tb ao l cap _) := (TA.out).fr ((Fr.refl (fun k => w4.heap.size ≤ k) _).grown g7 (fun k hk => .inl (HO.out.lt k hk).1)) (by have := HAP.out; omega) (fun hl a ha e => by have := HN.out hl a ha; have := HAP.out; omega)
                    clear o7 g7 k7
                    refine hK.out _ _ trivial (fun hHeld => ?_)
                    clear hK K
                    try simp only [Act.put, List.setIfInBounds_toArray, List.set_cons_zero, List.set_cons_succ]
                    refine wpAnyH_take (i := 9) (oi := _) (v := ?_) (by rw [List.getElem?_toArray]; rfl) (by kernel_rfl) (by kernel_rfl) (by kernel_rfl) (fun _ _ _ h => by exact h) (Or.inl ⟨by rfl, ?_⟩) (by assumption) ?_
                    rotate_left
                    · (intro w hSw; (try dsimp only at hSw); go_simp; (try with_reducible rfl))
                    try simp only [Act.put, List.setIfInBounds_toArray, List.set_cons_zero, List.set_cons_succ]
                    refine wpAnyH_ready (rs := [10]) (by kernel_rfl) (by simp) ?_
                    refine AllReadyH.cons (o := _) (by rw [List.getElem?_toArray]; rfl) (fun K hK => ?_) ?_
                    · have HZ7 : Hid (Z7 w7 hb _ _ _ (.slice ga g.length gc) _ (.slice none 0 0) (.slice none 0 0)) := HZ.out.fr G7.out (by have := HAP.out; omega)
                      have lc := HZ7.out.c4
                      have lz := HZ7.out.z 4
                      go_simp
                      clear lc lz
                      refine hK.out _ _ trivial (fun hHeld => ?_)
                      clear hK K
                      try simp only [Act.put, List.setIfInBounds_toArray, List.set_cons_zero, List.set_cons_succ]
                      refine wpAnyH_done (by kernel_rfl) ?_ _
                      have HZ8 : Hid (Z7 w7 hb _ _ _ (.slice ga g.length gc) _ (.slice none 0 0) (.slice none 0 0)) := HZ.out.fr G7.out (by have := HAP.out; omega)
                      have FS : Hid (Fr (fun k => k = hb) w7 (w7.setCell ⟨hb, 4, none⟩ (.slice a7 l9.length c7))) := (Fr.refl (fun k => k = hb) w7).setCell (p := ⟨hb, 4, none⟩) (Or.inl rfl) _
                      have HZ9 : Hid (Z7 (w7.setCell ⟨hb, 4, none⟩ (.slice a7 l9.length c7)) hb _ _ _ (.slice ga g.length gc) (.slice a7 l9.length c7) (.slice none 0 0) (.slice none 0 0)) := HZ8.out.put4' _
                      have O9 : Hid (OwnF (w7.setCell ⟨hb, 4, none⟩ (.slice a7 l9.length c7)) w4.heap.size 75 (.slice a7 l9.length c7) l9) := O7.out.fr FS.out (fun k hk e => by have := O7.out.lt k hk; have := HAP.out; omega)
                      have T9 : Hid (Tp (w7.setCell ⟨hb, 4, none⟩ (.slice a7 l9.length c7)) tb ao l cap _) := T7.out.fr FS.out (by have := HAP.out; omega) (fun hl a ha e => by have := HN.out hl a ha; have := HAP.out; omega)
                      have F9 : Hid (Fr (fun k => k = tb ∨ k = hb) w4 (w7.setCell ⟨hb, 4, none⟩ (.slice a7 l9.length c7))) := (HF.out.trans' G7.out (fun i hi h => by omega)).trans' FS.out (fun i hi h => Or.inr h)
                      go_wp2
                      go_roundw
                      case rel => exact ⟨k + 1, l9, a7, c7, _, by omega, by go_num, (show _ = _ by rw [← Hl9.out, List.length_append, hlen.out]; rfl), (by rw [← Hl9.out]; exact (fun z hz => (List.mem_append.1 hz).elim (hxs z) (fun h => by rw [List.mem_singleton] at h; subst h; exact ⟨HX0.out, HX1.out⟩))), O9, HZ9, T9, F9⟩
                      case measure => simp [intOf]; omega
                    exact AllReadyH.nil
                  exact AllReadyH.nil
                exact AllReadyH.nil
              exact AllReadyH.nil
            refine AllReadyH.cons (o := _) (by rw [List.getElem?_toArray]; rfl) (fun K hK => ?_) ?_
            · go_simp
              go_wp2_with (go_at_call 37; refine (float_any T0.out).mono ?_; rintro e wx6 ⟨y, rfl, hy, ⟨j1, t1⟩, f1⟩)
              have HX1 : Hid (y < 18446744073709551616) := hy
              have T1 : Hid (Tp wx6 tb ao l cap j1) := t1
              have G1 : Hid (Fr (fun k => k = tb) wr wx6) := (G0.out).trans f1
              clear t1 f1 hy
              refine hK.out _ _ trivial (fun hHeld => ?_)
              clear hK K
              try simp only [Act.put, List.setIfInBounds_toArray, List.set_cons_zero, List.set_cons_succ]
              refine wpAnyH_take (i := 6) (oi := _) (v := ?_) (by rw [List.getElem?_toArray]; rfl) (by kernel_rfl) (by kernel_rfl) (by kernel_rfl) (fun _ _ _ h => by exact h) (Or.inl ⟨by rfl, ?_⟩) (by assumption) ?_
              rotate_left
              · (intro w hSw; (try dsimp only at hSw); go_simp; (try with_reducible rfl))
              try simp only [Act.put, List.setIfInBounds_toArray, List.set_cons_zero, List.set_cons_succ]
              refine wpAnyH_ready (rs := [1, 7]) (by kernel_rfl) (by simp) ?_
              refine AllReadyH.cons (o := _) (by rw [List.getElem?_toArray]; rfl) (fun K hK => ?_) ?_
              · have lc := (HZ.out.fr G1.out (by have := HAP.out; omega)).c4
                go_simp
                clear lc
                refine hK.out _ _ trivial (fun hHeld => ?_)
                clear hK K
                try simp only [Act.put, List.setIfInBounds_toArray, List.set_cons_zero, List.set_cons_succ]
                refine wpAnyH_ready (rs := [7]) (by kernel_rfl) (by simp) ?_
                refine AllReadyH.cons (o := _) (by rw [List.getElem?_toArray]; rfl) (fun K hK => ?_) ?_
                · go_simp
                  have GA : Hid (Fr (fun k => k = tb) wr (wx6.alloc (.cells #[.float .f64 x, .float .f64 y] 75))) := (G1.out).alloc _
                  have TA : Hid (Tp (wx6.alloc (.cells #[.float .f64 x, .float .f64 y] 75)) tb ao l cap _) := (T1.out).fr ((Fr.refl (fun _ => False) _).alloc _) (by simp) (by simp)
                  refine hK.out _ _ trivial (fun hHeld => ?_)
                  clear hK K
                  try simp only [Act.put, List.setIfInBounds_toArray, List.set_cons_zero, List.set_cons_succ]
                  refine wpAnyH_ready (rs := [8]) (by kernel_rfl) (by simp) ?_
                  refine AllReadyH.cons (o := _) (by rw [List.getElem?_toArray]; rfl) (fun K hK => ?_) ?_
                  · refine if_step (by rfl) ?_
                    refine step_append_f (α := (Nat × Nat)) (.tmp 38) (.tmp 44) 26 75 rfl Try.underlying26 _ 16 Try.info75 rfl (by decide) w4.heap.size _ s rfl (HO.out.fr GA.out (fun k hk e => by have := HO.out.lt k hk; have := HAP.out; omega)) ⟨wx6.heap.size, 0, none⟩ [(x, y)] 1 rfl (one_f wx6 (x, y) 75 _ rfl) (Nat.le_trans HSZ.out (GA.out).size) (by have := hlen.out; simp; omega) ?_
                    intro v7 w7 o7 g7 k7
                    obtain ⟨l9, Hl9⟩ : ∃ l9, Hid (s ++ [(x, y)] = l9) := ⟨_, rfl⟩
                    rw [Hl9.out] at o7
                    obtain ⟨a7, c7, hv7, _, _⟩ := o7.row
                    subst hv7
                    have O7 : Hid (OwnF w7 w4.heap.size 75 (.slice a7 l9.length c7) l9) := o7
                    have G7 : Hid (Fr (fun k => k = tb ∨ w4.heap.size ≤ k) wr w7) := ((GA.out).mono (fun _ _ h => Or.inl h)).trans ((Fr.refl _ _).grown g7 (fun k hk => .inl (Or.inr (HO.out.lt k hk).1)))
                    have T7 : Hid (Tp w7 tb ao l cap _) := (TA.out).fr ((Fr.refl (fun k => w4.heap.size ≤ k) _).grown g7 (fun k hk => .inl (HO.out.lt k hk).1)) (by have := HAP.out; omega) (fun hl a ha e => by have := HN.out hl a ha; have := HAP.out; omega)
                    clear o7 g7 k7
                    refine hK.out _ _ trivial (fun hHeld => ?_)
                    clear hK K
                    try simp only [Act.put, List.setIfInBounds_toArray, List.set_cons_zero, List.set_cons_succ]
                    refine wpAnyH_take (i := 9) (oi := _) (v := ?_) (by rw [List.getElem?_toArray]; rfl) (by kernel_rfl) (by kernel_rfl) (by kernel_rfl) (fun _ _ _ h => by exact h) (Or.inl ⟨by rfl, ?_⟩) (by assumption) ?_
                    rotate_left
                    · (intro w hSw; (try dsimp only at hSw); go_simp; (try with_reducible rfl))
                    try simp only [Act.put, List.setIfInBounds_toArray, List.set_cons_zero, List.set_cons_succ]
                    refine wpAnyH_ready (rs := [10]) (by kernel_rfl) (by simp) ?_
                    refine AllReadyH.cons (o := _) (by rw [List.getElem?_toArray]; rfl) (fun K hK => ?_) ?_
                    · have HZ7 : Hid (Z7 w7 hb _ _ _ (.slice ga g.length gc) _ (.slice none 0 0) (.slice none 0 0)) := HZ.out.fr G7.out (by have := HAP.out; omega)
                      have lc := HZ7.out.c4
                      have lz := HZ7.out.z 4
                      go_simp
                      clear lc lz
                      refine hK.out _ _ trivial (fun hHeld => ?_)
                      clear hK K
                      try simp only [Act.put, List.setIfInBounds_toArray, List.set_cons_zero, List.set_cons_succ]
                      refine wpAnyH_done (by kernel_rfl) ?_ _
                      have HZ8 : Hid (Z7 w7 hb _ _ _ (.slice ga g.length gc) _ (.slice none 0 0) (.slice none 0 0)) := HZ.out.fr G7.out (by have := HAP.out; omega)
                      have FS : Hid (Fr (fun k => k = hb) w7 (w7.setCell ⟨hb, 4, none⟩ (.slice a7 l9.length c7))) := (Fr.refl (fun k => k = hb) w7).setCell (p := ⟨hb, 4, none⟩) (Or.inl rfl) _
                      have HZ9 : Hid (Z7 (w7.setCell ⟨hb, 4, none⟩ (.slice a7 l9.length c7)) hb _ _ _ (.slice ga g.length gc) (.slice a7 l9.length c7) (.slice none 0 0) (.slice none 0 0)) := HZ8.out.put4' _
                      have O9 : Hid (OwnF (w7.setCell ⟨hb, 4, none⟩ (.slice a7 l9.length c7)) w4.heap.size 75 (.slice a7 l9.length c7) l9) := O7.out.fr FS.out (fun k hk e => by have := O7.out.lt k hk; have := HAP.out; omega)
                      have T9 : Hid (Tp (w7.setCell ⟨hb, 4, none⟩ (.slice a7 l9.length c7)) tb ao l cap _) := T7.out.fr FS.out (by have := HAP.out; omega) (fun hl a ha e => by have := HN.out hl a ha; have := HAP.out; omega)
                      have F9 : Hid (Fr (fun k => k = tb ∨ k = hb) w4 (w7.setCell ⟨hb, 4, none⟩ (.slice a7 l9.length c7))) := (HF.out.trans' G7.out (fun i hi h => by omega)).trans' FS.out (fun i hi h => Or.inr h)
                      go_wp2
                      go_roundw
                      case rel => exact ⟨k + 1, l9, a7, c7, _, by omega, by go_num, (show _ = _ by rw [← Hl9.out, List.length_append, hlen.out]; rfl), (by rw [← Hl9.out]; exact (fun z hz => (List.mem_append.1 hz).elim (hxs z) (fun h => by rw [List.mem_singleton] at h; subst h; exact ⟨HX0.out, HX1.out⟩))), O9, HZ9, T9, F9⟩
                      case measure => simp [intOf]; omega
                    exact AllReadyH.nil
                  exact AllReadyH.nil
                exact AllReadyH.nil
              refine AllReadyH.cons (o := _) (by rw [List.getElem?_toArray]; rfl) (fun K hK => ?_) ?_
              · go_simp
                have GA : Hid (Fr (fun k => k = tb) wr (wx6.alloc (.cells #[.float .f64 x, .float .f64 y] 75))) := (G1.out).alloc _
                have TA : Hid (Tp (wx6.alloc (.cells #[.float .f64 x, .float .f64 y] 75)) tb ao l cap _) := (T1.out).fr ((Fr.refl (fun _ => False) _).alloc _) (by simp) (by simp)
                refine hK.out _ _ trivial (fun hHeld => ?_)
                clear hK K
                try simp only [Act.put, List.setIfInBounds_toArray, List.set_cons_zero, List.set_cons_succ]
                refine wpAnyH_ready (rs := [1]) (by kernel_rfl) (by simp) ?_
                refine AllReadyH.cons (o := _) (by rw [List.getElem?_toArray]; rfl) (fun K hK => ?_) ?_
                · have lc := (HZ.out.fr GA.out (by have := HAP.out; omega)).c4
                  go_simp
                  clear lc
                  refine hK.out _ _ trivial (fun hHeld => ?_)
                  clear hK K
                  try simp only [Act.put, List.setIfInBounds_toArray, List.set_cons_zero, List.set_cons_succ]
                  refine wpAnyH_ready (rs := [8]) (by kernel_rfl) (by simp) ?_
                  refine AllReadyH.cons (o := _) (by rw [List.getElem?_toArray]; rfl) (fun K hK => ?_) ?_
                  · refine if_step (by rfl) ?_
                    refine step_append_f (α := (Nat × Nat)) (.tmp 38) (.tmp 44) 26 75 rfl Try.underlying26 _ 16 Try.info75 rfl (by decide) w4.heap.size _ s rfl (HO.out.fr GA.out (fun k hk e => by have := HO.out.lt k hk; have := HAP.out; omega)) ⟨wx6.heap.size, 0, none⟩ [(x, y)] 1 rfl (one_f wx6 (x, y) 75 _ rfl) (Nat.le_trans HSZ.out (GA.out).size) (by have := hlen.out; simp; omega) ?_
                    intro v7 w7 o7 g7 k7
                    obtain ⟨l9, Hl9⟩ : ∃ l9, Hid (s ++ [(x, y)] = l9) := ⟨_, rfl⟩
                    rw [Hl9.out] at o7
                    obtain ⟨a7, c7, hv7, _, _⟩ := o7.row
                    subst hv7
                    have O7 : Hid (OwnF w7 w4.heap.size 75 (.slice a7 l9.length c7) l9) := o7
                    have G7 : Hid (Fr (fun k => k = tb ∨ w4.heap.size ≤ k) wr w7) := ((GA.out).mono (fun _ _ h => Or.inl h)).trans ((Fr.refl _ _).grown g7 (fun k hk => .inl (Or.inr (HO.out.lt k hk).1)))
                    have T7 : Hid (Tp w7 tb ao l cap _) := (TA.out).fr ((Fr.refl (fun k => w4.heap.size ≤ k) _).grown g7 (fun k hk => .inl (HO.out.lt k hk).1)) (by have := HAP.out; omega) (fun hl a ha e => by have := HN.out hl a ha; have := HAP.out; omega)
                    clear o7 g7 k7
                    refine hK.out _ _ trivial (fun hHeld => ?_)
                    clear hK K
                    try simp only [Act.put, List.setIfInBounds_toArray, List.set_cons_zero, List.set_cons_succ]
                    refine wpAnyH_take (i := 9) (oi := _) (v := ?_) (by rw [List.getElem?_toArray]; rfl) (by kernel_rfl) (by kernel_rfl) (by kernel_rfl) (fun _ _ _ h => by exact h) (Or.inl ⟨by rfl, ?_⟩) (by assumption) ?_
                    rotate_left
                    · (intro w hSw; (try dsimp only at hSw); go_simp; (try with_reducible rfl))
                    try simp only [Act.put, List.setIfInBounds_toArray, List.set_cons_zero, List.set_cons_succ]
                    refine wpAnyH_ready (rs := [10]) (by kernel_rfl) (by simp) ?_
                    refine AllReadyH.cons (o := _) (by rw [List.getElem?_toArray]; rfl) (fun K hK => ?_) ?_
                    · have HZ7 : Hid (Z7 w7 hb _ _ _ (.slice ga g.length gc) _ (.slice none 0 0) (.slice none 0 0)) := HZ.out.fr G7.out (by have := HAP.out; omega)
                      have lc := HZ7.out.c4
                      have lz := HZ7.out.z 4
                      go_simp
                      clear lc lz
                      refine hK.out _ _ trivial (fun hHeld => ?_)
                      clear hK K
                      try simp only [Act.put, List.setIfInBounds_toArray, List.set_cons_zero, List.set_cons_succ]
                      refine wpAnyH_done (by kernel_rfl) ?_ _
                      have HZ8 : Hid (Z7 w7 hb _ _ _ (.slice ga g.length gc) _ (.slice none 0 0) (.slice none 0 0)) := HZ.out.fr G7.out (by have := HAP.out; omega)
                      have FS : Hid (Fr (fun k => k = hb) w7 (w7.setCell ⟨hb, 4, none⟩ (.slice a7 l9.length c7))) := (Fr.refl (fun k => k = hb) w7).setCell (p := ⟨hb, 4, none⟩) (Or.inl rfl) _
                      have HZ9 : Hid (Z7 (w7.setCell ⟨hb, 4, none⟩ (.slice a7 l9.length c7)) hb _ _ _ (.slice ga g.length gc) (.slice a7 l9.length c7) (.slice none 0 0) (.slice none 0 0)) := HZ8.out.put4' _
                      have O9 : Hid (OwnF (w7.setCell ⟨hb, 4, none⟩ (.slice a7 l9.length c7)) w4.heap.size 75 (.slice a7 l9.length c7) l9) := O7.out.fr FS.out (fun k hk e => by have := O7.out.lt k hk; have := HAP.out; omega)
                      have T9 : Hid (Tp (w7.setCell ⟨hb, 4, none⟩ (.slice a7 l9.length c7)) tb ao l cap _) := T7.out.fr FS.out (by have := HAP.out; omega) (fun hl a ha e => by have := HN.out hl a ha; have := HAP.out; omega)
                      have F9 : Hid (Fr (fun k => k = tb ∨ k = hb) w4 (w7.setCell ⟨hb, 4, none⟩ (.slice a7 l9.length c7))) := (HF.out.trans' G7.out (fun i hi h => by omega)).trans' FS.out (fun i hi h => Or.inr h)
                      go_wp2
                      go_roundw
                      case rel => exact ⟨k + 1, l9, a7, c7, _, by omega, by go_num, (show _ = _ by rw [← Hl9.out, List.length_append, hlen.out]; rfl), (by rw [← Hl9.out]; exact (fun z hz => (List.mem_append.1 hz).elim (hxs z) (fun h => by rw [List.mem_singleton] at h; subst h; exact ⟨HX0.out, HX1.out⟩))), O9, HZ9, T9, F9⟩
                      case measure => simp [intOf]; omega
                    exact AllReadyH.nil
                  exact AllReadyH.nil
                exact AllReadyH.nil
              exact AllReadyH.nil
            exact AllReadyH.nil
          exact AllReadyH.nil
        · have z1 : ¬ (k : Int) < (n2 : Int) := by omega
          obtain ⟨hfr, hbk⟩ := OwnF.grow HO.out hxs
          have HGs : Hid (GRow wr sa s sc) := hfr
          have HBs : Hid (∀ a, sa = some a → w4.heap.size ≤ a.block ∧ a.block < wr.heap.size) := hbk
          rename World => wb
          have F4b : Hid (Fr (fun k => k = tb ∨ k = hb) w4 wb) := HF.out
          have K4 : Hid (Calls _ _ _ _ _) := next_any HT.out 3 (by omega) (by omega)
          have HZb : Hid _ := HZ
          clear hfr hbk HO HF hxs
          go_wp2_with fail
          refine K4.out.mono ?_
          rintro e w5 ⟨n3, rfl, hn3, ⟨j5, hj5⟩, f5⟩
          have HT0 : Hid (Tp w5 tb ao l cap j5) := hj5
          have Fb5 : Hid (Fr (fun k => k = tb ∨ k = hb) wb w5) := f5.mono (fun _ _ h => Or.inl h)
          have Fa5 : Hid (Fr (fun k => k = tb ∨ k = hb) wa w5) := (Fa4.out.trans F4b.out).trans Fb5.out
          have F35 : Hid (Fr (fun k => k = tb ∨ k = hb) w3 w5) := F3a.out.trans Fa5.out
          have HZ0 : Hid (Z7 w5 hb (.int .u64 (s0 : Int)) (.int .u64 (q0 : Int)) (.int .u64 (e0 : Int)) (.slice ga g.length gc) (.slice sa s.length sc) (.slice none 0 0) (.slice none 0 0)) := HZb.out.fr f5 (by have := HAP.out; omega)
          have HAPs : Hid (tb < w.heap.size ∧ w.heap.size < hb ∧ hb < w4.heap.size) := HAP
          have HAP : Hid (tb < w.heap.size ∧ w.heap.size < hb ∧ hb < w5.heap.size) := ⟨HAPs.out.1, HAPs.out.2.1, HZ0.out.lt⟩
          clear hj5 f5 K4 HZ HT HZb
          go_wp2
          go_loopw [7] (fun iv wr => ∃ (k : Nat) (p : List Nat) (pa : Option Addr) (pc j : Nat), k ≤ n3 ∧ iv = .int .i64 (k : Int) ∧ Hid (p.length = k) ∧ (∀ z ∈ p, z < 18446744073709551616) ∧ Hid (OwnF wr w5.heap.size 71 (.slice pa p.length pc) p) ∧ Hid (Z7 wr hb (.int .u64 (s0 : Int)) (.int .u64 (q0 : Int)) (.int .u64 (e0 : Int)) (.slice ga g.length gc) (.slice sa s.length sc) (.slice pa p.length pc) (.slice none 0 0)) ∧ Hid (Tp wr tb ao l cap j) ∧ Hid (Fr (fun k => k = tb ∨ k = hb) w5 wr)) (fun iv _ => n3 - (intOf iv).toNat)
          case atStart => exact ⟨0, [], none, 0, _, Nat.zero_le _, rfl, rfl, (by simp), OwnF.nil _ _ _, HZ0, HT0, Fr.refl _ _⟩
          case round =>
            obtain ⟨k, p, pa, pc, j, hk, rfl, hlen, hxs, HO, HZ, HT, HF⟩ := hrel
            by_cases hlt : k < n3
            · have z1 : (k : Int) < (n3 : Int) := by omega
              have HSZ : Hid (w5.heap.size ≤ wr.heap.size) := HF.out.size
              go_wp2_with fail
              refine wp_region_held_drew (S := (fun _ : World => True)) (by kernel_rfl) trivial (fun hHeld => ?_)
              refine wpAnyH_take (i := 0) (oi := _) (v := ?_) (by rw [List.getElem?_toArray]; rfl) (by kernel_rfl) (by kernel_rfl) (by kernel_rfl) (fun _ _ _ h => by exact h) (Or.inl ⟨by rfl, ?_⟩) (by assumption) ?_
              rotate_left
              · (intro w hSw; (try dsimp only at hSw); go_simp; (try with_reducible rfl))
              try simp only [Act.put, List.setIfInBounds_toArray, List.set_cons_zero, List.set_cons_succ]
              refine wpAnyH_take (i := 2) (oi := _) (v := ?_) (by rw [List.getElem?_toArray]; rfl) (by kernel_rfl) (by kernel_rfl) (by kernel_rfl) (fun _ _ _ h => by exact h) (Or.inl ⟨by rfl, ?_⟩) (by assumption) ?_
              rotate_left
              · (intro w hSw; (try dsimp only at hSw); go_simp; (try with_reducible rfl))
              try simp only [Act.put, List.setIfInBounds_toArray, List.set_cons_zero, List.set_cons_succ]
              refine wpAnyH_ready (rs := [1, 3]) (by kernel_rfl) (by simp) ?_
              refine AllReadyH.cons (o := _) (by rw [List.getElem?_toArray]; rfl) (fun K hK => ?_) ?_
              · have lc := (HZ.out.fr ((Fr.refl (fun k => k = tb) wr).drew) (by have := HAP.out; omega)).c5
                go_simp
                clear lc
                refine hK.out _ _ trivial (fun hHeld => ?_)
                clear hK K
                try simp only [Act.put, List.setIfInBounds_toArray, List.set_cons_zero, List.set_cons_succ]
                refine wpAnyH_ready (rs := [3]) (by kernel_rfl) (by simp) ?_
                refine AllReadyH.cons (o := _) (by rw [List.getElem?_toArray]; rfl) (fun K hK => ?_) ?_
                · go_simp
                  go_wp2_with (go_at_call 37; refine (float_any (HT.out.fr ((Fr.refl (fun _ => False) wr).drew) (by simp) (by simp))).mono ?_; rintro e wx5 ⟨x, rfl, hx, ⟨j0, t0⟩, f0⟩)
                  have HX0 : Hid (x < 18446744073709551616) := hx
                  have T0 : Hid (Tp wx5 tb ao l cap j0) := t0
                  have G0 : Hid (Fr (fun k => k = tb) wr wx5) := (((Fr.refl (fun k => k = tb) wr).drew)).trans f0
                  clear t0 f0 hx
                  refine hK.out _ _ trivial (fun hHeld => ?_)
                  clear hK K
                  try simp only [Act.put, List.setIfInBounds_toArray, List.set_cons_zero, List.set_cons_succ]
                  refine wpAnyH_ready (rs := [4]) (by kernel_rfl) (by simp) ?_
                  refine AllReadyH.cons (o := _) (by rw [List.getElem?_toArray]; rfl) (fun K hK => ?_) ?_
                  · go_simp
                    have GA : Hid (Fr (fun k => k = tb) wr (wx5.alloc (.cells #[.float .f64 x] 71))) := (G0.out).alloc _
                    have TA : Hid (Tp (wx5.alloc (.cells #[.float .f64 x] 71)) tb ao l cap _) := (T0.out).fr ((Fr.refl (fun _ => False) _).alloc _) (by simp) (by simp)
                    refine hK.out _ _ trivial (fun hHeld => ?_)
                    clear hK K
                    try simp only [Act.put, List.setIfInBounds_toArray, List.set_cons_zero, List.set_cons_succ]
                    refine wpAnyH_ready (rs := [5]) (by kernel_rfl) (by simp) ?_
                    refine AllReadyH.cons (o := _) (by rw [List.getElem?_toArray]; rfl) (fun K hK => ?_) ?_
                    · refine if_step (by rfl) ?_
                      refine step_append_f (α := Nat) (.tmp 55) (.tmp 58) 25 71 rfl Try.underlying25 _ 8 Try.info71 rfl (by decide) w5.heap.size _ p rfl (HO.out.fr GA.out (fun k hk e => by have := HO.out.lt k hk; have := HAP.out; omega)) ⟨wx5.heap.size, 0, none⟩ [x] 1 rfl (one_f wx5 x 71 _ rfl) (Nat.le_trans HSZ.out (GA.out).size) (by have := hlen.out; simp; omega) ?_
                      intro v7 w7 o7 g7 k7
                      obtain ⟨l9, Hl9⟩ : ∃ l9, Hid (p ++ [x] = l9) := ⟨_, rfl⟩
                      rw [Hl9.out] at o7
                      obtain ⟨a7, c7, hv7, _, _⟩ := o7.row
                      subst hv7
                      have O7 : Hid (OwnF w7 w5.heap.size 71 (.slice a7 l9.length c7) l9) := o7
                      have G7 : Hid (Fr (fun k => k = tb ∨ w5.heap.size ≤ k) wr w7) := ((GA.out).mono (fun _ _ h => Or.inl h)).trans ((Fr.refl _ _).grown g7 (fun k hk => .inl (Or.inr (HO.out.lt k hk).1)))
                      have T7 : Hid (Tp w7 tb ao l cap _) := (TA.out).fr ((Fr.refl (fun k => w5.heap.size ≤ k) _).grown g7 (fun k hk => .inl (HO.out.lt k hk).1)) (by have := HAP.out; omega) (fun hl a ha e => by have := HN.out hl a ha; have := HAP.out; omega)
                      clear o7 g7 k7
                      refine hK.out _ _ trivial (fun hHeld => ?_)
                      clear hK K
                      try simp only [Act.put, List.setIfInBounds_toArray, List.set_cons_zero, List.set_cons_succ]
                      refine wpAnyH_take (i := 6) (oi := _) (v := ?_) (by rw [List.getElem?_toArray]; rfl) (by kernel_rfl) (by kernel_rfl) (by kernel_rfl) (fun _ _ _ h => by exact h) (Or.inl ⟨by rfl, ?_⟩) (by assumption) ?_
                      rotate_left
                      · (intro w hSw; (try dsimp only at hSw); go_simp; (try with_reducible rfl))
                      try simp only [Act.put, List.setIfInBounds_toArray, List.set_cons_zero, List.set_cons_succ]
                      refine wpAnyH_ready (rs := [7]) (by kernel_rfl) (by simp) ?_
                      refine AllReadyH.cons (o := _) (by rw [List.getElem?_toArray]; rfl) (fun K hK => ?_) ?_
                      · have HZ7 : Hid (Z7 w7 hb _ _ _ (.slice ga g.length gc) (.slice sa s.length sc) _ (.slice none 0 0)) := HZ.out.fr G7.out (by have := HAP.out; omega)
                        have lc := HZ7.out.c5
                        have lz := HZ7.out.z 5
                        go_simp
                        clear lc lz
                        refine hK.out _ _ trivial (fun hHeld => ?_)
                        clear hK K
                        try simp only [Act.put, List.setIfInBounds_toArray, List.set_cons_zero, List.set_cons_succ]
                        refine wpAnyH_done (by kernel_rfl) ?_ _
                        have HZ8 : Hid (Z7 w7 hb _ _ _ (.slice ga g.length gc) (.slice sa s.length sc) _ (.slice none 0 0)) := HZ.out.fr G7.out (by have := HAP.out; omega)
                        have FS : Hid (Fr (fun k => k = hb) w7 (w7.setCell ⟨hb, 5, none⟩ (.slice a7 l9.length c7))) := (Fr.refl (fun k => k = hb) w7).setCell (p := ⟨hb, 5, none⟩) (Or.inl rfl) _
                        have HZ9 : Hid (Z7 (w7.setCell ⟨hb, 5, none⟩ (.slice a7 l9.length c7)) hb _ _ _ (.slice ga g.length gc) (.slice sa s.length sc) (.slice a7 l9.length c7) (.slice none 0 0)) := HZ8.out.put5 _
                        have O9 : Hid (OwnF (w7.setCell ⟨hb, 5, none⟩ (.slice a7 l9.length c7)) w5.heap.size 71 (.slice a7 l9.length c7) l9) := O7.out.fr FS.out (fun k hk e => by have := O7.out.lt k hk; have := HAP.out; omega)
                        have T9 : Hid (Tp (w7.setCell ⟨hb, 5, none⟩ (.slice a7 l9.length c7)) tb ao l cap _) := T7.out.fr FS.out (by have := HAP.out; omega) (fun hl a ha e => by have := HN.out hl a ha; have := HAP.out; omega)
                        have F9 : Hid (Fr (fun k => k = tb ∨ k = hb) w5 (w7.setCell ⟨hb, 5, none⟩ (.slice a7 l9.length c7))) := (HF.out.trans' G7.out (fun i hi h => by omega)).trans' FS.out (fun i hi h => Or.inr h)
                        go_wp2
                        go_roundw
                        case rel => exact ⟨k + 1, l9, a7, c7, _, by omega, by go_num, (show _ = _ by rw [← Hl9.out, List.length_append, hlen.out]; rfl), (by rw [← Hl9.out]; exact (fun z hz => (List.mem_append.1 hz).elim (hxs z) (fun h => by rw [List.mem_singleton] at h; subst h; exact HX0.out))), O9, HZ9, T9, F9⟩
                        case measure => simp [intOf]; omega
                      exact AllReadyH.nil
                    exact AllReadyH.nil
                  exact AllReadyH.nil
                exact AllReadyH.nil
              refine AllReadyH.cons (o := _) (by rw [List.getElem?_toArray]; rfl) (fun K hK => ?_) ?_
              · go_simp
                go_wp2_with (go_at_call 37; refine (float_any (HT.out.fr ((Fr.refl (fun _ => False) wr).drew) (by simp) (by simp))).mono ?_; rintro e wx5 ⟨x, rfl, hx, ⟨j0, t0⟩, f0⟩)
                have HX0 : Hid (x < 18446744073709551616) := hx
                have T0 : Hid (Tp wx5 tb ao l cap j0) := t0
                have G0 : Hid (Fr (fun k => k = tb) wr wx5) := (((Fr.refl (fun k => k = tb) wr).drew)).trans f0
                clear t0 f0 hx
                refine hK.out _ _ trivial (fun hHeld => ?_)
                clear hK K
                try simp only [Act.put, List.setIfInBounds_toArray, List.set_cons_zero, List.set_cons_succ]
                refine wpAnyH_ready (rs := [1, 4]) (by kernel_rfl) (by simp) ?_
                refine AllReadyH.cons (o := _) (by rw [List.getElem?_toArray]; rfl) (fun K hK => ?_) ?_
                · have lc := (HZ.out.fr G0.out (by have := HAP.out; omega)).c5
                  go_simp
                  clear lc
                  refine hK.out _ _ trivial (fun hHeld => ?_)
                  clear hK K
                  try simp only [Act.put, List.setIfInBounds_toArray, List.set_cons_zero, List.set_cons_succ]
                  refine wpAnyH_ready (rs := [4]) (by kernel_rfl) (by simp) ?_
                  refine AllReadyH.cons (o := _) (by rw [List.getElem?_toArray]; rfl) (fun K hK => ?_) ?_
                  · go_simp
                    have GA : Hid (Fr (fun k => k = tb) wr (wx5.alloc (.cells #[.float .f64 x] 71))) := (G0.out).alloc _
                    have TA : Hid (Tp (wx5.alloc (.cells #[.float .f64 x] 71)) tb ao l cap _) := (T0.out).fr ((Fr.refl (fun _ => False) _).alloc _) (by simp) (by simp)
                    refine hK.out _ _ trivial (fun hHeld => ?_)
                    clear hK K
                    try simp only [Act.put, List.setIfInBounds_toArray, List.set_cons_zero, List.set_cons_succ]
                    refine wpAnyH_ready (rs := [5]) (by kernel_rfl) (by simp) ?_
                    refine AllReadyH.cons (o := _) (by rw [List.getElem?_toArray]; rfl) (fun K hK => ?_) ?_
                    · refine if_step (by rfl) ?_
                      refine step_append_f (α := Nat) (.tmp 55) (.tmp 58) 25 71 rfl Try.underlying25 _ 8 Try.info71 rfl (by decide) w5.heap.size _ p rfl (HO.out.fr GA.out (fun k hk e => by have := HO.out.lt k hk; have := HAP.out; omega)) ⟨wx5.heap.size, 0, none⟩ [x] 1 rfl (one_f wx5 x 71 _ rfl) (Nat.le_trans HSZ.out (GA.out).size) (by have := hlen.out; simp; omega) ?_
                      intro v7 w7 o7 g7 k7
                      obtain ⟨l9, Hl9⟩ : ∃ l9, Hid (p ++ [x] = l9) := ⟨_, rfl⟩
                      rw [Hl9.out] at o7
                      obtain ⟨a7, c7, hv7, _, _⟩ := o7.row
                      subst hv7
                      have O7 : Hid (OwnF w7 w5.heap.size 71 (.slice a7 l9.length c7) l9) := o7
                      have G7 : Hid (Fr (fun k => k = tb ∨ w5.heap.size ≤ k) wr w7) := ((GA.out).mono (fun _ _ h => Or.inl h)).trans ((Fr.refl _ _).grown g7 (fun k hk => .inl (Or.inr (HO.out.lt k hk).1)))
                      have T7 : Hid (Tp w7 tb ao l cap _) := (TA.out).fr ((Fr.refl (fun k => w5.heap.size ≤ k) _).grown g7 (fun k hk => .inl (HO.out.lt k hk).1)) (by have := HAP.out; omega) (fun hl a ha e => by have := HN.out hl a ha; have := HAP.out; omega)
                      clear o7 g7 k7
                      refine hK.out _ _ trivial (fun hHeld => ?_)
                      clear hK K
                      try simp only [Act.put, List.setIfInBounds_toArray, List.set_cons_zero, List.set_cons_succ]
                      refine wpAnyH_take (i := 6) (oi := _) (v := ?_) (by rw [List.getElem?_toArray]; rfl) (by kernel_rfl) (by kernel_rfl) (by kernel_rfl) (fun _ _ _ h => by exact h) (Or.inl ⟨by rfl, ?_⟩) (by assumption) ?_
                      rotate_left
                      · (intro w hSw; (try dsimp only at hSw); go_simp; (try with_reducible rfl))
                      try simp only [Act.put, List.setIfInBounds_toArray, List.set_cons_zero, List.set_cons_succ]
                      refine wpAnyH_ready (rs := [7]) (by kernel_rfl) (by simp) ?_
                      refine AllReadyH.cons (o := _) (by rw [List.getElem?_toArray]; rfl) (fun K hK => ?_) ?_
                      · have HZ7 : Hid (Z7 w7 hb _ _ _ (.slice ga g.length gc) (.slice sa s.length sc) _ (.slice none 0 0)) := HZ.out.fr G7.out (by have := HAP.out; omega)
                        have lc := HZ7.out.c5
                        have lz := HZ7.out.z 5
                        go_simp
                        clear lc lz
                        refine hK.out _ _ trivial (fun hHeld => ?_)
                        clear hK K
                        try simp only [Act.put, List.setIfInBounds_toArray, List.set_cons_zero, List.set_cons_succ]
                        refine wpAnyH_done (by kernel_rfl) ?_ _
                        have HZ8 : Hid (Z7 w7 hb _ _ _ (.slice ga g.length gc) (.slice sa s.length sc) _ (.slice none 0 0)) := HZ.out.fr G7.out (by have := HAP.out; omega)
                        have FS : Hid (Fr (fun k => k = hb) w7 (w7.setCell ⟨hb, 5, none⟩ (.slice a7 l9.length c7))) := (Fr.refl (fun k => k = hb) w7).setCell (p := ⟨hb, 5, none⟩) (Or.inl rfl) _
                        have HZ9 : Hid (Z7 (w7.setCell ⟨hb, 5, none⟩ (.slice a7 l9.length c7)) hb _ _ _ (.slice ga g.length gc) (.slice sa s.length sc) (.slice a7 l9.length c7) (.slice none 0 0)) := HZ8.out.put5 _
                        have O9 : Hid (OwnF (w7.setCell ⟨hb, 5, none⟩ (.slice a7 l9.length c7)) w5.heap.size 71 (.slice a7 l9.length c7) l9) := O7.out.fr FS.out (fun k hk e => by have := O7.out.lt k hk; have := HAP.out; omega)
                        have T9 : Hid (Tp (w7.setCell ⟨hb, 5, none⟩ (.slice a7 l9.length c7)) tb ao l cap _) := T7.out.fr FS.out (by have := HAP.out; omega) (fun hl a ha e => by have := HN.out hl a ha; have := HAP.out; omega)
                        have F9 : Hid (Fr (fun k => k = tb ∨ k = hb) w5 (w7.setCell ⟨hb, 5, none⟩ (.slice a7 l9.length c7))) := (HF.out.trans' G7.out (fun i hi h => by omega)).trans' FS.out (fun i hi h => Or.inr h)
                        go_wp2
                        go_roundw
                        case rel => exact ⟨k + 1, l9, a7, c7, _, by omega, by go_num, (show _ = _ by rw [← Hl9.out, List.length_append, hlen.out]; rfl), (by rw [← Hl9.out]; exact (fun z hz => (List.mem_append.1 hz).elim (hxs z) (fun h => by rw [List.mem_singleton] at h; subst h; exact HX0.out))), O9, HZ9, T9, F9⟩
                        case measure => simp [intOf]; omega
                      exact AllReadyH.nil
                    exact AllReadyH.nil
                  exact AllReadyH.nil
                refine AllReadyH.cons (o := _) (by rw [List.getElem?_toArray]; rfl) (fun K hK => ?_) ?_
                · go_simp
                  have GA : Hid (Fr (fun k => k = tb) wr (wx5.alloc (.cells #[.float .f64 x] 71))) := (G0.out).alloc _
                  have TA : Hid (Tp (wx5.alloc (.cells #[.float .f64 x] 71)) tb ao l cap _) := (T0.out).fr ((Fr.refl (fun _ => False) _).alloc _) (by simp) (by simp)
                  refine hK.out _ _ trivial (fun hHeld => ?_)
                  clear hK K
                  try simp only [Act.put, List.setIfInBounds_toArray, List.set_cons_zero, List.set_cons_succ]
                  refine wpAnyH_ready (rs := [1]) (by kernel_rfl) (by simp) ?_
                  refine AllReadyH.cons (o := _) (by rw [List.getElem?_toArray]; rfl) (fun K hK => ?_) ?_
                  · have lc := (HZ.out.fr GA.out (by have := HAP.out; omega)).c5
                    go_simp
                    clear lc
                    refine hK.out _ _ trivial (fun hHeld => ?_)
                    clear hK K
                    try simp only [Act.put, List.setIfInBounds_toArray, List.set_cons_zero, List.set_cons_succ]
                    refine wpAnyH_ready (rs := [5]) (by kernel_rfl) (by simp) ?_
                    refine AllReadyH.cons (o := _) (by rw [List.getElem?_toArray]; rfl) (fun K hK => ?_) ?_
                    · refine if_step (by rfl) ?_
                      refine step_append_f (α := Nat) (.tmp 55) (.tmp 58) 25 71 rfl Try.underlying25 _ 8 Try.info71 rfl (by decide) w5.heap.size _ p rfl (HO.out.fr GA.out (fun k hk e => by have := HO.out.lt k hk; have := HAP.out; omega)) ⟨wx5.heap.size, 0, none⟩ [x] 1 rfl (one_f wx5 x 71 _ rfl) (Nat.le_trans HSZ.out (GA.out).size) (by have := hlen.out; simp; omega) ?_
                      intro v7 w7 o7 g7 k7
                      obtain ⟨l9, Hl9⟩ : ∃ l9, Hid (p ++ [x] = l9) := ⟨_, rfl⟩
                      rw [Hl9.out] at o7
                      obtain ⟨a7, c7, hv7, _, _⟩ := o7.row
                      subst hv7
                      have O7 : Hid (OwnF w7 w5.heap.size 71 (.slice a7 l9.length c7) l9) := o7
                      have G7 : Hid (Fr (fun k => k = tb ∨ w5.heap.size ≤ k) wr w7) := ((GA.out).mono (fun _ _ h => Or.inl h)).trans ((Fr.refl _ _).grown g7 (fun k hk => .inl (Or.inr (HO.out.lt k hk).1)))
                      have T7 : Hid (Tp w7 tb ao l cap _) := (TA.out).fr ((Fr.refl (fun k => w5.heap.size ≤ k) _).grown g7 (fun k hk => .inl (HO.out.lt k hk).1)) (by have := HAP.out; omega) (fun hl a ha e => by have := HN.out hl a ha; have := HAP.out; omega)
                      clear o7 g7 k7
                      refine hK.out _ _ trivial (fun hHeld => ?_)
                      clear hK K
                      try simp only [Act.put, List.setIfInBounds_toArray, List.set_cons_zero, List.set_cons_succ]
                      refine wpAnyH_take (i := 6) (oi := _) (v := ?_) (by rw [List.getElem?_toArray]; rfl) (by kernel_rfl) (by kernel_rfl) (by kernel_rfl) (fun _ _ _ h => by exact h) (Or.inl ⟨by rfl, ?_⟩) (by assumption) ?_
                      rotate_left
                      · (intro w hSw; (try dsimp only at hSw); go_simp; (try with_reducible rfl))
                      try simp only [Act.put, List.setIfInBounds_toArray, List.set_cons_zero, List.set_cons_succ]
                      refine wpAnyH_ready (rs := [7]) (by kernel_rfl) (by simp) ?_
                      refine AllReadyH.cons (o := _) (by rw [List.getElem?_toArray]; rfl) (fun K hK => ?_) ?_
                      · have HZ7 : Hid (Z7 w7 hb _ _ _ (.slice ga g.length gc) (.slice sa s.length sc) _ (.slice none 0 0)) := HZ.out.fr G7.out (by have := HAP.out; omega)
                        have lc := HZ7.out.c5
                        have lz := HZ7.out.z 5
                        go_simp
                        clear lc lz
                        refine hK.out _ _ trivial (fun hHeld => ?_)
                        clear hK K
                        try simp only [Act.put, List.setIfInBounds_toArray, List.set_cons_zero, List.set_cons_succ]
                        refine wpAnyH_done (by kernel_rfl) ?_ _
                        have HZ8 : Hid (Z7 w7 hb _ _ _ (.slice ga g.length gc) (.slice sa s.length sc) _ (.slice none 0 0)) := HZ.out.fr G7.out (by have := HAP.out; omega)
                        have FS : Hid (Fr (fun k => k = hb) w7 (w7.setCell ⟨hb, 5, none⟩ (.slice a7 l9.length c7))) := (Fr.refl (fun k => k = hb) w7).setCell (p := ⟨hb, 5, none⟩) (Or.inl rfl) _
                        have HZ9 : Hid (Z7 (w7.setCell ⟨hb, 5, none⟩ (.slice a7 l9.length c7)) hb _ _ _ (.slice ga g.length gc) (.slice sa s.length sc) (.slice a7 l9.length c7) (.slice none 0 0)) := HZ8.out.put5 _
                        have O9 : Hid (OwnF (w7.setCell ⟨hb, 5, none⟩ (.slice a7 l9.length c7)) w5.heap.size 71 (.slice a7 l9.length c7) l9) := O7.out.fr FS.out (fun k hk e => by have := O7.out.lt k hk; have := HAP.out; omega)
                        have T9 : Hid (Tp (w7.setCell ⟨hb, 5, none⟩ (.slice a7 l9.length c7)) tb ao l cap _) := T7.out.fr FS.out (by have := HAP.out; omega) (fun hl a ha e => by have := HN.out hl a ha; have := HAP.out; omega)
                        have F9 : Hid (Fr (fun k => k = tb ∨ k = hb) w5 (w7.setCell ⟨hb, 5, none⟩ (.slice a7 l9.length c7))) := (HF.out.trans' G7.out (fun i hi h => by omega)).trans' FS.out (fun i hi h => Or.inr h)
                        go_wp2
                        go_roundw
                        case rel => exact ⟨k + 1, l9, a7, c7, _, by omega, by go_num, (show _ = _ by rw [← Hl9.out, List.length_append, hlen.out]; rfl), (by rw [← Hl9.out]; exact (fun z hz => (List.mem_append.1 hz).elim (hxs z) (fun h => by rw [List.mem_singleton] at h; subst h; exact HX0.out))), O9, HZ9, T9, F9⟩
                        case measure => simp [intOf]; omega
                      exact AllReadyH.nil
                    exact AllReadyH.nil
                  exact AllReadyH.nil
                exact AllReadyH.nil
              exact AllReadyH.nil
            · have z1 : ¬ (k : Int) < (n3 : Int) := by omega
              obtain ⟨hfr, hbk⟩ := OwnF.frow HO.out hxs
              have HGp : Hid (FRow wr pa p pc) := hfr
              have HBp : Hid (∀ a, pa = some a → w5.heap.size ≤ a.block ∧ a.block < wr.heap.size) := hbk
              rename World => wc
              have F5c : Hid (Fr (fun k => k = tb ∨ k = hb) w5 wc) := HF.out
              have K5 : Hid (Calls _ _ _ _ _) := next_any HT.out 4 (by omega) (by omega)
              have HZc : Hid _ := HZ
              clear hfr hbk HO HF hxs
              go_wp2_with fail
              refine K5.out.mono ?_
              rintro e w6 ⟨r6, rfl, hr6, ⟨j6, hj6⟩, f6⟩
              have T6 : Hid (Tp w6 tb ao l cap j6) := hj6
              have Fc6 : Hid (Fr (fun k => k = tb) wc w6) := f6
              have HZ6 : Hid (Z7 w6 hb (.int .u64 (s0 : Int)) (.int .u64 (q0 : Int)) (.int .u64 (e0 : Int)) (.slice ga g.length gc) (.slice sa s.length sc) (.slice pa p.length pc) (.slice none 0 0)) := HZc.out.fr f6 (by have := HAP.out; omega)
              have F56 : Hid (Fr (fun k => k = tb ∨ k = hb) w5 w6) := F5c.out.trans (f6.mono (fun _ _ h => Or.inl h))
              have F36 : Hid (Fr (fun k => k = tb ∨ k = hb) w3 w6) := F35.out.trans F56.out
              have HG6 : Hid (FRow w6 ga g gc) := HGg.out.fr (Fa5.out.trans F56.out) (fun _ a ha e => by have := HBg.out a ha; have := HAP.out; have := HAPg.out; omega)
              have HS6 : Hid (GRow w6 sa s sc) := HGs.out.fr (Fb5.out.trans F56.out) (fun _ a ha e => by have := HBs.out a ha; have := HAP.out; have := HAPs.out; omega)
              have HP6 : Hid (FRow w6 pa p pc) := HGp.out.fr (f6.mono (fun _ _ h => h)) (fun _ a ha e => by have := HBp.out a ha; have := HAP.out; omega)
              clear hj6 f6 K5 HZ HT HZc
              by_cases h6 : r6 = 0
              · subst h6
                have K6 : Hid (Calls _ _ _ _ _) := val_any T6.out (fun hl a ha => by have := HN.out hl a ha; have := HAP.out; have := F56.out.size; omega)
                go_wp2_with fail
                refine K6.out.mono ?_
                rintro e w7 ⟨m, v, rfl, hm, hov, ⟨j7, hj7⟩, f7⟩
                obtain ⟨da, dc, hv, hr7, hd7⟩ := hov.row
                subst hv
                have HR7 : Hid (Row w7 da m dc) := hr7
                have HD7 : Hid (∀ a, da = some a → w6.heap.size ≤ a.block) := fun a ha => (hd7 a ha).1
                have T7 : Hid (Tp w7 tb ao l cap j7) := hj7
                have G7 : Hid (Fr (fun k => k = tb) w6 w7) := f7
                have HZ7 : Hid (Z7 w7 hb (.int .u64 (s0 : Int)) (.int .u64 (q0 : Int)) (.int .u64 (e0 : Int)) (.slice ga g.length gc) (.slice sa s.length sc) (.slice pa p.length pc) (.slice none 0 0)) := HZ6.out.fr f7 (by have := HAP.out; omega)
                clear hov hr7 hd7 hj7 f7 K6
                have G9 : Hid (Fr (fun k => k = hb) w7 (w7.setCell ⟨hb, 6, none⟩ (.slice da m.length dc))) := (Fr.refl (fun k => k = hb) w7).setCell (p := ⟨hb, 6, none⟩) (Or.inl rfl) _
                have HZ9 : Hid (Z7 (w7.setCell ⟨hb, 6, none⟩ (.slice da m.length dc)) hb (.int .u64 (s0 : Int)) (.int .u64 (q0 : Int)) (.int .u64 (e0 : Int)) (.slice ga g.length gc) (.slice sa s.length sc) (.slice pa p.length pc) (.slice da m.length dc)) := HZ7.out.put6 _
                have T9 : Hid (Tp (w7.setCell ⟨hb, 6, none⟩ (.slice da m.length dc)) tb ao l cap j7) := T7.out.fr G9.out (by have := HAP.out; omega) (fun hl a ha e => by have := HN.out hl a ha; have := HAP.out; omega)
                have F9 : Hid (Fr (fun k => k = tb ∨ k = hb) w6 (w7.setCell ⟨hb, 6, none⟩ (.slice da m.length dc))) := (G7.out.mono (fun _ _ h => Or.inl h)).trans (G9.out.mono (fun _ _ h => Or.inr h))
                have HRD : Hid (Row (w7.setCell ⟨hb, 6, none⟩ (.slice da m.length dc)) da m dc) := G9.out.row HR7.out (fun _ a ha e => by have := HD7.out a ha; have := HAP.out; have := F56.out.size; omega)
                obtain ⟨x0, x1, x2, x3, x4, x5, x6⟩ := HZ7.out.toC7
                have ez := HZ7.out.z 6
                have FT : Hid (Fr (fun k => k = tb ∨ k = hb) w3 (w7.setCell ⟨hb, 6, none⟩ (.slice da m.length dc))) := F36.out.trans F9.out
                have HR9 : Hid (Z7 (w7.setCell ⟨hb, 6, none⟩ (.slice da m.length dc)) rb (.int .u64 0) (.int .u64 0) (.int .u64 0) (.slice none 0 0) (.slice none 0 0) (.slice none 0 0) (.slice none 0 0)) := (HR0.out.fr FB.out (by have := HLT.out; have := Hrb.out; omega)).fr FT.out (by have := HLT.out; have := Hrb.out; have := HAP.out; omega)
                have HSQ : Hid (w3.heap.size ≤ w4.heap.size ∧ w4.heap.size ≤ w5.heap.size ∧ w5.heap.size ≤ w6.heap.size) := ⟨(F3a.out.trans Fa4.out).size, (F4b.out.trans Fb5.out).size, F56.out.size⟩
                obtain ⟨c0, c1, c2, c3, c4, c5, c6⟩ := HZ9.out.toC7
                obtain ⟨⟨y0, y1, y2, y3, y4, y5, y6⟩, yz⟩ := HR9.out
                go_wp2
                obtain ⟨hq, fq⟩ := HR9.out.put7 (.int .u64 (s0 : Int)) (.int .u64 (q0 : Int)) (.int .u64 (e0 : Int)) (.slice ga g.length gc) (.slice sa s.length sc) (.slice pa p.length pc) (.slice da m.length dc)
                clear c0 c1 c2 c3 c4 c5 c6 y0 y1 y2 y3 y4 y5 y6 yz x0 x1 x2 x3 x4 x5 x6 ez
                refine bodyPost_ret (v := .agg #[.int .u64 (s0 : Int), .int .u64 (q0 : Int), .int .u64 (e0 : Int), .slice ga g.length gc, .slice sa s.length sc, .slice pa p.length pc, .slice da m.length dc]) ?_ rfl ⟨⟨s0, q0, e0, ga, g, gc, sa, s, sc, pa, p, pc, da, m, dc⟩, rfl, ⟨(HG6.out.fr F9.out (fun _ a ha e => by have := HBg.out a ha; have := HAP.out; have := HAPg.out; omega)).fr fq (fun _ a ha e => by have := HBg.out a ha; have := Hrb.out; have := HAPg.out; omega), (HS6.out.fr F9.out (fun _ a ha e => by have := HBs.out a ha; have := HAP.out; have := HAPs.out; omega)).fr fq (fun _ a ha e => by have := HBs.out a ha; have := Hrb.out; have := HAPs.out; omega), (HP6.out.fr F9.out (fun _ a ha e => by have := HBp.out a ha; have := HAP.out; omega)).fr fq (fun _ a ha e => by have := HBp.out a ha; have := Hrb.out; have := HAP.out; omega), fq.row HRD.out (fun _ a ha e => by have := HD7.out a ha; have := HSQ.out; have := Hrb.out; have := HAP.out; omega)⟩, ⟨fun a ha => by have := HBg.out a ha; have := HAPg.out; omega, fun a ha => by have := HBs.out a ha; have := HAPs.out; omega, fun a ha => by have := HBp.out a ha; have := HAP.out; omega, fun a ha => by have := HD7.out a ha; have := HSQ.out; have := HAPg.out; omega⟩, ⟨j7, T9.out.fr fq (by have := HLT.out; have := Hrb.out; omega) (fun hl a ha e => by have := HN.out hl a ha; have := Hrb.out; omega)⟩, ((F0.out.trans FB.out).trans' FT.out (fun i hi h => by have := HAP.out; omega)).trans' fq (fun i hi h => by have := Hrb.out; omega)⟩
                revert hq
                generalize ((((((((w7.setCell ⟨hb, 6, none⟩ (.slice da m.length dc)).setCell _ _).setCell _ _).setCell _ _).setCell _ _).setCell _ _).setCell _ _).setCell _ _) = WQ
                intro hq
                obtain ⟨⟨d0, d1, d2, d3, d4, d5, d6⟩, _⟩ := hq
                simp [results, Try.results11, go_sem, *]
              · have h6' : ((r6 : Int) == 0) = false := by simp; omega
                have h6'' : ¬ (r6 : Int) = 0 := by omega
                have HZ9 : Hid (Z7 w6 hb (.int .u64 (s0 : Int)) (.int .u64 (q0 : Int)) (.int .u64 (e0 : Int)) (.slice ga g.length gc) (.slice sa s.length sc) (.slice pa p.length pc) (.slice none 0 0)) := HZ6.out
                have T9 : Hid (Tp w6 tb ao l cap j6) := T6.out
                have F9 : Hid (Fr (fun k => k = tb ∨ k = hb) w6 w6) := Fr.refl _ _
                have HRD : Hid (Row w6 none [] 0) := row_nil _
                have HD7 : Hid (∀ a : Addr, none = some a → w6.heap.size ≤ a.block) := fun a ha => by cases ha
                have FT : Hid (Fr (fun k => k = tb ∨ k = hb) w3 w6) := F36.out.trans F9.out
                have HR9 : Hid (Z7 w6 rb (.int .u64 0) (.int .u64 0) (.int .u64 0) (.slice none 0 0) (.slice none 0 0) (.slice none 0 0) (.slice none 0 0)) := (HR0.out.fr FB.out (by have := HLT.out; have := Hrb.out; omega)).fr FT.out (by have := HLT.out; have := Hrb.out; have := HAP.out; omega)
                have HSQ : Hid (w3.heap.size ≤ w4.heap.size ∧ w4.heap.size ≤ w5.heap.size ∧ w5.heap.size ≤ w6.heap.size) := ⟨(F3a.out.trans Fa4.out).size, (F4b.out.trans Fb5.out).size, F56.out.size⟩
                obtain ⟨c0, c1, c2, c3, c4, c5, c6⟩ := HZ9.out.toC7
                obtain ⟨⟨y0, y1, y2, y3, y4, y5, y6⟩, yz⟩ := HR9.out
                go_wp2
                obtain ⟨hq, fq⟩ := HR9.out.put7 (.int .u64 (s0 : Int)) (.int .u64 (q0 : Int)) (.int .u64 (e0 : Int)) (.slice ga g.length gc) (.slice sa s.length sc) (.slice pa p.length pc) (.slice none 0 0)
                clear c0 c1 c2 c3 c4 c5 c6 y0 y1 y2 y3 y4 y5 y6 yz
                refine bodyPost_ret (v := .agg #[.int .u64 (s0 : Int), .int .u64 (q0 : Int), .int .u64 (e0 : Int), .slice ga g.length gc, .slice sa s.length sc, .slice pa p.length pc, .slice none 0 0]) ?_ rfl ⟨⟨s0, q0, e0, ga, g, gc, sa, s, sc, pa, p, pc, none, [], 0⟩, rfl, ⟨(HG6.out.fr F9.out (fun _ a ha e => by have := HBg.out a ha; have := HAP.out; have := HAPg.out; omega)).fr fq (fun _ a ha e => by have := HBg.out a ha; have := Hrb.out; have := HAPg.out; omega), (HS6.out.fr F9.out (fun _ a ha e => by have := HBs.out a ha; have := HAP.out; have := HAPs.out; omega)).fr fq (fun _ a ha e => by have := HBs.out a ha; have := Hrb.out; have := HAPs.out; omega), (HP6.out.fr F9.out (fun _ a ha e => by have := HBp.out a ha; have := HAP.out; omega)).fr fq (fun _ a ha e => by have := HBp.out a ha; have := Hrb.out; have := HAP.out; omega), fq.row HRD.out (fun _ a ha e => by have := HD7.out a ha; have := HSQ.out; have := Hrb.out; have := HAP.out; omega)⟩, ⟨fun a ha => by have := HBg.out a ha; have := HAPg.out; omega, fun a ha => by have := HBs.out a ha; have := HAPs.out; omega, fun a ha => by have := HBp.out a ha; have := HAP.out; omega, fun a ha => by have := HD7.out a ha; have := HSQ.out; have := HAPg.out; omega⟩, ⟨j6, T9.out.fr fq (by have := HLT.out; have := Hrb.out; omega) (fun hl a ha e => by have := HN.out hl a ha; have := Hrb.out; omega)⟩, ((F0.out.trans FB.out).trans' FT.out (fun i hi h => by have := HAP.out; omega)).trans' fq (fun i hi h => by have := Hrb.out; omega)⟩
                revert hq
                generalize (((((((w6.setCell _ _).setCell _ _).setCell _ _).setCell _ _).setCell _ _).setCell _ _).setCell _ _) = WQ
                intro hq
                obtain ⟨⟨d0, d1, d2, d3, d4, d5, d6⟩, _⟩ := hq
                simp [results, Try.results11, go_sem, *]
end
end Go.Proofs.Ytaalkhipncbjpaa
