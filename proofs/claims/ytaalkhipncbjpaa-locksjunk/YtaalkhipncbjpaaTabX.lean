/- A hold that is read. -/
import Derived.Test.YtaalkhipncbjpaaTabW
namespace Go.Proofs.Ytaalkhipncbjpaa
open Go Go.RowKit
attribute [local go_sem] run_store_float
theorem Rx.frB {S : Nat → Prop} {w w1 : World} {rb B : Nat} {s : Rs} (h : Rx w rb B s) (f : Fr S w w1) (hs : ∀ k, S k → k ≠ rb ∧ B ≤ k) : Rx w1 rb B s :=
  h.fr f (fun e => (hs _ e).1 rfl) (fun k hk e => by have := (hs _ e).2; omega)
set_option maxRecDepth 100000 in
set_option maxHeartbeats 16000000 in
theorem read_x {w : World} {rb B : Nat} {s : Rs} (h : Rx w rb B s) (hBw : B ≤ w.heap.size) (hrb : B ≤ rb) :
    Calls Try.prog 30 #[.pointer (some ⟨rb, 0, none⟩)] w fun e w' => ∃ (x : Hd) (t : Rs), e = .returned (.agg #[.int .u64 (x.a0 : Int), .int .u64 (x.a1 : Int), .int .u64 (x.a2 : Int), .slice x.ga x.g.length x.gc, .slice x.sa x.s.length x.sc, .slice x.pa x.p.length x.pc, .slice x.da x.dl.length x.dc]) ∧ Hid (t = holdS s) ∧ Hid (t.bad = false → x.key = holdV s) ∧ Hid (x.ok w' ∧ x.sh ∧ x.u ∧ x.ins (fun k => w.heap.size ≤ k)) ∧ Rx w' rb B t ∧ Fr (fun k => k = rb) w w' := by
  have HL : Hid (rb < w.heap.size) := h.lt
  have HBW : Hid (B ≤ w.heap.size ∧ B ≤ rb) := ⟨hBw, hrb⟩
  have HRB0 : Hid (∀ x ∈ s.l, x < 256) := h.byte
  have FA : Hid (Fr (fun _ => False) w (w.alloc (.cells #[.int .u64 0, .int .u64 0, .int .u64 0, .slice none 0 0, .slice none 0 0, .slice none 0 0, .slice none 0 0] 29))) := (Fr.refl _ w).alloc _
  have HC2 : Hid (Z7 (w.alloc (.cells #[.int .u64 0, .int .u64 0, .int .u64 0, .slice none 0 0, .slice none 0 0, .slice none 0 0, .slice none 0 0] 29)) w.heap.size (.int .u64 0) (.int .u64 0) (.int .u64 0) (.slice none 0 0) (.slice none 0 0) (.slice none 0 0) (.slice none 0 0)) := Z7.new w 29 _ _ _ _ _ _ _
  have hszA : (w.alloc (.cells #[.int .u64 0, .int .u64 0, .int .u64 0, .slice none 0 0, .slice none 0 0, .slice none 0 0, .slice none 0 0] 29)).heap.size = w.heap.size + 1 := by simp
  have K0 : Hid (Calls _ _ _ _ _) := readid_x (h.fr FA.out (by simp) (by simp)) (by rw [hszA]; omega)
  obtain ⟨rc, Hrc⟩ : ∃ r, Hid (w.heap.size = r) := ⟨_, rfl⟩
  obtain ⟨WA, HWA⟩ : ∃ W, Hid ((w.alloc (.cells #[.int .u64 0, .int .u64 0, .int .u64 0, .slice none 0 0, .slice none 0 0, .slice none 0 0, .slice none 0 0] 29)) = W) := ⟨_, rfl⟩
  rw [HWA.out] at FA HC2 K0 hszA
  rw [Hrc.out] at HC2 hszA
  have HSA : Hid (WA.heap.size = rc + 1 ∧ w.heap.size = rc) := ⟨hszA, Hrc.out⟩
  clear h hBw hrb hszA
  go_enter Try.func30, Try.ntmps30
  go_wp2_with fail
  rw [HWA.out, Hrc.out]
  refine K0.out.mono ?_
  rintro e w1 ⟨a, q, s1, rfl, S1, V1, ha, hq, h1, f1⟩
  have F1 : Hid (Fr (fun k => k = rb) WA w1) := f1
  have HA1 : Hid (a < 18446744073709551616 ∧ q < 18446744073709551616) := ⟨ha, hq⟩
  have K1 : Hid (Calls _ _ _ _ _) := rnum_x 8 h1 (by omega)
  clear h1 f1 K0 ha hq
  go_wp2_with fail
  refine K1.out.mono ?_
  rintro e w2 ⟨p, s2, rfl, E2, S2, b2, h2, f2⟩
  have F2 : Hid (Fr (fun k => k = rb) WA w2) := F1.out.trans f2
  have HP2 : Hid (p < 18446744073709551616) := (show _ < _ by rw [t8] at b2; exact b2)
  have F3 : Hid (Fr (fun k => k = rb) WA (w2.alloc (.cells #[.int .u64 (a : Int), .int .u64 (q : Int), .int .u64 (p : Int), .slice none 0 0, .slice none 0 0, .slice none 0 0, .slice none 0 0] 29))) := F2.out.alloc _
  have HR3 : Hid (Rx (w2.alloc (.cells #[.int .u64 (a : Int), .int .u64 (q : Int), .int .u64 (p : Int), .slice none 0 0, .slice none 0 0, .slice none 0 0, .slice none 0 0] 29)) rb B s2) := h2.fr ((Fr.refl (fun _ => False) _).alloc _) (by simp) (by simp)
  have HZ3 : Hid (Z7 (w2.alloc (.cells #[.int .u64 (a : Int), .int .u64 (q : Int), .int .u64 (p : Int), .slice none 0 0, .slice none 0 0, .slice none 0 0, .slice none 0 0] 29)) w2.heap.size (.int .u64 (a : Int)) (.int .u64 (q : Int)) (.int .u64 (p : Int)) (.slice none 0 0) (.slice none 0 0) (.slice none 0 0) (.slice none 0 0)) := Z7.new w2 29 _ _ _ _ _ _ _
  have hsz3 : (w2.alloc (.cells #[.int .u64 (a : Int), .int .u64 (q : Int), .int .u64 (p : Int), .slice none 0 0, .slice none 0 0, .slice none 0 0, .slice none 0 0] 29)).heap.size = w2.heap.size + 1 := by simp
  have HS2 : Hid (rc < w2.heap.size) := (show _ < _ by have := F2.out.size; have := HSA.out; omega)
  obtain ⟨hb, Hhb⟩ : ∃ b, Hid (w2.heap.size = b) := ⟨_, rfl⟩
  have K3 : Hid (Calls _ _ _ _ _) := readnums_x HR3.out (by rw [hsz3]; have := HSA.out; have := HS2.out; have := HBW.out; omega)
  obtain ⟨W3, HW3⟩ : ∃ W, Hid ((w2.alloc (.cells #[.int .u64 (a : Int), .int .u64 (q : Int), .int .u64 (p : Int), .slice none 0 0, .slice none 0 0, .slice none 0 0, .slice none 0 0] 29)) = W) := ⟨_, rfl⟩
  rw [HW3.out] at F3 HR3 HZ3 K3 hsz3
  rw [Hhb.out] at HZ3 HS2 hsz3
  have HS3 : Hid (rc < hb ∧ W3.heap.size = hb + 1 ∧ w.heap.size = rc ∧ rb < rc ∧ B ≤ rb) := ⟨HS2.out, hsz3, HSA.out.2, by have := HL.out; have := HSA.out; omega, HBW.out.2⟩
  clear h2 f2 K1 b2 hsz3
  go_wp2_with fail
  rw [HW3.out, Hhb.out]
  refine K3.out.mono ?_
  rintro e w4 ⟨ga, gc, g, s4, rfl, S4, V4, ho4, hl4, hx4, h4, f4⟩
  have HG4 : Hid (OwnF w4 W3.heap.size 71 (.slice ga g.length gc) g) := ho4.out
  have HGX : Hid (g.length ≤ 32 ∧ ∀ x ∈ g, x < 18446744073709551616) := ⟨hl4, hx4⟩
  have F4 : Hid (Fr (fun k => k = rb) W3 w4) := f4
  have HR4 : Hid (Rx w4 rb B s4) := h4
  have HZ4 : Hid (Z7 w4 hb (.int .u64 (a : Int)) (.int .u64 (q : Int)) (.int .u64 (p : Int)) (.slice none 0 0) (.slice none 0 0) (.slice none 0 0) (.slice none 0 0)) := HZ3.out.fr F4.out (by have := HS3.out; omega)
  have FS5 : Hid (Fr (fun k => k = hb) w4 (w4.setCell ⟨hb, 3, none⟩ (.slice ga g.length gc))) := (Fr.refl (fun k => k = hb) w4).setCell (p := ⟨hb, 3, none⟩) (Or.inl rfl) _
  have HZ5 : Hid (Z7 (w4.setCell ⟨hb, 3, none⟩ (.slice ga g.length gc)) hb (.int .u64 (a : Int)) (.int .u64 (q : Int)) (.int .u64 (p : Int)) (.slice ga g.length gc) (.slice none 0 0) (.slice none 0 0) (.slice none 0 0)) := HZ4.out.put3 _
  have HR5 : Hid (Rx (w4.setCell ⟨hb, 3, none⟩ (.slice ga g.length gc)) rb B s4) := HR4.out.frB FS5.out (fun k e => by have := HS3.out; omega)
  have HG5 : Hid (OwnF (w4.setCell ⟨hb, 3, none⟩ (.slice ga g.length gc)) W3.heap.size 71 (.slice ga g.length gc) g) := HG4.out.fr FS5.out (fun k hk e => by have := HG4.out.lt k hk; have := HS3.out; omega)
  have F5 : Hid (Fr (fun k => k = rb ∨ k = hb) W3 (w4.setCell ⟨hb, 3, none⟩ (.slice ga g.length gc))) := (F4.out.mono (fun _ _ h => Or.inl h)).trans (FS5.out.mono (fun _ _ h => Or.inr h))
  have K5 : Hid (Calls _ _ _ _ _) := count_x 32 HR5.out (by omega)
  have lc := HZ4.out.c3
  have lz := HZ4.out.z 3
  clear ho4 hl4 hx4 h4 f4 K3
  go_wp2_with fail
  refine K5.out.mono ?_
  rintro e W6 ⟨n, s6, rfl, EN, S6, hn, h6, f6⟩
  have HR6 : Hid (Rx W6 rb B s6) := h6
  have F6 : Hid (Fr (fun k => k = rb ∨ k = hb) W3 W6) := F5.out.trans (f6.mono (fun _ _ h => Or.inl h))
  have HZ6 : Hid (Z7 W6 hb (.int .u64 (a : Int)) (.int .u64 (q : Int)) (.int .u64 (p : Int)) (.slice ga g.length gc) (.slice none 0 0) (.slice none 0 0) (.slice none 0 0)) := HZ5.out.fr f6 (by have := HS3.out; omega)
  have HG6 : Hid (OwnF W6 W3.heap.size 71 (.slice ga g.length gc) g) := HG5.out.fr f6 (fun k hk e => by have := HG5.out.lt k hk; have := HS3.out; omega)
  obtain ⟨B3, HB3⟩ : ∃ b, Hid (W6.heap.size = b) := ⟨_, rfl⟩
  have HAP : Hid (rb < rc ∧ rc < hb ∧ hb < B3 ∧ B ≤ rb ∧ w.heap.size = rc ∧ W3.heap.size = hb + 1) := ⟨by have := HS3.out; omega, by have := HS3.out; omega, by have := HZ6.out.lt; have := HB3.out; omega, by have := HS3.out; omega, by have := HS3.out; omega, by have := HS3.out; omega⟩
  clear h6 f6 K5 lc lz
  go_wp2
  go_loopw [14] (fun iv wr => ∃ (k : Nat) (sl : List (Nat × Nat)) (sa : Option Addr) (sc : Nat), k ≤ n ∧ iv = .int .i64 (k : Int) ∧ Hid (sl = spV k s6) ∧ Hid (∀ z ∈ sl, z.1 < 18446744073709551616 ∧ z.2 < 18446744073709551616) ∧ Hid (OwnF wr B3 75 (.slice sa sl.length sc) sl) ∧ Hid (Z7 wr hb (.int .u64 (a : Int)) (.int .u64 (q : Int)) (.int .u64 (p : Int)) (.slice ga g.length gc) (.slice sa sl.length sc) (.slice none 0 0) (.slice none 0 0)) ∧ Hid (Rx wr rb B (spS k s6)) ∧ Hid (Fr (fun k => k = rb ∨ k = hb) W6 wr)) (fun iv _ => n - (intOf iv).toNat)
  case atStart => exact ⟨0, [], none, 0, Nat.zero_le _, rfl, rfl, fun z hz => (by cases hz), OwnF.nil _ _ _, HZ6.out, HR6.out, Fr.refl _ _⟩
  case round =>
    obtain ⟨k, sl, sa, sc, hk, rfl, HLV, HX, HO, HZ, HR, HF⟩ := hrel
    by_cases hlt : k < n
    · have z1 : (k : Int) < (n : Int) := by omega
      have HSZ : Hid (B3 ≤ wr.heap.size) := (show _ ≤ _ by have := HF.out.size; have := HB3.out; omega)
      have HLL : Hid (sl.length ≤ 32) := (show _ ≤ _ by rw [HLV.out, spV_len]; omega)
      go_wp2_with fail
      refine wp_region_held_drew (S := (fun _ : World => True)) (by kernel_rfl) trivial (fun hHeld => ?_)
      refine wpAnyH_take (i := 0) (oi := _) (v := ?_) (by rw [List.getElem?_toArray]; rfl) (by kernel_rfl) (by kernel_rfl) (by kernel_rfl) (fun _ _ _ h => by exact h) (Or.inl ⟨by rfl, ?_⟩) (by assumption) ?_
      rotate_left
      · (intro w hSw; (try dsimp only at hSw); go_simp; (try with_reducible rfl))
      try simp only [Act.put, List.setIfInBounds_toArray, List.set_cons_zero, List.set_cons_succ]
      refine wpAnyH_take (i := 2) (oi := _) (v := ?_) (by rw [List.getElem?_toArray]; rfl) (by kernel_rfl) (by kernel_rfl) (by kernel_rfl) (fun _ _ _ h => by exact h) (Or.inl ⟨by rfl, ?_⟩) (by assumption) ?_
      rotate_left
      · (intro w hSw; (try dsimp only at hSw); go_simp; (try with_reducible rfl))
      try simp only [Act.put, List.setIfInBounds_toArray, List.set_cons_zero, List.set_cons_succ]
      refine wpAnyH_take (i := 4) (oi := _) (v := ?_) (by rw [List.getElem?_toArray]; rfl) (by kernel_rfl) (by kernel_rfl) (by kernel_rfl) (fun _ _ _ h => by exact h) (Or.inl ⟨by rfl, ?_⟩) (by assumption) ?_
      rotate_left
      · (intro w hSw; (try dsimp only at hSw); go_simp; (try with_reducible rfl))
      try simp only [Act.put, List.setIfInBounds_toArray, List.set_cons_zero, List.set_cons_succ]
      refine wpAnyH_ready (rs := [1, 3]) (by kernel_rfl) (by simp) ?_
      refine AllReadyH.cons (o := _) (by rw [List.getElem?_toArray]; rfl) (fun K hK => ?_) ?_
      · have lc := (HZ.out.fr ((Fr.refl (fun k => k = rb) wr).drew) (by have := HAP.out; omega)).c4
        go_simp
        clear lc
        refine hK.out _ _ trivial (fun hHeld => ?_)
        clear hK K
        try simp only [Act.put, List.setIfInBounds_toArray, List.set_cons_zero, List.set_cons_succ]
        refine wpAnyH_ready (rs := [3]) (by kernel_rfl) (by simp) ?_
        refine AllReadyH.cons (o := _) (by rw [List.getElem?_toArray]; rfl) (fun K hK => ?_) ?_
        · go_simp
          go_wp2_with (go_at_call 66; refine (readnum_x (HR.out.fr ((Fr.refl (fun _ => False) wr).drew) (by simp) (by simp))).mono ?_; rintro e wx5 ⟨x, t0, rfl, E0, T0, hx, r0, f0⟩)
          have HX0 : Hid (x < 18446744073709551616) := hx
          have RR0 : Hid (Rx wx5 rb B t0) := r0
          have G0 : Hid (Fr (fun k => k = rb) wr wx5) := (((Fr.refl (fun k => k = rb) wr).drew)).trans f0
          clear r0 f0 hx
          refine hK.out _ _ trivial (fun hHeld => ?_)
          clear hK K
          try simp only [Act.put, List.setIfInBounds_toArray, List.set_cons_zero, List.set_cons_succ]
          refine wpAnyH_ready (rs := [5]) (by kernel_rfl) (by simp) ?_
          refine AllReadyH.cons (o := _) (by rw [List.getElem?_toArray]; rfl) (fun K hK => ?_) ?_
          · go_simp
            go_wp2_with (go_at_call 66; refine (readnum_x RR0.out).mono ?_; rintro e wx6 ⟨y, t1, rfl, E1, T1, hy, r1, f1⟩)
            have HX1 : Hid (y < 18446744073709551616) := hy
            have RR1 : Hid (Rx wx6 rb B t1) := r1
            have G1 : Hid (Fr (fun k => k = rb) wr wx6) := (G0.out).trans f1
            clear r1 f1 hy
            refine hK.out _ _ trivial (fun hHeld => ?_)
            clear hK K
            try simp only [Act.put, List.setIfInBounds_toArray, List.set_cons_zero, List.set_cons_succ]
            refine wpAnyH_take (i := 6) (oi := _) (v := ?_) (by rw [List.getElem?_toArray]; rfl) (by kernel_rfl) (by kernel_rfl) (by kernel_rfl) (fun _ _ _ h => by exact h) (Or.inl ⟨by rfl, ?_⟩) (by assumption) ?_
            rotate_left
            · (intro w hSw; (try dsimp only at hSw); go_simp; (try with_reducible rfl))
            try simp only [Act.put, List.setIfInBounds_toArray, List.set_cons_zero, List.set_cons_succ]
            refine wpAnyH_ready (rs := [7]) (by kernel_rfl) (by simp) ?_
            refine AllReadyH.cons (o := _) (by rw [List.getElem?_toArray]; rfl) (fun K hK => ?_) ?_
            · go_simp
              have GA : Hid (Fr (fun k => k = rb) wr (wx6.alloc (.cells #[.float .f64 x, .float .f64 y] 75))) := (G1.out).alloc _
              have RA : Hid (Rx (wx6.alloc (.cells #[.float .f64 x, .float .f64 y] 75)) rb B t1) := (RR1.out).fr ((Fr.refl (fun _ => False) _).alloc _) (by simp) (by simp)
              refine hK.out _ _ trivial (fun hHeld => ?_)
              clear hK K
              try simp only [Act.put, List.setIfInBounds_toArray, List.set_cons_zero, List.set_cons_succ]
              refine wpAnyH_ready (rs := [8]) (by kernel_rfl) (by simp) ?_
              refine AllReadyH.cons (o := _) (by rw [List.getElem?_toArray]; rfl) (fun K hK => ?_) ?_
              · refine if_step (by rfl) ?_
                refine step_append_f (α := (Nat × Nat)) (.tmp 17) (.tmp 23) 26 75 rfl Try.underlying26 _ 16 Try.info75 rfl (by decide) B3 _ sl rfl (HO.out.fr GA.out (fun k hk e => by have := HO.out.lt k hk; have := HAP.out; omega)) ⟨wx6.heap.size, 0, none⟩ [(x, y)] 1 rfl (one_f wx6 (x, y) 75 _ rfl) (Nat.le_trans HSZ.out (GA.out).size) (by have := HLL.out; simp; omega) ?_
                intro v7 w7 o7 g7 k7
                obtain ⟨l9, Hl9⟩ : ∃ l9, Hid (sl ++ [(x, y)] = l9) := ⟨_, rfl⟩
                rw [Hl9.out] at o7
                obtain ⟨a7, c7, hv7, _, _⟩ := o7.row
                subst hv7
                have O7 : Hid (OwnF w7 B3 75 (.slice a7 l9.length c7) l9) := o7
                have GB : Hid (Fr (fun k => B3 ≤ k) _ w7) := (Fr.refl _ _).grown g7 (fun k hk => .inl (HO.out.lt k hk).1)
                have G7 : Hid (Fr (fun k => k = rb ∨ B3 ≤ k) wr w7) := ((GA.out).mono (fun _ _ h => Or.inl h)).trans (GB.out.mono (fun _ _ h => Or.inr h))
                have R7 : Hid (Rx w7 rb B t1) := (RA.out).fr GB.out (by have := HAP.out; omega) (fun k hk e => by have := HAP.out; omega)
                clear o7 g7 k7
                refine hK.out _ _ trivial (fun hHeld => ?_)
                clear hK K
                try simp only [Act.put, List.setIfInBounds_toArray, List.set_cons_zero, List.set_cons_succ]
                refine wpAnyH_take (i := 9) (oi := _) (v := ?_) (by rw [List.getElem?_toArray]; rfl) (by kernel_rfl) (by kernel_rfl) (by kernel_rfl) (fun _ _ _ h => by exact h) (Or.inl ⟨by rfl, ?_⟩) (by assumption) ?_
                rotate_left
                · (intro w hSw; (try dsimp only at hSw); go_simp; (try with_reducible rfl))
                try simp only [Act.put, List.setIfInBounds_toArray, List.set_cons_zero, List.set_cons_succ]
                refine wpAnyH_ready (rs := [10]) (by kernel_rfl) (by simp) ?_
                refine AllReadyH.cons (o := _) (by rw [List.getElem?_toArray]; rfl) (fun K hK => ?_) ?_
                · have HZ7 : Hid (Z7 w7 hb _ _ _ (.slice ga g.length gc) _ (.slice none 0 0) (.slice none 0 0)) := HZ.out.fr G7.out (by have := HAP.out; omega)
                  have lc := HZ7.out.c4
                  have lz := HZ7.out.z 4
                  go_simp
                  clear lc lz
                  refine hK.out _ _ trivial (fun hHeld => ?_)
                  clear hK K
                  try simp only [Act.put, List.setIfInBounds_toArray, List.set_cons_zero, List.set_cons_succ]
                  refine wpAnyH_done (by kernel_rfl) ?_ _
                  have HZ8 : Hid (Z7 w7 hb _ _ _ (.slice ga g.length gc) _ (.slice none 0 0) (.slice none 0 0)) := HZ.out.fr G7.out (by have := HAP.out; omega)
                  have FS : Hid (Fr (fun k => k = hb) w7 (w7.setCell ⟨hb, 4, none⟩ (.slice a7 l9.length c7))) := (Fr.refl (fun k => k = hb) w7).setCell (p := ⟨hb, 4, none⟩) (Or.inl rfl) _
                  have HZ9 : Hid (Z7 (w7.setCell ⟨hb, 4, none⟩ (.slice a7 l9.length c7)) hb (.int .u64 (a : Int)) (.int .u64 (q : Int)) (.int .u64 (p : Int)) (.slice ga g.length gc) (.slice a7 l9.length c7) (.slice none 0 0) (.slice none 0 0)) := HZ8.out.put4' _
                  have O9 : Hid (OwnF (w7.setCell ⟨hb, 4, none⟩ (.slice a7 l9.length c7)) B3 75 (.slice a7 l9.length c7) l9) := O7.out.fr FS.out (fun k hk e => by have := O7.out.lt k hk; have := HAP.out; omega)
                  have R9 : Hid (Rx (w7.setCell ⟨hb, 4, none⟩ (.slice a7 l9.length c7)) rb B (spS (k + 1) s6)) := (show Rx _ _ _ _ by rw [(sp_succ k s6).2, ← T0.out, ← T1.out]; exact R7.out.fr FS.out (by have := HAP.out; omega) (fun k hk e => by have := HAP.out; omega))
                  have F9 : Hid (Fr (fun k => k = rb ∨ k = hb) W6 (w7.setCell ⟨hb, 4, none⟩ (.slice a7 l9.length c7))) := (HF.out.trans' G7.out (fun i hi h => by have := HAP.out; have := HB3.out; omega)).trans' FS.out (fun i hi h => Or.inr h)
                  have HL9 : Hid (l9 = spV (k + 1) s6) := (show _ = _ by rw [(sp_succ k s6).1, ← Hl9.out, HLV.out, E0.out, E1.out, T0.out])
                  have HX9 : Hid (∀ z ∈ l9, z.1 < 18446744073709551616 ∧ z.2 < 18446744073709551616) := (show ∀ _ ∈ _, _ by rw [← Hl9.out]; exact (fun z hz => (List.mem_append.1 hz).elim (HX.out z) (fun h => by rw [List.mem_singleton] at h; subst h; exact ⟨HX0.out, HX1.out⟩)))
                  go_wp2
                  go_roundw
                  case rel => exact ⟨k + 1, l9, a7, c7, by omega, by go_num, HL9, HX9, O9, HZ9, R9, F9⟩
                  case measure => simp [intOf]; omega
                exact AllReadyH.nil
              exact AllReadyH.nil
            exact AllReadyH.nil
          exact AllReadyH.nil
        exact AllReadyH.nil
      refine AllReadyH.cons (o := _) (by rw [List.getElem?_toArray]; rfl) (fun K hK => ?_) ?_
      · go_simp
        go_wp2_with (go_at_call 66; refine (readnum_x (HR.out.fr ((Fr.refl (fun _ => False) wr).drew) (by simp) (by simp))).mono ?_; rintro e wx5 ⟨x, t0, rfl, E0, T0, hx, r0, f0⟩)
        have HX0 : Hid (x < 18446744073709551616) := hx
        have RR0 : Hid (Rx wx5 rb B t0) := r0
        have G0 : Hid (Fr (fun k => k = rb) wr wx5) := (((Fr.refl (fun k => k = rb) wr).drew)).trans f0
        clear r0 f0 hx
        refine hK.out _ _ trivial (fun hHeld => ?_)
        clear hK K
        try simp only [Act.put, List.setIfInBounds_toArray, List.set_cons_zero, List.set_cons_succ]
        refine wpAnyH_ready (rs := [1, 5]) (by kernel_rfl) (by simp) ?_
        refine AllReadyH.cons (o := _) (by rw [List.getElem?_toArray]; rfl) (fun K hK => ?_) ?_
        · have lc := (HZ.out.fr G0.out (by have := HAP.out; omega)).c4
          go_simp
          clear lc
          refine hK.out _ _ trivial (fun hHeld => ?_)
          clear hK K
          try simp only [Act.put, List.setIfInBounds_toArray, List.set_cons_zero, List.set_cons_succ]
          refine wpAnyH_ready (rs := [5]) (by kernel_rfl) (by simp) ?_
          refine AllReadyH.cons (o := _) (by rw [List.getElem?_toArray]; rfl) (fun K hK => ?_) ?_
          · go_simp
            go_wp2_with (go_at_call 66; refine (readnum_x RR0.out).mono ?_; rintro e wx6 ⟨y, t1, rfl, E1, T1, hy, r1, f1⟩)
            have HX1 : Hid (y < 18446744073709551616) := hy
            have RR1 : Hid (Rx wx6 rb B t1) := r1
            have G1 : Hid (Fr (fun k => k = rb) wr wx6) := (G0.out).trans f1
            clear r1 f1 hy
            refine hK.out _ _ trivial (fun hHeld => ?_)
            clear hK K
            try simp only [Act.put, List.setIfInBounds_toArray, List.set_cons_zero, List.set_cons_succ]
            refine wpAnyH_take (i := 6) (oi := _) (v := ?_) (by rw [List.getElem?_toArray]; rfl) (by kernel_rfl) (by kernel_rfl) (by kernel_rfl) (fun _ _ _ h => by exact h) (Or.inl ⟨by rfl, ?_⟩) (by assumption) ?_
            rotate_left
            · (intro w hSw; (try dsimp only at hSw); go_simp; (try with_reducible rfl))
            try simp only [Act.put, List.setIfInBounds_toArray, List.set_cons_zero, List.set_cons_succ]
            refine wpAnyH_ready (rs := [7]) (by kernel_rfl) (by simp) ?_
            refine AllReadyH.cons (o := _) (by rw [List.getElem?_toArray]; rfl) (fun K hK => ?_) ?_
            · go_simp
              have GA : Hid (Fr (fun k => k = rb) wr (wx6.alloc (.cells #[.float .f64 x, .float .f64 y] 75))) := (G1.out).alloc _
              have RA : Hid (Rx (wx6.alloc (.cells #[.float .f64 x, .float .f64 y] 75)) rb B t1) := (RR1.out).fr ((Fr.refl (fun _ => False) _).alloc _) (by simp) (by simp)
              refine hK.out _ _ trivial (fun hHeld => ?_)
              clear hK K
              try simp only [Act.put, List.setIfInBounds_toArray, List.set_cons_zero, List.set_cons_succ]
              refine wpAnyH_ready (rs := [8]) (by kernel_rfl) (by simp) ?_
              refine AllReadyH.cons (o := _) (by rw [List.getElem?_toArray]; rfl) (fun K hK => ?_) ?_
              · refine if_step (by rfl) ?_
                refine step_append_f (α := (Nat × Nat)) (.tmp 17) (.tmp 23) 26 75 rfl Try.underlying26 _ 16 Try.info75 rfl (by decide) B3 _ sl rfl (HO.out.fr GA.out (fun k hk e => by have := HO.out.lt k hk; have := HAP.out; omega)) ⟨wx6.heap.size, 0, none⟩ [(x, y)] 1 rfl (one_f wx6 (x, y) 75 _ rfl) (Nat.le_trans HSZ.out (GA.out).size) (by have := HLL.out; simp; omega) ?_
                intro v7 w7 o7 g7 k7
                obtain ⟨l9, Hl9⟩ : ∃ l9, Hid (sl ++ [(x, y)] = l9) := ⟨_, rfl⟩
                rw [Hl9.out] at o7
                obtain ⟨a7, c7, hv7, _, _⟩ := o7.row
                subst hv7
                have O7 : Hid (OwnF w7 B3 75 (.slice a7 l9.length c7) l9) := o7
                have GB : Hid (Fr (fun k => B3 ≤ k) _ w7) := (Fr.refl _ _).grown g7 (fun k hk => .inl (HO.out.lt k hk).1)
                have G7 : Hid (Fr (fun k => k = rb ∨ B3 ≤ k) wr w7) := ((GA.out).mono (fun _ _ h => Or.inl h)).trans (GB.out.mono (fun _ _ h => Or.inr h))
                have R7 : Hid (Rx w7 rb B t1) := (RA.out).fr GB.out (by have := HAP.out; omega) (fun k hk e => by have := HAP.out; omega)
                clear o7 g7 k7
                refine hK.out _ _ trivial (fun hHeld => ?_)
                clear hK K
                try simp only [Act.put, List.setIfInBounds_toArray, List.set_cons_zero, List.set_cons_succ]
                refine wpAnyH_take (i := 9) (oi := _) (v := ?_) (by rw [List.getElem?_toArray]; rfl) (by kernel_rfl) (by kernel_rfl) (by kernel_rfl) (fun _ _ _ h => by exact h) (Or.inl ⟨by rfl, ?_⟩) (by assumption) ?_
                rotate_left
                · (intro w hSw; (try dsimp only at hSw); go_simp; (try with_reducible rfl))
                try simp only [Act.put, List.setIfInBounds_toArray, List.set_cons_zero, List.set_cons_succ]
                refine wpAnyH_ready (rs := [10]) (by kernel_rfl) (by simp) ?_
                refine AllReadyH.cons (o := _) (by rw [List.getElem?_toArray]; rfl) (fun K hK => ?_) ?_
                · have HZ7 : Hid (Z7 w7 hb _ _ _ (.slice ga g.length gc) _ (.slice none 0 0) (.slice none 0 0)) := HZ.out.fr G7.out (by have := HAP.out; omega)
                  have lc := HZ7.out.c4
                  have lz := HZ7.out.z 4
                  go_simp
                  clear lc lz
                  refine hK.out _ _ trivial (fun hHeld => ?_)
                  clear hK K
                  try simp only [Act.put, List.setIfInBounds_toArray, List.set_cons_zero, List.set_cons_succ]
                  refine wpAnyH_done (by kernel_rfl) ?_ _
                  have HZ8 : Hid (Z7 w7 hb _ _ _ (.slice ga g.length gc) _ (.slice none 0 0) (.slice none 0 0)) := HZ.out.fr G7.out (by have := HAP.out; omega)
                  have FS : Hid (Fr (fun k => k = hb) w7 (w7.setCell ⟨hb, 4, none⟩ (.slice a7 l9.length c7))) := (Fr.refl (fun k => k = hb) w7).setCell (p := ⟨hb, 4, none⟩) (Or.inl rfl) _
                  have HZ9 : Hid (Z7 (w7.setCell ⟨hb, 4, none⟩ (.slice a7 l9.length c7)) hb (.int .u64 (a : Int)) (.int .u64 (q : Int)) (.int .u64 (p : Int)) (.slice ga g.length gc) (.slice a7 l9.length c7) (.slice none 0 0) (.slice none 0 0)) := HZ8.out.put4' _
                  have O9 : Hid (OwnF (w7.setCell ⟨hb, 4, none⟩ (.slice a7 l9.length c7)) B3 75 (.slice a7 l9.length c7) l9) := O7.out.fr FS.out (fun k hk e => by have := O7.out.lt k hk; have := HAP.out; omega)
                  have R9 : Hid (Rx (w7.setCell ⟨hb, 4, none⟩ (.slice a7 l9.length c7)) rb B (spS (k + 1) s6)) := (show Rx _ _ _ _ by rw [(sp_succ k s6).2, ← T0.out, ← T1.out]; exact R7.out.fr FS.out (by have := HAP.out; omega) (fun k hk e => by have := HAP.out; omega))
                  have F9 : Hid (Fr (fun k => k = rb ∨ k = hb) W6 (w7.setCell ⟨hb, 4, none⟩ (.slice a7 l9.length c7))) := (HF.out.trans' G7.out (fun i hi h => by have := HAP.out; have := HB3.out; omega)).trans' FS.out (fun i hi h => Or.inr h)
                  have HL9 : Hid (l9 = spV (k + 1) s6) := (show _ = _ by rw [(sp_succ k s6).1, ← Hl9.out, HLV.out, E0.out, E1.out, T0.out])
                  have HX9 : Hid (∀ z ∈ l9, z.1 < 18446744073709551616 ∧ z.2 < 18446744073709551616) := (show ∀ _ ∈ _, _ by rw [← Hl9.out]; exact (fun z hz => (List.mem_append.1 hz).elim (HX.out z) (fun h => by rw [List.mem_singleton] at h; subst h; exact ⟨HX0.out, HX1.out⟩)))
                  go_wp2
                  go_roundw
                  case rel => exact ⟨k + 1, l9, a7, c7, by omega, by go_num, HL9, HX9, O9, HZ9, R9, F9⟩
                  case measure => simp [intOf]; omega
                exact AllReadyH.nil
              exact AllReadyH.nil
            exact AllReadyH.nil
          exact AllReadyH.nil
        refine AllReadyH.cons (o := _) (by rw [List.getElem?_toArray]; rfl) (fun K hK => ?_) ?_
        · go_simp
          go_wp2_with (go_at_call 66; refine (readnum_x RR0.out).mono ?_; rintro e wx6 ⟨y, t1, rfl, E1, T1, hy, r1, f1⟩)
          have HX1 : Hid (y < 18446744073709551616) := hy
          have RR1 : Hid (Rx wx6 rb B t1) := r1
          have G1 : Hid (Fr (fun k => k = rb) wr wx6) := (G0.out).trans f1
          clear r1 f1 hy
          refine hK.out _ _ trivial (fun hHeld => ?_)
          clear hK K
          try simp only [Act.put, List.setIfInBounds_toArray, List.set_cons_zero, List.set_cons_succ]
          refine wpAnyH_take (i := 6) (oi := _) (v := ?_) (by rw [List.getElem?_toArray]; rfl) (by kernel_rfl) (by kernel_rfl) (by kernel_rfl) (fun _ _ _ h => by exact h) (Or.inl ⟨by rfl, ?_⟩) (by assumption) ?_
          rotate_left
          · (intro w hSw; (try dsimp only at hSw); go_simp; (try with_reducible rfl))
          try simp only [Act.put, List.setIfInBounds_toArray, List.set_cons_zero, List.set_cons_succ]
          refine wpAnyH_ready (rs := [1, 7]) (by kernel_rfl) (by simp) ?_
          refine AllReadyH.cons (o := _) (by rw [List.getElem?_toArray]; rfl) (fun K hK => ?_) ?_
          · have lc := (HZ.out.fr G1.out (by have := HAP.out; omega)).c4
            go_simp
            clear lc
            refine hK.out _ _ trivial (fun hHeld => ?_)
            clear hK K
            try simp only [Act.put, List.setIfInBounds_toArray, List.set_cons_zero, List.set_cons_succ]
            refine wpAnyH_ready (rs := [7]) (by kernel_rfl) (by simp) ?_
            refine AllReadyH.cons (o := _) (by rw [List.getElem?_toArray]; rfl) (fun K hK => ?_) ?_
            · go_simp
              have GA : Hid (Fr (fun k => k = rb) wr (wx6.alloc (.cells #[.float .f64 x, .float .f64 y] 75))) := (G1.out).alloc _
              have RA : Hid (Rx (wx6.alloc (.cells #[.float .f64 x, .float .f64 y] 75)) rb B t1) := (RR1.out).fr ((Fr.refl (fun _ => False) _).alloc _) (by simp) (by simp)
              refine hK.out _ _ trivial (fun hHeld => ?_)
              clear hK K
              try simp only [Act.put, List.setIfInBounds_toArray, List.set_cons_zero, List.set_cons_succ]
              refine wpAnyH_ready (rs := [8]) (by kernel_rfl) (by simp) ?_
              refine AllReadyH.cons (o := _) (by rw [List.getElem?_toArray]; rfl) (fun K hK => ?_) ?_
              · refine if_step (by rfl) ?_
                refine step_append_f (α := (Nat × Nat)) (.tmp 17) (.tmp 23) 26 75 rfl Try.underlying26 _ 16 Try.info75 rfl (by decide) B3 _ sl rfl (HO.out.fr GA.out (fun k hk e => by have := HO.out.lt k hk; have := HAP.out; omega)) ⟨wx6.heap.size, 0, none⟩ [(x, y)] 1 rfl (one_f wx6 (x, y) 75 _ rfl) (Nat.le_trans HSZ.out (GA.out).size) (by have := HLL.out; simp; omega) ?_
                intro v7 w7 o7 g7 k7
                obtain ⟨l9, Hl9⟩ : ∃ l9, Hid (sl ++ [(x, y)] = l9) := ⟨_, rfl⟩
                rw [Hl9.out] at o7
                obtain ⟨a7, c7, hv7, _, _⟩ := o7.row
                subst hv7
                have O7 : Hid (OwnF w7 B3 75 (.slice a7 l9.length c7) l9) := o7
                have GB : Hid (Fr (fun k => B3 ≤ k) _ w7) := (Fr.refl _ _).grown g7 (fun k hk => .inl (HO.out.lt k hk).1)
                have G7 : Hid (Fr (fun k => k = rb ∨ B3 ≤ k) wr w7) := ((GA.out).mono (fun _ _ h => Or.inl h)).trans (GB.out.mono (fun _ _ h => Or.inr h))
                have R7 : Hid (Rx w7 rb B t1) := (RA.out).fr GB.out (by have := HAP.out; omega) (fun k hk e => by have := HAP.out; omega)
                clear o7 g7 k7
                refine hK.out _ _ trivial (fun hHeld => ?_)
                clear hK K
                try simp only [Act.put, List.setIfInBounds_toArray, List.set_cons_zero, List.set_cons_succ]
                refine wpAnyH_take (i := 9) (oi := _) (v := ?_) (by rw [List.getElem?_toArray]; rfl) (by kernel_rfl) (by kernel_rfl) (by kernel_rfl) (fun _ _ _ h => by exact h) (Or.inl ⟨by rfl, ?_⟩) (by assumption) ?_
                rotate_left
                · (intro w hSw; (try dsimp only at hSw); go_simp; (try with_reducible rfl))
                try simp only [Act.put, List.setIfInBounds_toArray, List.set_cons_zero, List.set_cons_succ]
                refine wpAnyH_ready (rs := [10]) (by kernel_rfl) (by simp) ?_
                refine AllReadyH.cons (o := _) (by rw [List.getElem?_toArray]; rfl) (fun K hK => ?_) ?_
                · have HZ7 : Hid (Z7 w7 hb _ _ _ (.slice ga g.length gc) _ (.slice none 0 0) (.slice none 0 0)) := HZ.out.fr G7.out (by have := HAP.out; omega)
                  have lc := HZ7.out.c4
                  have lz := HZ7.out.z 4
                  go_simp
                  clear lc lz
                  refine hK.out _ _ trivial (fun hHeld => ?_)
                  clear hK K
                  try simp only [Act.put, List.setIfInBounds_toArray, List.set_cons_zero, List.set_cons_succ]
                  refine wpAnyH_done (by kernel_rfl) ?_ _
                  have HZ8 : Hid (Z7 w7 hb _ _ _ (.slice ga g.length gc) _ (.slice none 0 0) (.slice none 0 0)) := HZ.out.fr G7.out (by have := HAP.out; omega)
                  have FS : Hid (Fr (fun k => k = hb) w7 (w7.setCell ⟨hb, 4, none⟩ (.slice a7 l9.length c7))) := (Fr.refl (fun k => k = hb) w7).setCell (p := ⟨hb, 4, none⟩) (Or.inl rfl) _
                  have HZ9 : Hid (Z7 (w7.setCell ⟨hb, 4, none⟩ (.slice a7 l9.length c7)) hb (.int .u64 (a : Int)) (.int .u64 (q : Int)) (.int .u64 (p : Int)) (.slice ga g.length gc) (.slice a7 l9.length c7) (.slice none 0 0) (.slice none 0 0)) := HZ8.out.put4' _
                  have O9 : Hid (OwnF (w7.setCell ⟨hb, 4, none⟩ (.slice a7 l9.length c7)) B3 75 (.slice a7 l9.length c7) l9) := O7.out.fr FS.out (fun k hk e => by have := O7.out.lt k hk; have := HAP.out; omega)
                  have R9 : Hid (Rx (w7.setCell ⟨hb, 4, none⟩ (.slice a7 l9.length c7)) rb B (spS (k + 1) s6)) := (show Rx _ _ _ _ by rw [(sp_succ k s6).2, ← T0.out, ← T1.out]; exact R7.out.fr FS.out (by have := HAP.out; omega) (fun k hk e => by have := HAP.out; omega))
                  have F9 : Hid (Fr (fun k => k = rb ∨ k = hb) W6 (w7.setCell ⟨hb, 4, none⟩ (.slice a7 l9.length c7))) := (HF.out.trans' G7.out (fun i hi h => by have := HAP.out; have := HB3.out; omega)).trans' FS.out (fun i hi h => Or.inr h)
                  have HL9 : Hid (l9 = spV (k + 1) s6) := (show _ = _ by rw [(sp_succ k s6).1, ← Hl9.out, HLV.out, E0.out, E1.out, T0.out])
                  have HX9 : Hid (∀ z ∈ l9, z.1 < 18446744073709551616 ∧ z.2 < 18446744073709551616) := (show ∀ _ ∈ _, _ by rw [← Hl9.out]; exact (fun z hz => (List.mem_append.1 hz).elim (HX.out z) (fun h => by rw [List.mem_singleton] at h; subst h; exact ⟨HX0.out, HX1.out⟩)))
                  go_wp2
                  go_roundw
                  case rel => exact ⟨k + 1, l9, a7, c7, by omega, by go_num, HL9, HX9, O9, HZ9, R9, F9⟩
                  case measure => simp [intOf]; omega
                exact AllReadyH.nil
              exact AllReadyH.nil
            exact AllReadyH.nil
          refine AllReadyH.cons (o := _) (by rw [List.getElem?_toArray]; rfl) (fun K hK => ?_) ?_
          · go_simp
            have GA : Hid (Fr (fun k => k = rb) wr (wx6.alloc (.cells #[.float .f64 x, .float .f64 y] 75))) := (G1.out).alloc _
            have RA : Hid (Rx (wx6.alloc (.cells #[.float .f64 x, .float .f64 y] 75)) rb B t1) := (RR1.out).fr ((Fr.refl (fun _ => False) _).alloc _) (by simp) (by simp)
            refine hK.out _ _ trivial (fun hHeld => ?_)
            clear hK K
            try simp only [Act.put, List.setIfInBounds_toArray, List.set_cons_zero, List.set_cons_succ]
            refine wpAnyH_ready (rs := [1]) (by kernel_rfl) (by simp) ?_
            refine AllReadyH.cons (o := _) (by rw [List.getElem?_toArray]; rfl) (fun K hK => ?_) ?_
            · have lc := (HZ.out.fr GA.out (by have := HAP.out; omega)).c4
              go_simp
              clear lc
              refine hK.out _ _ trivial (fun hHeld => ?_)
              clear hK K
              try simp only [Act.put, List.setIfInBounds_toArray, List.set_cons_zero, List.set_cons_succ]
              refine wpAnyH_ready (rs := [8]) (by kernel_rfl) (by simp) ?_
              refine AllReadyH.cons (o := _) (by rw [List.getElem?_toArray]; rfl) (fun K hK => ?_) ?_
              · refine if_step (by rfl) ?_
                refine step_append_f (α := (Nat × Nat)) (.tmp 17) (.tmp 23) 26 75 rfl Try.underlying26 _ 16 Try.info75 rfl (by decide) B3 _ sl rfl (HO.out.fr GA.out (fun k hk e => by have := HO.out.lt k hk; have := HAP.out; omega)) ⟨wx6.heap.size, 0, none⟩ [(x, y)] 1 rfl (one_f wx6 (x, y) 75 _ rfl) (Nat.le_trans HSZ.out (GA.out).size) (by have := HLL.out; simp; omega) ?_
                intro v7 w7 o7 g7 k7
                obtain ⟨l9, Hl9⟩ : ∃ l9, Hid (sl ++ [(x, y)] = l9) := ⟨_, rfl⟩
                rw [Hl9.out] at o7
                obtain ⟨a7, c7, hv7, _, _⟩ := o7.row
                subst hv7
                have O7 : Hid (OwnF w7 B3 75 (.slice a7 l9.length c7) l9) := o7
                have GB : Hid (Fr (fun k => B3 ≤ k) _ w7) := (Fr.refl _ _).grown g7 (fun k hk => .inl (HO.out.lt k hk).1)
                have G7 : Hid (Fr (fun k => k = rb ∨ B3 ≤ k) wr w7) := ((GA.out).mono (fun _ _ h => Or.inl h)).trans (GB.out.mono (fun _ _ h => Or.inr h))
                have R7 : Hid (Rx w7 rb B t1) := (RA.out).fr GB.out (by have := HAP.out; omega) (fun k hk e => by have := HAP.out; omega)
                clear o7 g7 k7
                refine hK.out _ _ trivial (fun hHeld => ?_)
                clear hK K
                try simp only [Act.put, List.setIfInBounds_toArray, List.set_cons_zero, List.set_cons_succ]
                refine wpAnyH_take (i := 9) (oi := _) (v := ?_) (by rw [List.getElem?_toArray]; rfl) (by kernel_rfl) (by kernel_rfl) (by kernel_rfl) (fun _ _ _ h => by exact h) (Or.inl ⟨by rfl, ?_⟩) (by assumption) ?_
                rotate_left
                · (intro w hSw; (try dsimp only at hSw); go_simp; (try with_reducible rfl))
                try simp only [Act.put, List.setIfInBounds_toArray, List.set_cons_zero, List.set_cons_succ]
                refine wpAnyH_ready (rs := [10]) (by kernel_rfl) (by simp) ?_
                refine AllReadyH.cons (o := _) (by rw [List.getElem?_toArray]; rfl) (fun K hK => ?_) ?_
                · have HZ7 : Hid (Z7 w7 hb _ _ _ (.slice ga g.length gc) _ (.slice none 0 0) (.slice none 0 0)) := HZ.out.fr G7.out (by have := HAP.out; omega)
                  have lc := HZ7.out.c4
                  have lz := HZ7.out.z 4
                  go_simp
                  clear lc lz
                  refine hK.out _ _ trivial (fun hHeld => ?_)
                  clear hK K
                  try simp only [Act.put, List.setIfInBounds_toArray, List.set_cons_zero, List.set_cons_succ]
                  refine wpAnyH_done (by kernel_rfl) ?_ _
                  have HZ8 : Hid (Z7 w7 hb _ _ _ (.slice ga g.length gc) _ (.slice none 0 0) (.slice none 0 0)) := HZ.out.fr G7.out (by have := HAP.out; omega)
                  have FS : Hid (Fr (fun k => k = hb) w7 (w7.setCell ⟨hb, 4, none⟩ (.slice a7 l9.length c7))) := (Fr.refl (fun k => k = hb) w7).setCell (p := ⟨hb, 4, none⟩) (Or.inl rfl) _
                  have HZ9 : Hid (Z7 (w7.setCell ⟨hb, 4, none⟩ (.slice a7 l9.length c7)) hb (.int .u64 (a : Int)) (.int .u64 (q : Int)) (.int .u64 (p : Int)) (.slice ga g.length gc) (.slice a7 l9.length c7) (.slice none 0 0) (.slice none 0 0)) := HZ8.out.put4' _
                  have O9 : Hid (OwnF (w7.setCell ⟨hb, 4, none⟩ (.slice a7 l9.length c7)) B3 75 (.slice a7 l9.length c7) l9) := O7.out.fr FS.out (fun k hk e => by have := O7.out.lt k hk; have := HAP.out; omega)
                  have R9 : Hid (Rx (w7.setCell ⟨hb, 4, none⟩ (.slice a7 l9.length c7)) rb B (spS (k + 1) s6)) := (show Rx _ _ _ _ by rw [(sp_succ k s6).2, ← T0.out, ← T1.out]; exact R7.out.fr FS.out (by have := HAP.out; omega) (fun k hk e => by have := HAP.out; omega))
                  have F9 : Hid (Fr (fun k => k = rb ∨ k = hb) W6 (w7.setCell ⟨hb, 4, none⟩ (.slice a7 l9.length c7))) := (HF.out.trans' G7.out (fun i hi h => by have := HAP.out; have := HB3.out; omega)).trans' FS.out (fun i hi h => Or.inr h)
                  have HL9 : Hid (l9 = spV (k + 1) s6) := (show _ = _ by rw [(sp_succ k s6).1, ← Hl9.out, HLV.out, E0.out, E1.out, T0.out])
                  have HX9 : Hid (∀ z ∈ l9, z.1 < 18446744073709551616 ∧ z.2 < 18446744073709551616) := (show ∀ _ ∈ _, _ by rw [← Hl9.out]; exact (fun z hz => (List.mem_append.1 hz).elim (HX.out z) (fun h => by rw [List.mem_singleton] at h; subst h; exact ⟨HX0.out, HX1.out⟩)))
                  go_wp2
                  go_roundw
                  case rel => exact ⟨k + 1, l9, a7, c7, by omega, by go_num, HL9, HX9, O9, HZ9, R9, F9⟩
                  case measure => simp [intOf]; omega
                exact AllReadyH.nil
              exact AllReadyH.nil
            exact AllReadyH.nil
          exact AllReadyH.nil
        exact AllReadyH.nil
      exact AllReadyH.nil
    · have z1 : ¬ (k : Int) < (n : Int) := by omega
      have hkn : k = n := by omega
      subst hkn
      obtain ⟨w7, HW7⟩ : ∃ W, Hid (wr = W) := ⟨_, rfl⟩
      rw [HW7.out] at HO HZ HR HF ⊢
      obtain ⟨s7, H7⟩ : ∃ s7, Hid (spS k s6 = s7) := ⟨_, rfl⟩
      rw [H7.out] at HR
      have HSB : Hid (B3 ≤ w7.heap.size) := (show _ ≤ _ by have := HF.out.size; have := HB3.out; omega)
      have HSL : Hid (sl.length ≤ 32) := (show _ ≤ _ by rw [HLV.out, spV_len]; exact hn)
      have K7 : Hid (Calls _ _ _ _ _) := readnums_x HR.out (by have := HAP.out; have := HSB.out; omega)
      go_wp2_with fail
      refine K7.out.mono ?_
      rintro e w8 ⟨pa, pc, pl, s8, rfl, S8, V8, ho8, hl8, hx8, h8, f8⟩
      have HO8 : Hid (OwnF w8 w7.heap.size 71 (.slice pa pl.length pc) pl) := ho8.out
      have HPX : Hid (pl.length ≤ 32 ∧ ∀ x ∈ pl, x < 18446744073709551616) := ⟨hl8, hx8⟩
      have HR8 : Hid (Rx w8 rb B s8) := h8
      have F8 : Hid (Fr (fun k => k = rb ∨ k = hb) W6 w8) := HF.out.trans (f8.mono (fun _ _ h => Or.inl h))
      have HZ8 : Hid (Z7 w8 hb (.int .u64 (a : Int)) (.int .u64 (q : Int)) (.int .u64 (p : Int)) (.slice ga g.length gc) (.slice sa sl.length sc) (.slice none 0 0) (.slice none 0 0)) := HZ.out.fr f8 (by have := HAP.out; omega)
      have HOS8 : Hid (OwnF w8 B3 75 (.slice sa sl.length sc) sl) := HO.out.fr f8 (fun k hk e => by have := HO.out.lt k hk; have := HAP.out; omega)
      have FS9 : Hid (Fr (fun k => k = hb) w8 (w8.setCell ⟨hb, 5, none⟩ (.slice pa pl.length pc))) := (Fr.refl (fun k => k = hb) w8).setCell (p := ⟨hb, 5, none⟩) (Or.inl rfl) _
      have HZ9 : Hid (Z7 (w8.setCell ⟨hb, 5, none⟩ (.slice pa pl.length pc)) hb (.int .u64 (a : Int)) (.int .u64 (q : Int)) (.int .u64 (p : Int)) (.slice ga g.length gc) (.slice sa sl.length sc) (.slice pa pl.length pc) (.slice none 0 0)) := HZ8.out.put5 _
      have HR9 : Hid (Rx (w8.setCell ⟨hb, 5, none⟩ (.slice pa pl.length pc)) rb B s8) := HR8.out.frB FS9.out (fun k e => by have := HAP.out; omega)
      have HOP9 : Hid (OwnF (w8.setCell ⟨hb, 5, none⟩ (.slice pa pl.length pc)) w7.heap.size 71 (.slice pa pl.length pc) pl) := HO8.out.fr FS9.out (fun k hk e => by have := HO8.out.lt k hk; have := HAP.out; have := HSB.out; omega)
      have HOS9 : Hid (OwnF (w8.setCell ⟨hb, 5, none⟩ (.slice pa pl.length pc)) B3 75 (.slice sa sl.length sc) sl) := HOS8.out.fr FS9.out (fun k hk e => by have := HOS8.out.lt k hk; have := HAP.out; omega)
      have F9 : Hid (Fr (fun k => k = rb ∨ k = hb) W6 (w8.setCell ⟨hb, 5, none⟩ (.slice pa pl.length pc))) := F8.out.trans (FS9.out.mono (fun _ _ h => Or.inr h))
      have K9 : Hid (Calls _ _ _ _ _) := bytes_x 257 HR9.out (by omega)
      have lc := HZ8.out.c5
      have lz := HZ8.out.z 5
      clear ho8 hl8 hx8 h8 f8 K7
      go_wp2_with fail
      refine K9.out.mono ?_
      rintro e wa ⟨da, dl, sA, rfl, hfr, VA, SA, hdl, hA, fA⟩
      have HFR : Hid (Fresh (w8.setCell ⟨hb, 5, none⟩ (.slice pa pl.length pc)) wa da dl) := hfr
      have HDL : Hid (dl.length ≤ 257) := hdl
      have HRa : Hid (Rx wa rb B sA) := hA
      have HZa : Hid (Z7 wa hb (.int .u64 (a : Int)) (.int .u64 (q : Int)) (.int .u64 (p : Int)) (.slice ga g.length gc) (.slice sa sl.length sc) (.slice pa pl.length pc) (.slice none 0 0)) := HZ9.out.fr fA (by have := HAP.out; omega)
      have HOPa : Hid (OwnF wa w7.heap.size 71 (.slice pa pl.length pc) pl) := HOP9.out.fr fA (fun k hk e => by have := HOP9.out.lt k hk; have := HAP.out; have := HSB.out; omega)
      have HOSa : Hid (OwnF wa B3 75 (.slice sa sl.length sc) sl) := HOS9.out.fr fA (fun k hk e => by have := HOS9.out.lt k hk; have := HAP.out; omega)
      have Fa : Hid (Fr (fun k => k = rb ∨ k = hb) W6 wa) := F9.out.trans (fA.mono (fun _ _ h => Or.inl h))
      have FSb : Hid (Fr (fun k => k = hb) wa (wa.setCell ⟨hb, 6, none⟩ (.slice da dl.length dl.length))) := (Fr.refl (fun k => k = hb) wa).setCell (p := ⟨hb, 6, none⟩) (Or.inl rfl) _
      have HZb : Hid (Z7 (wa.setCell ⟨hb, 6, none⟩ (.slice da dl.length dl.length)) hb (.int .u64 (a : Int)) (.int .u64 (q : Int)) (.int .u64 (p : Int)) (.slice ga g.length gc) (.slice sa sl.length sc) (.slice pa pl.length pc) (.slice da dl.length dl.length)) := HZa.out.put6 _
      have Fb : Hid (Fr (fun k => k = rb ∨ k = hb) W6 (wa.setCell ⟨hb, 6, none⟩ (.slice da dl.length dl.length))) := Fa.out.trans (FSb.out.mono (fun _ _ h => Or.inr h))
      have HRb : Hid (Rx (wa.setCell ⟨hb, 6, none⟩ (.slice da dl.length dl.length)) rb B sA) := HRa.out.frB FSb.out (fun k e => by have := HAP.out; omega)
      have HOPb : Hid (OwnF (wa.setCell ⟨hb, 6, none⟩ (.slice da dl.length dl.length)) w7.heap.size 71 (.slice pa pl.length pc) pl) := HOPa.out.fr FSb.out (fun k hk e => by have := HOPa.out.lt k hk; have := HAP.out; have := HSB.out; omega)
      have HOSb : Hid (OwnF (wa.setCell ⟨hb, 6, none⟩ (.slice da dl.length dl.length)) B3 75 (.slice sa sl.length sc) sl) := HOSa.out.fr FSb.out (fun k hk e => by have := HOSa.out.lt k hk; have := HAP.out; omega)
      have HOGb : Hid (OwnF (wa.setCell ⟨hb, 6, none⟩ (.slice da dl.length dl.length)) W3.heap.size 71 (.slice ga g.length gc) g) := HG6.out.fr Fb.out (fun k hk e => by have := HG6.out.lt k hk; have := HAP.out; omega)
      have HFRb : Hid (Row (wa.setCell ⟨hb, 6, none⟩ (.slice da dl.length dl.length)) da dl dl.length ∧ ∀ a, da = some a → hb < a.block) := ⟨FSb.out.row HFR.out.1 (fun _ a ha e => by have h9 := (HFR.out.2 a ha).1; have := F9.out.size; have := HAP.out; have := HB3.out; omega), fun a ha => by have h9 := (HFR.out.2 a ha).1; have := F9.out.size; have := HAP.out; have := HB3.out; omega⟩
      have FWb : Hid (Fr (fun k => k = rb ∨ k = hb) WA (wa.setCell ⟨hb, 6, none⟩ (.slice da dl.length dl.length))) := ((F3.out.mono (fun _ _ h => Or.inl h)).trans F6.out).trans Fb.out
      have HCb : Hid (Z7 (wa.setCell ⟨hb, 6, none⟩ (.slice da dl.length dl.length)) rc (.int .u64 0) (.int .u64 0) (.int .u64 0) (.slice none 0 0) (.slice none 0 0) (.slice none 0 0) (.slice none 0 0)) := HC2.out.fr FWb.out (by have := HAP.out; omega)
      have HST : Hid (sA = holdS s) := (show _ = _ by rw [SA.out, S8.out, ← H7.out, S6.out, EN.out, S4.out, S2.out, S1.out]; rfl)
      have HKEY : Hid (sA.bad = false → (⟨a, q, p, ga, g, gc, sa, sl, sc, pa, pl, pc, da, dl, dl.length⟩ : Hd).key = holdV s) := (show _ → _ by
        intro hbad
        have hby := HRB0.out
        rw [HST.out] at hbad
        have x1 := numS_byte s 8 hby
        have x2 := numS_byte (numS s 8) 8 x1
        have x3 : ∀ x ∈ (h3 s).l, x < 256 := numS_byte _ 8 x2
        have x4 := nums_byte (h3 s) x3
        have x5 := sps_byte _ x4
        have x6 := nums_byte _ x5
        obtain ⟨b6, _, _⟩ := byt_back _ 257 x6 hbad
        obtain ⟨b5, _, _⟩ := nums_back _ x5 b6
        obtain ⟨b4, _, _⟩ := sps_back _ x4 b5
        obtain ⟨b3, _, _⟩ := nums_back _ x3 b4
        obtain ⟨b2, _, _⟩ := num_back _ 8 x2 b3
        obtain ⟨v1, v2⟩ := V1.out (by rw [S1.out]; exact b2)
        unfold Hd.key holdV
        simp only [Prod.mk.injEq]
        refine ⟨v1, v2, by rw [E2.out, S1.out], by rw [V4.out, S2.out, S1.out]; rfl, by rw [HLV.out, S6.out, EN.out, S4.out, S2.out, S1.out]; rfl, by rw [V8.out, ← H7.out, S6.out, EN.out, S4.out, S2.out, S1.out]; rfl, by rw [VA.out, S8.out, ← H7.out, S6.out, EN.out, S4.out, S2.out, S1.out]; rfl⟩)
      obtain ⟨Wb, HWb⟩ : ∃ W, Hid (wa.setCell ⟨hb, 6, none⟩ (.slice da dl.length dl.length) = W) := ⟨_, rfl⟩
      rw [HWb.out] at HZb Fb HRb HOPb HOSb HOGb HFRb FWb HCb
      obtain ⟨bd, Hbd⟩ : ∃ bd, Hid (sA.bad = bd) := ⟨_, rfl⟩
      have KB : Hid (Calls _ _ _ _ _) := bad_x HRb.out
      rw [Hbd.out] at KB
      have lc2 := HZa.out.c6
      have lz2 := HZa.out.z 6
      clear hfr hdl hA fA K9 lc lz
      go_wp2_with fail
      rw [HWb.out]
      refine KB.out.mono ?_
      rintro e wc ⟨rfl, hwc⟩
      rw [hwc]
      clear hwc KB lc2 lz2
      have HFW : Hid (Fr (fun k => k = rb) w Wb) := (FA.out.mono (fun _ _ h => h.elim)).trans (⟨FWb.out.os, FWb.out.tape, FWb.out.output, FWb.out.size, fun k hk hs => FWb.out.block k hk (fun e => by rcases e with e | e; exact hs e; have := HAP.out; have := HSA.out; omega)⟩)
      cases bd with
      | true =>
        obtain ⟨⟨y0, y1, y2, y3, y4, y5, y6⟩, yz⟩ := HCb.out
        go_wp2
        obtain ⟨hq, fq⟩ := HCb.out.put7 (.int .u64 0) (.int .u64 0) (.int .u64 0) (.slice none 0 0) (.slice none 0 0) (.slice none 0 0) (.slice none 0 0)
        clear y0 y1 y2 y3 y4 y5 y6 yz
        refine bodyPost_ret (v := .agg #[.int .u64 0, .int .u64 0, .int .u64 0, .slice none 0 0, .slice none 0 0, .slice none 0 0, .slice none 0 0]) ?_ rfl ⟨dH, sA, rfl, HST, fun h => (by rw [Hbd.out] at h; cases h), ⟨⟨⟨Nat.le_refl _, Nat.zero_le _, by simp [dH], fun h => absurd rfl h⟩, ⟨Nat.le_refl _, Nat.zero_le _, by simp [dH], fun h => absurd rfl h⟩, ⟨Nat.le_refl _, Nat.zero_le _, by simp [dH], fun h => absurd rfl h⟩, row_nil _⟩, by simp [Hd.sh, dH], by simp [Hd.u, dH], ⟨fun h => absurd rfl h, fun h => absurd rfl h, fun h => absurd rfl h, fun h => absurd rfl h⟩⟩, HRb.out.frB fq (fun k e => by have := HAP.out; omega), HFW.out.trans' fq (fun i hi h => by have := HAP.out; omega)⟩
        revert hq
        generalize (((((((Wb.setCell _ _).setCell _ _).setCell _ _).setCell _ _).setCell _ _).setCell _ _).setCell _ _) = WQ
        intro hq
        obtain ⟨⟨d0, d1, d2, d3, d4, d5, d6⟩, _⟩ := hq
        simp [results, Try.results30, go_sem, *]
      | false =>
        obtain ⟨⟨y0, y1, y2, y3, y4, y5, y6⟩, yz⟩ := HCb.out
        obtain ⟨⟨x0, x1, x2, x3, x4, x5, x6⟩, xz⟩ := HZb.out
        go_wp2
        obtain ⟨hq, fq⟩ := HCb.out.put7 (.int .u64 (a : Int)) (.int .u64 (q : Int)) (.int .u64 (p : Int)) (.slice ga g.length gc) (.slice sa sl.length sc) (.slice pa pl.length pc) (.slice da dl.length dl.length)
        clear y0 y1 y2 y3 y4 y5 y6 yz x0 x1 x2 x3 x4 x5 x6 xz
        obtain ⟨gF, gB⟩ := OwnF.frow HOGb.out HGX.out.2
        obtain ⟨pF, pB⟩ := OwnF.frow HOPb.out HPX.out.2
        obtain ⟨sF, sB⟩ := OwnF.grow HOSb.out HX.out
        refine bodyPost_ret (v := .agg #[.int .u64 (a : Int), .int .u64 (q : Int), .int .u64 (p : Int), .slice ga g.length gc, .slice sa sl.length sc, .slice pa pl.length pc, .slice da dl.length dl.length]) ?_ rfl ⟨(⟨a, q, p, ga, g, gc, sa, sl, sc, pa, pl, pc, da, dl, dl.length⟩ : Hd), sA, rfl, HST, HKEY, ⟨⟨gF.fr fq (fun _ a ha e => by have := gB a ha; have := HAP.out; omega), sF.fr fq (fun _ a ha e => by have := sB a ha; have := HAP.out; omega), pF.fr fq (fun _ a ha e => by have := pB a ha; have := HAP.out; have := HSB.out; omega), fq.row HFRb.out.1 (fun _ a ha e => by have := HFRb.out.2 a ha; have := HAP.out; omega)⟩, ⟨by have := HGX.out.1; show g.length ≤ 1000; omega, by have := HSL.out; show sl.length ≤ 1000; omega, by have := HPX.out.1; show pl.length ≤ 1000; omega, by have := HDL.out; show dl.length ≤ 1000; omega⟩, ⟨HA1.out.1, HA1.out.2, HP2.out⟩, ⟨fun _ a ha => by have := gB a ha; have := HAP.out; omega, fun _ a ha => by have := sB a ha; have := HAP.out; omega, fun _ a ha => by have := pB a ha; have := HAP.out; have := HSB.out; omega, fun _ a ha => by have := HFRb.out.2 a ha; have := HAP.out; omega⟩⟩, HRb.out.frB fq (fun k e => by have := HAP.out; omega), HFW.out.trans' fq (fun i hi h => by have := HAP.out; omega)⟩
        revert hq
        generalize (((((((Wb.setCell _ _).setCell _ _).setCell _ _).setCell _ _).setCell _ _).setCell _ _).setCell _ _) = WQ
        intro hq
        obtain ⟨⟨d0, d1, d2, d3, d4, d5, d6⟩, _⟩ := hq
        simp [results, Try.results30, go_sem, *]
end Go.Proofs.Ytaalkhipncbjpaa
