/- The statement LogsMerges: its body. -/
import Derived.Test.YtkkpdnholnkeoabMgD
import Derived.Deep.QuietTactic
import Derived.BigQuiet
namespace Go.Proofs.Ytkkpdnholnkeoab
open Go.RowKit
set_option maxRecDepth 100000 in
set_option maxHeartbeats 32000000 in
theorem merges_walk (n : Nat) (a1 : Option Addr) (terms : List Nat) (c1 : Nat) (a2 : Option Addr) (kinds : List Nat) (c2 : Nat) (from_ turn : Nat) (a3 : Option Addr) (others : List Nat) (c3 : Nat) (w : World) (hn : n < 256) (hfr : from_ < 256) (htu : turn < 256) (h1 : Row w a1 terms c1) (h2 : Row w a2 kinds c2) (h3 : Row w a3 others c3) :
    Calls Try.prog 5 #[.int .u8 (n : Int), .slice a1 terms.length c1, .slice a2 kinds.length c2, .int .u8 (from_ : Int), .int .u8 (turn : Int), .slice a3 others.length c3] w fun e w' => e = .returned (.bool true) ∧ Fr (fun _ => False) w w' := by
  have HR1 : Hid (Row w a1 terms c1) := h1
  have HR2 : Hid (Row w a2 kinds c2) := h2
  have HR3 : Hid (Row w a3 others c3) := h3
  have hl3 : others.length ≤ 9223372036854775807 := by have := h3.1; have := h3.2.1; unfold maxLen at this; omega
  clear h1 h2 h3
  obtain ⟨nb, Hnb⟩ : ∃ nb, Hid (n % 7 = nb) := ⟨_, rfl⟩
  obtain ⟨nt, Hnt⟩ : ∃ nt, Hid (n % 2 = nt) := ⟨_, rfl⟩
  have hnb : nb ≤ 6 := by rw [← Hnb.out]; omega
  have hnt : nt ≤ 1 := by rw [← Hnt.out]; omega
  go_enter Try.func5, Try.ntmps5
  go_wp2_with fail
  refine (awake_any w).mono ?_
  rintro e w1 ⟨rfl, f1⟩
  have F1 : Hid (Fr (fun _ => False) w w1) := f1
  clear f1
  go_wp2_with fail
  refine (snap_any n w1 hn).mono ?_
  rintro e w2 ⟨rfl, f2⟩
  rw [Hnb.out, Hnt.out]
  have FX2 : Hid (Fr (fun _ => False) w1 w2) := f2
  obtain ⟨W, HW⟩ : ∃ W, Hid (W = w2.alloc (.cells #[.int .u64 (nb : Int), .int .u64 (nt : Int), .int .u64 (n : Int), .slice none 0 0] 26)) := ⟨_, rfl⟩
  have FW : Hid (Fr (fun _ => False) w W) := by show Fr _ _ _; rw [HW.out]; exact (F1.out.trans f2).alloc _
  obtain ⟨sb, Hsb⟩ : ∃ sb, Hid (w2.heap.size = sb) := ⟨_, rfl⟩
  have s0 : W.cell? ⟨sb, 0, none⟩ = some (.int .u64 (nb : Int)) := by rw [HW.out, ← Hsb.out]; simp
  have s1 : W.cell? ⟨sb, 1, none⟩ = some (.int .u64 (nt : Int)) := by rw [HW.out, ← Hsb.out]; simp
  have s2 : W.cell? ⟨sb, 2, none⟩ = some (.int .u64 (n : Int)) := by rw [HW.out, ← Hsb.out]; simp
  have s3 : W.cell? ⟨sb, 3, none⟩ = some (.slice none 0 0) := by rw [HW.out, ← Hsb.out]; simp
  have K := begun n hn a1 terms c1 a2 kinds c2 w W FW.out HR1.out HR2.out
  rw [Hnb.out, Hnt.out] at K
  have K : Hid (Calls _ _ _ _ _) := K
  clear f2
  go_wp2_with fail
  rw [← HW.out]
  refine K.out.mono ?_
  rintro e w3 ⟨ao, cap, es, rfl, hlen, hp, ho, f3, hord, hnew⟩
  rw [Hsb.out]
  have q0 := f3.cell s0 (by simp)
  have q1 := f3.cell s1 (by simp)
  have q2 := f3.cell s2 (by simp)
  have q3 := f3.cell s3 (by simp)
  have K3 : Hid (Calls _ _ _ _ _) := hnew w3 (.slice none 0 0) (Fr.refl _ _)
  have HO : Hid (OwnE w3 (fun k => W.heap.size ≤ k) (.slice ao es.length cap) es) := ho
  have F3 : Hid (Fr (fun _ => False) w w3) := FW.out.trans f3
  have HPE : Hid (es.map En.p = entsP nb terms kinds (min terms.length 30)) := hp
  have BW : Hid (Box26 W sb nb nt n) := by show Box26 _ _ _ _ _; rw [HW.out, ← Hsb.out]; exact Box26.new _ _ _ _
  have hsbW : Hid (sb < W.heap.size) := BW.out.lt
  have BX3 : Hid (Box26 w3 sb nb nt n) := BW.out.fr f3 (by simp)
  have HWs : Hid (w.heap.size ≤ sb) := by show _ ≤ sb; rw [← Hsb.out]; exact (F1.out.trans FX2.out).size
  have HW3s : Hid (W.heap.size ≤ w3.heap.size) := f3.size
  have HORD : Hid (inOrder nb nt es = true) := hord
  clear ho f3 hord hnew hp K s0 s1 s2 s3
  go_wp2_with fail
  refine K3.out.mono ?_
  rintro e w4 ⟨gb, v, ys, rfl, hgb, hg, hyp, f4⟩
  have F4 : Hid (Fr (fun _ => False) w w4) := F3.out.trans f4
  have BX : Hid (Box26 w4 sb nb nt n) := BX3.out.fr f4 (by simp)
  have HO4 : Hid (OwnE w4 (fun k => W.heap.size ≤ k ∧ k < w3.heap.size) (.slice ao es.length cap) es) := (HO.out.mono (fun k hk h => ⟨h, hk⟩)).fr f4 (by simp)
  have hyl : ys.length = es.length := by simpa using congrArg List.length hyp
  have HG : Hid (Lg w4 gb (fun k => w3.heap.size ≤ k ∧ k ≠ gb) nb nt n ys v) := hg
  have HYP : Hid (ys.map En.p = es.map En.p) := hyp
  have HYE : Hid (ys.map En.p = entsP nb terms kinds (min terms.length 30)) := hyp.trans HPE.out
  have HGB : Hid (w3.heap.size ≤ gb) := hgb
  have hL30 : es.length ≤ 30 := hlen
  have HYL : Hid (ys.length = es.length) := hyl
  obtain ⟨b0, b1, b2, b3, y0, y1, y2⟩ := BX.out
  clear hg hyp f4 hyl hlen q0 q1 q2 q3 hgb K3
  obtain ⟨K, HK⟩ : ∃ K : Nat, Hid ((from_ : Int) % ((es.length : Int) + 3) = (K : Int) ∧ (from_ : Int).tmod ((es.length : Int) + 3) = (K : Int) ∧ K ≤ 255) := ⟨from_ % (es.length + 3), by rw [Int.natCast_emod]; push_cast; rfl, by rw [Int.tmod_eq_emod_of_nonneg (by omega), Int.natCast_emod]; push_cast; rfl, by have := Nat.mod_le from_ (es.length + 3); omega⟩
  have eK := HK.out.1
  have eK2 := HK.out.2.1
  have hK := HK.out.2.2
  have hz3 : ¬ ((es.length : Int) + 3 = 0) := by omega
  obtain ⟨N, HNN⟩ : ∃ N : Nat, Hid (N = min others.length 12) := ⟨_, rfl⟩
  obtain ⟨tn, Htn⟩ : ∃ tn : Nat, Hid (turn % 8 = tn) := ⟨_, rfl⟩
  have HLG : Hid (Lg w4 gb (fun k => w3.heap.size ≤ k ∧ k ≠ gb) nb nt n ys v) := HG.out
  have HDP : Hid (∀ y ∈ es, y.d.length ≤ 1000000) := ents_d HPE.out
  have H34 : Hid (w3.heap.size ≤ w4.heap.size) := (show _ ≤ _ by have := HG.out.lt; have := HGB.out; omega)
  obtain ⟨b0, b1, b2, b3, y0, y1, y2⟩ := BX.out
  go_wp2_with fail
  clear b0 b1 b2 b3 y0 y1 y2
  go_loopw [18, 19] (fun cv iv wr => ∃ (k : Nat) (cs : List En) (ca : Option Addr) (cc : Nat), k ≤ N ∧ iv = .int .i64 (k : Int) ∧ cv = .slice ca cs.length cc ∧ Hid (cs.length = k) ∧ Hid (OwnE wr (fun j => w4.heap.size ≤ j ∨ (W.heap.size ≤ j ∧ j < w3.heap.size)) (.slice ca cs.length cc) cs) ∧ Hid (∀ j, j < k → (cs.getD j default).i = nb + K + j) ∧ Hid (∀ x ∈ cs, x.d.length ≤ 1000000) ∧ Hid (∀ j, (Value.slice ca cs.length cc).ownBlock = some j → w4.heap.size ≤ j) ∧ Hid (Fr (fun _ => False) w4 wr)) (fun _ iv _ => N - (intOf iv).toNat)
  case atStart => exact ⟨0, [], none, 0, Nat.zero_le _, rfl, rfl, rfl, OwnE.nil _ _, (fun j hj => absurd hj (by omega)), (by intro x hx; simp at hx), (fun j hj => by simp [Value.ownBlock] at hj), Fr.refl _ _⟩
  case round =>
    obtain ⟨k, cs, ca, cc, hk, rfl, rfl, HCL, HCO, HCI, HCD, HCB, HF⟩ := hrel
    by_cases hlt : k < others.length ∧ k < 12
    · have z1 : (k : Int) < (others.length : Int) := by omega
      have z2 : (k : Int) < 12 := by omega
      have z3 : (0 : Int) ≤ (k : Int) := by omega
      obtain ⟨b3, o3, hao3, hc3⟩ := ((F4.out.trans HF.out).row HR3.out (by simp)).2.2.2.2 (fun e => by rw [e] at hlt; simp at hlt)
      have hy := hc3 k hlt.1
      have hy256 : others.getD k 0 < 256 := HR3.out.2.2.1 _ (by rw [List.getD_eq_getElem?_getD, List.getElem?_eq_getElem hlt.1]; exact List.getElem_mem _)
      obtain ⟨o, Ho⟩ : ∃ o, Hid (others.getD k 0 = o) := ⟨_, rfl⟩
      rw [Ho.out] at hy hy256
      have HY : Hid (wr.cell? ⟨b3, o3 + k, none⟩ = some (.int .u8 (o : Int))) := hy
      obtain ⟨x0, x1, x2, x3, xy0, xy1, xy2⟩ := BX.out.fr HF.out (by simp)
      subst hao3
      obtain ⟨I, HI⟩ : ∃ I : Nat, Hid ((nb : Int) + ((K : Int) + (k : Int)) = (I : Int) ∧ I = nb + K + k) := ⟨nb + K + k, by push_cast; omega, rfl⟩
      obtain ⟨T, HT⟩ : ∃ T : Nat, Hid (50 + (o : Int) % 2 = (T : Int) ∧ T ≤ 51) := ⟨50 + o % 2, by push_cast; rfl, by omega⟩
      obtain ⟨r2, Hr2⟩ : ∃ r2 : Nat, Hid ((o : Int).tmod 2 = (r2 : Int) ∧ 50 + (r2 : Int) = (T : Int) ∧ r2 ≤ 1) := ⟨o % 2, by rw [Int.tmod_eq_emod_of_nonneg (by omega)]; omega, by have := HT.out.1; omega, by omega⟩
      have hr1 := Hr2.out.1
      have hr2 := Hr2.out.2.1
      have hT51 := HT.out.2
      have hw1 : IntKind.u64.wrap (r2 : Int) = (r2 : Int) := by unfold IntKind.wrap; simp [IntKind.bits, IntKind.signed]; have := Hr2.out.2.2; omega
      have hw2 : IntKind.u64.wrap (T : Int) = (T : Int) := by unfold IntKind.wrap; simp [IntKind.bits, IntKind.signed]; omega
      have HLT : Hid (k < others.length ∧ k < 12) := hlt
      have HKL : Hid (k < N) := (show _ < _ by have := HNN.out; omega)
      clear hc3 hy
      go_wp2_with fail
      rw [HI.out.1]
      clear x0 x1 x2 x3 xy0 xy1 xy2
      refine wp_region_held_drew (S := (fun W : World => W.cell? ⟨b3, o3 + k, none⟩ = some (.int .u8 (o : Int)))) (by kernel_rfl) (Fr.cell ((Fr.refl (fun _ => False) wr).drew) HY.out (by simp)) (fun hHeld => ?_)
      refine wpAnyH_take (i := 0) (oi := _) (v := ?_) (by rw [List.getElem?_toArray]; rfl) (by kernel_rfl) (by kernel_rfl) (by kernel_rfl) (fun _ _ _ h => by exact h) (Or.inl ⟨by rfl, ?_⟩) (by assumption) ?_
      rotate_left
      · (intro w hSw; (try dsimp only at hSw); go_simp; (try with_reducible rfl))
      try simp only [Act.put, List.setIfInBounds_toArray, List.set_cons_zero, List.set_cons_succ]
      refine wpAnyH_take (i := 1) (oi := _) (v := ?_) (by rw [List.getElem?_toArray]; rfl) (by kernel_rfl) (by kernel_rfl) (by kernel_rfl) (fun _ _ _ h => by exact h) (Or.inl ⟨by rfl, ?_⟩) (by assumption) ?_
      rotate_left
      · (intro w hSw; (try dsimp only at hSw); go_simp; (try with_reducible rfl))
      try simp only [Act.put, List.setIfInBounds_toArray, List.set_cons_zero, List.set_cons_succ]
      refine wpAnyH_take (i := 2) (oi := _) (v := ?_) (by rw [List.getElem?_toArray]; rfl) (by kernel_rfl) (by kernel_rfl) (by kernel_rfl) (fun _ _ _ h => by exact h) (Or.inl ⟨by rfl, ?_⟩) (by assumption) ?_
      rotate_left
      · (intro w hSw; (try dsimp only at hSw); go_simp; (try with_reducible rfl))
      try simp only [Act.put, List.setIfInBounds_toArray, List.set_cons_zero, List.set_cons_succ]
      refine wpAnyH_take (i := 3) (oi := _) (v := ?_) (by rw [List.getElem?_toArray]; rfl) (by kernel_rfl) (by kernel_rfl) (by kernel_rfl) (fun _ _ _ h => by exact h) (Or.inl ⟨by rfl, ?_⟩) (by assumption) ?_
      rotate_left
      · (intro w hSw; (try dsimp only at hSw); go_simp; (try with_reducible rfl))
      try simp only [Act.put, List.setIfInBounds_toArray, List.set_cons_zero, List.set_cons_succ]
      refine wpAnyH_take (i := 4) (oi := _) (v := ?_) (by rw [List.getElem?_toArray]; rfl) (by kernel_rfl) (by kernel_rfl) (by kernel_rfl) (fun _ _ _ h => by exact h) (Or.inl ⟨by rfl, ?_⟩) (by assumption) ?_
      rotate_left
      · (intro w hSw; (try dsimp only at hSw); have q0 := hSw; go_simp; (try with_reducible rfl))
      try simp only [Act.put, List.setIfInBounds_toArray, List.set_cons_zero, List.set_cons_succ]
      refine wpAnyH_take (i := 5) (oi := _) (v := ?_) (by rw [List.getElem?_toArray]; rfl) (by kernel_rfl) (by kernel_rfl) (by kernel_rfl) (fun _ _ _ h => by exact h) (Or.inl ⟨by rfl, ?_⟩) (by assumption) ?_
      rotate_left
      · (intro w hSw; (try dsimp only at hSw); go_simp; (try with_reducible rfl))
      try simp only [Act.put, List.setIfInBounds_toArray, List.set_cons_zero, List.set_cons_succ]
      refine wpAnyH_take (i := 6) (oi := _) (v := ?_) (by rw [List.getElem?_toArray]; rfl) (by kernel_rfl) (by kernel_rfl) (by kernel_rfl) (fun _ _ _ h => by exact h) (Or.inl ⟨by rfl, ?_⟩) (by assumption) ?_
      rotate_left
      · (intro w hSw; (try dsimp only at hSw); go_simp; (try with_reducible rfl))
      try simp only [Act.put, List.setIfInBounds_toArray, List.set_cons_zero, List.set_cons_succ]
      refine wpAnyH_take (i := 7) (oi := _) (v := ?_) (by rw [List.getElem?_toArray]; rfl) (by kernel_rfl) (by kernel_rfl) (by kernel_rfl) (fun _ _ _ h => by exact h) (Or.inl ⟨by rfl, ?_⟩) (by assumption) ?_
      rotate_left
      · (intro w hSw; (try dsimp only at hSw); go_simp; (try with_reducible rfl))
      try simp only [Act.put, List.setIfInBounds_toArray, List.set_cons_zero, List.set_cons_succ]
      refine wpAnyH_take (i := 8) (oi := _) (v := ?_) (by rw [List.getElem?_toArray]; rfl) (by kernel_rfl) (by kernel_rfl) (by kernel_rfl) (fun _ _ _ h => by exact h) (Or.inl ⟨by rfl, ?_⟩) (by assumption) ?_
      rotate_left
      · (intro w hSw; (try dsimp only at hSw); go_simp; (try with_reducible rfl))
      try simp only [Act.put, List.setIfInBounds_toArray, List.set_cons_zero, List.set_cons_succ]
      refine wpAnyH_take (i := 9) (oi := _) (v := ?_) (by rw [List.getElem?_toArray]; rfl) (by kernel_rfl) (by kernel_rfl) (by kernel_rfl) (fun _ _ _ h => by exact h) (Or.inl ⟨by rfl, ?_⟩) (by assumption) ?_
      rotate_left
      · (intro w hSw; (try dsimp only at hSw); go_simp; (try with_reducible rfl))
      try simp only [Act.put, List.setIfInBounds_toArray, List.set_cons_zero, List.set_cons_succ]
      refine wpAnyH_take (i := 10) (oi := _) (v := ?_) (by rw [List.getElem?_toArray]; rfl) (by kernel_rfl) (by kernel_rfl) (by kernel_rfl) (fun _ _ _ h => by exact h) (Or.inl ⟨by rfl, ?_⟩) (by assumption) ?_
      rotate_left
      · (intro w hSw; (try dsimp only at hSw); go_simp; (try with_reducible rfl))
      try simp only [Act.put, List.setIfInBounds_toArray, List.set_cons_zero, List.set_cons_succ]
      refine wpAnyH_take (i := 11) (oi := _) (v := ?_) (by rw [List.getElem?_toArray]; rfl) (by kernel_rfl) (by kernel_rfl) (by kernel_rfl) (fun _ _ _ h => by exact h) (Or.inl ⟨by rfl, ?_⟩) (by assumption) ?_
      rotate_left
      · (intro w hSw; (try dsimp only at hSw); have q0 := hSw; go_simp; (try with_reducible rfl))
      try simp only [Act.put, List.setIfInBounds_toArray, List.set_cons_zero, List.set_cons_succ]
      refine wpAnyH_ready (rs := [12, 14]) (by kernel_rfl) (by simp) ?_
      refine AllReadyH.cons (o := _) (by rw [List.getElem?_toArray]; rfl) (fun K hK => ?_) ?_
      · go_simp
        have GA : Hid (Fr (fun _ => False) wr (wr.drew.alloc (.cells #[.int .u8 (o : Int)] 5))) := ((Fr.refl (fun _ => False) wr).drew).alloc _
        refine hK.out _ _ (Fr.cell GA.out HY.out (by simp)) (fun hHeld => ?_)
        clear hK K
        try simp only [Act.put, List.setIfInBounds_toArray, List.set_cons_zero, List.set_cons_succ]
        refine wpAnyH_take (i := 13) (oi := _) (v := ?_) (by rw [List.getElem?_toArray]; rfl) (by kernel_rfl) (by kernel_rfl) (by kernel_rfl) (fun _ _ _ h => by exact h) (Or.inl ⟨by rfl, ?_⟩) (by assumption) ?_
        rotate_left
        · (intro w hSw; (try dsimp only at hSw); go_simp; (try with_reducible rfl))
        try simp only [Act.put, List.setIfInBounds_toArray, List.set_cons_zero, List.set_cons_succ]
        refine wpAnyH_ready (rs := [14]) (by kernel_rfl) (by simp) ?_
        refine AllReadyH.cons (o := _) (by rw [List.getElem?_toArray]; rfl) (fun K hK => ?_) ?_
        · go_simp
          have GB : Hid (Fr (fun _ => False) wr ((wr.drew.alloc (.cells #[.int .u8 (o : Int)] 5)).alloc (.cells #[.int .u64 0, .int .u64 0, .int .u8 0, .slice none 0 0] 36))) := GA.out.alloc _
          refine hK.out _ _ (Fr.cell GB.out HY.out (by simp)) (fun hHeld => ?_)
          clear hK K
          try simp only [Act.put, List.setIfInBounds_toArray, List.set_cons_zero, List.set_cons_succ]
          refine wpAnyH_ready (rs := [15]) (by kernel_rfl) (by simp) ?_
          refine AllReadyH.cons (o := _) (by rw [List.getElem?_toArray]; rfl) (fun K hK => ?_) ?_
          · go_simp
            refine hK.out _ _ (Fr.cell (((Fr.refl (fun _ => False) wr).alloc _).alloc _).drew HY.out (by simp)) (fun hHeld => ?_)
            clear hK K
            try simp only [Act.put, List.setIfInBounds_toArray, List.set_cons_zero, List.set_cons_succ]
            refine wpAnyH_done (by kernel_rfl) ?_ _
            obtain ⟨WX, HWX⟩ : ∃ W, Hid (W = (((wr.alloc (.cells #[.int .u8 (o : Int)] 5)).alloc (.cells #[.int .u64 (I : Int), .int .u64 (T : Int), .int .u8 0, .slice (some ⟨wr.heap.size, 0, none⟩) 1 1] 36)).drew)) := ⟨_, rfl⟩
            have FX : Hid (Fr (fun _ => False) wr WX) := (show Fr _ _ _ by rw [HWX.out]; exact (((Fr.refl _ _).alloc _).alloc _).drew)
            have BXN0 : Hid (Box4 WX (wr.heap.size + 1) I T 0 (.slice (some ⟨wr.heap.size, 0, none⟩) 1 1)) := (show Box4 _ _ _ _ _ _ by rw [HWX.out]; refine Box4.fr ?_ ((Fr.refl (fun _ => False) _).drew) (by simp); constructor <;> simp)
            have HRD0 : Hid (Row WX (some ⟨wr.heap.size, 0, none⟩) [o] 1) := (show Row _ _ _ _ by rw [HWX.out]; exact ⟨by simp, by unfold maxLen; simp, by simp; exact hy256, by simp, fun _ => ⟨wr.heap.size, 0, rfl, fun i hi => by
                have : i = 0 := by simpa using hi
                subst this
                simp⟩⟩)
            obtain ⟨da, Hda⟩ : ∃ d, Hid (wr.heap.size = d) := ⟨_, rfl⟩
            obtain ⟨bx, Hbx⟩ : ∃ d, Hid (wr.heap.size + 1 = d) := ⟨_, rfl⟩
            have HDA : Hid (wr.heap.size ≤ da ∧ wr.heap.size ≤ bx) := ⟨by have := Hda.out; omega, by have := Hbx.out; omega⟩
            have BXN : Hid (Box4 WX bx I T 0 (.slice (some ⟨da, 0, none⟩) 1 1)) := (show Box4 _ _ _ _ _ _ by have h := BXN0.out; rw [Hbx.out] at h; rw [Hda.out] at h; exact h)
            have HRD : Hid (Row WX (some ⟨da, 0, none⟩) [o] 1) := (show Row _ _ _ _ by have h := HRD0.out; rw [Hda.out] at h; exact h)
            rw [← HWX.out]
            rw [Hbx.out]
            clear BXN0 HRD0 hHeld HWX Hda Hbx
            as_aux_lemma =>
              have ht1 : (turn : Int) % 8 = (tn : Int) := by have := Htn.out; omega
              have ht2 : (turn : Int).tmod 8 = (tn : Int) := by rw [Int.tmod_eq_emod_of_nonneg (by omega)]; exact ht1
              by_cases hKk : K + k = 0
              · have hj : (K : Int) + (k : Int) - 1 = -1 := by omega
                obtain ⟨WY, HWY⟩ : ∃ W, Hid (W = WX) := ⟨_, rfl⟩
                rw [← HWY.out] at FX BXN HRD ⊢
                clear HWY
                have FXY : Hid (Fr (fun _ => False) wr WY) := FX.out
                obtain ⟨q0, q1, q2, q3, qz0, qz1, qz2, qz3⟩ := BXN.out
                have FAL : Hid (Fr (fun _ => False) WY (WY.alloc (.cells #[.int .u64 ((⟨I, T, 0, [o], some ⟨da, 0, none⟩, 1⟩ : En).i : Int), .int .u64 ((⟨I, T, 0, [o], some ⟨da, 0, none⟩, 1⟩ : En).t : Int), .int .u8 ((⟨I, T, 0, [o], some ⟨da, 0, none⟩, 1⟩ : En).k : Int), .slice (⟨I, T, 0, [o], some ⟨da, 0, none⟩, 1⟩ : En).a (⟨I, T, 0, [o], some ⟨da, 0, none⟩, 1⟩ : En).d.length (⟨I, T, 0, [o], some ⟨da, 0, none⟩, 1⟩ : En).c] 36))) := (Fr.refl _ _).alloc _
                have HCY : Hid (OwnE (WY.alloc (.cells #[.int .u64 ((⟨I, T, 0, [o], some ⟨da, 0, none⟩, 1⟩ : En).i : Int), .int .u64 ((⟨I, T, 0, [o], some ⟨da, 0, none⟩, 1⟩ : En).t : Int), .int .u8 ((⟨I, T, 0, [o], some ⟨da, 0, none⟩, 1⟩ : En).k : Int), .slice (⟨I, T, 0, [o], some ⟨da, 0, none⟩, 1⟩ : En).a (⟨I, T, 0, [o], some ⟨da, 0, none⟩, 1⟩ : En).d.length (⟨I, T, 0, [o], some ⟨da, 0, none⟩, 1⟩ : En).c] 36)) (fun j => w4.heap.size ≤ j ∨ (W.heap.size ≤ j ∧ j < w3.heap.size)) (.slice ca cs.length cc) cs) := (HCO.out.fr FXY.out (by simp)).fr FAL.out (by simp)
                have HOC : Hid (∀ j u, (flat [(⟨I, T, 0, [o], some ⟨da, 0, none⟩, 1⟩ : En)])[j]? = some u → (WY.alloc (.cells #[.int .u64 ((⟨I, T, 0, [o], some ⟨da, 0, none⟩, 1⟩ : En).i : Int), .int .u64 ((⟨I, T, 0, [o], some ⟨da, 0, none⟩, 1⟩ : En).t : Int), .int .u8 ((⟨I, T, 0, [o], some ⟨da, 0, none⟩, 1⟩ : En).k : Int), .slice (⟨I, T, 0, [o], some ⟨da, 0, none⟩, 1⟩ : En).a (⟨I, T, 0, [o], some ⟨da, 0, none⟩, 1⟩ : En).d.length (⟨I, T, 0, [o], some ⟨da, 0, none⟩, 1⟩ : En).c] 36)).cell? ((⟨WY.heap.size, 0, none⟩ : Addr).add j) = some u) := one_cells WY (⟨I, T, 0, [o], some ⟨da, 0, none⟩, 1⟩ : En)
                have HEX : Hid (∀ x0 ∈ [(⟨I, T, 0, [o], some ⟨da, 0, none⟩, 1⟩ : En)], EG (WY.alloc (.cells #[.int .u64 ((⟨I, T, 0, [o], some ⟨da, 0, none⟩, 1⟩ : En).i : Int), .int .u64 ((⟨I, T, 0, [o], some ⟨da, 0, none⟩, 1⟩ : En).t : Int), .int .u8 ((⟨I, T, 0, [o], some ⟨da, 0, none⟩, 1⟩ : En).k : Int), .slice (⟨I, T, 0, [o], some ⟨da, 0, none⟩, 1⟩ : En).a (⟨I, T, 0, [o], some ⟨da, 0, none⟩, 1⟩ : En).d.length (⟨I, T, 0, [o], some ⟨da, 0, none⟩, 1⟩ : En).c] 36)) (fun j => (w4.heap.size ≤ j ∨ (W.heap.size ≤ j ∧ j < w3.heap.size)) ∧ (Value.slice ca cs.length cc).ownBlock ≠ some j) x0) := fun x0 hx0 => by
                    rw [List.mem_singleton] at hx0
                    subst hx0
                    refine ⟨?_, ?_, ?_, ?_, ?_⟩
                    · have := HI.out.2; have := HK.out.2.2; have := HLT.out.2; show I < _; omega
                    · have := HT.out.2; show T < _; omega
                    · show 0 < 256; omega
                    · exact FAL.out.row HRD.out (by simp)
                    · intro _ a ha; cases ha; exact ⟨Or.inl (Nat.le_trans HF.out.size HDA.out.1), fun e => by have h1 : da < wr.heap.size := HCO.out.lt _ e; have := HDA.out.1; omega⟩
                have HSY : Hid (w4.heap.size ≤ (WY.alloc (.cells #[.int .u64 ((⟨I, T, 0, [o], some ⟨da, 0, none⟩, 1⟩ : En).i : Int), .int .u64 ((⟨I, T, 0, [o], some ⟨da, 0, none⟩, 1⟩ : En).t : Int), .int .u8 ((⟨I, T, 0, [o], some ⟨da, 0, none⟩, 1⟩ : En).k : Int), .slice (⟨I, T, 0, [o], some ⟨da, 0, none⟩, 1⟩ : En).a (⟨I, T, 0, [o], some ⟨da, 0, none⟩, 1⟩ : En).d.length (⟨I, T, 0, [o], some ⟨da, 0, none⟩, 1⟩ : En).c] 36)).heap.size) := Nat.le_trans (HF.out.trans FXY.out).size FAL.out.size
                go_wp2_with (at_builtin; refine wpList_append_ents rfl (.tmp 103) (.tmp 105) rfl (fun j => w4.heap.size ≤ j ∨ (W.heap.size ≤ j ∧ j < w3.heap.size)) _ cs rfl HCY.out ⟨WY.heap.size, 0, none⟩ [(⟨I, T, 0, [o], some ⟨da, 0, none⟩, 1⟩ : En)] 1 rfl HOC.out HEX.out (fun j hj => Or.inl (Nat.le_trans HSY.out hj)) (by have := HCL.out; have := HLT.out.2; simp; omega) ?_)
                intro v7 w7 ho7 hg7 hat7
                obtain ⟨a7, c7, hv7, _⟩ := ho7.form
                subst hv7
                obtain ⟨zs, Hzs⟩ : ∃ zs, Hid (cs ++ [(⟨I, T, 0, [o], some ⟨da, 0, none⟩, 1⟩ : En)] = zs) := ⟨_, rfl⟩
                rw [Hzs.out] at ho7 hat7
                have HO7 : Hid (OwnE w7 (fun j => w4.heap.size ≤ j ∨ (W.heap.size ≤ j ∧ j < w3.heap.size)) (.slice a7 zs.length c7) zs) := ho7
                have HF7 : Hid (Fr (fun _ => False) w4 w7) := ((HF.out.trans FXY.out).trans FAL.out).trans' (Fr.grown (S := fun j => (Value.slice ca cs.length cc).ownBlock = some j) (Fr.refl _ _) hg7 (fun j hj => .inl hj)) (fun j hj e => by have := HCB.out j e; omega)
                have HB7 : Hid (∀ j, (Value.slice a7 zs.length c7).ownBlock = some j → w4.heap.size ≤ j) := fun j hj => by
                    rcases hat7 with e | e
                    · exact HCB.out j (by rw [← e]; exact hj)
                    · rw [e] at hj; cases hj; have h2 := HSY.out; simpa using h2
                have HZL : Hid (zs.length = k + 1) := (show _ = _ by rw [← Hzs.out, List.length_append, HCL.out]; rfl)
                rw [Hzs.out]
                clear ho7 hg7 hat7
                go_wp2
                go_roundw
                case rel => exact ⟨k + 1, zs, a7, c7, by have := HKL.out; omega, by go_num, rfl, HZL, HO7, (fun j hj => by
                    rw [← Hzs.out]
                    by_cases hjk : j < k
                    · rw [show (cs ++ [(⟨I, T, 0, [o], some ⟨da, 0, none⟩, 1⟩ : En)]).getD j default = cs.getD j default by simp [List.getD_eq_getElem?_getD, List.getElem?_append_left (show j < cs.length by rw [HCL.out]; exact hjk)]]
                      exact HCI.out j hjk
                    · have hj2 : j = k := by omega
                      subst hj2
                      rw [show (cs ++ [(⟨I, T, 0, [o], some ⟨da, 0, none⟩, 1⟩ : En)]).getD j default = (⟨I, T, 0, [o], some ⟨da, 0, none⟩, 1⟩ : En) by have := HCL.out; simp [List.getD_eq_getElem?_getD, ← this]]
                      exact HI.out.2), (fun y hy => by
                    rw [← Hzs.out] at hy
                    rcases List.mem_append.1 hy with h | h
                    · exact HCD.out y h
                    · rw [List.mem_singleton] at h
                      subst h
                      exact (by show 1 ≤ 1000000; omega)), HB7, HF7⟩
                case measure => have := HKL.out; simp [intOf]; omega
              · obtain ⟨q, Hq⟩ : ∃ q : Nat, Hid (K + k = q + 1) := ⟨K + k - 1, by show _ = _; omega⟩
                have hj : (K : Int) + (k : Int) - 1 = (q : Int) := by have := Hq.out; omega
                by_cases hqL : q < es.length
                · have e1 : (q : Int) < (es.length : Int) := by omega
                  by_cases hkt : k < tn
                  · have e3 : (k : Int) < (tn : Int) := by omega
                    obtain ⟨q0, q1, q2, q3, qz0, qz1, qz2, qz3⟩ := BXN.out
                    obtain ⟨eb, eo, x, hao, _, l0, l1, l2, l3, gx, Hx⟩ := (HO4.out.erow.fr (HF.out.trans FX.out) (by simp) (by simp)).at hqL
                    have HXI : Hid (x.i = nb + K + k) := (show _ = _ by have h1 := ents_ix HPE.out q hqL; rw [← Hx.out] at h1; have := Hq.out; omega)
                    have HXD : Hid (x.d.length ≤ 1000000) := HDP.out x (by rw [Hx.out, List.getD_eq_getElem?_getD, List.getElem?_eq_getElem hqL]; exact List.getElem_mem _)
                    have HGX : Hid (EG WX _ x) := gx
                    have fset := BXN.out.set x.i x.t x.k (.slice x.a x.d.length x.c)
                    obtain ⟨WY, HWY⟩ : ∃ W, Hid (W = (((WX.setCell ⟨bx, 0, none⟩ (.int .u64 (x.i : Int))).setCell ⟨bx, 1, none⟩ (.int .u64 (x.t : Int))).setCell ⟨bx, 2, none⟩ (.int .u8 (x.k : Int))).setCell ⟨bx, 3, none⟩ (.slice x.a x.d.length x.c)) := ⟨_, rfl⟩
                    have FS : Hid (Fr (fun j => j = bx) WX WY) := (show Fr _ _ _ by rw [HWY.out]; exact ((((Fr.refl (fun j => j = bx) WX).setCell (p := ⟨bx, 0, none⟩) (Or.inl rfl) _).setCell (p := ⟨bx, 1, none⟩) (Or.inl rfl) _).setCell (p := ⟨bx, 2, none⟩) (Or.inl rfl) _).setCell (p := ⟨bx, 3, none⟩) (Or.inl rfl) _)
                    have FXY : Hid (Fr (fun _ => False) wr WY) := FX.out.trans' FS.out (fun j hj e => by have := HDA.out.2; omega)
                    have BYN : Hid (Box4 WY bx x.i x.t x.k (.slice x.a x.d.length x.c)) := (show Box4 _ _ _ _ _ _ by rw [HWY.out]; exact fset)
                    have HGY : Hid (EG WY (fun j => W.heap.size ≤ j ∧ j < w3.heap.size) x) := HGX.out.fr FS.out (fun j hj e => by have := HDA.out.2; have := HF.out.size; have := H34.out; omega)
                    obtain ⟨t0, t1, t2, t3, tz0, tz1, tz2, tz3⟩ := BYN.out
                    rw [HWY.out] at t0 t1 t2 t3
                    subst hao
                    clear gx fset tz0 tz1 tz2 tz3
                    have e1 : (0 : Int) ≤ (q : Int) := by omega
                    have e2 : (q : Int) < (es.length : Int) := by omega
                    have FAL : Hid (Fr (fun _ => False) WY (WY.alloc (.cells #[.int .u64 (x.i : Int), .int .u64 (x.t : Int), .int .u8 (x.k : Int), .slice x.a x.d.length x.c] 36))) := (Fr.refl _ _).alloc _
                    have HCY : Hid (OwnE (WY.alloc (.cells #[.int .u64 (x.i : Int), .int .u64 (x.t : Int), .int .u8 (x.k : Int), .slice x.a x.d.length x.c] 36)) (fun j => w4.heap.size ≤ j ∨ (W.heap.size ≤ j ∧ j < w3.heap.size)) (.slice ca cs.length cc) cs) := (HCO.out.fr FXY.out (by simp)).fr FAL.out (by simp)
                    have HOC : Hid (∀ j u, (flat [x])[j]? = some u → (WY.alloc (.cells #[.int .u64 (x.i : Int), .int .u64 (x.t : Int), .int .u8 (x.k : Int), .slice x.a x.d.length x.c] 36)).cell? ((⟨WY.heap.size, 0, none⟩ : Addr).add j) = some u) := one_cells WY x
                    have HEX : Hid (∀ x0 ∈ [x], EG (WY.alloc (.cells #[.int .u64 (x.i : Int), .int .u64 (x.t : Int), .int .u8 (x.k : Int), .slice x.a x.d.length x.c] 36)) (fun j => (w4.heap.size ≤ j ∨ (W.heap.size ≤ j ∧ j < w3.heap.size)) ∧ (Value.slice ca cs.length cc).ownBlock ≠ some j) x0) := fun x0 hx0 => by
                        rw [List.mem_singleton] at hx0
                        subst hx0
                        exact (HGY.out.fr FAL.out (by simp)).mono (fun j _ hj => ⟨Or.inr hj, fun e => by have := HCB.out j e; have := H34.out; omega⟩)
                    have HSY : Hid (w4.heap.size ≤ (WY.alloc (.cells #[.int .u64 (x.i : Int), .int .u64 (x.t : Int), .int .u8 (x.k : Int), .slice x.a x.d.length x.c] 36)).heap.size) := Nat.le_trans (HF.out.trans FXY.out).size FAL.out.size
                    have hsz : WY.heap.size = WX.heap.size := by rw [HWY.out]; simp
                    rw [hsz] at HOC
                    clear hsz
                    go_wp2_with (at_builtin; rw [← HWY.out]; refine wpList_append_ents rfl (.tmp 103) (.tmp 105) rfl (fun j => w4.heap.size ≤ j ∨ (W.heap.size ≤ j ∧ j < w3.heap.size)) _ cs rfl HCY.out ⟨WX.heap.size, 0, none⟩ [x] 1 rfl HOC.out HEX.out (fun j hj => Or.inl (Nat.le_trans HSY.out hj)) (by have := HCL.out; have := HLT.out.2; simp; omega) ?_)
                    intro v7 w7 ho7 hg7 hat7
                    obtain ⟨a7, c7, hv7, _⟩ := ho7.form
                    subst hv7
                    obtain ⟨zs, Hzs⟩ : ∃ zs, Hid (cs ++ [x] = zs) := ⟨_, rfl⟩
                    rw [Hzs.out] at ho7 hat7
                    have HO7 : Hid (OwnE w7 (fun j => w4.heap.size ≤ j ∨ (W.heap.size ≤ j ∧ j < w3.heap.size)) (.slice a7 zs.length c7) zs) := ho7
                    have HF7 : Hid (Fr (fun _ => False) w4 w7) := ((HF.out.trans FXY.out).trans FAL.out).trans' (Fr.grown (S := fun j => (Value.slice ca cs.length cc).ownBlock = some j) (Fr.refl _ _) hg7 (fun j hj => .inl hj)) (fun j hj e => by have := HCB.out j e; omega)
                    have HB7 : Hid (∀ j, (Value.slice a7 zs.length c7).ownBlock = some j → w4.heap.size ≤ j) := fun j hj => by
                        rcases hat7 with e | e
                        · exact HCB.out j (by rw [← e]; exact hj)
                        · rw [e] at hj; cases hj; have h2 := HSY.out; simpa using h2
                    have HZL : Hid (zs.length = k + 1) := (show _ = _ by rw [← Hzs.out, List.length_append, HCL.out]; rfl)
                    rw [Hzs.out]
                    clear ho7 hg7 hat7
                    go_wp2
                    go_roundw
                    case rel => exact ⟨k + 1, zs, a7, c7, by have := HKL.out; omega, by go_num, rfl, HZL, HO7, (fun j hj => by
                        rw [← Hzs.out]
                        by_cases hjk : j < k
                        · rw [show (cs ++ [x]).getD j default = cs.getD j default by simp [List.getD_eq_getElem?_getD, List.getElem?_append_left (show j < cs.length by rw [HCL.out]; exact hjk)]]
                          exact HCI.out j hjk
                        · have hj2 : j = k := by omega
                          subst hj2
                          rw [show (cs ++ [x]).getD j default = x by have := HCL.out; simp [List.getD_eq_getElem?_getD, ← this]]
                          exact HXI.out), (fun y hy => by
                        rw [← Hzs.out] at hy
                        rcases List.mem_append.1 hy with h | h
                        · exact HCD.out y h
                        · rw [List.mem_singleton] at h
                          subst h
                          exact HXD.out), HB7, HF7⟩
                    case measure => have := HKL.out; simp [intOf]; omega
                  · have e3 : ¬ (k : Int) < (tn : Int) := by omega
                    obtain ⟨WY, HWY⟩ : ∃ W, Hid (W = WX) := ⟨_, rfl⟩
                    rw [← HWY.out] at FX BXN HRD ⊢
                    clear HWY
                    have FXY : Hid (Fr (fun _ => False) wr WY) := FX.out
                    obtain ⟨q0, q1, q2, q3, qz0, qz1, qz2, qz3⟩ := BXN.out
                    have FAL : Hid (Fr (fun _ => False) WY (WY.alloc (.cells #[.int .u64 ((⟨I, T, 0, [o], some ⟨da, 0, none⟩, 1⟩ : En).i : Int), .int .u64 ((⟨I, T, 0, [o], some ⟨da, 0, none⟩, 1⟩ : En).t : Int), .int .u8 ((⟨I, T, 0, [o], some ⟨da, 0, none⟩, 1⟩ : En).k : Int), .slice (⟨I, T, 0, [o], some ⟨da, 0, none⟩, 1⟩ : En).a (⟨I, T, 0, [o], some ⟨da, 0, none⟩, 1⟩ : En).d.length (⟨I, T, 0, [o], some ⟨da, 0, none⟩, 1⟩ : En).c] 36))) := (Fr.refl _ _).alloc _
                    have HCY : Hid (OwnE (WY.alloc (.cells #[.int .u64 ((⟨I, T, 0, [o], some ⟨da, 0, none⟩, 1⟩ : En).i : Int), .int .u64 ((⟨I, T, 0, [o], some ⟨da, 0, none⟩, 1⟩ : En).t : Int), .int .u8 ((⟨I, T, 0, [o], some ⟨da, 0, none⟩, 1⟩ : En).k : Int), .slice (⟨I, T, 0, [o], some ⟨da, 0, none⟩, 1⟩ : En).a (⟨I, T, 0, [o], some ⟨da, 0, none⟩, 1⟩ : En).d.length (⟨I, T, 0, [o], some ⟨da, 0, none⟩, 1⟩ : En).c] 36)) (fun j => w4.heap.size ≤ j ∨ (W.heap.size ≤ j ∧ j < w3.heap.size)) (.slice ca cs.length cc) cs) := (HCO.out.fr FXY.out (by simp)).fr FAL.out (by simp)
                    have HOC : Hid (∀ j u, (flat [(⟨I, T, 0, [o], some ⟨da, 0, none⟩, 1⟩ : En)])[j]? = some u → (WY.alloc (.cells #[.int .u64 ((⟨I, T, 0, [o], some ⟨da, 0, none⟩, 1⟩ : En).i : Int), .int .u64 ((⟨I, T, 0, [o], some ⟨da, 0, none⟩, 1⟩ : En).t : Int), .int .u8 ((⟨I, T, 0, [o], some ⟨da, 0, none⟩, 1⟩ : En).k : Int), .slice (⟨I, T, 0, [o], some ⟨da, 0, none⟩, 1⟩ : En).a (⟨I, T, 0, [o], some ⟨da, 0, none⟩, 1⟩ : En).d.length (⟨I, T, 0, [o], some ⟨da, 0, none⟩, 1⟩ : En).c] 36)).cell? ((⟨WY.heap.size, 0, none⟩ : Addr).add j) = some u) := one_cells WY (⟨I, T, 0, [o], some ⟨da, 0, none⟩, 1⟩ : En)
                    have HEX : Hid (∀ x0 ∈ [(⟨I, T, 0, [o], some ⟨da, 0, none⟩, 1⟩ : En)], EG (WY.alloc (.cells #[.int .u64 ((⟨I, T, 0, [o], some ⟨da, 0, none⟩, 1⟩ : En).i : Int), .int .u64 ((⟨I, T, 0, [o], some ⟨da, 0, none⟩, 1⟩ : En).t : Int), .int .u8 ((⟨I, T, 0, [o], some ⟨da, 0, none⟩, 1⟩ : En).k : Int), .slice (⟨I, T, 0, [o], some ⟨da, 0, none⟩, 1⟩ : En).a (⟨I, T, 0, [o], some ⟨da, 0, none⟩, 1⟩ : En).d.length (⟨I, T, 0, [o], some ⟨da, 0, none⟩, 1⟩ : En).c] 36)) (fun j => (w4.heap.size ≤ j ∨ (W.heap.size ≤ j ∧ j < w3.heap.size)) ∧ (Value.slice ca cs.length cc).ownBlock ≠ some j) x0) := fun x0 hx0 => by
                        rw [List.mem_singleton] at hx0
                        subst hx0
                        refine ⟨?_, ?_, ?_, ?_, ?_⟩
                        · have := HI.out.2; have := HK.out.2.2; have := HLT.out.2; show I < _; omega
                        · have := HT.out.2; show T < _; omega
                        · show 0 < 256; omega
                        · exact FAL.out.row HRD.out (by simp)
                        · intro _ a ha; cases ha; exact ⟨Or.inl (Nat.le_trans HF.out.size HDA.out.1), fun e => by have h1 : da < wr.heap.size := HCO.out.lt _ e; have := HDA.out.1; omega⟩
                    have HSY : Hid (w4.heap.size ≤ (WY.alloc (.cells #[.int .u64 ((⟨I, T, 0, [o], some ⟨da, 0, none⟩, 1⟩ : En).i : Int), .int .u64 ((⟨I, T, 0, [o], some ⟨da, 0, none⟩, 1⟩ : En).t : Int), .int .u8 ((⟨I, T, 0, [o], some ⟨da, 0, none⟩, 1⟩ : En).k : Int), .slice (⟨I, T, 0, [o], some ⟨da, 0, none⟩, 1⟩ : En).a (⟨I, T, 0, [o], some ⟨da, 0, none⟩, 1⟩ : En).d.length (⟨I, T, 0, [o], some ⟨da, 0, none⟩, 1⟩ : En).c] 36)).heap.size) := Nat.le_trans (HF.out.trans FXY.out).size FAL.out.size
                    go_wp2_with (at_builtin; refine wpList_append_ents rfl (.tmp 103) (.tmp 105) rfl (fun j => w4.heap.size ≤ j ∨ (W.heap.size ≤ j ∧ j < w3.heap.size)) _ cs rfl HCY.out ⟨WY.heap.size, 0, none⟩ [(⟨I, T, 0, [o], some ⟨da, 0, none⟩, 1⟩ : En)] 1 rfl HOC.out HEX.out (fun j hj => Or.inl (Nat.le_trans HSY.out hj)) (by have := HCL.out; have := HLT.out.2; simp; omega) ?_)
                    intro v7 w7 ho7 hg7 hat7
                    obtain ⟨a7, c7, hv7, _⟩ := ho7.form
                    subst hv7
                    obtain ⟨zs, Hzs⟩ : ∃ zs, Hid (cs ++ [(⟨I, T, 0, [o], some ⟨da, 0, none⟩, 1⟩ : En)] = zs) := ⟨_, rfl⟩
                    rw [Hzs.out] at ho7 hat7
                    have HO7 : Hid (OwnE w7 (fun j => w4.heap.size ≤ j ∨ (W.heap.size ≤ j ∧ j < w3.heap.size)) (.slice a7 zs.length c7) zs) := ho7
                    have HF7 : Hid (Fr (fun _ => False) w4 w7) := ((HF.out.trans FXY.out).trans FAL.out).trans' (Fr.grown (S := fun j => (Value.slice ca cs.length cc).ownBlock = some j) (Fr.refl _ _) hg7 (fun j hj => .inl hj)) (fun j hj e => by have := HCB.out j e; omega)
                    have HB7 : Hid (∀ j, (Value.slice a7 zs.length c7).ownBlock = some j → w4.heap.size ≤ j) := fun j hj => by
                        rcases hat7 with e | e
                        · exact HCB.out j (by rw [← e]; exact hj)
                        · rw [e] at hj; cases hj; have h2 := HSY.out; simpa using h2
                    have HZL : Hid (zs.length = k + 1) := (show _ = _ by rw [← Hzs.out, List.length_append, HCL.out]; rfl)
                    rw [Hzs.out]
                    clear ho7 hg7 hat7
                    go_wp2
                    go_roundw
                    case rel => exact ⟨k + 1, zs, a7, c7, by have := HKL.out; omega, by go_num, rfl, HZL, HO7, (fun j hj => by
                        rw [← Hzs.out]
                        by_cases hjk : j < k
                        · rw [show (cs ++ [(⟨I, T, 0, [o], some ⟨da, 0, none⟩, 1⟩ : En)]).getD j default = cs.getD j default by simp [List.getD_eq_getElem?_getD, List.getElem?_append_left (show j < cs.length by rw [HCL.out]; exact hjk)]]
                          exact HCI.out j hjk
                        · have hj2 : j = k := by omega
                          subst hj2
                          rw [show (cs ++ [(⟨I, T, 0, [o], some ⟨da, 0, none⟩, 1⟩ : En)]).getD j default = (⟨I, T, 0, [o], some ⟨da, 0, none⟩, 1⟩ : En) by have := HCL.out; simp [List.getD_eq_getElem?_getD, ← this]]
                          exact HI.out.2), (fun y hy => by
                        rw [← Hzs.out] at hy
                        rcases List.mem_append.1 hy with h | h
                        · exact HCD.out y h
                        · rw [List.mem_singleton] at h
                          subst h
                          exact (by show 1 ≤ 1000000; omega)), HB7, HF7⟩
                    case measure => have := HKL.out; simp [intOf]; omega
                · have e1 : ¬ (q : Int) < (es.length : Int) := by omega
                  obtain ⟨WY, HWY⟩ : ∃ W, Hid (W = WX) := ⟨_, rfl⟩
                  rw [← HWY.out] at FX BXN HRD ⊢
                  clear HWY
                  have FXY : Hid (Fr (fun _ => False) wr WY) := FX.out
                  obtain ⟨q0, q1, q2, q3, qz0, qz1, qz2, qz3⟩ := BXN.out
                  have FAL : Hid (Fr (fun _ => False) WY (WY.alloc (.cells #[.int .u64 ((⟨I, T, 0, [o], some ⟨da, 0, none⟩, 1⟩ : En).i : Int), .int .u64 ((⟨I, T, 0, [o], some ⟨da, 0, none⟩, 1⟩ : En).t : Int), .int .u8 ((⟨I, T, 0, [o], some ⟨da, 0, none⟩, 1⟩ : En).k : Int), .slice (⟨I, T, 0, [o], some ⟨da, 0, none⟩, 1⟩ : En).a (⟨I, T, 0, [o], some ⟨da, 0, none⟩, 1⟩ : En).d.length (⟨I, T, 0, [o], some ⟨da, 0, none⟩, 1⟩ : En).c] 36))) := (Fr.refl _ _).alloc _
                  have HCY : Hid (OwnE (WY.alloc (.cells #[.int .u64 ((⟨I, T, 0, [o], some ⟨da, 0, none⟩, 1⟩ : En).i : Int), .int .u64 ((⟨I, T, 0, [o], some ⟨da, 0, none⟩, 1⟩ : En).t : Int), .int .u8 ((⟨I, T, 0, [o], some ⟨da, 0, none⟩, 1⟩ : En).k : Int), .slice (⟨I, T, 0, [o], some ⟨da, 0, none⟩, 1⟩ : En).a (⟨I, T, 0, [o], some ⟨da, 0, none⟩, 1⟩ : En).d.length (⟨I, T, 0, [o], some ⟨da, 0, none⟩, 1⟩ : En).c] 36)) (fun j => w4.heap.size ≤ j ∨ (W.heap.size ≤ j ∧ j < w3.heap.size)) (.slice ca cs.length cc) cs) := (HCO.out.fr FXY.out (by simp)).fr FAL.out (by simp)
                  have HOC : Hid (∀ j u, (flat [(⟨I, T, 0, [o], some ⟨da, 0, none⟩, 1⟩ : En)])[j]? = some u → (WY.alloc (.cells #[.int .u64 ((⟨I, T, 0, [o], some ⟨da, 0, none⟩, 1⟩ : En).i : Int), .int .u64 ((⟨I, T, 0, [o], some ⟨da, 0, none⟩, 1⟩ : En).t : Int), .int .u8 ((⟨I, T, 0, [o], some ⟨da, 0, none⟩, 1⟩ : En).k : Int), .slice (⟨I, T, 0, [o], some ⟨da, 0, none⟩, 1⟩ : En).a (⟨I, T, 0, [o], some ⟨da, 0, none⟩, 1⟩ : En).d.length (⟨I, T, 0, [o], some ⟨da, 0, none⟩, 1⟩ : En).c] 36)).cell? ((⟨WY.heap.size, 0, none⟩ : Addr).add j) = some u) := one_cells WY (⟨I, T, 0, [o], some ⟨da, 0, none⟩, 1⟩ : En)
                  have HEX : Hid (∀ x0 ∈ [(⟨I, T, 0, [o], some ⟨da, 0, none⟩, 1⟩ : En)], EG (WY.alloc (.cells #[.int .u64 ((⟨I, T, 0, [o], some ⟨da, 0, none⟩, 1⟩ : En).i : Int), .int .u64 ((⟨I, T, 0, [o], some ⟨da, 0, none⟩, 1⟩ : En).t : Int), .int .u8 ((⟨I, T, 0, [o], some ⟨da, 0, none⟩, 1⟩ : En).k : Int), .slice (⟨I, T, 0, [o], some ⟨da, 0, none⟩, 1⟩ : En).a (⟨I, T, 0, [o], some ⟨da, 0, none⟩, 1⟩ : En).d.length (⟨I, T, 0, [o], some ⟨da, 0, none⟩, 1⟩ : En).c] 36)) (fun j => (w4.heap.size ≤ j ∨ (W.heap.size ≤ j ∧ j < w3.heap.size)) ∧ (Value.slice ca cs.length cc).ownBlock ≠ some j) x0) := fun x0 hx0 => by
                      rw [List.mem_singleton] at hx0
                      subst hx0
                      refine ⟨?_, ?_, ?_, ?_, ?_⟩
                      · have := HI.out.2; have := HK.out.2.2; have := HLT.out.2; show I < _; omega
                      · have := HT.out.2; show T < _; omega
                      · show 0 < 256; omega
                      · exact FAL.out.row HRD.out (by simp)
                      · intro _ a ha; cases ha; exact ⟨Or.inl (Nat.le_trans HF.out.size HDA.out.1), fun e => by have h1 : da < wr.heap.size := HCO.out.lt _ e; have := HDA.out.1; omega⟩
                  have HSY : Hid (w4.heap.size ≤ (WY.alloc (.cells #[.int .u64 ((⟨I, T, 0, [o], some ⟨da, 0, none⟩, 1⟩ : En).i : Int), .int .u64 ((⟨I, T, 0, [o], some ⟨da, 0, none⟩, 1⟩ : En).t : Int), .int .u8 ((⟨I, T, 0, [o], some ⟨da, 0, none⟩, 1⟩ : En).k : Int), .slice (⟨I, T, 0, [o], some ⟨da, 0, none⟩, 1⟩ : En).a (⟨I, T, 0, [o], some ⟨da, 0, none⟩, 1⟩ : En).d.length (⟨I, T, 0, [o], some ⟨da, 0, none⟩, 1⟩ : En).c] 36)).heap.size) := Nat.le_trans (HF.out.trans FXY.out).size FAL.out.size
                  go_wp2_with (at_builtin; refine wpList_append_ents rfl (.tmp 103) (.tmp 105) rfl (fun j => w4.heap.size ≤ j ∨ (W.heap.size ≤ j ∧ j < w3.heap.size)) _ cs rfl HCY.out ⟨WY.heap.size, 0, none⟩ [(⟨I, T, 0, [o], some ⟨da, 0, none⟩, 1⟩ : En)] 1 rfl HOC.out HEX.out (fun j hj => Or.inl (Nat.le_trans HSY.out hj)) (by have := HCL.out; have := HLT.out.2; simp; omega) ?_)
                  intro v7 w7 ho7 hg7 hat7
                  obtain ⟨a7, c7, hv7, _⟩ := ho7.form
                  subst hv7
                  obtain ⟨zs, Hzs⟩ : ∃ zs, Hid (cs ++ [(⟨I, T, 0, [o], some ⟨da, 0, none⟩, 1⟩ : En)] = zs) := ⟨_, rfl⟩
                  rw [Hzs.out] at ho7 hat7
                  have HO7 : Hid (OwnE w7 (fun j => w4.heap.size ≤ j ∨ (W.heap.size ≤ j ∧ j < w3.heap.size)) (.slice a7 zs.length c7) zs) := ho7
                  have HF7 : Hid (Fr (fun _ => False) w4 w7) := ((HF.out.trans FXY.out).trans FAL.out).trans' (Fr.grown (S := fun j => (Value.slice ca cs.length cc).ownBlock = some j) (Fr.refl _ _) hg7 (fun j hj => .inl hj)) (fun j hj e => by have := HCB.out j e; omega)
                  have HB7 : Hid (∀ j, (Value.slice a7 zs.length c7).ownBlock = some j → w4.heap.size ≤ j) := fun j hj => by
                      rcases hat7 with e | e
                      · exact HCB.out j (by rw [← e]; exact hj)
                      · rw [e] at hj; cases hj; have h2 := HSY.out; simpa using h2
                  have HZL : Hid (zs.length = k + 1) := (show _ = _ by rw [← Hzs.out, List.length_append, HCL.out]; rfl)
                  rw [Hzs.out]
                  clear ho7 hg7 hat7
                  go_wp2
                  go_roundw
                  case rel => exact ⟨k + 1, zs, a7, c7, by have := HKL.out; omega, by go_num, rfl, HZL, HO7, (fun j hj => by
                      rw [← Hzs.out]
                      by_cases hjk : j < k
                      · rw [show (cs ++ [(⟨I, T, 0, [o], some ⟨da, 0, none⟩, 1⟩ : En)]).getD j default = cs.getD j default by simp [List.getD_eq_getElem?_getD, List.getElem?_append_left (show j < cs.length by rw [HCL.out]; exact hjk)]]
                        exact HCI.out j hjk
                      · have hj2 : j = k := by omega
                        subst hj2
                        rw [show (cs ++ [(⟨I, T, 0, [o], some ⟨da, 0, none⟩, 1⟩ : En)]).getD j default = (⟨I, T, 0, [o], some ⟨da, 0, none⟩, 1⟩ : En) by have := HCL.out; simp [List.getD_eq_getElem?_getD, ← this]]
                        exact HI.out.2), (fun y hy => by
                      rw [← Hzs.out] at hy
                      rcases List.mem_append.1 hy with h | h
                      · exact HCD.out y h
                      · rw [List.mem_singleton] at h
                        subst h
                        exact (by show 1 ≤ 1000000; omega)), HB7, HF7⟩
                  case measure => have := HKL.out; simp [intOf]; omega
          exact AllReadyH.nil
        exact AllReadyH.nil
      refine AllReadyH.cons (o := _) (by rw [List.getElem?_toArray]; rfl) (fun K hK => ?_) ?_
      · go_simp
        have GA : Hid (Fr (fun _ => False) wr (wr.drew.alloc (.cells #[.int .u64 0, .int .u64 0, .int .u8 0, .slice none 0 0] 36))) := ((Fr.refl (fun _ => False) wr).drew).alloc _
        refine hK.out _ _ (Fr.cell GA.out HY.out (by simp)) (fun hHeld => ?_)
        clear hK K
        try simp only [Act.put, List.setIfInBounds_toArray, List.set_cons_zero, List.set_cons_succ]
        refine wpAnyH_ready (rs := [12]) (by kernel_rfl) (by simp) ?_
        refine AllReadyH.cons (o := _) (by rw [List.getElem?_toArray]; rfl) (fun K hK => ?_) ?_
        · go_simp
          have GB : Hid (Fr (fun _ => False) wr ((wr.drew.alloc (.cells #[.int .u64 0, .int .u64 0, .int .u8 0, .slice none 0 0] 36)).alloc (.cells #[.int .u8 (o : Int)] 5))) := GA.out.alloc _
          refine hK.out _ _ (Fr.cell GB.out HY.out (by simp)) (fun hHeld => ?_)
          clear hK K
          try simp only [Act.put, List.setIfInBounds_toArray, List.set_cons_zero, List.set_cons_succ]
          refine wpAnyH_take (i := 13) (oi := _) (v := ?_) (by rw [List.getElem?_toArray]; rfl) (by kernel_rfl) (by kernel_rfl) (by kernel_rfl) (fun _ _ _ h => by exact h) (Or.inl ⟨by rfl, ?_⟩) (by assumption) ?_
          rotate_left
          · (intro w hSw; (try dsimp only at hSw); go_simp; (try with_reducible rfl))
          try simp only [Act.put, List.setIfInBounds_toArray, List.set_cons_zero, List.set_cons_succ]
          refine wpAnyH_ready (rs := [15]) (by kernel_rfl) (by simp) ?_
          refine AllReadyH.cons (o := _) (by rw [List.getElem?_toArray]; rfl) (fun K hK => ?_) ?_
          · go_simp
            refine hK.out _ _ (Fr.cell (((Fr.refl (fun _ => False) wr).alloc _).alloc _).drew HY.out (by simp)) (fun hHeld => ?_)
            clear hK K
            try simp only [Act.put, List.setIfInBounds_toArray, List.set_cons_zero, List.set_cons_succ]
            refine wpAnyH_done (by kernel_rfl) ?_ _
            obtain ⟨WX, HWX⟩ : ∃ W, Hid (W = (((wr.alloc (.cells #[.int .u64 (I : Int), .int .u64 (T : Int), .int .u8 0, .slice (some ⟨wr.heap.size + 1, 0, none⟩) 1 1] 36)).alloc (.cells #[.int .u8 (o : Int)] 5)).drew)) := ⟨_, rfl⟩
            have FX : Hid (Fr (fun _ => False) wr WX) := (show Fr _ _ _ by rw [HWX.out]; exact (((Fr.refl _ _).alloc _).alloc _).drew)
            have BXN0 : Hid (Box4 WX (wr.heap.size) I T 0 (.slice (some ⟨wr.heap.size + 1, 0, none⟩) 1 1)) := (show Box4 _ _ _ _ _ _ by rw [HWX.out]; refine Box4.fr ?_ ((Fr.refl (fun _ => False) _).drew) (by simp); constructor <;> simp)
            have HRD0 : Hid (Row WX (some ⟨wr.heap.size + 1, 0, none⟩) [o] 1) := (show Row _ _ _ _ by rw [HWX.out]; exact ⟨by simp, by unfold maxLen; simp, by simp; exact hy256, by simp, fun _ => ⟨wr.heap.size + 1, 0, rfl, fun i hi => by
                have : i = 0 := by simpa using hi
                subst this
                simp⟩⟩)
            obtain ⟨da, Hda⟩ : ∃ d, Hid (wr.heap.size + 1 = d) := ⟨_, rfl⟩
            obtain ⟨bx, Hbx⟩ : ∃ d, Hid (wr.heap.size = d) := ⟨_, rfl⟩
            have HDA : Hid (wr.heap.size ≤ da ∧ wr.heap.size ≤ bx) := ⟨by have := Hda.out; omega, by have := Hbx.out; omega⟩
            have BXN : Hid (Box4 WX bx I T 0 (.slice (some ⟨da, 0, none⟩) 1 1)) := (show Box4 _ _ _ _ _ _ by have h := BXN0.out; rw [Hda.out] at h; rw [Hbx.out] at h; exact h)
            have HRD : Hid (Row WX (some ⟨da, 0, none⟩) [o] 1) := (show Row _ _ _ _ by have h := HRD0.out; rw [Hda.out] at h; exact h)
            rw [← HWX.out]
            rw [Hbx.out]
            clear BXN0 HRD0 hHeld HWX Hda Hbx
            as_aux_lemma =>
              have ht1 : (turn : Int) % 8 = (tn : Int) := by have := Htn.out; omega
              have ht2 : (turn : Int).tmod 8 = (tn : Int) := by rw [Int.tmod_eq_emod_of_nonneg (by omega)]; exact ht1
              by_cases hKk : K + k = 0
              · have hj : (K : Int) + (k : Int) - 1 = -1 := by omega
                obtain ⟨WY, HWY⟩ : ∃ W, Hid (W = WX) := ⟨_, rfl⟩
                rw [← HWY.out] at FX BXN HRD ⊢
                clear HWY
                have FXY : Hid (Fr (fun _ => False) wr WY) := FX.out
                obtain ⟨q0, q1, q2, q3, qz0, qz1, qz2, qz3⟩ := BXN.out
                have FAL : Hid (Fr (fun _ => False) WY (WY.alloc (.cells #[.int .u64 ((⟨I, T, 0, [o], some ⟨da, 0, none⟩, 1⟩ : En).i : Int), .int .u64 ((⟨I, T, 0, [o], some ⟨da, 0, none⟩, 1⟩ : En).t : Int), .int .u8 ((⟨I, T, 0, [o], some ⟨da, 0, none⟩, 1⟩ : En).k : Int), .slice (⟨I, T, 0, [o], some ⟨da, 0, none⟩, 1⟩ : En).a (⟨I, T, 0, [o], some ⟨da, 0, none⟩, 1⟩ : En).d.length (⟨I, T, 0, [o], some ⟨da, 0, none⟩, 1⟩ : En).c] 36))) := (Fr.refl _ _).alloc _
                have HCY : Hid (OwnE (WY.alloc (.cells #[.int .u64 ((⟨I, T, 0, [o], some ⟨da, 0, none⟩, 1⟩ : En).i : Int), .int .u64 ((⟨I, T, 0, [o], some ⟨da, 0, none⟩, 1⟩ : En).t : Int), .int .u8 ((⟨I, T, 0, [o], some ⟨da, 0, none⟩, 1⟩ : En).k : Int), .slice (⟨I, T, 0, [o], some ⟨da, 0, none⟩, 1⟩ : En).a (⟨I, T, 0, [o], some ⟨da, 0, none⟩, 1⟩ : En).d.length (⟨I, T, 0, [o], some ⟨da, 0, none⟩, 1⟩ : En).c] 36)) (fun j => w4.heap.size ≤ j ∨ (W.heap.size ≤ j ∧ j < w3.heap.size)) (.slice ca cs.length cc) cs) := (HCO.out.fr FXY.out (by simp)).fr FAL.out (by simp)
                have HOC : Hid (∀ j u, (flat [(⟨I, T, 0, [o], some ⟨da, 0, none⟩, 1⟩ : En)])[j]? = some u → (WY.alloc (.cells #[.int .u64 ((⟨I, T, 0, [o], some ⟨da, 0, none⟩, 1⟩ : En).i : Int), .int .u64 ((⟨I, T, 0, [o], some ⟨da, 0, none⟩, 1⟩ : En).t : Int), .int .u8 ((⟨I, T, 0, [o], some ⟨da, 0, none⟩, 1⟩ : En).k : Int), .slice (⟨I, T, 0, [o], some ⟨da, 0, none⟩, 1⟩ : En).a (⟨I, T, 0, [o], some ⟨da, 0, none⟩, 1⟩ : En).d.length (⟨I, T, 0, [o], some ⟨da, 0, none⟩, 1⟩ : En).c] 36)).cell? ((⟨WY.heap.size, 0, none⟩ : Addr).add j) = some u) := one_cells WY (⟨I, T, 0, [o], some ⟨da, 0, none⟩, 1⟩ : En)
                have HEX : Hid (∀ x0 ∈ [(⟨I, T, 0, [o], some ⟨da, 0, none⟩, 1⟩ : En)], EG (WY.alloc (.cells #[.int .u64 ((⟨I, T, 0, [o], some ⟨da, 0, none⟩, 1⟩ : En).i : Int), .int .u64 ((⟨I, T, 0, [o], some ⟨da, 0, none⟩, 1⟩ : En).t : Int), .int .u8 ((⟨I, T, 0, [o], some ⟨da, 0, none⟩, 1⟩ : En).k : Int), .slice (⟨I, T, 0, [o], some ⟨da, 0, none⟩, 1⟩ : En).a (⟨I, T, 0, [o], some ⟨da, 0, none⟩, 1⟩ : En).d.length (⟨I, T, 0, [o], some ⟨da, 0, none⟩, 1⟩ : En).c] 36)) (fun j => (w4.heap.size ≤ j ∨ (W.heap.size ≤ j ∧ j < w3.heap.size)) ∧ (Value.slice ca cs.length cc).ownBlock ≠ some j) x0) := fun x0 hx0 => by
                    rw [List.mem_singleton] at hx0
                    subst hx0
                    refine ⟨?_, ?_, ?_, ?_, ?_⟩
                    · have := HI.out.2; have := HK.out.2.2; have := HLT.out.2; show I < _; omega
                    · have := HT.out.2; show T < _; omega
                    · show 0 < 256; omega
                    · exact FAL.out.row HRD.out (by simp)
                    · intro _ a ha; cases ha; exact ⟨Or.inl (Nat.le_trans HF.out.size HDA.out.1), fun e => by have h1 : da < wr.heap.size := HCO.out.lt _ e; have := HDA.out.1; omega⟩
                have HSY : Hid (w4.heap.size ≤ (WY.alloc (.cells #[.int .u64 ((⟨I, T, 0, [o], some ⟨da, 0, none⟩, 1⟩ : En).i : Int), .int .u64 ((⟨I, T, 0, [o], some ⟨da, 0, none⟩, 1⟩ : En).t : Int), .int .u8 ((⟨I, T, 0, [o], some ⟨da, 0, none⟩, 1⟩ : En).k : Int), .slice (⟨I, T, 0, [o], some ⟨da, 0, none⟩, 1⟩ : En).a (⟨I, T, 0, [o], some ⟨da, 0, none⟩, 1⟩ : En).d.length (⟨I, T, 0, [o], some ⟨da, 0, none⟩, 1⟩ : En).c] 36)).heap.size) := Nat.le_trans (HF.out.trans FXY.out).size FAL.out.size
                go_wp2_with (at_builtin; refine wpList_append_ents rfl (.tmp 103) (.tmp 105) rfl (fun j => w4.heap.size ≤ j ∨ (W.heap.size ≤ j ∧ j < w3.heap.size)) _ cs rfl HCY.out ⟨WY.heap.size, 0, none⟩ [(⟨I, T, 0, [o], some ⟨da, 0, none⟩, 1⟩ : En)] 1 rfl HOC.out HEX.out (fun j hj => Or.inl (Nat.le_trans HSY.out hj)) (by have := HCL.out; have := HLT.out.2; simp; omega) ?_)
                intro v7 w7 ho7 hg7 hat7
                obtain ⟨a7, c7, hv7, _⟩ := ho7.form
                subst hv7
                obtain ⟨zs, Hzs⟩ : ∃ zs, Hid (cs ++ [(⟨I, T, 0, [o], some ⟨da, 0, none⟩, 1⟩ : En)] = zs) := ⟨_, rfl⟩
                rw [Hzs.out] at ho7 hat7
                have HO7 : Hid (OwnE w7 (fun j => w4.heap.size ≤ j ∨ (W.heap.size ≤ j ∧ j < w3.heap.size)) (.slice a7 zs.length c7) zs) := ho7
                have HF7 : Hid (Fr (fun _ => False) w4 w7) := ((HF.out.trans FXY.out).trans FAL.out).trans' (Fr.grown (S := fun j => (Value.slice ca cs.length cc).ownBlock = some j) (Fr.refl _ _) hg7 (fun j hj => .inl hj)) (fun j hj e => by have := HCB.out j e; omega)
                have HB7 : Hid (∀ j, (Value.slice a7 zs.length c7).ownBlock = some j → w4.heap.size ≤ j) := fun j hj => by
                    rcases hat7 with e | e
                    · exact HCB.out j (by rw [← e]; exact hj)
                    · rw [e] at hj; cases hj; have h2 := HSY.out; simpa using h2
                have HZL : Hid (zs.length = k + 1) := (show _ = _ by rw [← Hzs.out, List.length_append, HCL.out]; rfl)
                rw [Hzs.out]
                clear ho7 hg7 hat7
                go_wp2
                go_roundw
                case rel => exact ⟨k + 1, zs, a7, c7, by have := HKL.out; omega, by go_num, rfl, HZL, HO7, (fun j hj => by
                    rw [← Hzs.out]
                    by_cases hjk : j < k
                    · rw [show (cs ++ [(⟨I, T, 0, [o], some ⟨da, 0, none⟩, 1⟩ : En)]).getD j default = cs.getD j default by simp [List.getD_eq_getElem?_getD, List.getElem?_append_left (show j < cs.length by rw [HCL.out]; exact hjk)]]
                      exact HCI.out j hjk
                    · have hj2 : j = k := by omega
                      subst hj2
                      rw [show (cs ++ [(⟨I, T, 0, [o], some ⟨da, 0, none⟩, 1⟩ : En)]).getD j default = (⟨I, T, 0, [o], some ⟨da, 0, none⟩, 1⟩ : En) by have := HCL.out; simp [List.getD_eq_getElem?_getD, ← this]]
                      exact HI.out.2), (fun y hy => by
                    rw [← Hzs.out] at hy
                    rcases List.mem_append.1 hy with h | h
                    · exact HCD.out y h
                    · rw [List.mem_singleton] at h
                      subst h
                      exact (by show 1 ≤ 1000000; omega)), HB7, HF7⟩
                case measure => have := HKL.out; simp [intOf]; omega
              · obtain ⟨q, Hq⟩ : ∃ q : Nat, Hid (K + k = q + 1) := ⟨K + k - 1, by show _ = _; omega⟩
                have hj : (K : Int) + (k : Int) - 1 = (q : Int) := by have := Hq.out; omega
                by_cases hqL : q < es.length
                · have e1 : (q : Int) < (es.length : Int) := by omega
                  by_cases hkt : k < tn
                  · have e3 : (k : Int) < (tn : Int) := by omega
                    obtain ⟨q0, q1, q2, q3, qz0, qz1, qz2, qz3⟩ := BXN.out
                    obtain ⟨eb, eo, x, hao, _, l0, l1, l2, l3, gx, Hx⟩ := (HO4.out.erow.fr (HF.out.trans FX.out) (by simp) (by simp)).at hqL
                    have HXI : Hid (x.i = nb + K + k) := (show _ = _ by have h1 := ents_ix HPE.out q hqL; rw [← Hx.out] at h1; have := Hq.out; omega)
                    have HXD : Hid (x.d.length ≤ 1000000) := HDP.out x (by rw [Hx.out, List.getD_eq_getElem?_getD, List.getElem?_eq_getElem hqL]; exact List.getElem_mem _)
                    have HGX : Hid (EG WX _ x) := gx
                    have fset := BXN.out.set x.i x.t x.k (.slice x.a x.d.length x.c)
                    obtain ⟨WY, HWY⟩ : ∃ W, Hid (W = (((WX.setCell ⟨bx, 0, none⟩ (.int .u64 (x.i : Int))).setCell ⟨bx, 1, none⟩ (.int .u64 (x.t : Int))).setCell ⟨bx, 2, none⟩ (.int .u8 (x.k : Int))).setCell ⟨bx, 3, none⟩ (.slice x.a x.d.length x.c)) := ⟨_, rfl⟩
                    have FS : Hid (Fr (fun j => j = bx) WX WY) := (show Fr _ _ _ by rw [HWY.out]; exact ((((Fr.refl (fun j => j = bx) WX).setCell (p := ⟨bx, 0, none⟩) (Or.inl rfl) _).setCell (p := ⟨bx, 1, none⟩) (Or.inl rfl) _).setCell (p := ⟨bx, 2, none⟩) (Or.inl rfl) _).setCell (p := ⟨bx, 3, none⟩) (Or.inl rfl) _)
                    have FXY : Hid (Fr (fun _ => False) wr WY) := FX.out.trans' FS.out (fun j hj e => by have := HDA.out.2; omega)
                    have BYN : Hid (Box4 WY bx x.i x.t x.k (.slice x.a x.d.length x.c)) := (show Box4 _ _ _ _ _ _ by rw [HWY.out]; exact fset)
                    have HGY : Hid (EG WY (fun j => W.heap.size ≤ j ∧ j < w3.heap.size) x) := HGX.out.fr FS.out (fun j hj e => by have := HDA.out.2; have := HF.out.size; have := H34.out; omega)
                    obtain ⟨t0, t1, t2, t3, tz0, tz1, tz2, tz3⟩ := BYN.out
                    rw [HWY.out] at t0 t1 t2 t3
                    subst hao
                    clear gx fset tz0 tz1 tz2 tz3
                    have e1 : (0 : Int) ≤ (q : Int) := by omega
                    have e2 : (q : Int) < (es.length : Int) := by omega
                    have FAL : Hid (Fr (fun _ => False) WY (WY.alloc (.cells #[.int .u64 (x.i : Int), .int .u64 (x.t : Int), .int .u8 (x.k : Int), .slice x.a x.d.length x.c] 36))) := (Fr.refl _ _).alloc _
                    have HCY : Hid (OwnE (WY.alloc (.cells #[.int .u64 (x.i : Int), .int .u64 (x.t : Int), .int .u8 (x.k : Int), .slice x.a x.d.length x.c] 36)) (fun j => w4.heap.size ≤ j ∨ (W.heap.size ≤ j ∧ j < w3.heap.size)) (.slice ca cs.length cc) cs) := (HCO.out.fr FXY.out (by simp)).fr FAL.out (by simp)
                    have HOC : Hid (∀ j u, (flat [x])[j]? = some u → (WY.alloc (.cells #[.int .u64 (x.i : Int), .int .u64 (x.t : Int), .int .u8 (x.k : Int), .slice x.a x.d.length x.c] 36)).cell? ((⟨WY.heap.size, 0, none⟩ : Addr).add j) = some u) := one_cells WY x
                    have HEX : Hid (∀ x0 ∈ [x], EG (WY.alloc (.cells #[.int .u64 (x.i : Int), .int .u64 (x.t : Int), .int .u8 (x.k : Int), .slice x.a x.d.length x.c] 36)) (fun j => (w4.heap.size ≤ j ∨ (W.heap.size ≤ j ∧ j < w3.heap.size)) ∧ (Value.slice ca cs.length cc).ownBlock ≠ some j) x0) := fun x0 hx0 => by
                        rw [List.mem_singleton] at hx0
                        subst hx0
                        exact (HGY.out.fr FAL.out (by simp)).mono (fun j _ hj => ⟨Or.inr hj, fun e => by have := HCB.out j e; have := H34.out; omega⟩)
                    have HSY : Hid (w4.heap.size ≤ (WY.alloc (.cells #[.int .u64 (x.i : Int), .int .u64 (x.t : Int), .int .u8 (x.k : Int), .slice x.a x.d.length x.c] 36)).heap.size) := Nat.le_trans (HF.out.trans FXY.out).size FAL.out.size
                    have hsz : WY.heap.size = WX.heap.size := by rw [HWY.out]; simp
                    rw [hsz] at HOC
                    clear hsz
                    go_wp2_with (at_builtin; rw [← HWY.out]; refine wpList_append_ents rfl (.tmp 103) (.tmp 105) rfl (fun j => w4.heap.size ≤ j ∨ (W.heap.size ≤ j ∧ j < w3.heap.size)) _ cs rfl HCY.out ⟨WX.heap.size, 0, none⟩ [x] 1 rfl HOC.out HEX.out (fun j hj => Or.inl (Nat.le_trans HSY.out hj)) (by have := HCL.out; have := HLT.out.2; simp; omega) ?_)
                    intro v7 w7 ho7 hg7 hat7
                    obtain ⟨a7, c7, hv7, _⟩ := ho7.form
                    subst hv7
                    obtain ⟨zs, Hzs⟩ : ∃ zs, Hid (cs ++ [x] = zs) := ⟨_, rfl⟩
                    rw [Hzs.out] at ho7 hat7
                    have HO7 : Hid (OwnE w7 (fun j => w4.heap.size ≤ j ∨ (W.heap.size ≤ j ∧ j < w3.heap.size)) (.slice a7 zs.length c7) zs) := ho7
                    have HF7 : Hid (Fr (fun _ => False) w4 w7) := ((HF.out.trans FXY.out).trans FAL.out).trans' (Fr.grown (S := fun j => (Value.slice ca cs.length cc).ownBlock = some j) (Fr.refl _ _) hg7 (fun j hj => .inl hj)) (fun j hj e => by have := HCB.out j e; omega)
                    have HB7 : Hid (∀ j, (Value.slice a7 zs.length c7).ownBlock = some j → w4.heap.size ≤ j) := fun j hj => by
                        rcases hat7 with e | e
                        · exact HCB.out j (by rw [← e]; exact hj)
                        · rw [e] at hj; cases hj; have h2 := HSY.out; simpa using h2
                    have HZL : Hid (zs.length = k + 1) := (show _ = _ by rw [← Hzs.out, List.length_append, HCL.out]; rfl)
                    rw [Hzs.out]
                    clear ho7 hg7 hat7
                    go_wp2
                    go_roundw
                    case rel => exact ⟨k + 1, zs, a7, c7, by have := HKL.out; omega, by go_num, rfl, HZL, HO7, (fun j hj => by
                        rw [← Hzs.out]
                        by_cases hjk : j < k
                        · rw [show (cs ++ [x]).getD j default = cs.getD j default by simp [List.getD_eq_getElem?_getD, List.getElem?_append_left (show j < cs.length by rw [HCL.out]; exact hjk)]]
                          exact HCI.out j hjk
                        · have hj2 : j = k := by omega
                          subst hj2
                          rw [show (cs ++ [x]).getD j default = x by have := HCL.out; simp [List.getD_eq_getElem?_getD, ← this]]
                          exact HXI.out), (fun y hy => by
                        rw [← Hzs.out] at hy
                        rcases List.mem_append.1 hy with h | h
                        · exact HCD.out y h
                        · rw [List.mem_singleton] at h
                          subst h
                          exact HXD.out), HB7, HF7⟩
                    case measure => have := HKL.out; simp [intOf]; omega
                  · have e3 : ¬ (k : Int) < (tn : Int) := by omega
                    obtain ⟨WY, HWY⟩ : ∃ W, Hid (W = WX) := ⟨_, rfl⟩
                    rw [← HWY.out] at FX BXN HRD ⊢
                    clear HWY
                    have FXY : Hid (Fr (fun _ => False) wr WY) := FX.out
                    obtain ⟨q0, q1, q2, q3, qz0, qz1, qz2, qz3⟩ := BXN.out
                    have FAL : Hid (Fr (fun _ => False) WY (WY.alloc (.cells #[.int .u64 ((⟨I, T, 0, [o], some ⟨da, 0, none⟩, 1⟩ : En).i : Int), .int .u64 ((⟨I, T, 0, [o], some ⟨da, 0, none⟩, 1⟩ : En).t : Int), .int .u8 ((⟨I, T, 0, [o], some ⟨da, 0, none⟩, 1⟩ : En).k : Int), .slice (⟨I, T, 0, [o], some ⟨da, 0, none⟩, 1⟩ : En).a (⟨I, T, 0, [o], some ⟨da, 0, none⟩, 1⟩ : En).d.length (⟨I, T, 0, [o], some ⟨da, 0, none⟩, 1⟩ : En).c] 36))) := (Fr.refl _ _).alloc _
                    have HCY : Hid (OwnE (WY.alloc (.cells #[.int .u64 ((⟨I, T, 0, [o], some ⟨da, 0, none⟩, 1⟩ : En).i : Int), .int .u64 ((⟨I, T, 0, [o], some ⟨da, 0, none⟩, 1⟩ : En).t : Int), .int .u8 ((⟨I, T, 0, [o], some ⟨da, 0, none⟩, 1⟩ : En).k : Int), .slice (⟨I, T, 0, [o], some ⟨da, 0, none⟩, 1⟩ : En).a (⟨I, T, 0, [o], some ⟨da, 0, none⟩, 1⟩ : En).d.length (⟨I, T, 0, [o], some ⟨da, 0, none⟩, 1⟩ : En).c] 36)) (fun j => w4.heap.size ≤ j ∨ (W.heap.size ≤ j ∧ j < w3.heap.size)) (.slice ca cs.length cc) cs) := (HCO.out.fr FXY.out (by simp)).fr FAL.out (by simp)
                    have HOC : Hid (∀ j u, (flat [(⟨I, T, 0, [o], some ⟨da, 0, none⟩, 1⟩ : En)])[j]? = some u → (WY.alloc (.cells #[.int .u64 ((⟨I, T, 0, [o], some ⟨da, 0, none⟩, 1⟩ : En).i : Int), .int .u64 ((⟨I, T, 0, [o], some ⟨da, 0, none⟩, 1⟩ : En).t : Int), .int .u8 ((⟨I, T, 0, [o], some ⟨da, 0, none⟩, 1⟩ : En).k : Int), .slice (⟨I, T, 0, [o], some ⟨da, 0, none⟩, 1⟩ : En).a (⟨I, T, 0, [o], some ⟨da, 0, none⟩, 1⟩ : En).d.length (⟨I, T, 0, [o], some ⟨da, 0, none⟩, 1⟩ : En).c] 36)).cell? ((⟨WY.heap.size, 0, none⟩ : Addr).add j) = some u) := one_cells WY (⟨I, T, 0, [o], some ⟨da, 0, none⟩, 1⟩ : En)
                    have HEX : Hid (∀ x0 ∈ [(⟨I, T, 0, [o], some ⟨da, 0, none⟩, 1⟩ : En)], EG (WY.alloc (.cells #[.int .u64 ((⟨I, T, 0, [o], some ⟨da, 0, none⟩, 1⟩ : En).i : Int), .int .u64 ((⟨I, T, 0, [o], some ⟨da, 0, none⟩, 1⟩ : En).t : Int), .int .u8 ((⟨I, T, 0, [o], some ⟨da, 0, none⟩, 1⟩ : En).k : Int), .slice (⟨I, T, 0, [o], some ⟨da, 0, none⟩, 1⟩ : En).a (⟨I, T, 0, [o], some ⟨da, 0, none⟩, 1⟩ : En).d.length (⟨I, T, 0, [o], some ⟨da, 0, none⟩, 1⟩ : En).c] 36)) (fun j => (w4.heap.size ≤ j ∨ (W.heap.size ≤ j ∧ j < w3.heap.size)) ∧ (Value.slice ca cs.length cc).ownBlock ≠ some j) x0) := fun x0 hx0 => by
                        rw [List.mem_singleton] at hx0
                        subst hx0
                        refine ⟨?_, ?_, ?_, ?_, ?_⟩
                        · have := HI.out.2; have := HK.out.2.2; have := HLT.out.2; show I < _; omega
                        · have := HT.out.2; show T < _; omega
                        · show 0 < 256; omega
                        · exact FAL.out.row HRD.out (by simp)
                        · intro _ a ha; cases ha; exact ⟨Or.inl (Nat.le_trans HF.out.size HDA.out.1), fun e => by have h1 : da < wr.heap.size := HCO.out.lt _ e; have := HDA.out.1; omega⟩
                    have HSY : Hid (w4.heap.size ≤ (WY.alloc (.cells #[.int .u64 ((⟨I, T, 0, [o], some ⟨da, 0, none⟩, 1⟩ : En).i : Int), .int .u64 ((⟨I, T, 0, [o], some ⟨da, 0, none⟩, 1⟩ : En).t : Int), .int .u8 ((⟨I, T, 0, [o], some ⟨da, 0, none⟩, 1⟩ : En).k : Int), .slice (⟨I, T, 0, [o], some ⟨da, 0, none⟩, 1⟩ : En).a (⟨I, T, 0, [o], some ⟨da, 0, none⟩, 1⟩ : En).d.length (⟨I, T, 0, [o], some ⟨da, 0, none⟩, 1⟩ : En).c] 36)).heap.size) := Nat.le_trans (HF.out.trans FXY.out).size FAL.out.size
                    go_wp2_with (at_builtin; refine wpList_append_ents rfl (.tmp 103) (.tmp 105) rfl (fun j => w4.heap.size ≤ j ∨ (W.heap.size ≤ j ∧ j < w3.heap.size)) _ cs rfl HCY.out ⟨WY.heap.size, 0, none⟩ [(⟨I, T, 0, [o], some ⟨da, 0, none⟩, 1⟩ : En)] 1 rfl HOC.out HEX.out (fun j hj => Or.inl (Nat.le_trans HSY.out hj)) (by have := HCL.out; have := HLT.out.2; simp; omega) ?_)
                    intro v7 w7 ho7 hg7 hat7
                    obtain ⟨a7, c7, hv7, _⟩ := ho7.form
                    subst hv7
                    obtain ⟨zs, Hzs⟩ : ∃ zs, Hid (cs ++ [(⟨I, T, 0, [o], some ⟨da, 0, none⟩, 1⟩ : En)] = zs) := ⟨_, rfl⟩
                    rw [Hzs.out] at ho7 hat7
                    have HO7 : Hid (OwnE w7 (fun j => w4.heap.size ≤ j ∨ (W.heap.size ≤ j ∧ j < w3.heap.size)) (.slice a7 zs.length c7) zs) := ho7
                    have HF7 : Hid (Fr (fun _ => False) w4 w7) := ((HF.out.trans FXY.out).trans FAL.out).trans' (Fr.grown (S := fun j => (Value.slice ca cs.length cc).ownBlock = some j) (Fr.refl _ _) hg7 (fun j hj => .inl hj)) (fun j hj e => by have := HCB.out j e; omega)
                    have HB7 : Hid (∀ j, (Value.slice a7 zs.length c7).ownBlock = some j → w4.heap.size ≤ j) := fun j hj => by
                        rcases hat7 with e | e
                        · exact HCB.out j (by rw [← e]; exact hj)
                        · rw [e] at hj; cases hj; have h2 := HSY.out; simpa using h2
                    have HZL : Hid (zs.length = k + 1) := (show _ = _ by rw [← Hzs.out, List.length_append, HCL.out]; rfl)
                    rw [Hzs.out]
                    clear ho7 hg7 hat7
                    go_wp2
                    go_roundw
                    case rel => exact ⟨k + 1, zs, a7, c7, by have := HKL.out; omega, by go_num, rfl, HZL, HO7, (fun j hj => by
                        rw [← Hzs.out]
                        by_cases hjk : j < k
                        · rw [show (cs ++ [(⟨I, T, 0, [o], some ⟨da, 0, none⟩, 1⟩ : En)]).getD j default = cs.getD j default by simp [List.getD_eq_getElem?_getD, List.getElem?_append_left (show j < cs.length by rw [HCL.out]; exact hjk)]]
                          exact HCI.out j hjk
                        · have hj2 : j = k := by omega
                          subst hj2
                          rw [show (cs ++ [(⟨I, T, 0, [o], some ⟨da, 0, none⟩, 1⟩ : En)]).getD j default = (⟨I, T, 0, [o], some ⟨da, 0, none⟩, 1⟩ : En) by have := HCL.out; simp [List.getD_eq_getElem?_getD, ← this]]
                          exact HI.out.2), (fun y hy => by
                        rw [← Hzs.out] at hy
                        rcases List.mem_append.1 hy with h | h
                        · exact HCD.out y h
                        · rw [List.mem_singleton] at h
                          subst h
                          exact (by show 1 ≤ 1000000; omega)), HB7, HF7⟩
                    case measure => have := HKL.out; simp [intOf]; omega
                · have e1 : ¬ (q : Int) < (es.length : Int) := by omega
                  obtain ⟨WY, HWY⟩ : ∃ W, Hid (W = WX) := ⟨_, rfl⟩
                  rw [← HWY.out] at FX BXN HRD ⊢
                  clear HWY
                  have FXY : Hid (Fr (fun _ => False) wr WY) := FX.out
                  obtain ⟨q0, q1, q2, q3, qz0, qz1, qz2, qz3⟩ := BXN.out
                  have FAL : Hid (Fr (fun _ => False) WY (WY.alloc (.cells #[.int .u64 ((⟨I, T, 0, [o], some ⟨da, 0, none⟩, 1⟩ : En).i : Int), .int .u64 ((⟨I, T, 0, [o], some ⟨da, 0, none⟩, 1⟩ : En).t : Int), .int .u8 ((⟨I, T, 0, [o], some ⟨da, 0, none⟩, 1⟩ : En).k : Int), .slice (⟨I, T, 0, [o], some ⟨da, 0, none⟩, 1⟩ : En).a (⟨I, T, 0, [o], some ⟨da, 0, none⟩, 1⟩ : En).d.length (⟨I, T, 0, [o], some ⟨da, 0, none⟩, 1⟩ : En).c] 36))) := (Fr.refl _ _).alloc _
                  have HCY : Hid (OwnE (WY.alloc (.cells #[.int .u64 ((⟨I, T, 0, [o], some ⟨da, 0, none⟩, 1⟩ : En).i : Int), .int .u64 ((⟨I, T, 0, [o], some ⟨da, 0, none⟩, 1⟩ : En).t : Int), .int .u8 ((⟨I, T, 0, [o], some ⟨da, 0, none⟩, 1⟩ : En).k : Int), .slice (⟨I, T, 0, [o], some ⟨da, 0, none⟩, 1⟩ : En).a (⟨I, T, 0, [o], some ⟨da, 0, none⟩, 1⟩ : En).d.length (⟨I, T, 0, [o], some ⟨da, 0, none⟩, 1⟩ : En).c] 36)) (fun j => w4.heap.size ≤ j ∨ (W.heap.size ≤ j ∧ j < w3.heap.size)) (.slice ca cs.length cc) cs) := (HCO.out.fr FXY.out (by simp)).fr FAL.out (by simp)
                  have HOC : Hid (∀ j u, (flat [(⟨I, T, 0, [o], some ⟨da, 0, none⟩, 1⟩ : En)])[j]? = some u → (WY.alloc (.cells #[.int .u64 ((⟨I, T, 0, [o], some ⟨da, 0, none⟩, 1⟩ : En).i : Int), .int .u64 ((⟨I, T, 0, [o], some ⟨da, 0, none⟩, 1⟩ : En).t : Int), .int .u8 ((⟨I, T, 0, [o], some ⟨da, 0, none⟩, 1⟩ : En).k : Int), .slice (⟨I, T, 0, [o], some ⟨da, 0, none⟩, 1⟩ : En).a (⟨I, T, 0, [o], some ⟨da, 0, none⟩, 1⟩ : En).d.length (⟨I, T, 0, [o], some ⟨da, 0, none⟩, 1⟩ : En).c] 36)).cell? ((⟨WY.heap.size, 0, none⟩ : Addr).add j) = some u) := one_cells WY (⟨I, T, 0, [o], some ⟨da, 0, none⟩, 1⟩ : En)
                  have HEX : Hid (∀ x0 ∈ [(⟨I, T, 0, [o], some ⟨da, 0, none⟩, 1⟩ : En)], EG (WY.alloc (.cells #[.int .u64 ((⟨I, T, 0, [o], some ⟨da, 0, none⟩, 1⟩ : En).i : Int), .int .u64 ((⟨I, T, 0, [o], some ⟨da, 0, none⟩, 1⟩ : En).t : Int), .int .u8 ((⟨I, T, 0, [o], some ⟨da, 0, none⟩, 1⟩ : En).k : Int), .slice (⟨I, T, 0, [o], some ⟨da, 0, none⟩, 1⟩ : En).a (⟨I, T, 0, [o], some ⟨da, 0, none⟩, 1⟩ : En).d.length (⟨I, T, 0, [o], some ⟨da, 0, none⟩, 1⟩ : En).c] 36)) (fun j => (w4.heap.size ≤ j ∨ (W.heap.size ≤ j ∧ j < w3.heap.size)) ∧ (Value.slice ca cs.length cc).ownBlock ≠ some j) x0) := fun x0 hx0 => by
                      rw [List.mem_singleton] at hx0
                      subst hx0
                      refine ⟨?_, ?_, ?_, ?_, ?_⟩
                      · have := HI.out.2; have := HK.out.2.2; have := HLT.out.2; show I < _; omega
                      · have := HT.out.2; show T < _; omega
                      · show 0 < 256; omega
                      · exact FAL.out.row HRD.out (by simp)
                      · intro _ a ha; cases ha; exact ⟨Or.inl (Nat.le_trans HF.out.size HDA.out.1), fun e => by have h1 : da < wr.heap.size := HCO.out.lt _ e; have := HDA.out.1; omega⟩
                  have HSY : Hid (w4.heap.size ≤ (WY.alloc (.cells #[.int .u64 ((⟨I, T, 0, [o], some ⟨da, 0, none⟩, 1⟩ : En).i : Int), .int .u64 ((⟨I, T, 0, [o], some ⟨da, 0, none⟩, 1⟩ : En).t : Int), .int .u8 ((⟨I, T, 0, [o], some ⟨da, 0, none⟩, 1⟩ : En).k : Int), .slice (⟨I, T, 0, [o], some ⟨da, 0, none⟩, 1⟩ : En).a (⟨I, T, 0, [o], some ⟨da, 0, none⟩, 1⟩ : En).d.length (⟨I, T, 0, [o], some ⟨da, 0, none⟩, 1⟩ : En).c] 36)).heap.size) := Nat.le_trans (HF.out.trans FXY.out).size FAL.out.size
                  go_wp2_with (at_builtin; refine wpList_append_ents rfl (.tmp 103) (.tmp 105) rfl (fun j => w4.heap.size ≤ j ∨ (W.heap.size ≤ j ∧ j < w3.heap.size)) _ cs rfl HCY.out ⟨WY.heap.size, 0, none⟩ [(⟨I, T, 0, [o], some ⟨da, 0, none⟩, 1⟩ : En)] 1 rfl HOC.out HEX.out (fun j hj => Or.inl (Nat.le_trans HSY.out hj)) (by have := HCL.out; have := HLT.out.2; simp; omega) ?_)
                  intro v7 w7 ho7 hg7 hat7
                  obtain ⟨a7, c7, hv7, _⟩ := ho7.form
                  subst hv7
                  obtain ⟨zs, Hzs⟩ : ∃ zs, Hid (cs ++ [(⟨I, T, 0, [o], some ⟨da, 0, none⟩, 1⟩ : En)] = zs) := ⟨_, rfl⟩
                  rw [Hzs.out] at ho7 hat7
                  have HO7 : Hid (OwnE w7 (fun j => w4.heap.size ≤ j ∨ (W.heap.size ≤ j ∧ j < w3.heap.size)) (.slice a7 zs.length c7) zs) := ho7
                  have HF7 : Hid (Fr (fun _ => False) w4 w7) := ((HF.out.trans FXY.out).trans FAL.out).trans' (Fr.grown (S := fun j => (Value.slice ca cs.length cc).ownBlock = some j) (Fr.refl _ _) hg7 (fun j hj => .inl hj)) (fun j hj e => by have := HCB.out j e; omega)
                  have HB7 : Hid (∀ j, (Value.slice a7 zs.length c7).ownBlock = some j → w4.heap.size ≤ j) := fun j hj => by
                      rcases hat7 with e | e
                      · exact HCB.out j (by rw [← e]; exact hj)
                      · rw [e] at hj; cases hj; have h2 := HSY.out; simpa using h2
                  have HZL : Hid (zs.length = k + 1) := (show _ = _ by rw [← Hzs.out, List.length_append, HCL.out]; rfl)
                  rw [Hzs.out]
                  clear ho7 hg7 hat7
                  go_wp2
                  go_roundw
                  case rel => exact ⟨k + 1, zs, a7, c7, by have := HKL.out; omega, by go_num, rfl, HZL, HO7, (fun j hj => by
                      rw [← Hzs.out]
                      by_cases hjk : j < k
                      · rw [show (cs ++ [(⟨I, T, 0, [o], some ⟨da, 0, none⟩, 1⟩ : En)]).getD j default = cs.getD j default by simp [List.getD_eq_getElem?_getD, List.getElem?_append_left (show j < cs.length by rw [HCL.out]; exact hjk)]]
                        exact HCI.out j hjk
                      · have hj2 : j = k := by omega
                        subst hj2
                        rw [show (cs ++ [(⟨I, T, 0, [o], some ⟨da, 0, none⟩, 1⟩ : En)]).getD j default = (⟨I, T, 0, [o], some ⟨da, 0, none⟩, 1⟩ : En) by have := HCL.out; simp [List.getD_eq_getElem?_getD, ← this]]
                        exact HI.out.2), (fun y hy => by
                      rw [← Hzs.out] at hy
                      rcases List.mem_append.1 hy with h | h
                      · exact HCD.out y h
                      · rw [List.mem_singleton] at h
                        subst h
                        exact (by show 1 ≤ 1000000; omega)), HB7, HF7⟩
                  case measure => have := HKL.out; simp [intOf]; omega
          exact AllReadyH.nil
        exact AllReadyH.nil
      exact AllReadyH.nil
    · have hkN : k = N := by have := HNN.out; omega
      subst hkN
      have hyl : ys.length = es.length := HYL.out
      have HHK : Hid True := trivial
      have HCE : Hid (OwnE wr (fun j => (w4.heap.size ≤ j ∨ (W.heap.size ≤ j ∧ j < w3.heap.size)) ∧ j < wr.heap.size) (.slice ca cs.length cc) cs) := HCO.out.mono (fun j hj hd => ⟨hd, hj⟩)
      have hkk : k ≤ 12 := by have := HNN.out; omega
      have KM : Hid (Calls _ _ _ _ _) := merge_any (HLG.out.fr HF.out (by simp) (by simp)) (by omega) (by omega) (fun j hj => ⟨by have := HF.out.size; have := H34.out; omega, fun e => by have := HLG.out.lt; have := HF.out.size; omega⟩) _ _ ca cs cc HCE.out.erow (fun j hj => hj.2) (by have := HCL.out; omega) (fun j hj => by rw [HCI.out j (by have := HCL.out; omega), HCI.out (j + 1) (by have := HCL.out; omega)]; omega) HCD.out
      clear hyl
      by_cases hk1 : k < others.length
      · have hk2 : ¬ (k : Int) < 12 := by omega
        have hk3 : (k : Int) < (others.length : Int) := by omega
        go_wp2_with fail
        refine KM.out.mono ?_
        rintro e w5 hm
        rcases hm with ⟨hno, rfl, f5⟩ | ⟨m, hm1, hyes, hlow, hrest⟩
        · skip
          as_aux_lemma =>
            have F5 : Hid (Fr (fun _ => False) wr w5) := f5
            have HNO : Hid (∀ j, j < cs.length → lkB nb nt ys (cs.getD j default) = false) := hno
            have HL5 : Hid (Lg w5 gb (fun j => w3.heap.size ≤ j ∧ j ≠ gb) nb nt n ys v) := HLG.out.fr (HF.out.trans F5.out) (by simp) (by simp)
            have FTOT : Hid (Fr (fun _ => False) w w5) := F4.out.trans (HF.out.trans F5.out)
            clear hno f5
            have HBX5 : Hid (Box26 w5 sb nb nt n) := BX.out.fr (HF.out.trans F5.out) (by simp)
            have HCS5 : Hid (OwnE w5 (fun j => w4.heap.size ≤ j ∨ (W.heap.size ≤ j ∧ j < w3.heap.size)) (.slice ca cs.length cc) cs) := HCO.out.fr F5.out (by simp)
            have HES5 : Hid (OwnE w5 (fun j => W.heap.size ≤ j ∧ j < w3.heap.size) (.slice ao es.length cap) es) := HO4.out.fr (HF.out.trans F5.out) (by simp)
            go_wp2_with fail
            go_loopw [24, 25, 26] (fun wv fv iv wl => ∃ j : Nat, j ≤ cs.length ∧ iv = .int .i64 (j : Int) ∧ wv = .slice ao es.length cap ∧ fv = .int .u64 0 ∧ Hid (Fr (fun _ => False) w5 wl)) (fun _ _ iv _ => cs.length - (intOf iv).toNat)
            case atStart => exact ⟨0, Nat.zero_le _, rfl, rfl, rfl, Fr.refl _ _⟩
            case round =>
              obtain ⟨j, hj, rfl, rfl, rfl, HF2⟩ := hrel
              rename World => wl
              by_cases hjL : j < cs.length
              · skip
                have hct := (lk_iff HYP.out nb nt K j (cs.getD j default) (HCI.out j (by have := HCL.out; omega))).1 (HNO.out j hjL)
                have hcl12 : cs.length ≤ 12 := by have := HCL.out; omega
                obtain ⟨cb, co, x, hcao, _, l0, l1, l2, l3, gx, Hx⟩ := (HCS5.out.fr HF2.out (by simp)).erow.at hjL
                have hxi : x.i = nb + K + j := by rw [Hx.out]; exact HCI.out j (by have := HCL.out; omega)
                have hxe : (x.i : Int) = (nb : Int) + (K : Int) + (j : Int) := by omega
                obtain ⟨s0, s1, s2, s3, sz0, sz1, sz2⟩ := HBX5.out.fr HF2.out (by simp)
                obtain ⟨xi, Hxi⟩ : ∃ xi, Hid (x.i = xi) := ⟨_, rfl⟩
                rw [Hxi.out] at l0 hxe
                have hxb : xi ≤ 2000 := by have := Hxi.out; omega
                have HXJ : Hid (∀ a : Nat, a = K + j → (xi : Int) - (nb : Int) = (a : Int)) := fun a ha => by omega
                have j0 : (0 : Int) ≤ (j : Int) := by omega
                have j1 : (j : Int) < (cs.length : Int) := by omega
                have hjL3 : j < cs.length := hjL
                clear hxi hxe gx
                by_cases h0 : K + j = 0
                · have hq0 : (xi : Int) - (nb : Int) = 0 := by have := HXJ.out 0 (by omega); omega
                  subst hcao
                  go_wp2
                  go_quiet (fail)
                  go_wp2
                  go_quiet (fail)
                  go_wp2
                  go_roundw
                  case rel => exact ⟨j + 1, by omega, by go_num, rfl, rfl, HF2.out.drewN _⟩
                  case measure => simp [intOf]; omega
                · obtain ⟨hq1, hq2⟩ := hct.resolve_left h0
                  obtain ⟨q, Hq⟩ : ∃ q : Nat, Hid (K + j = q + 1) := ⟨K + j - 1, by show _ = _; omega⟩
                  obtain ⟨q1, Hq1⟩ : ∃ q1 : Nat, Hid ((xi : Int) - (nb : Int) = (q1 : Int) ∧ (q1 : Int) - 1 = (q : Int)) := ⟨q + 1, HXJ.out (q + 1) (by have := Hq.out; omega), by omega⟩
                  have hqa := Hq1.out.1
                  have hqb := Hq1.out.2
                  have hqL : q < es.length := by have := Hq.out; omega
                  obtain ⟨eb, eo, y, heao, _, m0, m1, m2, m3, gy, Hy⟩ := (HES5.out.fr HF2.out (by simp)).erow.at hqL
                  have hyt : y.t = x.t := by rw [Hy.out, Hx.out, ← hq2]; congr 2; have := Hq.out; omega
                  rw [← hyt] at l1
                  have e1 : (0 : Int) ≤ (q : Int) := by omega
                  have e2 : (q : Int) < (es.length : Int) := by omega
                  subst heao
                  clear gy hyt hq1 hq2 hct
                  subst hcao
                  go_wp2
                  go_quiet (fail)
                  go_wp2
                  go_quiet (fail)
                  go_wp2
                  go_roundw
                  case rel => exact ⟨j + 1, by omega, by go_num, rfl, rfl, HF2.out.drewN _⟩
                  case measure => simp [intOf]; omega
              · have hjL2 : ¬ (j : Int) < (cs.length : Int) := by omega
                obtain ⟨s0, s1, s2, s3, sz0, sz1, sz2⟩ := HBX5.out.fr HF2.out (by simp)
                have KT : Hid (∀ W9, Fr (fun _ => False) wl W9 → Calls Try.prog 13 #[.pointer (some ⟨gb, 0, none⟩), .agg #[.int .u64 (nb : Int), .int .u64 (nt : Int), .int .u64 (n : Int), .slice none 0 0], .slice ao es.length cap] W9 fun e w' => e = .returned (.bool true) ∧ Fr (fun _ => False) W9 w') := fun W9 f9 => look_any (HL5.out.fr (HF2.out.trans f9) (by simp) (by simp)) ao es cap _ _ (HES5.out.fr (HF2.out.trans f9) (by simp)).erow HYP.out.symm (fun i hi => ents_ix HYE.out i hi) (by have := HYL.out; omega) (ents_d HYE.out) none 0 0
                go_wp2_with fail
                refine (KT.out _ (Fr.refl _ _)).mono ?_
                rintro e w9 ⟨rfl, f9⟩
                go_wp2
                go_ret
                exact ⟨rfl, FTOT.out.trans (HF2.out.trans (Fr.trans (Fr.refl _ _) f9))⟩
        · skip
          have HLOW : Hid (∀ i, i < m → lkB nb nt ys (cs.getD i default) = false) := hlow
          have HNC : Hid (¬ (K + m = 0 ∨ (K + m ≤ es.length ∧ (es.getD (K + m - 1) default).t = (cs.getD m default).t))) := fun h => by have h2 := (lk_iff HYP.out nb nt K m (cs.getD m default) (HCI.out m (by have := HCL.out; omega))).2 h; rw [h2] at hyes; cases hyes
          have HGI : Hid ((cs.getD m default).i = nb + K + m) := HCI.out m (by have := HCL.out; omega)
          rcases hrest with ⟨hgap, rfl, f5⟩ | ⟨hle, rfl, ⟨v5, zs, hlg, hzp⟩, f5⟩
          · skip
            as_aux_lemma =>
              have F5 : Hid (Fr (fun _ => False) wr w5) := f5
              have HGAP : Hid (es.length + 1 < K + m) := (show _ < _ by have h1 := HGI.out; have h2 := HYL.out; omega)
              have HL5 : Hid (Lg w5 gb (fun j => w3.heap.size ≤ j ∧ j ≠ gb) nb nt n ys v) := HLG.out.fr (HF.out.trans F5.out) (by simp) (by simp)
              have FTOT : Hid (Fr (fun _ => False) w w5) := F4.out.trans (HF.out.trans F5.out)
              clear hyes hlow f5 hgap
              have HBX5 : Hid (Box26 w5 sb nb nt n) := BX.out.fr (HF.out.trans F5.out) (by simp)
              have HCS5 : Hid (OwnE w5 (fun j => w4.heap.size ≤ j ∨ (W.heap.size ≤ j ∧ j < w3.heap.size)) (.slice ca cs.length cc) cs) := HCO.out.fr F5.out (by simp)
              have HES5 : Hid (OwnE w5 (fun j => W.heap.size ≤ j ∧ j < w3.heap.size) (.slice ao es.length cap) es) := HO4.out.fr (HF.out.trans F5.out) (by simp)
              go_wp2_with fail
              go_loopw [24, 25, 26] (fun wv fv iv wl => ∃ j : Nat, j ≤ m ∧ iv = .int .i64 (j : Int) ∧ wv = .slice ao es.length cap ∧ fv = .int .u64 0 ∧ Hid (Fr (fun _ => False) w5 wl)) (fun _ _ iv _ => cs.length - (intOf iv).toNat)
              case atStart => exact ⟨0, Nat.zero_le _, rfl, rfl, rfl, Fr.refl _ _⟩
              case round =>
                obtain ⟨j, hj, rfl, rfl, rfl, HF2⟩ := hrel
                rename World => wl
                by_cases hjm : j < m
                · have hjL : j < cs.length := by omega
                  have hct := (lk_iff HYP.out nb nt K j (cs.getD j default) (HCI.out j (by have := HCL.out; omega))).1 (HLOW.out j hjm)
                  have hcl12 : cs.length ≤ 12 := by have := HCL.out; omega
                  obtain ⟨cb, co, x, hcao, _, l0, l1, l2, l3, gx, Hx⟩ := (HCS5.out.fr HF2.out (by simp)).erow.at hjL
                  have hxi : x.i = nb + K + j := by rw [Hx.out]; exact HCI.out j (by have := HCL.out; omega)
                  have hxe : (x.i : Int) = (nb : Int) + (K : Int) + (j : Int) := by omega
                  obtain ⟨s0, s1, s2, s3, sz0, sz1, sz2⟩ := HBX5.out.fr HF2.out (by simp)
                  obtain ⟨xi, Hxi⟩ : ∃ xi, Hid (x.i = xi) := ⟨_, rfl⟩
                  rw [Hxi.out] at l0 hxe
                  have hxb : xi ≤ 2000 := by have := Hxi.out; omega
                  have HXJ : Hid (∀ a : Nat, a = K + j → (xi : Int) - (nb : Int) = (a : Int)) := fun a ha => by omega
                  have j0 : (0 : Int) ≤ (j : Int) := by omega
                  have j1 : (j : Int) < (cs.length : Int) := by omega
                  have hjL3 : j < cs.length := hjL
                  clear hxi hxe gx
                  by_cases h0 : K + j = 0
                  · have hq0 : (xi : Int) - (nb : Int) = 0 := by have := HXJ.out 0 (by omega); omega
                    subst hcao
                    go_wp2
                    go_quiet (fail)
                    go_wp2
                    go_quiet (fail)
                    go_wp2
                    go_roundw
                    case rel => exact ⟨j + 1, by omega, by go_num, rfl, rfl, HF2.out.drewN _⟩
                    case measure => simp [intOf]; omega
                  · obtain ⟨hq1, hq2⟩ := hct.resolve_left h0
                    obtain ⟨q, Hq⟩ : ∃ q : Nat, Hid (K + j = q + 1) := ⟨K + j - 1, by show _ = _; omega⟩
                    obtain ⟨q1, Hq1⟩ : ∃ q1 : Nat, Hid ((xi : Int) - (nb : Int) = (q1 : Int) ∧ (q1 : Int) - 1 = (q : Int)) := ⟨q + 1, HXJ.out (q + 1) (by have := Hq.out; omega), by omega⟩
                    have hqa := Hq1.out.1
                    have hqb := Hq1.out.2
                    have hqL : q < es.length := by have := Hq.out; omega
                    obtain ⟨eb, eo, y, heao, _, m0, m1, m2, m3, gy, Hy⟩ := (HES5.out.fr HF2.out (by simp)).erow.at hqL
                    have hyt : y.t = x.t := by rw [Hy.out, Hx.out, ← hq2]; congr 2; have := Hq.out; omega
                    rw [← hyt] at l1
                    have e1 : (0 : Int) ≤ (q : Int) := by omega
                    have e2 : (q : Int) < (es.length : Int) := by omega
                    subst heao
                    clear gy hyt hq1 hq2 hct
                    subst hcao
                    go_wp2
                    go_quiet (fail)
                    go_wp2
                    go_quiet (fail)
                    go_wp2
                    go_roundw
                    case rel => exact ⟨j + 1, by omega, by go_num, rfl, rfl, HF2.out.drewN _⟩
                    case measure => simp [intOf]; omega
                · have hjm2 : j = m := by omega
                  subst hjm2
                  have hjL : j < cs.length := hm1
                  have hcl12 : cs.length ≤ 12 := by have := HCL.out; omega
                  obtain ⟨cb, co, x, hcao, _, l0, l1, l2, l3, gx, Hx⟩ := (HCS5.out.fr HF2.out (by simp)).erow.at hjL
                  have hxi : x.i = nb + K + j := by rw [Hx.out]; exact HCI.out j (by have := HCL.out; omega)
                  have hxe : (x.i : Int) = (nb : Int) + (K : Int) + (j : Int) := by omega
                  obtain ⟨s0, s1, s2, s3, sz0, sz1, sz2⟩ := HBX5.out.fr HF2.out (by simp)
                  obtain ⟨xi, Hxi⟩ : ∃ xi, Hid (x.i = xi) := ⟨_, rfl⟩
                  rw [Hxi.out] at l0 hxe
                  have hxb : xi ≤ 2000 := by have := Hxi.out; omega
                  have HXJ : Hid (∀ a : Nat, a = K + j → (xi : Int) - (nb : Int) = (a : Int)) := fun a ha => by omega
                  have j0 : (0 : Int) ≤ (j : Int) := by omega
                  have j1 : (j : Int) < (cs.length : Int) := by omega
                  have hjL3 : j < cs.length := hjL
                  clear hxi hxe gx
                  have h0 : ¬ K + j = 0 := fun e => HNC.out (Or.inl e)
                  obtain ⟨q, Hq⟩ : ∃ q : Nat, Hid (K + j = q + 1) := ⟨K + j - 1, by show _ = _; omega⟩
                  obtain ⟨q1, Hq1⟩ : ∃ q1 : Nat, Hid ((xi : Int) - (nb : Int) = (q1 : Int) ∧ (q1 : Int) - 1 = (q : Int)) := ⟨q + 1, HXJ.out (q + 1) (by have := Hq.out; omega), by omega⟩
                  have hqa := Hq1.out.1
                  have hqb := Hq1.out.2
                  have e1 : (0 : Int) ≤ (q : Int) := by omega
                  have e2 : ¬ (q : Int) < (es.length : Int) := by have := HGAP.out; have := Hq.out; omega
                  have e3 : ¬ (q : Int) ≤ (es.length : Int) := by have := HGAP.out; have := Hq.out; omega
                  have e4 : ¬ q < es.length := by omega
                  have e5 : decide (q < es.length) = false := by simpa using e4
                  have e6 : ¬ q ≤ es.length := by omega
                  have e7 : decide (q ≤ es.length) = false := by simpa using e6
                  have KT : Hid (∀ W9, Fr (fun _ => False) wl W9 → Calls Try.prog 13 #[.pointer (some ⟨gb, 0, none⟩), .agg #[.int .u64 (nb : Int), .int .u64 (nt : Int), .int .u64 (n : Int), .slice none 0 0], .slice ao es.length cap] W9 fun e w' => e = .returned (.bool true) ∧ Fr (fun _ => False) W9 w') := fun W9 f9 => look_any (HL5.out.fr (HF2.out.trans f9) (by simp) (by simp)) ao es cap _ _ (HES5.out.fr (HF2.out.trans f9) (by simp)).erow HYP.out.symm (fun i hi => ents_ix HYE.out i hi) (by have := HYL.out; omega) (ents_d HYE.out) none 0 0
                  subst hcao
                  go_wp2
                  go_quiet (fail)
                  go_wp2_with fail
                  refine wp_region_held_drew (S := (fun _ : World => True)) (by kernel_rfl) trivial (fun hHeld => ?_)
                  refine wpAnyH_take (i := 0) (oi := _) (v := ?_) (by rw [List.getElem?_toArray]; rfl) (by kernel_rfl) (by kernel_rfl) (by kernel_rfl) (fun _ _ _ h => by exact h) (Or.inl ⟨by rfl, ?_⟩) (by assumption) ?_
                  rotate_left
                  · (intro w hSw; (try dsimp only at hSw); go_simp; (try with_reducible rfl))
                  try simp only [Act.put, List.setIfInBounds_toArray, List.set_cons_zero, List.set_cons_succ]
                  refine wpAnyH_take (i := 1) (oi := _) (v := ?_) (by rw [List.getElem?_toArray]; rfl) (by kernel_rfl) (by kernel_rfl) (by kernel_rfl) (fun _ _ _ h => by exact h) (Or.inl ⟨by rfl, ?_⟩) (by assumption) ?_
                  rotate_left
                  · (intro w hSw; (try dsimp only at hSw); go_simp; (try with_reducible rfl))
                  try simp only [Act.put, List.setIfInBounds_toArray, List.set_cons_zero, List.set_cons_succ]
                  refine wpAnyH_take (i := 2) (oi := _) (v := ?_) (by rw [List.getElem?_toArray]; rfl) (by kernel_rfl) (by kernel_rfl) (by kernel_rfl) (fun _ _ _ h => by exact h) (Or.inl ⟨by rfl, ?_⟩) (by assumption) ?_
                  rotate_left
                  · (intro w hSw; (try dsimp only at hSw); go_simp; (try with_reducible rfl))
                  try simp only [Act.put, List.setIfInBounds_toArray, List.set_cons_zero, List.set_cons_succ]
                  refine wpAnyH_take (i := 3) (oi := _) (v := ?_) (by rw [List.getElem?_toArray]; rfl) (by kernel_rfl) (by kernel_rfl) (by kernel_rfl) (fun _ _ _ h => by exact h) (Or.inl ⟨by rfl, ?_⟩) (by assumption) ?_
                  rotate_left
                  · (intro w hSw; (try dsimp only at hSw); go_simp; (try with_reducible rfl))
                  try simp only [Act.put, List.setIfInBounds_toArray, List.set_cons_zero, List.set_cons_succ]
                  refine wpAnyH_take (i := 4) (oi := _) (v := ?_) (by rw [List.getElem?_toArray]; rfl) (by kernel_rfl) (by kernel_rfl) (by kernel_rfl) (fun _ _ _ h => by exact h) (Or.inl ⟨by rfl, ?_⟩) (by assumption) ?_
                  rotate_left
                  · (intro w hSw; (try dsimp only at hSw); go_simp; (try with_reducible rfl))
                  try simp only [Act.put, List.setIfInBounds_toArray, List.set_cons_zero, List.set_cons_succ]
                  refine wpAnyH_take (i := 5) (oi := _) (v := ?_) (by rw [List.getElem?_toArray]; rfl) (by kernel_rfl) (by kernel_rfl) (by kernel_rfl) (fun _ _ _ h => by exact h) (Or.inl ⟨by rfl, ?_⟩) (by assumption) ?_
                  rotate_left
                  · (intro w hSw; (try dsimp only at hSw); go_simp; (try with_reducible rfl))
                  try simp only [Act.put, List.setIfInBounds_toArray, List.set_cons_zero, List.set_cons_succ]
                  refine wpAnyH_take (i := 6) (oi := _) (v := ?_) (by rw [List.getElem?_toArray]; rfl) (by kernel_rfl) (by kernel_rfl) (by kernel_rfl) (fun _ _ _ h => by exact h) (Or.inl ⟨by rfl, ?_⟩) (by assumption) ?_
                  rotate_left
                  · (intro w hSw; (try dsimp only at hSw); go_simp; (try with_reducible rfl))
                  try simp only [Act.put, List.setIfInBounds_toArray, List.set_cons_zero, List.set_cons_succ]
                  refine wpAnyH_take (i := 7) (oi := _) (v := ?_) (by rw [List.getElem?_toArray]; rfl) (by kernel_rfl) (by kernel_rfl) (by kernel_rfl) (fun _ _ _ h => by exact h) (Or.inl ⟨by rfl, ?_⟩) (by assumption) ?_
                  rotate_left
                  · (intro w hSw; (try dsimp only at hSw); go_simp; (try with_reducible rfl))
                  try simp only [Act.put, List.setIfInBounds_toArray, List.set_cons_zero, List.set_cons_succ]
                  refine wpAnyH_take (i := 8) (oi := _) (v := undef) (by rw [List.getElem?_toArray]; rfl) (by kernel_rfl) (by kernel_rfl) (by kernel_rfl) (fun _ _ _ h => by exact h) (Or.inr ⟨by rfl, rfl⟩) (by assumption) ?_
                  try simp only [Act.put, List.setIfInBounds_toArray, List.set_cons_zero, List.set_cons_succ]
                  refine wpAnyH_take (i := 9) (oi := _) (v := undef) (by rw [List.getElem?_toArray]; rfl) (by kernel_rfl) (by kernel_rfl) (by kernel_rfl) (fun _ _ _ h => by exact h) (Or.inr ⟨by rfl, rfl⟩) (by assumption) ?_
                  try simp only [Act.put, List.setIfInBounds_toArray, List.set_cons_zero, List.set_cons_succ]
                  refine wpAnyH_take (i := 10) (oi := _) (v := undef) (by rw [List.getElem?_toArray]; rfl) (by kernel_rfl) (by kernel_rfl) (by kernel_rfl) (fun _ _ _ h => by exact h) (Or.inr ⟨by rfl, rfl⟩) (by assumption) ?_
                  try simp only [Act.put, List.setIfInBounds_toArray, List.set_cons_zero, List.set_cons_succ]
                  refine wpAnyH_take (i := 11) (oi := _) (v := undef) (by rw [List.getElem?_toArray]; rfl) (by kernel_rfl) (by kernel_rfl) (by kernel_rfl) (fun _ _ _ h => by exact h) (Or.inr ⟨by rfl, rfl⟩) (by assumption) ?_
                  try simp only [Act.put, List.setIfInBounds_toArray, List.set_cons_zero, List.set_cons_succ]
                  refine wpAnyH_take (i := 12) (oi := _) (v := undef) (by rw [List.getElem?_toArray]; rfl) (by kernel_rfl) (by kernel_rfl) (by kernel_rfl) (fun _ _ _ h => by exact h) (Or.inr ⟨by rfl, rfl⟩) (by assumption) ?_
                  try simp only [Act.put, List.setIfInBounds_toArray, List.set_cons_zero, List.set_cons_succ]
                  refine wpAnyH_take (i := 13) (oi := _) (v := undef) (by rw [List.getElem?_toArray]; rfl) (by kernel_rfl) (by kernel_rfl) (by kernel_rfl) (fun _ _ _ h => by exact h) (Or.inr ⟨by rfl, rfl⟩) (by assumption) ?_
                  try simp only [Act.put, List.setIfInBounds_toArray, List.set_cons_zero, List.set_cons_succ]
                  refine wpAnyH_take (i := 14) (oi := _) (v := undef) (by rw [List.getElem?_toArray]; rfl) (by kernel_rfl) (by kernel_rfl) (by kernel_rfl) (fun _ _ _ h => by exact h) (Or.inr ⟨by rfl, rfl⟩) (by assumption) ?_
                  try simp only [Act.put, List.setIfInBounds_toArray, List.set_cons_zero, List.set_cons_succ]
                  refine wpAnyH_take (i := 15) (oi := _) (v := undef) (by rw [List.getElem?_toArray]; rfl) (by kernel_rfl) (by kernel_rfl) (by kernel_rfl) (fun _ _ _ h => by exact h) (Or.inr ⟨by rfl, rfl⟩) (by assumption) ?_
                  try simp only [Act.put, List.setIfInBounds_toArray, List.set_cons_zero, List.set_cons_succ]
                  refine wpAnyH_take (i := 16) (oi := _) (v := undef) (by rw [List.getElem?_toArray]; rfl) (by kernel_rfl) (by kernel_rfl) (by kernel_rfl) (fun _ _ _ h => by exact h) (Or.inr ⟨by rfl, rfl⟩) (by assumption) ?_
                  try simp only [Act.put, List.setIfInBounds_toArray, List.set_cons_zero, List.set_cons_succ]
                  refine wpAnyH_take (i := 17) (oi := _) (v := undef) (by rw [List.getElem?_toArray]; rfl) (by kernel_rfl) (by kernel_rfl) (by kernel_rfl) (fun _ _ _ h => by exact h) (Or.inr ⟨by rfl, rfl⟩) (by assumption) ?_
                  try simp only [Act.put, List.setIfInBounds_toArray, List.set_cons_zero, List.set_cons_succ]
                  refine wpAnyH_take (i := 18) (oi := _) (v := undef) (by rw [List.getElem?_toArray]; rfl) (by kernel_rfl) (by kernel_rfl) (by kernel_rfl) (fun _ _ _ h => by exact h) (Or.inr ⟨by rfl, rfl⟩) (by assumption) ?_
                  try simp only [Act.put, List.setIfInBounds_toArray, List.set_cons_zero, List.set_cons_succ]
                  refine wpAnyH_take (i := 19) (oi := _) (v := ?_) (by rw [List.getElem?_toArray]; rfl) (by kernel_rfl) (by kernel_rfl) (by kernel_rfl) (fun _ _ _ h => by exact h) (Or.inl ⟨by rfl, ?_⟩) (by assumption) ?_
                  rotate_left
                  · (intro w hSw; (try dsimp only at hSw); go_simp; (try with_reducible rfl))
                  try simp only [Act.put, List.setIfInBounds_toArray, List.set_cons_zero, List.set_cons_succ]
                  refine wpAnyH_take (i := 20) (oi := _) (v := ?_) (by rw [List.getElem?_toArray]; rfl) (by kernel_rfl) (by kernel_rfl) (by kernel_rfl) (fun _ _ _ h => by exact h) (Or.inl ⟨by rfl, ?_⟩) (by assumption) ?_
                  rotate_left
                  · (intro w hSw; (try dsimp only at hSw); go_simp; (try with_reducible rfl))
                  try simp only [Act.put, List.setIfInBounds_toArray, List.set_cons_zero, List.set_cons_succ]
                  refine wpAnyH_done (by kernel_rfl) ?_ _
                  go_wp2_with fail
                  refine (KT.out _ ((Fr.refl _ _).drewN _)).mono ?_
                  rintro e w9 ⟨rfl, f9⟩
                  go_wp2
                  go_ret
                  exact ⟨rfl, FTOT.out.trans (HF2.out.trans (Fr.trans ((Fr.refl _ _).drewN _) f9))⟩
          · skip
            as_aux_lemma =>
              have HVB : Hid (∀ i, v.ownBlock = some i → w3.heap.size ≤ i ∧ i < w4.heap.size) := fun i hi => ⟨(HLG.out.own.blk i hi).1, HLG.out.own.lt i hi⟩
              have HGBB : Hid (w3.heap.size ≤ gb ∧ gb < w4.heap.size) := ⟨HGB.out, HLG.out.lt⟩
              have HWS : Hid (W.heap.size ≤ w3.heap.size ∧ w.heap.size ≤ w3.heap.size) := ⟨HW3s.out, F3.out.size⟩
              have HF5 : Hid (Fr (fun i => i = gb ∨ v.ownBlock = some i) wr w5) := f5
              have HS45 : Hid (w4.heap.size ≤ w5.heap.size) := Nat.le_trans HF.out.size f5.size
              obtain ⟨qq, Hqq⟩ : ∃ qq : Nat, Hid (K + m = qq + 1) := ⟨K + m - 1, by have h : ¬ K + m = 0 := fun e => HNC.out (Or.inl e); show _ = _; omega⟩
              have HLL : Hid (Lg w5 gb (fun j => w3.heap.size ≤ j ∧ j ≠ gb) nb nt n (ys.take qq ++ zs) v5) := (show Lg _ _ _ _ _ _ _ _ by have h := hlg; rw [show (cs.getD m default).i - nb - 1 = qq from by have := HGI.out; have := Hqq.out; omega] at h; exact h)
              have HQL : Hid (qq ≤ es.length) := (show _ ≤ _ by have := HGI.out; have := Hqq.out; have := HYL.out; omega)
              have HZP : Hid (zs.map En.p = (cs.drop m).map En.p) := hzp
              have FTOT : Hid (Fr (fun _ => False) w w5) := (F4.out.trans HF.out).trans' HF5.out (fun i hi h => by
                  rcases h with e | e
                  · have := HGBB.out; have := HWS.out; omega
                  · have := HVB.out _ e; have := HWS.out; omega)
              obtain ⟨gi, Hgi⟩ : ∃ gi, Hid ((cs.getD m default).i = gi) := ⟨_, rfl⟩
              rw [Hgi.out]
              clear hyes hlow f5 hle hlg hzp
              have HBX5 : Hid (Box26 w5 sb nb nt n) := (BX.out.fr HF.out (by simp)).fr HF5.out (fun h => by
                  rcases h with e | e
                  · have := HGBB.out; have := HWS.out; have := hsbW.out; omega
                  · have := HVB.out _ e; have := HWS.out; have := hsbW.out; omega)
              have HCS5 : Hid (OwnE w5 (fun j => w4.heap.size ≤ j ∨ (W.heap.size ≤ j ∧ j < w3.heap.size)) (.slice ca cs.length cc) cs) := HCO.out.fr HF5.out (fun i hi h => by
                  rcases h with e | e
                  · have := HGBB.out; omega
                  · have := HVB.out _ e; omega)
              have HES5 : Hid (OwnE w5 (fun j => W.heap.size ≤ j ∧ j < w3.heap.size) (.slice ao es.length cap) es) := (HO4.out.fr HF.out (by simp)).fr HF5.out (fun i hi h => by
                  rcases h with e | e
                  · have := HGBB.out; omega
                  · have := HVB.out _ e; omega)
              go_wp2_with fail
              go_loopw [24, 25, 26] (fun wv fv iv wl => ∃ j : Nat, j ≤ m ∧ iv = .int .i64 (j : Int) ∧ wv = .slice ao es.length cap ∧ fv = .int .u64 0 ∧ Hid (Fr (fun _ => False) w5 wl)) (fun _ _ iv _ => cs.length - (intOf iv).toNat)
              case atStart => exact ⟨0, Nat.zero_le _, rfl, rfl, rfl, Fr.refl _ _⟩
              case round =>
                obtain ⟨j, hj, rfl, rfl, rfl, HF2⟩ := hrel
                rename World => wl
                by_cases hjm : j < m
                · have hjL : j < cs.length := by omega
                  have hct := (lk_iff HYP.out nb nt K j (cs.getD j default) (HCI.out j (by have := HCL.out; omega))).1 (HLOW.out j hjm)
                  have hcl12 : cs.length ≤ 12 := by have := HCL.out; omega
                  obtain ⟨cb, co, x, hcao, _, l0, l1, l2, l3, gx, Hx⟩ := (HCS5.out.fr HF2.out (by simp)).erow.at hjL
                  have hxi : x.i = nb + K + j := by rw [Hx.out]; exact HCI.out j (by have := HCL.out; omega)
                  have hxe : (x.i : Int) = (nb : Int) + (K : Int) + (j : Int) := by omega
                  obtain ⟨s0, s1, s2, s3, sz0, sz1, sz2⟩ := HBX5.out.fr HF2.out (by simp)
                  obtain ⟨xi, Hxi⟩ : ∃ xi, Hid (x.i = xi) := ⟨_, rfl⟩
                  rw [Hxi.out] at l0 hxe
                  have hxb : xi ≤ 2000 := by have := Hxi.out; omega
                  have HXJ : Hid (∀ a : Nat, a = K + j → (xi : Int) - (nb : Int) = (a : Int)) := fun a ha => by omega
                  have j0 : (0 : Int) ≤ (j : Int) := by omega
                  have j1 : (j : Int) < (cs.length : Int) := by omega
                  have hjL3 : j < cs.length := hjL
                  clear hxi hxe gx
                  by_cases h0 : K + j = 0
                  · have hq0 : (xi : Int) - (nb : Int) = 0 := by have := HXJ.out 0 (by omega); omega
                    subst hcao
                    go_wp2
                    go_quiet (fail)
                    go_wp2
                    go_quiet (fail)
                    go_wp2
                    go_roundw
                    case rel => exact ⟨j + 1, by omega, by go_num, rfl, rfl, HF2.out.drewN _⟩
                    case measure => simp [intOf]; omega
                  · obtain ⟨hq1, hq2⟩ := hct.resolve_left h0
                    obtain ⟨q, Hq⟩ : ∃ q : Nat, Hid (K + j = q + 1) := ⟨K + j - 1, by show _ = _; omega⟩
                    obtain ⟨q1, Hq1⟩ : ∃ q1 : Nat, Hid ((xi : Int) - (nb : Int) = (q1 : Int) ∧ (q1 : Int) - 1 = (q : Int)) := ⟨q + 1, HXJ.out (q + 1) (by have := Hq.out; omega), by omega⟩
                    have hqa := Hq1.out.1
                    have hqb := Hq1.out.2
                    have hqL : q < es.length := by have := Hq.out; omega
                    obtain ⟨eb, eo, y, heao, _, m0, m1, m2, m3, gy, Hy⟩ := (HES5.out.fr HF2.out (by simp)).erow.at hqL
                    have hyt : y.t = x.t := by rw [Hy.out, Hx.out, ← hq2]; congr 2; have := Hq.out; omega
                    rw [← hyt] at l1
                    have e1 : (0 : Int) ≤ (q : Int) := by omega
                    have e2 : (q : Int) < (es.length : Int) := by omega
                    subst heao
                    clear gy hyt hq1 hq2 hct
                    subst hcao
                    go_wp2
                    go_quiet (fail)
                    go_wp2
                    go_quiet (fail)
                    go_wp2
                    go_roundw
                    case rel => exact ⟨j + 1, by omega, by go_num, rfl, rfl, HF2.out.drewN _⟩
                    case measure => simp [intOf]; omega
                · have hjm2 : j = m := by omega
                  subst hjm2
                  have hjL : j < cs.length := hm1
                  have hcl12 : cs.length ≤ 12 := by have := HCL.out; omega
                  obtain ⟨cb, co, x, hcao, _, l0, l1, l2, l3, gx, Hx⟩ := (HCS5.out.fr HF2.out (by simp)).erow.at hjL
                  have hxi : x.i = nb + K + j := by rw [Hx.out]; exact HCI.out j (by have := HCL.out; omega)
                  have hxe : (x.i : Int) = (nb : Int) + (K : Int) + (j : Int) := by omega
                  obtain ⟨s0, s1, s2, s3, sz0, sz1, sz2⟩ := HBX5.out.fr HF2.out (by simp)
                  obtain ⟨xi, Hxi⟩ : ∃ xi, Hid (x.i = xi) := ⟨_, rfl⟩
                  rw [Hxi.out] at l0 hxe
                  have hxb : xi ≤ 2000 := by have := Hxi.out; omega
                  have HXJ : Hid (∀ a : Nat, a = K + j → (xi : Int) - (nb : Int) = (a : Int)) := fun a ha => by omega
                  have j0 : (0 : Int) ≤ (j : Int) := by omega
                  have j1 : (j : Int) < (cs.length : Int) := by omega
                  have hjL3 : j < cs.length := hjL
                  clear hxi hxe gx
                  have h0 : ¬ K + j = 0 := fun e => HNC.out (Or.inl e)
                  obtain ⟨q, Hq⟩ : ∃ q : Nat, Hid (K + j = q + 1) := ⟨K + j - 1, by show _ = _; omega⟩
                  obtain ⟨q1, Hq1⟩ : ∃ q1 : Nat, Hid ((xi : Int) - (nb : Int) = (q1 : Int) ∧ (q1 : Int) - 1 = (q : Int)) := ⟨q + 1, HXJ.out (q + 1) (by have := Hq.out; omega), by omega⟩
                  have hqa := Hq1.out.1
                  have hqb := Hq1.out.2
                  have e1 : (0 : Int) ≤ (q : Int) := by omega
                  have hqle : q ≤ es.length := by have := HQL.out; have := Hqq.out; have := Hq.out; omega
                  have e3 : (q : Int) ≤ (es.length : Int) := by omega
                  have e6 : decide (q ≤ es.length) = true := by simpa using hqle
                  by_cases hqL : q < es.length
                  · skip
                    obtain ⟨eb, eo, y, heao, _, m0, m1, m2, m3, gy, Hy⟩ := (HES5.out.fr HF2.out (by simp)).erow.at hqL
                    have hyt : ¬ y.t = x.t := fun e => HNC.out (Or.inr ⟨by have := Hq.out; omega, by rw [show K + j - 1 = q from by have := Hq.out; omega, ← Hy.out, ← Hx.out]; exact e⟩)
                    have hyt2 : ((y.t : Int) == (x.t : Int)) = false := by simp; omega
                    have e2 : (q : Int) < (es.length : Int) := by omega
                    have e4 : decide (q < es.length) = true := by simpa using hqL
                    have HM1 : Hid (wl.cell? ⟨eb, eo + q * 4 + 1, none⟩ = some (.int .u64 (y.t : Int))) := m1
                    have HL1 : Hid (wl.cell? ⟨cb, co + j * 4 + 1, none⟩ = some (.int .u64 (x.t : Int))) := l1
                    subst hcao
                    subst heao
                    clear gy m0 m2 m3
                    go_wp2
                    go_quiet (fail)
                    go_wp2_with fail
                    refine wp_region_held_drew (S := (fun W9 : World => W9.cell? ⟨eb, eo + q * 4 + 1, none⟩ = some (.int .u64 (y.t : Int)) ∧ W9.cell? ⟨cb, co + j * 4 + 1, none⟩ = some (.int .u64 (x.t : Int)))) (by kernel_rfl) ⟨Fr.cell (show Fr (fun _ => False) wl _ from (by first | exact ((Fr.refl _ _).drewN _).drew | exact (Fr.refl _ _).drewN _)) HM1.out (by simp), Fr.cell (show Fr (fun _ => False) wl _ from (by first | exact ((Fr.refl _ _).drewN _).drew | exact (Fr.refl _ _).drewN _)) HL1.out (by simp)⟩ (fun hHeld => ?_)
                    refine wpAnyH_take (i := 0) (oi := _) (v := ?_) (by rw [List.getElem?_toArray]; rfl) (by kernel_rfl) (by kernel_rfl) (by kernel_rfl) (fun _ _ _ h => by exact h) (Or.inl ⟨by rfl, ?_⟩) (by assumption) ?_
                    rotate_left
                    · (intro w hSw; (try dsimp only at hSw); go_simp; (try with_reducible rfl))
                    try simp only [Act.put, List.setIfInBounds_toArray, List.set_cons_zero, List.set_cons_succ]
                    refine wpAnyH_take (i := 1) (oi := _) (v := ?_) (by rw [List.getElem?_toArray]; rfl) (by kernel_rfl) (by kernel_rfl) (by kernel_rfl) (fun _ _ _ h => by exact h) (Or.inl ⟨by rfl, ?_⟩) (by assumption) ?_
                    rotate_left
                    · (intro w hSw; (try dsimp only at hSw); go_simp; (try with_reducible rfl))
                    try simp only [Act.put, List.setIfInBounds_toArray, List.set_cons_zero, List.set_cons_succ]
                    refine wpAnyH_take (i := 2) (oi := _) (v := ?_) (by rw [List.getElem?_toArray]; rfl) (by kernel_rfl) (by kernel_rfl) (by kernel_rfl) (fun _ _ _ h => by exact h) (Or.inl ⟨by rfl, ?_⟩) (by assumption) ?_
                    rotate_left
                    · (intro w hSw; (try dsimp only at hSw); go_simp; (try with_reducible rfl))
                    try simp only [Act.put, List.setIfInBounds_toArray, List.set_cons_zero, List.set_cons_succ]
                    refine wpAnyH_take (i := 3) (oi := _) (v := ?_) (by rw [List.getElem?_toArray]; rfl) (by kernel_rfl) (by kernel_rfl) (by kernel_rfl) (fun _ _ _ h => by exact h) (Or.inl ⟨by rfl, ?_⟩) (by assumption) ?_
                    rotate_left
                    · (intro w hSw; (try dsimp only at hSw); go_simp; (try with_reducible rfl))
                    try simp only [Act.put, List.setIfInBounds_toArray, List.set_cons_zero, List.set_cons_succ]
                    refine wpAnyH_take (i := 4) (oi := _) (v := ?_) (by rw [List.getElem?_toArray]; rfl) (by kernel_rfl) (by kernel_rfl) (by kernel_rfl) (fun _ _ _ h => by exact h) (Or.inl ⟨by rfl, ?_⟩) (by assumption) ?_
                    rotate_left
                    · (intro w hSw; (try dsimp only at hSw); go_simp; (try with_reducible rfl))
                    try simp only [Act.put, List.setIfInBounds_toArray, List.set_cons_zero, List.set_cons_succ]
                    refine wpAnyH_take (i := 5) (oi := _) (v := ?_) (by rw [List.getElem?_toArray]; rfl) (by kernel_rfl) (by kernel_rfl) (by kernel_rfl) (fun _ _ _ h => by exact h) (Or.inl ⟨by rfl, ?_⟩) (by assumption) ?_
                    rotate_left
                    · (intro w hSw; (try dsimp only at hSw); go_simp; (try with_reducible rfl))
                    try simp only [Act.put, List.setIfInBounds_toArray, List.set_cons_zero, List.set_cons_succ]
                    refine wpAnyH_take (i := 6) (oi := _) (v := ?_) (by rw [List.getElem?_toArray]; rfl) (by kernel_rfl) (by kernel_rfl) (by kernel_rfl) (fun _ _ _ h => by exact h) (Or.inl ⟨by rfl, ?_⟩) (by assumption) ?_
                    rotate_left
                    · (intro w hSw; (try dsimp only at hSw); go_simp; (try with_reducible rfl))
                    try simp only [Act.put, List.setIfInBounds_toArray, List.set_cons_zero, List.set_cons_succ]
                    refine wpAnyH_take (i := 7) (oi := _) (v := ?_) (by rw [List.getElem?_toArray]; rfl) (by kernel_rfl) (by kernel_rfl) (by kernel_rfl) (fun _ _ _ h => by exact h) (Or.inl ⟨by rfl, ?_⟩) (by assumption) ?_
                    rotate_left
                    · (intro w hSw; (try dsimp only at hSw); go_simp; (try with_reducible rfl))
                    try simp only [Act.put, List.setIfInBounds_toArray, List.set_cons_zero, List.set_cons_succ]
                    refine wpAnyH_take (i := 8) (oi := _) (v := ?_) (by rw [List.getElem?_toArray]; rfl) (by kernel_rfl) (by kernel_rfl) (by kernel_rfl) (fun _ _ _ h => by exact h) (Or.inl ⟨by rfl, ?_⟩) (by assumption) ?_
                    rotate_left
                    · (intro w hSw; (try dsimp only at hSw); have q0 := hSw.1; have q9 := hSw.2; go_simp; (try with_reducible rfl))
                    try simp only [Act.put, List.setIfInBounds_toArray, List.set_cons_zero, List.set_cons_succ]
                    refine wpAnyH_take (i := 9) (oi := _) (v := ?_) (by rw [List.getElem?_toArray]; rfl) (by kernel_rfl) (by kernel_rfl) (by kernel_rfl) (fun _ _ _ h => by exact h) (Or.inl ⟨by rfl, ?_⟩) (by assumption) ?_
                    rotate_left
                    · (intro w hSw; (try dsimp only at hSw); have q0 := hSw.1; have q9 := hSw.2; go_simp; (try with_reducible rfl))
                    try simp only [Act.put, List.setIfInBounds_toArray, List.set_cons_zero, List.set_cons_succ]
                    refine wpAnyH_take (i := 10) (oi := _) (v := ?_) (by rw [List.getElem?_toArray]; rfl) (by kernel_rfl) (by kernel_rfl) (by kernel_rfl) (fun _ _ _ h => by exact h) (Or.inl ⟨by rfl, ?_⟩) (by assumption) ?_
                    rotate_left
                    · (intro w hSw; (try dsimp only at hSw); have q0 := hSw.1; have q9 := hSw.2; go_simp; (try with_reducible rfl))
                    try simp only [Act.put, List.setIfInBounds_toArray, List.set_cons_zero, List.set_cons_succ]
                    refine wpAnyH_take (i := 11) (oi := _) (v := ?_) (by rw [List.getElem?_toArray]; rfl) (by kernel_rfl) (by kernel_rfl) (by kernel_rfl) (fun _ _ _ h => by exact h) (Or.inl ⟨by rfl, ?_⟩) (by assumption) ?_
                    rotate_left
                    · (intro w hSw; (try dsimp only at hSw); have q0 := hSw.1; have q9 := hSw.2; go_simp; (try with_reducible rfl))
                    try simp only [Act.put, List.setIfInBounds_toArray, List.set_cons_zero, List.set_cons_succ]
                    refine wpAnyH_take (i := 12) (oi := _) (v := ?_) (by rw [List.getElem?_toArray]; rfl) (by kernel_rfl) (by kernel_rfl) (by kernel_rfl) (fun _ _ _ h => by exact h) (Or.inl ⟨by rfl, ?_⟩) (by assumption) ?_
                    rotate_left
                    · (intro w hSw; (try dsimp only at hSw); have q0 := hSw.1; have q9 := hSw.2; go_simp; (try with_reducible rfl))
                    try simp only [Act.put, List.setIfInBounds_toArray, List.set_cons_zero, List.set_cons_succ]
                    refine wpAnyH_take (i := 13) (oi := _) (v := ?_) (by rw [List.getElem?_toArray]; rfl) (by kernel_rfl) (by kernel_rfl) (by kernel_rfl) (fun _ _ _ h => by exact h) (Or.inl ⟨by rfl, ?_⟩) (by assumption) ?_
                    rotate_left
                    · (intro w hSw; (try dsimp only at hSw); have q0 := hSw.1; have q9 := hSw.2; go_simp; (try with_reducible rfl))
                    try simp only [Act.put, List.setIfInBounds_toArray, List.set_cons_zero, List.set_cons_succ]
                    refine wpAnyH_take (i := 14) (oi := _) (v := ?_) (by rw [List.getElem?_toArray]; rfl) (by kernel_rfl) (by kernel_rfl) (by kernel_rfl) (fun _ _ _ h => by exact h) (Or.inl ⟨by rfl, ?_⟩) (by assumption) ?_
                    rotate_left
                    · (intro w hSw; (try dsimp only at hSw); have q0 := hSw.1; have q9 := hSw.2; go_simp; (try with_reducible rfl))
                    try simp only [Act.put, List.setIfInBounds_toArray, List.set_cons_zero, List.set_cons_succ]
                    refine wpAnyH_take (i := 15) (oi := _) (v := ?_) (by rw [List.getElem?_toArray]; rfl) (by kernel_rfl) (by kernel_rfl) (by kernel_rfl) (fun _ _ _ h => by exact h) (Or.inl ⟨by rfl, ?_⟩) (by assumption) ?_
                    rotate_left
                    · (intro w hSw; (try dsimp only at hSw); have q0 := hSw.1; have q9 := hSw.2; go_simp; (try with_reducible rfl))
                    try simp only [Act.put, List.setIfInBounds_toArray, List.set_cons_zero, List.set_cons_succ]
                    refine wpAnyH_take (i := 16) (oi := _) (v := ?_) (by rw [List.getElem?_toArray]; rfl) (by kernel_rfl) (by kernel_rfl) (by kernel_rfl) (fun _ _ _ h => by exact h) (Or.inl ⟨by rfl, ?_⟩) (by assumption) ?_
                    rotate_left
                    · (intro w hSw; (try dsimp only at hSw); have q0 := hSw.1; have q9 := hSw.2; go_simp; (try with_reducible rfl))
                    try simp only [Act.put, List.setIfInBounds_toArray, List.set_cons_zero, List.set_cons_succ]
                    refine wpAnyH_take (i := 17) (oi := _) (v := ?_) (by rw [List.getElem?_toArray]; rfl) (by kernel_rfl) (by kernel_rfl) (by kernel_rfl) (fun _ _ _ h => by exact h) (Or.inl ⟨by rfl, ?_⟩) (by assumption) ?_
                    rotate_left
                    · (intro w hSw; (try dsimp only at hSw); have q0 := hSw.1; have q9 := hSw.2; go_simp; (try with_reducible rfl))
                    try simp only [Act.put, List.setIfInBounds_toArray, List.set_cons_zero, List.set_cons_succ]
                    refine wpAnyH_take (i := 18) (oi := _) (v := ?_) (by rw [List.getElem?_toArray]; rfl) (by kernel_rfl) (by kernel_rfl) (by kernel_rfl) (fun _ _ _ h => by exact h) (Or.inl ⟨by rfl, ?_⟩) (by assumption) ?_
                    rotate_left
                    · (intro w hSw; (try dsimp only at hSw); go_simp; (try with_reducible rfl))
                    try simp only [Act.put, List.setIfInBounds_toArray, List.set_cons_zero, List.set_cons_succ]
                    refine wpAnyH_take (i := 19) (oi := _) (v := ?_) (by rw [List.getElem?_toArray]; rfl) (by kernel_rfl) (by kernel_rfl) (by kernel_rfl) (fun _ _ _ h => by exact h) (Or.inl ⟨by rfl, ?_⟩) (by assumption) ?_
                    rotate_left
                    · (intro w hSw; (try dsimp only at hSw); go_simp; (try with_reducible rfl))
                    try simp only [Act.put, List.setIfInBounds_toArray, List.set_cons_zero, List.set_cons_succ]
                    refine wpAnyH_take (i := 20) (oi := _) (v := ?_) (by rw [List.getElem?_toArray]; rfl) (by kernel_rfl) (by kernel_rfl) (by kernel_rfl) (fun _ _ _ h => by exact h) (Or.inl ⟨by rfl, ?_⟩) (by assumption) ?_
                    rotate_left
                    · (intro w hSw; (try dsimp only at hSw); go_simp; (try with_reducible rfl))
                    try simp only [Act.put, List.setIfInBounds_toArray, List.set_cons_zero, List.set_cons_succ]
                    refine wpAnyH_done (by kernel_rfl) ?_ _
                    have HTK : Hid (∀ W9, Fr (fun _ => False) wl W9 → ∃ v6 w6, (Builtin.append_ #[28, 28] 28 #[.slice none 0 0, .slice (some ⟨eb, eo, none⟩) q cap]).run Try.prog W9 = .ok v6 w6 ∧ (OwnE w6 (fun i => w4.heap.size ≤ i ∨ (W.heap.size ≤ i ∧ i < w3.heap.size)) v6 (es.take q) ∧ Fr (fun _ => False) wl w6 ∧ ∀ i, v6.ownBlock = some i → wl.heap.size ≤ i)) := fun W9 f9 => by
                        obtain ⟨v6, w6, x1, x2, x3, x4⟩ := run_take W9 28 _ _ (fun i => w4.heap.size ≤ i ∨ (W.heap.size ≤ i ∧ i < w3.heap.size)) (some ⟨eb, eo, none⟩) es cap (HES5.out.fr (HF2.out.trans f9) (by simp)).erow q (by omega) (fun i _ hi => Or.inr hi) (fun i hi => Or.inl (by have := HS45.out; have := (HF2.out.trans f9).size; omega)) (by omega)
                        exact ⟨v6, w6, x1, x2, f9.trans x3, fun i hi => Nat.le_trans f9.size (x4 i hi)⟩
                    have hcc1 := HCS5.out.erow.len.2.1
                    have hcc2 := HCS5.out.erow.len.2.2
                    have hcp1 := HES5.out.erow.len.2.1
                    have hcp2 := HES5.out.erow.len.2.2
                    have n1 : ¬ cc = j := by omega
                    have n2 : (q : Int) ≤ (cap : Int) := by omega
                    have n3 : (j : Int) ≤ (cs.length : Int) := by omega
                    have n4 : (cs.length : Int) ≤ (cc : Int) := by omega
                    go_wp2_with fail
                    refine wp_region_held_drew (S := (fun _ : World => True)) (by kernel_rfl) trivial (fun hHeld => ?_)
                    refine wpAnyH_take (i := 0) (oi := _) (v := ?_) (by rw [List.getElem?_toArray]; rfl) (by kernel_rfl) (by kernel_rfl) (by kernel_rfl) (fun _ _ _ h => by exact h) (Or.inl ⟨by rfl, ?_⟩) (by assumption) ?_
                    rotate_left
                    · (intro w hSw; (try dsimp only at hSw); go_simp; (try with_reducible rfl))
                    try simp only [Act.put, List.setIfInBounds_toArray, List.set_cons_zero, List.set_cons_succ]
                    refine wpAnyH_take (i := 1) (oi := _) (v := ?_) (by rw [List.getElem?_toArray]; rfl) (by kernel_rfl) (by kernel_rfl) (by kernel_rfl) (fun _ _ _ h => by exact h) (Or.inl ⟨by rfl, ?_⟩) (by assumption) ?_
                    rotate_left
                    · (intro w hSw; (try dsimp only at hSw); go_simp; (try with_reducible rfl))
                    try simp only [Act.put, List.setIfInBounds_toArray, List.set_cons_zero, List.set_cons_succ]
                    refine wpAnyH_take (i := 2) (oi := _) (v := ?_) (by rw [List.getElem?_toArray]; rfl) (by kernel_rfl) (by kernel_rfl) (by kernel_rfl) (fun _ _ _ h => by exact h) (Or.inl ⟨by rfl, ?_⟩) (by assumption) ?_
                    rotate_left
                    · (intro w hSw; (try dsimp only at hSw); go_simp; (try with_reducible rfl))
                    try simp only [Act.put, List.setIfInBounds_toArray, List.set_cons_zero, List.set_cons_succ]
                    refine wpAnyH_take (i := 4) (oi := _) (v := ?_) (by rw [List.getElem?_toArray]; rfl) (by kernel_rfl) (by kernel_rfl) (by kernel_rfl) (fun _ _ _ h => by exact h) (Or.inl ⟨by rfl, ?_⟩) (by assumption) ?_
                    rotate_left
                    · (intro w hSw; (try dsimp only at hSw); go_simp; (try with_reducible rfl))
                    try simp only [Act.put, List.setIfInBounds_toArray, List.set_cons_zero, List.set_cons_succ]
                    refine wpAnyH_take (i := 5) (oi := _) (v := ?_) (by rw [List.getElem?_toArray]; rfl) (by kernel_rfl) (by kernel_rfl) (by kernel_rfl) (fun _ _ _ h => by exact h) (Or.inl ⟨by rfl, ?_⟩) (by assumption) ?_
                    rotate_left
                    · (intro w hSw; (try dsimp only at hSw); go_simp; (try with_reducible rfl))
                    try simp only [Act.put, List.setIfInBounds_toArray, List.set_cons_zero, List.set_cons_succ]
                    refine wpAnyH_take (i := 6) (oi := _) (v := ?_) (by rw [List.getElem?_toArray]; rfl) (by kernel_rfl) (by kernel_rfl) (by kernel_rfl) (fun _ _ _ h => by exact h) (Or.inl ⟨by rfl, ?_⟩) (by assumption) ?_
                    rotate_left
                    · (intro w hSw; (try dsimp only at hSw); go_simp; (try with_reducible rfl))
                    try simp only [Act.put, List.setIfInBounds_toArray, List.set_cons_zero, List.set_cons_succ]
                    refine wpAnyH_ready (rs := [3]) (by kernel_rfl) (by simp) ?_
                    refine AllReadyH.cons (o := _) (by rw [List.getElem?_toArray]; rfl) (fun K hK => ?_) ?_
                    · refine step_append_ex rfl (.const (.slice none 0 0)) (.tmp 160) 28 rfl rfl rfl (HTK.out _ (by first | exact ((Fr.refl _ _).drewN _).drew | exact (Fr.refl _ _).drewN _)) ?_
                      rintro v6 w6 ⟨ho6, f6, hb6⟩
                      obtain ⟨a6, c6, hv6, _⟩ := ho6.form
                      subst hv6
                      have HO6 : Hid (OwnE w6 (fun i => w4.heap.size ≤ i ∨ (W.heap.size ≤ i ∧ i < w3.heap.size)) (.slice a6 (es.take q).length c6) (es.take q)) := ho6
                      have G6 : Hid (Fr (fun _ => False) wl w6) := f6
                      have HB6 : Hid (∀ i, (Value.slice a6 (es.take q).length c6).ownBlock = some i → wl.heap.size ≤ i) := hb6
                      clear ho6 f6 hb6
                      refine hK.out _ _ trivial (fun hHeld => ?_)
                      clear hK K
                      try simp only [Act.put, List.setIfInBounds_toArray, List.set_cons_zero, List.set_cons_succ]
                      refine wpAnyH_ready (rs := [7]) (by kernel_rfl) (by simp) ?_
                      refine AllReadyH.cons (o := _) (by rw [List.getElem?_toArray]; rfl) (fun K hK => ?_) ?_
                      · have H7 : ∃ v7 w7, (Builtin.append_ #[28, 28] 28 #[.slice a6 (es.take q).length c6, .slice (some ⟨cb, co + j * 4, none⟩) (cs.length - j) (cc - j)]).run Try.prog w6 = .ok v7 w7 ∧ (OwnE w7 (fun i => w4.heap.size ≤ i ∨ (W.heap.size ≤ i ∧ i < w3.heap.size)) v7 (es.take q ++ cs.drop j) ∧ Fr (fun _ => False) wl w7) := by
                            have hrow := (HCS5.out.fr (HF2.out.trans G6.out) (by simp)).erow.drop' j (by omega)
                            obtain ⟨v7, w7, x1, x2, x3, x4⟩ := run_append_ents w6 28 (fun i => w4.heap.size ≤ i ∨ (W.heap.size ≤ i ∧ i < w3.heap.size)) (.slice a6 (es.take q).length c6) (es.take q) HO6.out ⟨cb, co + j * 4, none⟩ (cs.drop j) (cc - j) hrow.cells (fun y hy => (((HCS5.out.fr HF2.out (by simp)).erow.2.2.2.1 y (List.mem_of_mem_drop hy)).mono (fun i hi hd => ⟨hd, fun e => by have := HB6.out i e; omega⟩)).fr G6.out (by simp)) (fun i hi => Or.inl (by have := HS45.out; have := HF2.out.size; have := G6.out.size; omega)) (by simp; omega)
                            rw [show (cs.drop j).length = cs.length - j by simp] at x1
                            exact ⟨v7, w7, x1, x2, G6.out.trans' (Fr.grown (S := fun i => (Value.slice a6 (es.take q).length c6).ownBlock = some i) (Fr.refl _ _) x3 (fun i hi => .inl hi)) (fun i hi e => by have := HB6.out i e; omega)⟩
                        refine step_append_ex rfl (.tmp 161) (.tmp 164) 28 rfl rfl rfl H7 ?_
                        rintro v7 w7 ⟨ho7, f7⟩
                        obtain ⟨ws, Hws⟩ : ∃ ws, Hid (es.take q ++ cs.drop j = ws) := ⟨_, rfl⟩
                        rw [Hws.out] at ho7
                        obtain ⟨a7, c7, hv7, _⟩ := ho7.form
                        subst hv7
                        have HO7 : Hid (OwnE w7 (fun i => w4.heap.size ≤ i ∨ (W.heap.size ≤ i ∧ i < w3.heap.size)) (.slice a7 ws.length c7) ws) := ho7
                        have G7 : Hid (Fr (fun _ => False) wl w7) := f7
                        clear ho7 f7 H7
                        refine hK.out _ _ trivial (fun hHeld => ?_)
                        clear hK K
                        try simp only [Act.put, List.setIfInBounds_toArray, List.set_cons_zero, List.set_cons_succ]
                        refine wpAnyH_take (i := 8) (oi := _) (v := ?_) (by rw [List.getElem?_toArray]; rfl) (by kernel_rfl) (by kernel_rfl) (by kernel_rfl) (fun _ _ _ h => by exact h) (Or.inl ⟨by rfl, ?_⟩) (by assumption) ?_
                        rotate_left
                        · (intro w hSw; (try dsimp only at hSw); go_simp; (try with_reducible rfl))
                        try simp only [Act.put, List.setIfInBounds_toArray, List.set_cons_zero, List.set_cons_succ]
                        refine wpAnyH_done (by kernel_rfl) ?_ _
                        have HWQ : Hid (∀ i, i < (ys.take q ++ zs).length → ((ys.take q ++ zs).getD i default).i = nb + 1 + i) := fun i hi => by
                            have hpp := want_p HYP.out HZP.out q
                            have hl : (es.take q ++ cs.drop j).length = (ys.take q ++ zs).length := by simpa using congrArg List.length hpp
                            rw [p_i hpp.symm i (by omega)]
                            exact want_ix (fun i hi => ents_ix HPE.out i hi) (fun i hi => HCI.out i (by have := HCL.out; omega)) Hq.out (by have := HQL.out; have := Hqq.out; have := Hq.out; omega) i (by omega)
                        have HLQ : Hid (Lg w7 gb (fun i => w3.heap.size ≤ i ∧ i ≠ gb) nb nt n (ys.take q ++ zs) v5) := (show Lg _ _ _ _ _ _ _ _ by have h := HLL.out.fr (HF2.out.trans G7.out) (by simp) (by simp); rw [show qq = q from by have := Hqq.out; have := Hq.out; omega] at h; exact h)
                        have KT : Hid (Calls Try.prog 13 #[.pointer (some ⟨gb, 0, none⟩), .agg #[.int .u64 (nb : Int), .int .u64 (nt : Int), .int .u64 (n : Int), .slice none 0 0], .slice a7 ws.length c7] w7 fun e w' => e = .returned (.bool true) ∧ Fr (fun _ => False) w7 w') := look_any HLQ.out a7 ws c7 _ _ HO7.out.erow (by rw [← Hws.out]; exact want_p HYP.out HZP.out q) HWQ.out (by have h := congrArg List.length HZP.out; simp at h; simp; have := HYL.out; omega) (fun y hy => by
                            rcases List.mem_append.1 hy with hy1 | hy1
                            · exact ents_d HYE.out y (List.mem_of_mem_take hy1)
                            · exact d_of_p HZP.out 1000000 (fun z hz => HCD.out z (List.mem_of_mem_drop hz)) y hy1) none 0 0
                        obtain ⟨s0, s1, s2, s3, sz0, sz1, sz2⟩ := HBX5.out.fr (HF2.out.trans G7.out) (by simp)
                        have hgx : gi = xi := by rw [← Hgi.out, ← Hxi.out, Hx.out]
                        subst hgx
                        go_wp2_with fail
                        refine KT.out.mono ?_
                        rintro e w9 ⟨rfl, f9⟩
                        go_wp2
                        go_ret
                        exact ⟨rfl, FTOT.out.trans (HF2.out.trans (G7.out.trans f9))⟩
                      exact AllReadyH.nil
                    exact AllReadyH.nil
                  · skip
                    have e2 : ¬ (q : Int) < (es.length : Int) := by omega
                    have e4 : decide (q < es.length) = false := by simpa using hqL
                    subst hcao
                    go_wp2
                    go_quiet (fail)
                    go_wp2_with fail
                    refine wp_region_held_drew (S := (fun _ : World => True)) (by kernel_rfl) trivial (fun hHeld => ?_)
                    refine wpAnyH_take (i := 0) (oi := _) (v := ?_) (by rw [List.getElem?_toArray]; rfl) (by kernel_rfl) (by kernel_rfl) (by kernel_rfl) (fun _ _ _ h => by exact h) (Or.inl ⟨by rfl, ?_⟩) (by assumption) ?_
                    rotate_left
                    · (intro w hSw; (try dsimp only at hSw); go_simp; (try with_reducible rfl))
                    try simp only [Act.put, List.setIfInBounds_toArray, List.set_cons_zero, List.set_cons_succ]
                    refine wpAnyH_take (i := 1) (oi := _) (v := ?_) (by rw [List.getElem?_toArray]; rfl) (by kernel_rfl) (by kernel_rfl) (by kernel_rfl) (fun _ _ _ h => by exact h) (Or.inl ⟨by rfl, ?_⟩) (by assumption) ?_
                    rotate_left
                    · (intro w hSw; (try dsimp only at hSw); go_simp; (try with_reducible rfl))
                    try simp only [Act.put, List.setIfInBounds_toArray, List.set_cons_zero, List.set_cons_succ]
                    refine wpAnyH_take (i := 2) (oi := _) (v := ?_) (by rw [List.getElem?_toArray]; rfl) (by kernel_rfl) (by kernel_rfl) (by kernel_rfl) (fun _ _ _ h => by exact h) (Or.inl ⟨by rfl, ?_⟩) (by assumption) ?_
                    rotate_left
                    · (intro w hSw; (try dsimp only at hSw); go_simp; (try with_reducible rfl))
                    try simp only [Act.put, List.setIfInBounds_toArray, List.set_cons_zero, List.set_cons_succ]
                    refine wpAnyH_take (i := 3) (oi := _) (v := ?_) (by rw [List.getElem?_toArray]; rfl) (by kernel_rfl) (by kernel_rfl) (by kernel_rfl) (fun _ _ _ h => by exact h) (Or.inl ⟨by rfl, ?_⟩) (by assumption) ?_
                    rotate_left
                    · (intro w hSw; (try dsimp only at hSw); go_simp; (try with_reducible rfl))
                    try simp only [Act.put, List.setIfInBounds_toArray, List.set_cons_zero, List.set_cons_succ]
                    refine wpAnyH_take (i := 4) (oi := _) (v := ?_) (by rw [List.getElem?_toArray]; rfl) (by kernel_rfl) (by kernel_rfl) (by kernel_rfl) (fun _ _ _ h => by exact h) (Or.inl ⟨by rfl, ?_⟩) (by assumption) ?_
                    rotate_left
                    · (intro w hSw; (try dsimp only at hSw); go_simp; (try with_reducible rfl))
                    try simp only [Act.put, List.setIfInBounds_toArray, List.set_cons_zero, List.set_cons_succ]
                    refine wpAnyH_take (i := 5) (oi := _) (v := ?_) (by rw [List.getElem?_toArray]; rfl) (by kernel_rfl) (by kernel_rfl) (by kernel_rfl) (fun _ _ _ h => by exact h) (Or.inl ⟨by rfl, ?_⟩) (by assumption) ?_
                    rotate_left
                    · (intro w hSw; (try dsimp only at hSw); go_simp; (try with_reducible rfl))
                    try simp only [Act.put, List.setIfInBounds_toArray, List.set_cons_zero, List.set_cons_succ]
                    refine wpAnyH_take (i := 6) (oi := _) (v := ?_) (by rw [List.getElem?_toArray]; rfl) (by kernel_rfl) (by kernel_rfl) (by kernel_rfl) (fun _ _ _ h => by exact h) (Or.inl ⟨by rfl, ?_⟩) (by assumption) ?_
                    rotate_left
                    · (intro w hSw; (try dsimp only at hSw); go_simp; (try with_reducible rfl))
                    try simp only [Act.put, List.setIfInBounds_toArray, List.set_cons_zero, List.set_cons_succ]
                    refine wpAnyH_take (i := 7) (oi := _) (v := ?_) (by rw [List.getElem?_toArray]; rfl) (by kernel_rfl) (by kernel_rfl) (by kernel_rfl) (fun _ _ _ h => by exact h) (Or.inl ⟨by rfl, ?_⟩) (by assumption) ?_
                    rotate_left
                    · (intro w hSw; (try dsimp only at hSw); go_simp; (try with_reducible rfl))
                    try simp only [Act.put, List.setIfInBounds_toArray, List.set_cons_zero, List.set_cons_succ]
                    refine wpAnyH_take (i := 8) (oi := _) (v := undef) (by rw [List.getElem?_toArray]; rfl) (by kernel_rfl) (by kernel_rfl) (by kernel_rfl) (fun _ _ _ h => by exact h) (Or.inr ⟨by rfl, rfl⟩) (by assumption) ?_
                    try simp only [Act.put, List.setIfInBounds_toArray, List.set_cons_zero, List.set_cons_succ]
                    refine wpAnyH_take (i := 9) (oi := _) (v := undef) (by rw [List.getElem?_toArray]; rfl) (by kernel_rfl) (by kernel_rfl) (by kernel_rfl) (fun _ _ _ h => by exact h) (Or.inr ⟨by rfl, rfl⟩) (by assumption) ?_
                    try simp only [Act.put, List.setIfInBounds_toArray, List.set_cons_zero, List.set_cons_succ]
                    refine wpAnyH_take (i := 10) (oi := _) (v := undef) (by rw [List.getElem?_toArray]; rfl) (by kernel_rfl) (by kernel_rfl) (by kernel_rfl) (fun _ _ _ h => by exact h) (Or.inr ⟨by rfl, rfl⟩) (by assumption) ?_
                    try simp only [Act.put, List.setIfInBounds_toArray, List.set_cons_zero, List.set_cons_succ]
                    refine wpAnyH_take (i := 11) (oi := _) (v := undef) (by rw [List.getElem?_toArray]; rfl) (by kernel_rfl) (by kernel_rfl) (by kernel_rfl) (fun _ _ _ h => by exact h) (Or.inr ⟨by rfl, rfl⟩) (by assumption) ?_
                    try simp only [Act.put, List.setIfInBounds_toArray, List.set_cons_zero, List.set_cons_succ]
                    refine wpAnyH_take (i := 12) (oi := _) (v := undef) (by rw [List.getElem?_toArray]; rfl) (by kernel_rfl) (by kernel_rfl) (by kernel_rfl) (fun _ _ _ h => by exact h) (Or.inr ⟨by rfl, rfl⟩) (by assumption) ?_
                    try simp only [Act.put, List.setIfInBounds_toArray, List.set_cons_zero, List.set_cons_succ]
                    refine wpAnyH_take (i := 13) (oi := _) (v := undef) (by rw [List.getElem?_toArray]; rfl) (by kernel_rfl) (by kernel_rfl) (by kernel_rfl) (fun _ _ _ h => by exact h) (Or.inr ⟨by rfl, rfl⟩) (by assumption) ?_
                    try simp only [Act.put, List.setIfInBounds_toArray, List.set_cons_zero, List.set_cons_succ]
                    refine wpAnyH_take (i := 14) (oi := _) (v := undef) (by rw [List.getElem?_toArray]; rfl) (by kernel_rfl) (by kernel_rfl) (by kernel_rfl) (fun _ _ _ h => by exact h) (Or.inr ⟨by rfl, rfl⟩) (by assumption) ?_
                    try simp only [Act.put, List.setIfInBounds_toArray, List.set_cons_zero, List.set_cons_succ]
                    refine wpAnyH_take (i := 15) (oi := _) (v := undef) (by rw [List.getElem?_toArray]; rfl) (by kernel_rfl) (by kernel_rfl) (by kernel_rfl) (fun _ _ _ h => by exact h) (Or.inr ⟨by rfl, rfl⟩) (by assumption) ?_
                    try simp only [Act.put, List.setIfInBounds_toArray, List.set_cons_zero, List.set_cons_succ]
                    refine wpAnyH_take (i := 16) (oi := _) (v := undef) (by rw [List.getElem?_toArray]; rfl) (by kernel_rfl) (by kernel_rfl) (by kernel_rfl) (fun _ _ _ h => by exact h) (Or.inr ⟨by rfl, rfl⟩) (by assumption) ?_
                    try simp only [Act.put, List.setIfInBounds_toArray, List.set_cons_zero, List.set_cons_succ]
                    refine wpAnyH_take (i := 17) (oi := _) (v := undef) (by rw [List.getElem?_toArray]; rfl) (by kernel_rfl) (by kernel_rfl) (by kernel_rfl) (fun _ _ _ h => by exact h) (Or.inr ⟨by rfl, rfl⟩) (by assumption) ?_
                    try simp only [Act.put, List.setIfInBounds_toArray, List.set_cons_zero, List.set_cons_succ]
                    refine wpAnyH_take (i := 18) (oi := _) (v := undef) (by rw [List.getElem?_toArray]; rfl) (by kernel_rfl) (by kernel_rfl) (by kernel_rfl) (fun _ _ _ h => by exact h) (Or.inr ⟨by rfl, rfl⟩) (by assumption) ?_
                    try simp only [Act.put, List.setIfInBounds_toArray, List.set_cons_zero, List.set_cons_succ]
                    refine wpAnyH_take (i := 19) (oi := _) (v := ?_) (by rw [List.getElem?_toArray]; rfl) (by kernel_rfl) (by kernel_rfl) (by kernel_rfl) (fun _ _ _ h => by exact h) (Or.inl ⟨by rfl, ?_⟩) (by assumption) ?_
                    rotate_left
                    · (intro w hSw; (try dsimp only at hSw); go_simp; (try with_reducible rfl))
                    try simp only [Act.put, List.setIfInBounds_toArray, List.set_cons_zero, List.set_cons_succ]
                    refine wpAnyH_take (i := 20) (oi := _) (v := ?_) (by rw [List.getElem?_toArray]; rfl) (by kernel_rfl) (by kernel_rfl) (by kernel_rfl) (fun _ _ _ h => by exact h) (Or.inl ⟨by rfl, ?_⟩) (by assumption) ?_
                    rotate_left
                    · (intro w hSw; (try dsimp only at hSw); go_simp; (try with_reducible rfl))
                    try simp only [Act.put, List.setIfInBounds_toArray, List.set_cons_zero, List.set_cons_succ]
                    refine wpAnyH_done (by kernel_rfl) ?_ _
                    have HTK : Hid (∀ W9, Fr (fun _ => False) wl W9 → ∃ v6 w6, (Builtin.append_ #[28, 28] 28 #[.slice none 0 0, .slice ao q cap]).run Try.prog W9 = .ok v6 w6 ∧ (OwnE w6 (fun i => w4.heap.size ≤ i ∨ (W.heap.size ≤ i ∧ i < w3.heap.size)) v6 (es.take q) ∧ Fr (fun _ => False) wl w6 ∧ ∀ i, v6.ownBlock = some i → wl.heap.size ≤ i)) := fun W9 f9 => by
                        obtain ⟨v6, w6, x1, x2, x3, x4⟩ := run_take W9 28 _ _ (fun i => w4.heap.size ≤ i ∨ (W.heap.size ≤ i ∧ i < w3.heap.size)) ao es cap (HES5.out.fr (HF2.out.trans f9) (by simp)).erow q (by omega) (fun i _ hi => Or.inr hi) (fun i hi => Or.inl (by have := HS45.out; have := (HF2.out.trans f9).size; omega)) (by omega)
                        exact ⟨v6, w6, x1, x2, f9.trans x3, fun i hi => Nat.le_trans f9.size (x4 i hi)⟩
                    have hcc1 := HCS5.out.erow.len.2.1
                    have hcc2 := HCS5.out.erow.len.2.2
                    have hcp1 := HES5.out.erow.len.2.1
                    have hcp2 := HES5.out.erow.len.2.2
                    have n1 : ¬ cc = j := by omega
                    have n2 : (q : Int) ≤ (cap : Int) := by omega
                    have n3 : (j : Int) ≤ (cs.length : Int) := by omega
                    have n4 : (cs.length : Int) ≤ (cc : Int) := by omega
                    go_wp2_with fail
                    refine wp_region_held_drew (S := (fun _ : World => True)) (by kernel_rfl) trivial (fun hHeld => ?_)
                    refine wpAnyH_take (i := 0) (oi := _) (v := ?_) (by rw [List.getElem?_toArray]; rfl) (by kernel_rfl) (by kernel_rfl) (by kernel_rfl) (fun _ _ _ h => by exact h) (Or.inl ⟨by rfl, ?_⟩) (by assumption) ?_
                    rotate_left
                    · (intro w hSw; (try dsimp only at hSw); go_simp; (try with_reducible rfl))
                    try simp only [Act.put, List.setIfInBounds_toArray, List.set_cons_zero, List.set_cons_succ]
                    refine wpAnyH_take (i := 1) (oi := _) (v := ?_) (by rw [List.getElem?_toArray]; rfl) (by kernel_rfl) (by kernel_rfl) (by kernel_rfl) (fun _ _ _ h => by exact h) (Or.inl ⟨by rfl, ?_⟩) (by assumption) ?_
                    rotate_left
                    · (intro w hSw; (try dsimp only at hSw); go_simp; (try with_reducible rfl))
                    try simp only [Act.put, List.setIfInBounds_toArray, List.set_cons_zero, List.set_cons_succ]
                    refine wpAnyH_take (i := 2) (oi := _) (v := ?_) (by rw [List.getElem?_toArray]; rfl) (by kernel_rfl) (by kernel_rfl) (by kernel_rfl) (fun _ _ _ h => by exact h) (Or.inl ⟨by rfl, ?_⟩) (by assumption) ?_
                    rotate_left
                    · (intro w hSw; (try dsimp only at hSw); go_simp; (try with_reducible rfl))
                    try simp only [Act.put, List.setIfInBounds_toArray, List.set_cons_zero, List.set_cons_succ]
                    refine wpAnyH_take (i := 4) (oi := _) (v := ?_) (by rw [List.getElem?_toArray]; rfl) (by kernel_rfl) (by kernel_rfl) (by kernel_rfl) (fun _ _ _ h => by exact h) (Or.inl ⟨by rfl, ?_⟩) (by assumption) ?_
                    rotate_left
                    · (intro w hSw; (try dsimp only at hSw); go_simp; (try with_reducible rfl))
                    try simp only [Act.put, List.setIfInBounds_toArray, List.set_cons_zero, List.set_cons_succ]
                    refine wpAnyH_take (i := 5) (oi := _) (v := ?_) (by rw [List.getElem?_toArray]; rfl) (by kernel_rfl) (by kernel_rfl) (by kernel_rfl) (fun _ _ _ h => by exact h) (Or.inl ⟨by rfl, ?_⟩) (by assumption) ?_
                    rotate_left
                    · (intro w hSw; (try dsimp only at hSw); go_simp; (try with_reducible rfl))
                    try simp only [Act.put, List.setIfInBounds_toArray, List.set_cons_zero, List.set_cons_succ]
                    refine wpAnyH_take (i := 6) (oi := _) (v := ?_) (by rw [List.getElem?_toArray]; rfl) (by kernel_rfl) (by kernel_rfl) (by kernel_rfl) (fun _ _ _ h => by exact h) (Or.inl ⟨by rfl, ?_⟩) (by assumption) ?_
                    rotate_left
                    · (intro w hSw; (try dsimp only at hSw); go_simp; (try with_reducible rfl))
                    try simp only [Act.put, List.setIfInBounds_toArray, List.set_cons_zero, List.set_cons_succ]
                    refine wpAnyH_ready (rs := [3]) (by kernel_rfl) (by simp) ?_
                    refine AllReadyH.cons (o := _) (by rw [List.getElem?_toArray]; rfl) (fun K hK => ?_) ?_
                    · refine step_append_ex rfl (.const (.slice none 0 0)) (.tmp 160) 28 rfl rfl rfl (HTK.out _ (by first | exact ((Fr.refl _ _).drewN _).drew | exact (Fr.refl _ _).drewN _)) ?_
                      rintro v6 w6 ⟨ho6, f6, hb6⟩
                      obtain ⟨a6, c6, hv6, _⟩ := ho6.form
                      subst hv6
                      have HO6 : Hid (OwnE w6 (fun i => w4.heap.size ≤ i ∨ (W.heap.size ≤ i ∧ i < w3.heap.size)) (.slice a6 (es.take q).length c6) (es.take q)) := ho6
                      have G6 : Hid (Fr (fun _ => False) wl w6) := f6
                      have HB6 : Hid (∀ i, (Value.slice a6 (es.take q).length c6).ownBlock = some i → wl.heap.size ≤ i) := hb6
                      clear ho6 f6 hb6
                      refine hK.out _ _ trivial (fun hHeld => ?_)
                      clear hK K
                      try simp only [Act.put, List.setIfInBounds_toArray, List.set_cons_zero, List.set_cons_succ]
                      refine wpAnyH_ready (rs := [7]) (by kernel_rfl) (by simp) ?_
                      refine AllReadyH.cons (o := _) (by rw [List.getElem?_toArray]; rfl) (fun K hK => ?_) ?_
                      · have H7 : ∃ v7 w7, (Builtin.append_ #[28, 28] 28 #[.slice a6 (es.take q).length c6, .slice (some ⟨cb, co + j * 4, none⟩) (cs.length - j) (cc - j)]).run Try.prog w6 = .ok v7 w7 ∧ (OwnE w7 (fun i => w4.heap.size ≤ i ∨ (W.heap.size ≤ i ∧ i < w3.heap.size)) v7 (es.take q ++ cs.drop j) ∧ Fr (fun _ => False) wl w7) := by
                            have hrow := (HCS5.out.fr (HF2.out.trans G6.out) (by simp)).erow.drop' j (by omega)
                            obtain ⟨v7, w7, x1, x2, x3, x4⟩ := run_append_ents w6 28 (fun i => w4.heap.size ≤ i ∨ (W.heap.size ≤ i ∧ i < w3.heap.size)) (.slice a6 (es.take q).length c6) (es.take q) HO6.out ⟨cb, co + j * 4, none⟩ (cs.drop j) (cc - j) hrow.cells (fun y hy => (((HCS5.out.fr HF2.out (by simp)).erow.2.2.2.1 y (List.mem_of_mem_drop hy)).mono (fun i hi hd => ⟨hd, fun e => by have := HB6.out i e; omega⟩)).fr G6.out (by simp)) (fun i hi => Or.inl (by have := HS45.out; have := HF2.out.size; have := G6.out.size; omega)) (by simp; omega)
                            rw [show (cs.drop j).length = cs.length - j by simp] at x1
                            exact ⟨v7, w7, x1, x2, G6.out.trans' (Fr.grown (S := fun i => (Value.slice a6 (es.take q).length c6).ownBlock = some i) (Fr.refl _ _) x3 (fun i hi => .inl hi)) (fun i hi e => by have := HB6.out i e; omega)⟩
                        refine step_append_ex rfl (.tmp 161) (.tmp 164) 28 rfl rfl rfl H7 ?_
                        rintro v7 w7 ⟨ho7, f7⟩
                        obtain ⟨ws, Hws⟩ : ∃ ws, Hid (es.take q ++ cs.drop j = ws) := ⟨_, rfl⟩
                        rw [Hws.out] at ho7
                        obtain ⟨a7, c7, hv7, _⟩ := ho7.form
                        subst hv7
                        have HO7 : Hid (OwnE w7 (fun i => w4.heap.size ≤ i ∨ (W.heap.size ≤ i ∧ i < w3.heap.size)) (.slice a7 ws.length c7) ws) := ho7
                        have G7 : Hid (Fr (fun _ => False) wl w7) := f7
                        clear ho7 f7 H7
                        refine hK.out _ _ trivial (fun hHeld => ?_)
                        clear hK K
                        try simp only [Act.put, List.setIfInBounds_toArray, List.set_cons_zero, List.set_cons_succ]
                        refine wpAnyH_take (i := 8) (oi := _) (v := ?_) (by rw [List.getElem?_toArray]; rfl) (by kernel_rfl) (by kernel_rfl) (by kernel_rfl) (fun _ _ _ h => by exact h) (Or.inl ⟨by rfl, ?_⟩) (by assumption) ?_
                        rotate_left
                        · (intro w hSw; (try dsimp only at hSw); go_simp; (try with_reducible rfl))
                        try simp only [Act.put, List.setIfInBounds_toArray, List.set_cons_zero, List.set_cons_succ]
                        refine wpAnyH_done (by kernel_rfl) ?_ _
                        have HWQ : Hid (∀ i, i < (ys.take q ++ zs).length → ((ys.take q ++ zs).getD i default).i = nb + 1 + i) := fun i hi => by
                            have hpp := want_p HYP.out HZP.out q
                            have hl : (es.take q ++ cs.drop j).length = (ys.take q ++ zs).length := by simpa using congrArg List.length hpp
                            rw [p_i hpp.symm i (by omega)]
                            exact want_ix (fun i hi => ents_ix HPE.out i hi) (fun i hi => HCI.out i (by have := HCL.out; omega)) Hq.out (by have := HQL.out; have := Hqq.out; have := Hq.out; omega) i (by omega)
                        have HLQ : Hid (Lg w7 gb (fun i => w3.heap.size ≤ i ∧ i ≠ gb) nb nt n (ys.take q ++ zs) v5) := (show Lg _ _ _ _ _ _ _ _ by have h := HLL.out.fr (HF2.out.trans G7.out) (by simp) (by simp); rw [show qq = q from by have := Hqq.out; have := Hq.out; omega] at h; exact h)
                        have KT : Hid (Calls Try.prog 13 #[.pointer (some ⟨gb, 0, none⟩), .agg #[.int .u64 (nb : Int), .int .u64 (nt : Int), .int .u64 (n : Int), .slice none 0 0], .slice a7 ws.length c7] w7 fun e w' => e = .returned (.bool true) ∧ Fr (fun _ => False) w7 w') := look_any HLQ.out a7 ws c7 _ _ HO7.out.erow (by rw [← Hws.out]; exact want_p HYP.out HZP.out q) HWQ.out (by have h := congrArg List.length HZP.out; simp at h; simp; have := HYL.out; omega) (fun y hy => by
                            rcases List.mem_append.1 hy with hy1 | hy1
                            · exact ents_d HYE.out y (List.mem_of_mem_take hy1)
                            · exact d_of_p HZP.out 1000000 (fun z hz => HCD.out z (List.mem_of_mem_drop hz)) y hy1) none 0 0
                        obtain ⟨s0, s1, s2, s3, sz0, sz1, sz2⟩ := HBX5.out.fr (HF2.out.trans G7.out) (by simp)
                        have hgx : gi = xi := by rw [← Hgi.out, ← Hxi.out, Hx.out]
                        subst hgx
                        go_wp2_with fail
                        refine KT.out.mono ?_
                        rintro e w9 ⟨rfl, f9⟩
                        go_wp2
                        go_ret
                        exact ⟨rfl, FTOT.out.trans (HF2.out.trans (G7.out.trans f9))⟩
                      exact AllReadyH.nil
                    exact AllReadyH.nil
      · have hk3 : ¬ (k : Int) < (others.length : Int) := by omega
        go_wp2_with fail
        refine KM.out.mono ?_
        rintro e w5 hm
        rcases hm with ⟨hno, rfl, f5⟩ | ⟨m, hm1, hyes, hlow, hrest⟩
        · skip
          as_aux_lemma =>
            have F5 : Hid (Fr (fun _ => False) wr w5) := f5
            have HNO : Hid (∀ j, j < cs.length → lkB nb nt ys (cs.getD j default) = false) := hno
            have HL5 : Hid (Lg w5 gb (fun j => w3.heap.size ≤ j ∧ j ≠ gb) nb nt n ys v) := HLG.out.fr (HF.out.trans F5.out) (by simp) (by simp)
            have FTOT : Hid (Fr (fun _ => False) w w5) := F4.out.trans (HF.out.trans F5.out)
            clear hno f5
            have HBX5 : Hid (Box26 w5 sb nb nt n) := BX.out.fr (HF.out.trans F5.out) (by simp)
            have HCS5 : Hid (OwnE w5 (fun j => w4.heap.size ≤ j ∨ (W.heap.size ≤ j ∧ j < w3.heap.size)) (.slice ca cs.length cc) cs) := HCO.out.fr F5.out (by simp)
            have HES5 : Hid (OwnE w5 (fun j => W.heap.size ≤ j ∧ j < w3.heap.size) (.slice ao es.length cap) es) := HO4.out.fr (HF.out.trans F5.out) (by simp)
            go_wp2_with fail
            go_loopw [24, 25, 26] (fun wv fv iv wl => ∃ j : Nat, j ≤ cs.length ∧ iv = .int .i64 (j : Int) ∧ wv = .slice ao es.length cap ∧ fv = .int .u64 0 ∧ Hid (Fr (fun _ => False) w5 wl)) (fun _ _ iv _ => cs.length - (intOf iv).toNat)
            case atStart => exact ⟨0, Nat.zero_le _, rfl, rfl, rfl, Fr.refl _ _⟩
            case round =>
              obtain ⟨j, hj, rfl, rfl, rfl, HF2⟩ := hrel
              rename World => wl
              by_cases hjL : j < cs.length
              · skip
                have hct := (lk_iff HYP.out nb nt K j (cs.getD j default) (HCI.out j (by have := HCL.out; omega))).1 (HNO.out j hjL)
                have hcl12 : cs.length ≤ 12 := by have := HCL.out; omega
                obtain ⟨cb, co, x, hcao, _, l0, l1, l2, l3, gx, Hx⟩ := (HCS5.out.fr HF2.out (by simp)).erow.at hjL
                have hxi : x.i = nb + K + j := by rw [Hx.out]; exact HCI.out j (by have := HCL.out; omega)
                have hxe : (x.i : Int) = (nb : Int) + (K : Int) + (j : Int) := by omega
                obtain ⟨s0, s1, s2, s3, sz0, sz1, sz2⟩ := HBX5.out.fr HF2.out (by simp)
                obtain ⟨xi, Hxi⟩ : ∃ xi, Hid (x.i = xi) := ⟨_, rfl⟩
                rw [Hxi.out] at l0 hxe
                have hxb : xi ≤ 2000 := by have := Hxi.out; omega
                have HXJ : Hid (∀ a : Nat, a = K + j → (xi : Int) - (nb : Int) = (a : Int)) := fun a ha => by omega
                have j0 : (0 : Int) ≤ (j : Int) := by omega
                have j1 : (j : Int) < (cs.length : Int) := by omega
                have hjL3 : j < cs.length := hjL
                clear hxi hxe gx
                by_cases h0 : K + j = 0
                · have hq0 : (xi : Int) - (nb : Int) = 0 := by have := HXJ.out 0 (by omega); omega
                  subst hcao
                  go_wp2
                  go_quiet (fail)
                  go_wp2
                  go_quiet (fail)
                  go_wp2
                  go_roundw
                  case rel => exact ⟨j + 1, by omega, by go_num, rfl, rfl, HF2.out.drewN _⟩
                  case measure => simp [intOf]; omega
                · obtain ⟨hq1, hq2⟩ := hct.resolve_left h0
                  obtain ⟨q, Hq⟩ : ∃ q : Nat, Hid (K + j = q + 1) := ⟨K + j - 1, by show _ = _; omega⟩
                  obtain ⟨q1, Hq1⟩ : ∃ q1 : Nat, Hid ((xi : Int) - (nb : Int) = (q1 : Int) ∧ (q1 : Int) - 1 = (q : Int)) := ⟨q + 1, HXJ.out (q + 1) (by have := Hq.out; omega), by omega⟩
                  have hqa := Hq1.out.1
                  have hqb := Hq1.out.2
                  have hqL : q < es.length := by have := Hq.out; omega
                  obtain ⟨eb, eo, y, heao, _, m0, m1, m2, m3, gy, Hy⟩ := (HES5.out.fr HF2.out (by simp)).erow.at hqL
                  have hyt : y.t = x.t := by rw [Hy.out, Hx.out, ← hq2]; congr 2; have := Hq.out; omega
                  rw [← hyt] at l1
                  have e1 : (0 : Int) ≤ (q : Int) := by omega
                  have e2 : (q : Int) < (es.length : Int) := by omega
                  subst heao
                  clear gy hyt hq1 hq2 hct
                  subst hcao
                  go_wp2
                  go_quiet (fail)
                  go_wp2
                  go_quiet (fail)
                  go_wp2
                  go_roundw
                  case rel => exact ⟨j + 1, by omega, by go_num, rfl, rfl, HF2.out.drewN _⟩
                  case measure => simp [intOf]; omega
              · have hjL2 : ¬ (j : Int) < (cs.length : Int) := by omega
                obtain ⟨s0, s1, s2, s3, sz0, sz1, sz2⟩ := HBX5.out.fr HF2.out (by simp)
                have KT : Hid (∀ W9, Fr (fun _ => False) wl W9 → Calls Try.prog 13 #[.pointer (some ⟨gb, 0, none⟩), .agg #[.int .u64 (nb : Int), .int .u64 (nt : Int), .int .u64 (n : Int), .slice none 0 0], .slice ao es.length cap] W9 fun e w' => e = .returned (.bool true) ∧ Fr (fun _ => False) W9 w') := fun W9 f9 => look_any (HL5.out.fr (HF2.out.trans f9) (by simp) (by simp)) ao es cap _ _ (HES5.out.fr (HF2.out.trans f9) (by simp)).erow HYP.out.symm (fun i hi => ents_ix HYE.out i hi) (by have := HYL.out; omega) (ents_d HYE.out) none 0 0
                go_wp2_with fail
                refine (KT.out _ (Fr.refl _ _)).mono ?_
                rintro e w9 ⟨rfl, f9⟩
                go_wp2
                go_ret
                exact ⟨rfl, FTOT.out.trans (HF2.out.trans (Fr.trans (Fr.refl _ _) f9))⟩
        · skip
          have HLOW : Hid (∀ i, i < m → lkB nb nt ys (cs.getD i default) = false) := hlow
          have HNC : Hid (¬ (K + m = 0 ∨ (K + m ≤ es.length ∧ (es.getD (K + m - 1) default).t = (cs.getD m default).t))) := fun h => by have h2 := (lk_iff HYP.out nb nt K m (cs.getD m default) (HCI.out m (by have := HCL.out; omega))).2 h; rw [h2] at hyes; cases hyes
          have HGI : Hid ((cs.getD m default).i = nb + K + m) := HCI.out m (by have := HCL.out; omega)
          rcases hrest with ⟨hgap, rfl, f5⟩ | ⟨hle, rfl, ⟨v5, zs, hlg, hzp⟩, f5⟩
          · skip
            as_aux_lemma =>
              have F5 : Hid (Fr (fun _ => False) wr w5) := f5
              have HGAP : Hid (es.length + 1 < K + m) := (show _ < _ by have h1 := HGI.out; have h2 := HYL.out; omega)
              have HL5 : Hid (Lg w5 gb (fun j => w3.heap.size ≤ j ∧ j ≠ gb) nb nt n ys v) := HLG.out.fr (HF.out.trans F5.out) (by simp) (by simp)
              have FTOT : Hid (Fr (fun _ => False) w w5) := F4.out.trans (HF.out.trans F5.out)
              clear hyes hlow f5 hgap
              have HBX5 : Hid (Box26 w5 sb nb nt n) := BX.out.fr (HF.out.trans F5.out) (by simp)
              have HCS5 : Hid (OwnE w5 (fun j => w4.heap.size ≤ j ∨ (W.heap.size ≤ j ∧ j < w3.heap.size)) (.slice ca cs.length cc) cs) := HCO.out.fr F5.out (by simp)
              have HES5 : Hid (OwnE w5 (fun j => W.heap.size ≤ j ∧ j < w3.heap.size) (.slice ao es.length cap) es) := HO4.out.fr (HF.out.trans F5.out) (by simp)
              go_wp2_with fail
              go_loopw [24, 25, 26] (fun wv fv iv wl => ∃ j : Nat, j ≤ m ∧ iv = .int .i64 (j : Int) ∧ wv = .slice ao es.length cap ∧ fv = .int .u64 0 ∧ Hid (Fr (fun _ => False) w5 wl)) (fun _ _ iv _ => cs.length - (intOf iv).toNat)
              case atStart => exact ⟨0, Nat.zero_le _, rfl, rfl, rfl, Fr.refl _ _⟩
              case round =>
                obtain ⟨j, hj, rfl, rfl, rfl, HF2⟩ := hrel
                rename World => wl
                by_cases hjm : j < m
                · have hjL : j < cs.length := by omega
                  have hct := (lk_iff HYP.out nb nt K j (cs.getD j default) (HCI.out j (by have := HCL.out; omega))).1 (HLOW.out j hjm)
                  have hcl12 : cs.length ≤ 12 := by have := HCL.out; omega
                  obtain ⟨cb, co, x, hcao, _, l0, l1, l2, l3, gx, Hx⟩ := (HCS5.out.fr HF2.out (by simp)).erow.at hjL
                  have hxi : x.i = nb + K + j := by rw [Hx.out]; exact HCI.out j (by have := HCL.out; omega)
                  have hxe : (x.i : Int) = (nb : Int) + (K : Int) + (j : Int) := by omega
                  obtain ⟨s0, s1, s2, s3, sz0, sz1, sz2⟩ := HBX5.out.fr HF2.out (by simp)
                  obtain ⟨xi, Hxi⟩ : ∃ xi, Hid (x.i = xi) := ⟨_, rfl⟩
                  rw [Hxi.out] at l0 hxe
                  have hxb : xi ≤ 2000 := by have := Hxi.out; omega
                  have HXJ : Hid (∀ a : Nat, a = K + j → (xi : Int) - (nb : Int) = (a : Int)) := fun a ha => by omega
                  have j0 : (0 : Int) ≤ (j : Int) := by omega
                  have j1 : (j : Int) < (cs.length : Int) := by omega
                  have hjL3 : j < cs.length := hjL
                  clear hxi hxe gx
                  by_cases h0 : K + j = 0
                  · have hq0 : (xi : Int) - (nb : Int) = 0 := by have := HXJ.out 0 (by omega); omega
                    subst hcao
                    go_wp2
                    go_quiet (fail)
                    go_wp2
                    go_quiet (fail)
                    go_wp2
                    go_roundw
                    case rel => exact ⟨j + 1, by omega, by go_num, rfl, rfl, HF2.out.drewN _⟩
                    case measure => simp [intOf]; omega
                  · obtain ⟨hq1, hq2⟩ := hct.resolve_left h0
                    obtain ⟨q, Hq⟩ : ∃ q : Nat, Hid (K + j = q + 1) := ⟨K + j - 1, by show _ = _; omega⟩
                    obtain ⟨q1, Hq1⟩ : ∃ q1 : Nat, Hid ((xi : Int) - (nb : Int) = (q1 : Int) ∧ (q1 : Int) - 1 = (q : Int)) := ⟨q + 1, HXJ.out (q + 1) (by have := Hq.out; omega), by omega⟩
                    have hqa := Hq1.out.1
                    have hqb := Hq1.out.2
                    have hqL : q < es.length := by have := Hq.out; omega
                    obtain ⟨eb, eo, y, heao, _, m0, m1, m2, m3, gy, Hy⟩ := (HES5.out.fr HF2.out (by simp)).erow.at hqL
                    have hyt : y.t = x.t := by rw [Hy.out, Hx.out, ← hq2]; congr 2; have := Hq.out; omega
                    rw [← hyt] at l1
                    have e1 : (0 : Int) ≤ (q : Int) := by omega
                    have e2 : (q : Int) < (es.length : Int) := by omega
                    subst heao
                    clear gy hyt hq1 hq2 hct
                    subst hcao
                    go_wp2
                    go_quiet (fail)
                    go_wp2
                    go_quiet (fail)
                    go_wp2
                    go_roundw
                    case rel => exact ⟨j + 1, by omega, by go_num, rfl, rfl, HF2.out.drewN _⟩
                    case measure => simp [intOf]; omega
                · have hjm2 : j = m := by omega
                  subst hjm2
                  have hjL : j < cs.length := hm1
                  have hcl12 : cs.length ≤ 12 := by have := HCL.out; omega
                  obtain ⟨cb, co, x, hcao, _, l0, l1, l2, l3, gx, Hx⟩ := (HCS5.out.fr HF2.out (by simp)).erow.at hjL
                  have hxi : x.i = nb + K + j := by rw [Hx.out]; exact HCI.out j (by have := HCL.out; omega)
                  have hxe : (x.i : Int) = (nb : Int) + (K : Int) + (j : Int) := by omega
                  obtain ⟨s0, s1, s2, s3, sz0, sz1, sz2⟩ := HBX5.out.fr HF2.out (by simp)
                  obtain ⟨xi, Hxi⟩ : ∃ xi, Hid (x.i = xi) := ⟨_, rfl⟩
                  rw [Hxi.out] at l0 hxe
                  have hxb : xi ≤ 2000 := by have := Hxi.out; omega
                  have HXJ : Hid (∀ a : Nat, a = K + j → (xi : Int) - (nb : Int) = (a : Int)) := fun a ha => by omega
                  have j0 : (0 : Int) ≤ (j : Int) := by omega
                  have j1 : (j : Int) < (cs.length : Int) := by omega
                  have hjL3 : j < cs.length := hjL
                  clear hxi hxe gx
                  have h0 : ¬ K + j = 0 := fun e => HNC.out (Or.inl e)
                  obtain ⟨q, Hq⟩ : ∃ q : Nat, Hid (K + j = q + 1) := ⟨K + j - 1, by show _ = _; omega⟩
                  obtain ⟨q1, Hq1⟩ : ∃ q1 : Nat, Hid ((xi : Int) - (nb : Int) = (q1 : Int) ∧ (q1 : Int) - 1 = (q : Int)) := ⟨q + 1, HXJ.out (q + 1) (by have := Hq.out; omega), by omega⟩
                  have hqa := Hq1.out.1
                  have hqb := Hq1.out.2
                  have e1 : (0 : Int) ≤ (q : Int) := by omega
                  have e2 : ¬ (q : Int) < (es.length : Int) := by have := HGAP.out; have := Hq.out; omega
                  have e3 : ¬ (q : Int) ≤ (es.length : Int) := by have := HGAP.out; have := Hq.out; omega
                  have e4 : ¬ q < es.length := by omega
                  have e5 : decide (q < es.length) = false := by simpa using e4
                  have e6 : ¬ q ≤ es.length := by omega
                  have e7 : decide (q ≤ es.length) = false := by simpa using e6
                  have KT : Hid (∀ W9, Fr (fun _ => False) wl W9 → Calls Try.prog 13 #[.pointer (some ⟨gb, 0, none⟩), .agg #[.int .u64 (nb : Int), .int .u64 (nt : Int), .int .u64 (n : Int), .slice none 0 0], .slice ao es.length cap] W9 fun e w' => e = .returned (.bool true) ∧ Fr (fun _ => False) W9 w') := fun W9 f9 => look_any (HL5.out.fr (HF2.out.trans f9) (by simp) (by simp)) ao es cap _ _ (HES5.out.fr (HF2.out.trans f9) (by simp)).erow HYP.out.symm (fun i hi => ents_ix HYE.out i hi) (by have := HYL.out; omega) (ents_d HYE.out) none 0 0
                  subst hcao
                  go_wp2
                  go_quiet (fail)
                  go_wp2_with fail
                  refine wp_region_held_drew (S := (fun _ : World => True)) (by kernel_rfl) trivial (fun hHeld => ?_)
                  refine wpAnyH_take (i := 0) (oi := _) (v := ?_) (by rw [List.getElem?_toArray]; rfl) (by kernel_rfl) (by kernel_rfl) (by kernel_rfl) (fun _ _ _ h => by exact h) (Or.inl ⟨by rfl, ?_⟩) (by assumption) ?_
                  rotate_left
                  · (intro w hSw; (try dsimp only at hSw); go_simp; (try with_reducible rfl))
                  try simp only [Act.put, List.setIfInBounds_toArray, List.set_cons_zero, List.set_cons_succ]
                  refine wpAnyH_take (i := 1) (oi := _) (v := ?_) (by rw [List.getElem?_toArray]; rfl) (by kernel_rfl) (by kernel_rfl) (by kernel_rfl) (fun _ _ _ h => by exact h) (Or.inl ⟨by rfl, ?_⟩) (by assumption) ?_
                  rotate_left
                  · (intro w hSw; (try dsimp only at hSw); go_simp; (try with_reducible rfl))
                  try simp only [Act.put, List.setIfInBounds_toArray, List.set_cons_zero, List.set_cons_succ]
                  refine wpAnyH_take (i := 2) (oi := _) (v := ?_) (by rw [List.getElem?_toArray]; rfl) (by kernel_rfl) (by kernel_rfl) (by kernel_rfl) (fun _ _ _ h => by exact h) (Or.inl ⟨by rfl, ?_⟩) (by assumption) ?_
                  rotate_left
                  · (intro w hSw; (try dsimp only at hSw); go_simp; (try with_reducible rfl))
                  try simp only [Act.put, List.setIfInBounds_toArray, List.set_cons_zero, List.set_cons_succ]
                  refine wpAnyH_take (i := 3) (oi := _) (v := ?_) (by rw [List.getElem?_toArray]; rfl) (by kernel_rfl) (by kernel_rfl) (by kernel_rfl) (fun _ _ _ h => by exact h) (Or.inl ⟨by rfl, ?_⟩) (by assumption) ?_
                  rotate_left
                  · (intro w hSw; (try dsimp only at hSw); go_simp; (try with_reducible rfl))
                  try simp only [Act.put, List.setIfInBounds_toArray, List.set_cons_zero, List.set_cons_succ]
                  refine wpAnyH_take (i := 4) (oi := _) (v := ?_) (by rw [List.getElem?_toArray]; rfl) (by kernel_rfl) (by kernel_rfl) (by kernel_rfl) (fun _ _ _ h => by exact h) (Or.inl ⟨by rfl, ?_⟩) (by assumption) ?_
                  rotate_left
                  · (intro w hSw; (try dsimp only at hSw); go_simp; (try with_reducible rfl))
                  try simp only [Act.put, List.setIfInBounds_toArray, List.set_cons_zero, List.set_cons_succ]
                  refine wpAnyH_take (i := 5) (oi := _) (v := ?_) (by rw [List.getElem?_toArray]; rfl) (by kernel_rfl) (by kernel_rfl) (by kernel_rfl) (fun _ _ _ h => by exact h) (Or.inl ⟨by rfl, ?_⟩) (by assumption) ?_
                  rotate_left
                  · (intro w hSw; (try dsimp only at hSw); go_simp; (try with_reducible rfl))
                  try simp only [Act.put, List.setIfInBounds_toArray, List.set_cons_zero, List.set_cons_succ]
                  refine wpAnyH_take (i := 6) (oi := _) (v := ?_) (by rw [List.getElem?_toArray]; rfl) (by kernel_rfl) (by kernel_rfl) (by kernel_rfl) (fun _ _ _ h => by exact h) (Or.inl ⟨by rfl, ?_⟩) (by assumption) ?_
                  rotate_left
                  · (intro w hSw; (try dsimp only at hSw); go_simp; (try with_reducible rfl))
                  try simp only [Act.put, List.setIfInBounds_toArray, List.set_cons_zero, List.set_cons_succ]
                  refine wpAnyH_take (i := 7) (oi := _) (v := ?_) (by rw [List.getElem?_toArray]; rfl) (by kernel_rfl) (by kernel_rfl) (by kernel_rfl) (fun _ _ _ h => by exact h) (Or.inl ⟨by rfl, ?_⟩) (by assumption) ?_
                  rotate_left
                  · (intro w hSw; (try dsimp only at hSw); go_simp; (try with_reducible rfl))
                  try simp only [Act.put, List.setIfInBounds_toArray, List.set_cons_zero, List.set_cons_succ]
                  refine wpAnyH_take (i := 8) (oi := _) (v := undef) (by rw [List.getElem?_toArray]; rfl) (by kernel_rfl) (by kernel_rfl) (by kernel_rfl) (fun _ _ _ h => by exact h) (Or.inr ⟨by rfl, rfl⟩) (by assumption) ?_
                  try simp only [Act.put, List.setIfInBounds_toArray, List.set_cons_zero, List.set_cons_succ]
                  refine wpAnyH_take (i := 9) (oi := _) (v := undef) (by rw [List.getElem?_toArray]; rfl) (by kernel_rfl) (by kernel_rfl) (by kernel_rfl) (fun _ _ _ h => by exact h) (Or.inr ⟨by rfl, rfl⟩) (by assumption) ?_
                  try simp only [Act.put, List.setIfInBounds_toArray, List.set_cons_zero, List.set_cons_succ]
                  refine wpAnyH_take (i := 10) (oi := _) (v := undef) (by rw [List.getElem?_toArray]; rfl) (by kernel_rfl) (by kernel_rfl) (by kernel_rfl) (fun _ _ _ h => by exact h) (Or.inr ⟨by rfl, rfl⟩) (by assumption) ?_
                  try simp only [Act.put, List.setIfInBounds_toArray, List.set_cons_zero, List.set_cons_succ]
                  refine wpAnyH_take (i := 11) (oi := _) (v := undef) (by rw [List.getElem?_toArray]; rfl) (by kernel_rfl) (by kernel_rfl) (by kernel_rfl) (fun _ _ _ h => by exact h) (Or.inr ⟨by rfl, rfl⟩) (by assumption) ?_
                  try simp only [Act.put, List.setIfInBounds_toArray, List.set_cons_zero, List.set_cons_succ]
                  refine wpAnyH_take (i := 12) (oi := _) (v := undef) (by rw [List.getElem?_toArray]; rfl) (by kernel_rfl) (by kernel_rfl) (by kernel_rfl) (fun _ _ _ h => by exact h) (Or.inr ⟨by rfl, rfl⟩) (by assumption) ?_
                  try simp only [Act.put, List.setIfInBounds_toArray, List.set_cons_zero, List.set_cons_succ]
                  refine wpAnyH_take (i := 13) (oi := _) (v := undef) (by rw [List.getElem?_toArray]; rfl) (by kernel_rfl) (by kernel_rfl) (by kernel_rfl) (fun _ _ _ h => by exact h) (Or.inr ⟨by rfl, rfl⟩) (by assumption) ?_
                  try simp only [Act.put, List.setIfInBounds_toArray, List.set_cons_zero, List.set_cons_succ]
                  refine wpAnyH_take (i := 14) (oi := _) (v := undef) (by rw [List.getElem?_toArray]; rfl) (by kernel_rfl) (by kernel_rfl) (by kernel_rfl) (fun _ _ _ h => by exact h) (Or.inr ⟨by rfl, rfl⟩) (by assumption) ?_
                  try simp only [Act.put, List.setIfInBounds_toArray, List.set_cons_zero, List.set_cons_succ]
                  refine wpAnyH_take (i := 15) (oi := _) (v := undef) (by rw [List.getElem?_toArray]; rfl) (by kernel_rfl) (by kernel_rfl) (by kernel_rfl) (fun _ _ _ h => by exact h) (Or.inr ⟨by rfl, rfl⟩) (by assumption) ?_
                  try simp only [Act.put, List.setIfInBounds_toArray, List.set_cons_zero, List.set_cons_succ]
                  refine wpAnyH_take (i := 16) (oi := _) (v := undef) (by rw [List.getElem?_toArray]; rfl) (by kernel_rfl) (by kernel_rfl) (by kernel_rfl) (fun _ _ _ h => by exact h) (Or.inr ⟨by rfl, rfl⟩) (by assumption) ?_
                  try simp only [Act.put, List.setIfInBounds_toArray, List.set_cons_zero, List.set_cons_succ]
                  refine wpAnyH_take (i := 17) (oi := _) (v := undef) (by rw [List.getElem?_toArray]; rfl) (by kernel_rfl) (by kernel_rfl) (by kernel_rfl) (fun _ _ _ h => by exact h) (Or.inr ⟨by rfl, rfl⟩) (by assumption) ?_
                  try simp only [Act.put, List.setIfInBounds_toArray, List.set_cons_zero, List.set_cons_succ]
                  refine wpAnyH_take (i := 18) (oi := _) (v := undef) (by rw [List.getElem?_toArray]; rfl) (by kernel_rfl) (by kernel_rfl) (by kernel_rfl) (fun _ _ _ h => by exact h) (Or.inr ⟨by rfl, rfl⟩) (by assumption) ?_
                  try simp only [Act.put, List.setIfInBounds_toArray, List.set_cons_zero, List.set_cons_succ]
                  refine wpAnyH_take (i := 19) (oi := _) (v := ?_) (by rw [List.getElem?_toArray]; rfl) (by kernel_rfl) (by kernel_rfl) (by kernel_rfl) (fun _ _ _ h => by exact h) (Or.inl ⟨by rfl, ?_⟩) (by assumption) ?_
                  rotate_left
                  · (intro w hSw; (try dsimp only at hSw); go_simp; (try with_reducible rfl))
                  try simp only [Act.put, List.setIfInBounds_toArray, List.set_cons_zero, List.set_cons_succ]
                  refine wpAnyH_take (i := 20) (oi := _) (v := ?_) (by rw [List.getElem?_toArray]; rfl) (by kernel_rfl) (by kernel_rfl) (by kernel_rfl) (fun _ _ _ h => by exact h) (Or.inl ⟨by rfl, ?_⟩) (by assumption) ?_
                  rotate_left
                  · (intro w hSw; (try dsimp only at hSw); go_simp; (try with_reducible rfl))
                  try simp only [Act.put, List.setIfInBounds_toArray, List.set_cons_zero, List.set_cons_succ]
                  refine wpAnyH_done (by kernel_rfl) ?_ _
                  go_wp2_with fail
                  refine (KT.out _ ((Fr.refl _ _).drewN _)).mono ?_
                  rintro e w9 ⟨rfl, f9⟩
                  go_wp2
                  go_ret
                  exact ⟨rfl, FTOT.out.trans (HF2.out.trans (Fr.trans ((Fr.refl _ _).drewN _) f9))⟩
          · skip
            as_aux_lemma =>
              have HVB : Hid (∀ i, v.ownBlock = some i → w3.heap.size ≤ i ∧ i < w4.heap.size) := fun i hi => ⟨(HLG.out.own.blk i hi).1, HLG.out.own.lt i hi⟩
              have HGBB : Hid (w3.heap.size ≤ gb ∧ gb < w4.heap.size) := ⟨HGB.out, HLG.out.lt⟩
              have HWS : Hid (W.heap.size ≤ w3.heap.size ∧ w.heap.size ≤ w3.heap.size) := ⟨HW3s.out, F3.out.size⟩
              have HF5 : Hid (Fr (fun i => i = gb ∨ v.ownBlock = some i) wr w5) := f5
              have HS45 : Hid (w4.heap.size ≤ w5.heap.size) := Nat.le_trans HF.out.size f5.size
              obtain ⟨qq, Hqq⟩ : ∃ qq : Nat, Hid (K + m = qq + 1) := ⟨K + m - 1, by have h : ¬ K + m = 0 := fun e => HNC.out (Or.inl e); show _ = _; omega⟩
              have HLL : Hid (Lg w5 gb (fun j => w3.heap.size ≤ j ∧ j ≠ gb) nb nt n (ys.take qq ++ zs) v5) := (show Lg _ _ _ _ _ _ _ _ by have h := hlg; rw [show (cs.getD m default).i - nb - 1 = qq from by have := HGI.out; have := Hqq.out; omega] at h; exact h)
              have HQL : Hid (qq ≤ es.length) := (show _ ≤ _ by have := HGI.out; have := Hqq.out; have := HYL.out; omega)
              have HZP : Hid (zs.map En.p = (cs.drop m).map En.p) := hzp
              have FTOT : Hid (Fr (fun _ => False) w w5) := (F4.out.trans HF.out).trans' HF5.out (fun i hi h => by
                  rcases h with e | e
                  · have := HGBB.out; have := HWS.out; omega
                  · have := HVB.out _ e; have := HWS.out; omega)
              obtain ⟨gi, Hgi⟩ : ∃ gi, Hid ((cs.getD m default).i = gi) := ⟨_, rfl⟩
              rw [Hgi.out]
              clear hyes hlow f5 hle hlg hzp
              have HBX5 : Hid (Box26 w5 sb nb nt n) := (BX.out.fr HF.out (by simp)).fr HF5.out (fun h => by
                  rcases h with e | e
                  · have := HGBB.out; have := HWS.out; have := hsbW.out; omega
                  · have := HVB.out _ e; have := HWS.out; have := hsbW.out; omega)
              have HCS5 : Hid (OwnE w5 (fun j => w4.heap.size ≤ j ∨ (W.heap.size ≤ j ∧ j < w3.heap.size)) (.slice ca cs.length cc) cs) := HCO.out.fr HF5.out (fun i hi h => by
                  rcases h with e | e
                  · have := HGBB.out; omega
                  · have := HVB.out _ e; omega)
              have HES5 : Hid (OwnE w5 (fun j => W.heap.size ≤ j ∧ j < w3.heap.size) (.slice ao es.length cap) es) := (HO4.out.fr HF.out (by simp)).fr HF5.out (fun i hi h => by
                  rcases h with e | e
                  · have := HGBB.out; omega
                  · have := HVB.out _ e; omega)
              go_wp2_with fail
              go_loopw [24, 25, 26] (fun wv fv iv wl => ∃ j : Nat, j ≤ m ∧ iv = .int .i64 (j : Int) ∧ wv = .slice ao es.length cap ∧ fv = .int .u64 0 ∧ Hid (Fr (fun _ => False) w5 wl)) (fun _ _ iv _ => cs.length - (intOf iv).toNat)
              case atStart => exact ⟨0, Nat.zero_le _, rfl, rfl, rfl, Fr.refl _ _⟩
              case round =>
                obtain ⟨j, hj, rfl, rfl, rfl, HF2⟩ := hrel
                rename World => wl
                by_cases hjm : j < m
                · have hjL : j < cs.length := by omega
                  have hct := (lk_iff HYP.out nb nt K j (cs.getD j default) (HCI.out j (by have := HCL.out; omega))).1 (HLOW.out j hjm)
                  have hcl12 : cs.length ≤ 12 := by have := HCL.out; omega
                  obtain ⟨cb, co, x, hcao, _, l0, l1, l2, l3, gx, Hx⟩ := (HCS5.out.fr HF2.out (by simp)).erow.at hjL
                  have hxi : x.i = nb + K + j := by rw [Hx.out]; exact HCI.out j (by have := HCL.out; omega)
                  have hxe : (x.i : Int) = (nb : Int) + (K : Int) + (j : Int) := by omega
                  obtain ⟨s0, s1, s2, s3, sz0, sz1, sz2⟩ := HBX5.out.fr HF2.out (by simp)
                  obtain ⟨xi, Hxi⟩ : ∃ xi, Hid (x.i = xi) := ⟨_, rfl⟩
                  rw [Hxi.out] at l0 hxe
                  have hxb : xi ≤ 2000 := by have := Hxi.out; omega
                  have HXJ : Hid (∀ a : Nat, a = K + j → (xi : Int) - (nb : Int) = (a : Int)) := fun a ha => by omega
                  have j0 : (0 : Int) ≤ (j : Int) := by omega
                  have j1 : (j : Int) < (cs.length : Int) := by omega
                  have hjL3 : j < cs.length := hjL
                  clear hxi hxe gx
                  by_cases h0 : K + j = 0
                  · have hq0 : (xi : Int) - (nb : Int) = 0 := by have := HXJ.out 0 (by omega); omega
                    subst hcao
                    go_wp2
                    go_quiet (fail)
                    go_wp2
                    go_quiet (fail)
                    go_wp2
                    go_roundw
                    case rel => exact ⟨j + 1, by omega, by go_num, rfl, rfl, HF2.out.drewN _⟩
                    case measure => simp [intOf]; omega
                  · obtain ⟨hq1, hq2⟩ := hct.resolve_left h0
                    obtain ⟨q, Hq⟩ : ∃ q : Nat, Hid (K + j = q + 1) := ⟨K + j - 1, by show _ = _; omega⟩
                    obtain ⟨q1, Hq1⟩ : ∃ q1 : Nat, Hid ((xi : Int) - (nb : Int) = (q1 : Int) ∧ (q1 : Int) - 1 = (q : Int)) := ⟨q + 1, HXJ.out (q + 1) (by have := Hq.out; omega), by omega⟩
                    have hqa := Hq1.out.1
                    have hqb := Hq1.out.2
                    have hqL : q < es.length := by have := Hq.out; omega
                    obtain ⟨eb, eo, y, heao, _, m0, m1, m2, m3, gy, Hy⟩ := (HES5.out.fr HF2.out (by simp)).erow.at hqL
                    have hyt : y.t = x.t := by rw [Hy.out, Hx.out, ← hq2]; congr 2; have := Hq.out; omega
                    rw [← hyt] at l1
                    have e1 : (0 : Int) ≤ (q : Int) := by omega
                    have e2 : (q : Int) < (es.length : Int) := by omega
                    subst heao
                    clear gy hyt hq1 hq2 hct
                    subst hcao
                    go_wp2
                    go_quiet (fail)
                    go_wp2
                    go_quiet (fail)
                    go_wp2
                    go_roundw
                    case rel => exact ⟨j + 1, by omega, by go_num, rfl, rfl, HF2.out.drewN _⟩
                    case measure => simp [intOf]; omega
                · have hjm2 : j = m := by omega
                  subst hjm2
                  have hjL : j < cs.length := hm1
                  have hcl12 : cs.length ≤ 12 := by have := HCL.out; omega
                  obtain ⟨cb, co, x, hcao, _, l0, l1, l2, l3, gx, Hx⟩ := (HCS5.out.fr HF2.out (by simp)).erow.at hjL
                  have hxi : x.i = nb + K + j := by rw [Hx.out]; exact HCI.out j (by have := HCL.out; omega)
                  have hxe : (x.i : Int) = (nb : Int) + (K : Int) + (j : Int) := by omega
                  obtain ⟨s0, s1, s2, s3, sz0, sz1, sz2⟩ := HBX5.out.fr HF2.out (by simp)
                  obtain ⟨xi, Hxi⟩ : ∃ xi, Hid (x.i = xi) := ⟨_, rfl⟩
                  rw [Hxi.out] at l0 hxe
                  have hxb : xi ≤ 2000 := by have := Hxi.out; omega
                  have HXJ : Hid (∀ a : Nat, a = K + j → (xi : Int) - (nb : Int) = (a : Int)) := fun a ha => by omega
                  have j0 : (0 : Int) ≤ (j : Int) := by omega
                  have j1 : (j : Int) < (cs.length : Int) := by omega
                  have hjL3 : j < cs.length := hjL
                  clear hxi hxe gx
                  have h0 : ¬ K + j = 0 := fun e => HNC.out (Or.inl e)
                  obtain ⟨q, Hq⟩ : ∃ q : Nat, Hid (K + j = q + 1) := ⟨K + j - 1, by show _ = _; omega⟩
                  obtain ⟨q1, Hq1⟩ : ∃ q1 : Nat, Hid ((xi : Int) - (nb : Int) = (q1 : Int) ∧ (q1 : Int) - 1 = (q : Int)) := ⟨q + 1, HXJ.out (q + 1) (by have := Hq.out; omega), by omega⟩
                  have hqa := Hq1.out.1
                  have hqb := Hq1.out.2
                  have e1 : (0 : Int) ≤ (q : Int) := by omega
                  have hqle : q ≤ es.length := by have := HQL.out; have := Hqq.out; have := Hq.out; omega
                  have e3 : (q : Int) ≤ (es.length : Int) := by omega
                  have e6 : decide (q ≤ es.length) = true := by simpa using hqle
                  by_cases hqL : q < es.length
                  · skip
                    obtain ⟨eb, eo, y, heao, _, m0, m1, m2, m3, gy, Hy⟩ := (HES5.out.fr HF2.out (by simp)).erow.at hqL
                    have hyt : ¬ y.t = x.t := fun e => HNC.out (Or.inr ⟨by have := Hq.out; omega, by rw [show K + j - 1 = q from by have := Hq.out; omega, ← Hy.out, ← Hx.out]; exact e⟩)
                    have hyt2 : ((y.t : Int) == (x.t : Int)) = false := by simp; omega
                    have e2 : (q : Int) < (es.length : Int) := by omega
                    have e4 : decide (q < es.length) = true := by simpa using hqL
                    have HM1 : Hid (wl.cell? ⟨eb, eo + q * 4 + 1, none⟩ = some (.int .u64 (y.t : Int))) := m1
                    have HL1 : Hid (wl.cell? ⟨cb, co + j * 4 + 1, none⟩ = some (.int .u64 (x.t : Int))) := l1
                    subst hcao
                    subst heao
                    clear gy m0 m2 m3
                    go_wp2
                    go_quiet (fail)
                    go_wp2_with fail
                    refine wp_region_held_drew (S := (fun W9 : World => W9.cell? ⟨eb, eo + q * 4 + 1, none⟩ = some (.int .u64 (y.t : Int)) ∧ W9.cell? ⟨cb, co + j * 4 + 1, none⟩ = some (.int .u64 (x.t : Int)))) (by kernel_rfl) ⟨Fr.cell (show Fr (fun _ => False) wl _ from (by first | exact ((Fr.refl _ _).drewN _).drew | exact (Fr.refl _ _).drewN _)) HM1.out (by simp), Fr.cell (show Fr (fun _ => False) wl _ from (by first | exact ((Fr.refl _ _).drewN _).drew | exact (Fr.refl _ _).drewN _)) HL1.out (by simp)⟩ (fun hHeld => ?_)
                    refine wpAnyH_take (i := 0) (oi := _) (v := ?_) (by rw [List.getElem?_toArray]; rfl) (by kernel_rfl) (by kernel_rfl) (by kernel_rfl) (fun _ _ _ h => by exact h) (Or.inl ⟨by rfl, ?_⟩) (by assumption) ?_
                    rotate_left
                    · (intro w hSw; (try dsimp only at hSw); go_simp; (try with_reducible rfl))
                    try simp only [Act.put, List.setIfInBounds_toArray, List.set_cons_zero, List.set_cons_succ]
                    refine wpAnyH_take (i := 1) (oi := _) (v := ?_) (by rw [List.getElem?_toArray]; rfl) (by kernel_rfl) (by kernel_rfl) (by kernel_rfl) (fun _ _ _ h => by exact h) (Or.inl ⟨by rfl, ?_⟩) (by assumption) ?_
                    rotate_left
                    · (intro w hSw; (try dsimp only at hSw); go_simp; (try with_reducible rfl))
                    try simp only [Act.put, List.setIfInBounds_toArray, List.set_cons_zero, List.set_cons_succ]
                    refine wpAnyH_take (i := 2) (oi := _) (v := ?_) (by rw [List.getElem?_toArray]; rfl) (by kernel_rfl) (by kernel_rfl) (by kernel_rfl) (fun _ _ _ h => by exact h) (Or.inl ⟨by rfl, ?_⟩) (by assumption) ?_
                    rotate_left
                    · (intro w hSw; (try dsimp only at hSw); go_simp; (try with_reducible rfl))
                    try simp only [Act.put, List.setIfInBounds_toArray, List.set_cons_zero, List.set_cons_succ]
                    refine wpAnyH_take (i := 3) (oi := _) (v := ?_) (by rw [List.getElem?_toArray]; rfl) (by kernel_rfl) (by kernel_rfl) (by kernel_rfl) (fun _ _ _ h => by exact h) (Or.inl ⟨by rfl, ?_⟩) (by assumption) ?_
                    rotate_left
                    · (intro w hSw; (try dsimp only at hSw); go_simp; (try with_reducible rfl))
                    try simp only [Act.put, List.setIfInBounds_toArray, List.set_cons_zero, List.set_cons_succ]
                    refine wpAnyH_take (i := 4) (oi := _) (v := ?_) (by rw [List.getElem?_toArray]; rfl) (by kernel_rfl) (by kernel_rfl) (by kernel_rfl) (fun _ _ _ h => by exact h) (Or.inl ⟨by rfl, ?_⟩) (by assumption) ?_
                    rotate_left
                    · (intro w hSw; (try dsimp only at hSw); go_simp; (try with_reducible rfl))
                    try simp only [Act.put, List.setIfInBounds_toArray, List.set_cons_zero, List.set_cons_succ]
                    refine wpAnyH_take (i := 5) (oi := _) (v := ?_) (by rw [List.getElem?_toArray]; rfl) (by kernel_rfl) (by kernel_rfl) (by kernel_rfl) (fun _ _ _ h => by exact h) (Or.inl ⟨by rfl, ?_⟩) (by assumption) ?_
                    rotate_left
                    · (intro w hSw; (try dsimp only at hSw); go_simp; (try with_reducible rfl))
                    try simp only [Act.put, List.setIfInBounds_toArray, List.set_cons_zero, List.set_cons_succ]
                    refine wpAnyH_take (i := 6) (oi := _) (v := ?_) (by rw [List.getElem?_toArray]; rfl) (by kernel_rfl) (by kernel_rfl) (by kernel_rfl) (fun _ _ _ h => by exact h) (Or.inl ⟨by rfl, ?_⟩) (by assumption) ?_
                    rotate_left
                    · (intro w hSw; (try dsimp only at hSw); go_simp; (try with_reducible rfl))
                    try simp only [Act.put, List.setIfInBounds_toArray, List.set_cons_zero, List.set_cons_succ]
                    refine wpAnyH_take (i := 7) (oi := _) (v := ?_) (by rw [List.getElem?_toArray]; rfl) (by kernel_rfl) (by kernel_rfl) (by kernel_rfl) (fun _ _ _ h => by exact h) (Or.inl ⟨by rfl, ?_⟩) (by assumption) ?_
                    rotate_left
                    · (intro w hSw; (try dsimp only at hSw); go_simp; (try with_reducible rfl))
                    try simp only [Act.put, List.setIfInBounds_toArray, List.set_cons_zero, List.set_cons_succ]
                    refine wpAnyH_take (i := 8) (oi := _) (v := ?_) (by rw [List.getElem?_toArray]; rfl) (by kernel_rfl) (by kernel_rfl) (by kernel_rfl) (fun _ _ _ h => by exact h) (Or.inl ⟨by rfl, ?_⟩) (by assumption) ?_
                    rotate_left
                    · (intro w hSw; (try dsimp only at hSw); have q0 := hSw.1; have q9 := hSw.2; go_simp; (try with_reducible rfl))
                    try simp only [Act.put, List.setIfInBounds_toArray, List.set_cons_zero, List.set_cons_succ]
                    refine wpAnyH_take (i := 9) (oi := _) (v := ?_) (by rw [List.getElem?_toArray]; rfl) (by kernel_rfl) (by kernel_rfl) (by kernel_rfl) (fun _ _ _ h => by exact h) (Or.inl ⟨by rfl, ?_⟩) (by assumption) ?_
                    rotate_left
                    · (intro w hSw; (try dsimp only at hSw); have q0 := hSw.1; have q9 := hSw.2; go_simp; (try with_reducible rfl))
                    try simp only [Act.put, List.setIfInBounds_toArray, List.set_cons_zero, List.set_cons_succ]
                    refine wpAnyH_take (i := 10) (oi := _) (v := ?_) (by rw [List.getElem?_toArray]; rfl) (by kernel_rfl) (by kernel_rfl) (by kernel_rfl) (fun _ _ _ h => by exact h) (Or.inl ⟨by rfl, ?_⟩) (by assumption) ?_
                    rotate_left
                    · (intro w hSw; (try dsimp only at hSw); have q0 := hSw.1; have q9 := hSw.2; go_simp; (try with_reducible rfl))
                    try simp only [Act.put, List.setIfInBounds_toArray, List.set_cons_zero, List.set_cons_succ]
                    refine wpAnyH_take (i := 11) (oi := _) (v := ?_) (by rw [List.getElem?_toArray]; rfl) (by kernel_rfl) (by kernel_rfl) (by kernel_rfl) (fun _ _ _ h => by exact h) (Or.inl ⟨by rfl, ?_⟩) (by assumption) ?_
                    rotate_left
                    · (intro w hSw; (try dsimp only at hSw); have q0 := hSw.1; have q9 := hSw.2; go_simp; (try with_reducible rfl))
                    try simp only [Act.put, List.setIfInBounds_toArray, List.set_cons_zero, List.set_cons_succ]
                    refine wpAnyH_take (i := 12) (oi := _) (v := ?_) (by rw [List.getElem?_toArray]; rfl) (by kernel_rfl) (by kernel_rfl) (by kernel_rfl) (fun _ _ _ h => by exact h) (Or.inl ⟨by rfl, ?_⟩) (by assumption) ?_
                    rotate_left
                    · (intro w hSw; (try dsimp only at hSw); have q0 := hSw.1; have q9 := hSw.2; go_simp; (try with_reducible rfl))
                    try simp only [Act.put, List.setIfInBounds_toArray, List.set_cons_zero, List.set_cons_succ]
                    refine wpAnyH_take (i := 13) (oi := _) (v := ?_) (by rw [List.getElem?_toArray]; rfl) (by kernel_rfl) (by kernel_rfl) (by kernel_rfl) (fun _ _ _ h => by exact h) (Or.inl ⟨by rfl, ?_⟩) (by assumption) ?_
                    rotate_left
                    · (intro w hSw; (try dsimp only at hSw); have q0 := hSw.1; have q9 := hSw.2; go_simp; (try with_reducible rfl))
                    try simp only [Act.put, List.setIfInBounds_toArray, List.set_cons_zero, List.set_cons_succ]
                    refine wpAnyH_take (i := 14) (oi := _) (v := ?_) (by rw [List.getElem?_toArray]; rfl) (by kernel_rfl) (by kernel_rfl) (by kernel_rfl) (fun _ _ _ h => by exact h) (Or.inl ⟨by rfl, ?_⟩) (by assumption) ?_
                    rotate_left
                    · (intro w hSw; (try dsimp only at hSw); have q0 := hSw.1; have q9 := hSw.2; go_simp; (try with_reducible rfl))
                    try simp only [Act.put, List.setIfInBounds_toArray, List.set_cons_zero, List.set_cons_succ]
                    refine wpAnyH_take (i := 15) (oi := _) (v := ?_) (by rw [List.getElem?_toArray]; rfl) (by kernel_rfl) (by kernel_rfl) (by kernel_rfl) (fun _ _ _ h => by exact h) (Or.inl ⟨by rfl, ?_⟩) (by assumption) ?_
                    rotate_left
                    · (intro w hSw; (try dsimp only at hSw); have q0 := hSw.1; have q9 := hSw.2; go_simp; (try with_reducible rfl))
                    try simp only [Act.put, List.setIfInBounds_toArray, List.set_cons_zero, List.set_cons_succ]
                    refine wpAnyH_take (i := 16) (oi := _) (v := ?_) (by rw [List.getElem?_toArray]; rfl) (by kernel_rfl) (by kernel_rfl) (by kernel_rfl) (fun _ _ _ h => by exact h) (Or.inl ⟨by rfl, ?_⟩) (by assumption) ?_
                    rotate_left
                    · (intro w hSw; (try dsimp only at hSw); have q0 := hSw.1; have q9 := hSw.2; go_simp; (try with_reducible rfl))
                    try simp only [Act.put, List.setIfInBounds_toArray, List.set_cons_zero, List.set_cons_succ]
                    refine wpAnyH_take (i := 17) (oi := _) (v := ?_) (by rw [List.getElem?_toArray]; rfl) (by kernel_rfl) (by kernel_rfl) (by kernel_rfl) (fun _ _ _ h => by exact h) (Or.inl ⟨by rfl, ?_⟩) (by assumption) ?_
                    rotate_left
                    · (intro w hSw; (try dsimp only at hSw); have q0 := hSw.1; have q9 := hSw.2; go_simp; (try with_reducible rfl))
                    try simp only [Act.put, List.setIfInBounds_toArray, List.set_cons_zero, List.set_cons_succ]
                    refine wpAnyH_take (i := 18) (oi := _) (v := ?_) (by rw [List.getElem?_toArray]; rfl) (by kernel_rfl) (by kernel_rfl) (by kernel_rfl) (fun _ _ _ h => by exact h) (Or.inl ⟨by rfl, ?_⟩) (by assumption) ?_
                    rotate_left
                    · (intro w hSw; (try dsimp only at hSw); go_simp; (try with_reducible rfl))
                    try simp only [Act.put, List.setIfInBounds_toArray, List.set_cons_zero, List.set_cons_succ]
                    refine wpAnyH_take (i := 19) (oi := _) (v := ?_) (by rw [List.getElem?_toArray]; rfl) (by kernel_rfl) (by kernel_rfl) (by kernel_rfl) (fun _ _ _ h => by exact h) (Or.inl ⟨by rfl, ?_⟩) (by assumption) ?_
                    rotate_left
                    · (intro w hSw; (try dsimp only at hSw); go_simp; (try with_reducible rfl))
                    try simp only [Act.put, List.setIfInBounds_toArray, List.set_cons_zero, List.set_cons_succ]
                    refine wpAnyH_take (i := 20) (oi := _) (v := ?_) (by rw [List.getElem?_toArray]; rfl) (by kernel_rfl) (by kernel_rfl) (by kernel_rfl) (fun _ _ _ h => by exact h) (Or.inl ⟨by rfl, ?_⟩) (by assumption) ?_
                    rotate_left
                    · (intro w hSw; (try dsimp only at hSw); go_simp; (try with_reducible rfl))
                    try simp only [Act.put, List.setIfInBounds_toArray, List.set_cons_zero, List.set_cons_succ]
                    refine wpAnyH_done (by kernel_rfl) ?_ _
                    have HTK : Hid (∀ W9, Fr (fun _ => False) wl W9 → ∃ v6 w6, (Builtin.append_ #[28, 28] 28 #[.slice none 0 0, .slice (some ⟨eb, eo, none⟩) q cap]).run Try.prog W9 = .ok v6 w6 ∧ (OwnE w6 (fun i => w4.heap.size ≤ i ∨ (W.heap.size ≤ i ∧ i < w3.heap.size)) v6 (es.take q) ∧ Fr (fun _ => False) wl w6 ∧ ∀ i, v6.ownBlock = some i → wl.heap.size ≤ i)) := fun W9 f9 => by
                        obtain ⟨v6, w6, x1, x2, x3, x4⟩ := run_take W9 28 _ _ (fun i => w4.heap.size ≤ i ∨ (W.heap.size ≤ i ∧ i < w3.heap.size)) (some ⟨eb, eo, none⟩) es cap (HES5.out.fr (HF2.out.trans f9) (by simp)).erow q (by omega) (fun i _ hi => Or.inr hi) (fun i hi => Or.inl (by have := HS45.out; have := (HF2.out.trans f9).size; omega)) (by omega)
                        exact ⟨v6, w6, x1, x2, f9.trans x3, fun i hi => Nat.le_trans f9.size (x4 i hi)⟩
                    have hcc1 := HCS5.out.erow.len.2.1
                    have hcc2 := HCS5.out.erow.len.2.2
                    have hcp1 := HES5.out.erow.len.2.1
                    have hcp2 := HES5.out.erow.len.2.2
                    have n1 : ¬ cc = j := by omega
                    have n2 : (q : Int) ≤ (cap : Int) := by omega
                    have n3 : (j : Int) ≤ (cs.length : Int) := by omega
                    have n4 : (cs.length : Int) ≤ (cc : Int) := by omega
                    go_wp2_with fail
                    refine wp_region_held_drew (S := (fun _ : World => True)) (by kernel_rfl) trivial (fun hHeld => ?_)
                    refine wpAnyH_take (i := 0) (oi := _) (v := ?_) (by rw [List.getElem?_toArray]; rfl) (by kernel_rfl) (by kernel_rfl) (by kernel_rfl) (fun _ _ _ h => by exact h) (Or.inl ⟨by rfl, ?_⟩) (by assumption) ?_
                    rotate_left
                    · (intro w hSw; (try dsimp only at hSw); go_simp; (try with_reducible rfl))
                    try simp only [Act.put, List.setIfInBounds_toArray, List.set_cons_zero, List.set_cons_succ]
                    refine wpAnyH_take (i := 1) (oi := _) (v := ?_) (by rw [List.getElem?_toArray]; rfl) (by kernel_rfl) (by kernel_rfl) (by kernel_rfl) (fun _ _ _ h => by exact h) (Or.inl ⟨by rfl, ?_⟩) (by assumption) ?_
                    rotate_left
                    · (intro w hSw; (try dsimp only at hSw); go_simp; (try with_reducible rfl))
                    try simp only [Act.put, List.setIfInBounds_toArray, List.set_cons_zero, List.set_cons_succ]
                    refine wpAnyH_take (i := 2) (oi := _) (v := ?_) (by rw [List.getElem?_toArray]; rfl) (by kernel_rfl) (by kernel_rfl) (by kernel_rfl) (fun _ _ _ h => by exact h) (Or.inl ⟨by rfl, ?_⟩) (by assumption) ?_
                    rotate_left
                    · (intro w hSw; (try dsimp only at hSw); go_simp; (try with_reducible rfl))
                    try simp only [Act.put, List.setIfInBounds_toArray, List.set_cons_zero, List.set_cons_succ]
                    refine wpAnyH_take (i := 4) (oi := _) (v := ?_) (by rw [List.getElem?_toArray]; rfl) (by kernel_rfl) (by kernel_rfl) (by kernel_rfl) (fun _ _ _ h => by exact h) (Or.inl ⟨by rfl, ?_⟩) (by assumption) ?_
                    rotate_left
                    · (intro w hSw; (try dsimp only at hSw); go_simp; (try with_reducible rfl))
                    try simp only [Act.put, List.setIfInBounds_toArray, List.set_cons_zero, List.set_cons_succ]
                    refine wpAnyH_take (i := 5) (oi := _) (v := ?_) (by rw [List.getElem?_toArray]; rfl) (by kernel_rfl) (by kernel_rfl) (by kernel_rfl) (fun _ _ _ h => by exact h) (Or.inl ⟨by rfl, ?_⟩) (by assumption) ?_
                    rotate_left
                    · (intro w hSw; (try dsimp only at hSw); go_simp; (try with_reducible rfl))
                    try simp only [Act.put, List.setIfInBounds_toArray, List.set_cons_zero, List.set_cons_succ]
                    refine wpAnyH_take (i := 6) (oi := _) (v := ?_) (by rw [List.getElem?_toArray]; rfl) (by kernel_rfl) (by kernel_rfl) (by kernel_rfl) (fun _ _ _ h => by exact h) (Or.inl ⟨by rfl, ?_⟩) (by assumption) ?_
                    rotate_left
                    · (intro w hSw; (try dsimp only at hSw); go_simp; (try with_reducible rfl))
                    try simp only [Act.put, List.setIfInBounds_toArray, List.set_cons_zero, List.set_cons_succ]
                    refine wpAnyH_ready (rs := [3]) (by kernel_rfl) (by simp) ?_
                    refine AllReadyH.cons (o := _) (by rw [List.getElem?_toArray]; rfl) (fun K hK => ?_) ?_
                    · refine step_append_ex rfl (.const (.slice none 0 0)) (.tmp 160) 28 rfl rfl rfl (HTK.out _ (by first | exact ((Fr.refl _ _).drewN _).drew | exact (Fr.refl _ _).drewN _)) ?_
                      rintro v6 w6 ⟨ho6, f6, hb6⟩
                      obtain ⟨a6, c6, hv6, _⟩ := ho6.form
                      subst hv6
                      have HO6 : Hid (OwnE w6 (fun i => w4.heap.size ≤ i ∨ (W.heap.size ≤ i ∧ i < w3.heap.size)) (.slice a6 (es.take q).length c6) (es.take q)) := ho6
                      have G6 : Hid (Fr (fun _ => False) wl w6) := f6
                      have HB6 : Hid (∀ i, (Value.slice a6 (es.take q).length c6).ownBlock = some i → wl.heap.size ≤ i) := hb6
                      clear ho6 f6 hb6
                      refine hK.out _ _ trivial (fun hHeld => ?_)
                      clear hK K
                      try simp only [Act.put, List.setIfInBounds_toArray, List.set_cons_zero, List.set_cons_succ]
                      refine wpAnyH_ready (rs := [7]) (by kernel_rfl) (by simp) ?_
                      refine AllReadyH.cons (o := _) (by rw [List.getElem?_toArray]; rfl) (fun K hK => ?_) ?_
                      · have H7 : ∃ v7 w7, (Builtin.append_ #[28, 28] 28 #[.slice a6 (es.take q).length c6, .slice (some ⟨cb, co + j * 4, none⟩) (cs.length - j) (cc - j)]).run Try.prog w6 = .ok v7 w7 ∧ (OwnE w7 (fun i => w4.heap.size ≤ i ∨ (W.heap.size ≤ i ∧ i < w3.heap.size)) v7 (es.take q ++ cs.drop j) ∧ Fr (fun _ => False) wl w7) := by
                            have hrow := (HCS5.out.fr (HF2.out.trans G6.out) (by simp)).erow.drop' j (by omega)
                            obtain ⟨v7, w7, x1, x2, x3, x4⟩ := run_append_ents w6 28 (fun i => w4.heap.size ≤ i ∨ (W.heap.size ≤ i ∧ i < w3.heap.size)) (.slice a6 (es.take q).length c6) (es.take q) HO6.out ⟨cb, co + j * 4, none⟩ (cs.drop j) (cc - j) hrow.cells (fun y hy => (((HCS5.out.fr HF2.out (by simp)).erow.2.2.2.1 y (List.mem_of_mem_drop hy)).mono (fun i hi hd => ⟨hd, fun e => by have := HB6.out i e; omega⟩)).fr G6.out (by simp)) (fun i hi => Or.inl (by have := HS45.out; have := HF2.out.size; have := G6.out.size; omega)) (by simp; omega)
                            rw [show (cs.drop j).length = cs.length - j by simp] at x1
                            exact ⟨v7, w7, x1, x2, G6.out.trans' (Fr.grown (S := fun i => (Value.slice a6 (es.take q).length c6).ownBlock = some i) (Fr.refl _ _) x3 (fun i hi => .inl hi)) (fun i hi e => by have := HB6.out i e; omega)⟩
                        refine step_append_ex rfl (.tmp 161) (.tmp 164) 28 rfl rfl rfl H7 ?_
                        rintro v7 w7 ⟨ho7, f7⟩
                        obtain ⟨ws, Hws⟩ : ∃ ws, Hid (es.take q ++ cs.drop j = ws) := ⟨_, rfl⟩
                        rw [Hws.out] at ho7
                        obtain ⟨a7, c7, hv7, _⟩ := ho7.form
                        subst hv7
                        have HO7 : Hid (OwnE w7 (fun i => w4.heap.size ≤ i ∨ (W.heap.size ≤ i ∧ i < w3.heap.size)) (.slice a7 ws.length c7) ws) := ho7
                        have G7 : Hid (Fr (fun _ => False) wl w7) := f7
                        clear ho7 f7 H7
                        refine hK.out _ _ trivial (fun hHeld => ?_)
                        clear hK K
                        try simp only [Act.put, List.setIfInBounds_toArray, List.set_cons_zero, List.set_cons_succ]
                        refine wpAnyH_take (i := 8) (oi := _) (v := ?_) (by rw [List.getElem?_toArray]; rfl) (by kernel_rfl) (by kernel_rfl) (by kernel_rfl) (fun _ _ _ h => by exact h) (Or.inl ⟨by rfl, ?_⟩) (by assumption) ?_
                        rotate_left
                        · (intro w hSw; (try dsimp only at hSw); go_simp; (try with_reducible rfl))
                        try simp only [Act.put, List.setIfInBounds_toArray, List.set_cons_zero, List.set_cons_succ]
                        refine wpAnyH_done (by kernel_rfl) ?_ _
                        have HWQ : Hid (∀ i, i < (ys.take q ++ zs).length → ((ys.take q ++ zs).getD i default).i = nb + 1 + i) := fun i hi => by
                            have hpp := want_p HYP.out HZP.out q
                            have hl : (es.take q ++ cs.drop j).length = (ys.take q ++ zs).length := by simpa using congrArg List.length hpp
                            rw [p_i hpp.symm i (by omega)]
                            exact want_ix (fun i hi => ents_ix HPE.out i hi) (fun i hi => HCI.out i (by have := HCL.out; omega)) Hq.out (by have := HQL.out; have := Hqq.out; have := Hq.out; omega) i (by omega)
                        have HLQ : Hid (Lg w7 gb (fun i => w3.heap.size ≤ i ∧ i ≠ gb) nb nt n (ys.take q ++ zs) v5) := (show Lg _ _ _ _ _ _ _ _ by have h := HLL.out.fr (HF2.out.trans G7.out) (by simp) (by simp); rw [show qq = q from by have := Hqq.out; have := Hq.out; omega] at h; exact h)
                        have KT : Hid (Calls Try.prog 13 #[.pointer (some ⟨gb, 0, none⟩), .agg #[.int .u64 (nb : Int), .int .u64 (nt : Int), .int .u64 (n : Int), .slice none 0 0], .slice a7 ws.length c7] w7 fun e w' => e = .returned (.bool true) ∧ Fr (fun _ => False) w7 w') := look_any HLQ.out a7 ws c7 _ _ HO7.out.erow (by rw [← Hws.out]; exact want_p HYP.out HZP.out q) HWQ.out (by have h := congrArg List.length HZP.out; simp at h; simp; have := HYL.out; omega) (fun y hy => by
                            rcases List.mem_append.1 hy with hy1 | hy1
                            · exact ents_d HYE.out y (List.mem_of_mem_take hy1)
                            · exact d_of_p HZP.out 1000000 (fun z hz => HCD.out z (List.mem_of_mem_drop hz)) y hy1) none 0 0
                        obtain ⟨s0, s1, s2, s3, sz0, sz1, sz2⟩ := HBX5.out.fr (HF2.out.trans G7.out) (by simp)
                        have hgx : gi = xi := by rw [← Hgi.out, ← Hxi.out, Hx.out]
                        subst hgx
                        go_wp2_with fail
                        refine KT.out.mono ?_
                        rintro e w9 ⟨rfl, f9⟩
                        go_wp2
                        go_ret
                        exact ⟨rfl, FTOT.out.trans (HF2.out.trans (G7.out.trans f9))⟩
                      exact AllReadyH.nil
                    exact AllReadyH.nil
                  · skip
                    have e2 : ¬ (q : Int) < (es.length : Int) := by omega
                    have e4 : decide (q < es.length) = false := by simpa using hqL
                    subst hcao
                    go_wp2
                    go_quiet (fail)
                    go_wp2_with fail
                    refine wp_region_held_drew (S := (fun _ : World => True)) (by kernel_rfl) trivial (fun hHeld => ?_)
                    refine wpAnyH_take (i := 0) (oi := _) (v := ?_) (by rw [List.getElem?_toArray]; rfl) (by kernel_rfl) (by kernel_rfl) (by kernel_rfl) (fun _ _ _ h => by exact h) (Or.inl ⟨by rfl, ?_⟩) (by assumption) ?_
                    rotate_left
                    · (intro w hSw; (try dsimp only at hSw); go_simp; (try with_reducible rfl))
                    try simp only [Act.put, List.setIfInBounds_toArray, List.set_cons_zero, List.set_cons_succ]
                    refine wpAnyH_take (i := 1) (oi := _) (v := ?_) (by rw [List.getElem?_toArray]; rfl) (by kernel_rfl) (by kernel_rfl) (by kernel_rfl) (fun _ _ _ h => by exact h) (Or.inl ⟨by rfl, ?_⟩) (by assumption) ?_
                    rotate_left
                    · (intro w hSw; (try dsimp only at hSw); go_simp; (try with_reducible rfl))
                    try simp only [Act.put, List.setIfInBounds_toArray, List.set_cons_zero, List.set_cons_succ]
                    refine wpAnyH_take (i := 2) (oi := _) (v := ?_) (by rw [List.getElem?_toArray]; rfl) (by kernel_rfl) (by kernel_rfl) (by kernel_rfl) (fun _ _ _ h => by exact h) (Or.inl ⟨by rfl, ?_⟩) (by assumption) ?_
                    rotate_left
                    · (intro w hSw; (try dsimp only at hSw); go_simp; (try with_reducible rfl))
                    try simp only [Act.put, List.setIfInBounds_toArray, List.set_cons_zero, List.set_cons_succ]
                    refine wpAnyH_take (i := 3) (oi := _) (v := ?_) (by rw [List.getElem?_toArray]; rfl) (by kernel_rfl) (by kernel_rfl) (by kernel_rfl) (fun _ _ _ h => by exact h) (Or.inl ⟨by rfl, ?_⟩) (by assumption) ?_
                    rotate_left
                    · (intro w hSw; (try dsimp only at hSw); go_simp; (try with_reducible rfl))
                    try simp only [Act.put, List.setIfInBounds_toArray, List.set_cons_zero, List.set_cons_succ]
                    refine wpAnyH_take (i := 4) (oi := _) (v := ?_) (by rw [List.getElem?_toArray]; rfl) (by kernel_rfl) (by kernel_rfl) (by kernel_rfl) (fun _ _ _ h => by exact h) (Or.inl ⟨by rfl, ?_⟩) (by assumption) ?_
                    rotate_left
                    · (intro w hSw; (try dsimp only at hSw); go_simp; (try with_reducible rfl))
                    try simp only [Act.put, List.setIfInBounds_toArray, List.set_cons_zero, List.set_cons_succ]
                    refine wpAnyH_take (i := 5) (oi := _) (v := ?_) (by rw [List.getElem?_toArray]; rfl) (by kernel_rfl) (by kernel_rfl) (by kernel_rfl) (fun _ _ _ h => by exact h) (Or.inl ⟨by rfl, ?_⟩) (by assumption) ?_
                    rotate_left
                    · (intro w hSw; (try dsimp only at hSw); go_simp; (try with_reducible rfl))
                    try simp only [Act.put, List.setIfInBounds_toArray, List.set_cons_zero, List.set_cons_succ]
                    refine wpAnyH_take (i := 6) (oi := _) (v := ?_) (by rw [List.getElem?_toArray]; rfl) (by kernel_rfl) (by kernel_rfl) (by kernel_rfl) (fun _ _ _ h => by exact h) (Or.inl ⟨by rfl, ?_⟩) (by assumption) ?_
                    rotate_left
                    · (intro w hSw; (try dsimp only at hSw); go_simp; (try with_reducible rfl))
                    try simp only [Act.put, List.setIfInBounds_toArray, List.set_cons_zero, List.set_cons_succ]
                    refine wpAnyH_take (i := 7) (oi := _) (v := ?_) (by rw [List.getElem?_toArray]; rfl) (by kernel_rfl) (by kernel_rfl) (by kernel_rfl) (fun _ _ _ h => by exact h) (Or.inl ⟨by rfl, ?_⟩) (by assumption) ?_
                    rotate_left
                    · (intro w hSw; (try dsimp only at hSw); go_simp; (try with_reducible rfl))
                    try simp only [Act.put, List.setIfInBounds_toArray, List.set_cons_zero, List.set_cons_succ]
                    refine wpAnyH_take (i := 8) (oi := _) (v := undef) (by rw [List.getElem?_toArray]; rfl) (by kernel_rfl) (by kernel_rfl) (by kernel_rfl) (fun _ _ _ h => by exact h) (Or.inr ⟨by rfl, rfl⟩) (by assumption) ?_
                    try simp only [Act.put, List.setIfInBounds_toArray, List.set_cons_zero, List.set_cons_succ]
                    refine wpAnyH_take (i := 9) (oi := _) (v := undef) (by rw [List.getElem?_toArray]; rfl) (by kernel_rfl) (by kernel_rfl) (by kernel_rfl) (fun _ _ _ h => by exact h) (Or.inr ⟨by rfl, rfl⟩) (by assumption) ?_
                    try simp only [Act.put, List.setIfInBounds_toArray, List.set_cons_zero, List.set_cons_succ]
                    refine wpAnyH_take (i := 10) (oi := _) (v := undef) (by rw [List.getElem?_toArray]; rfl) (by kernel_rfl) (by kernel_rfl) (by kernel_rfl) (fun _ _ _ h => by exact h) (Or.inr ⟨by rfl, rfl⟩) (by assumption) ?_
                    try simp only [Act.put, List.setIfInBounds_toArray, List.set_cons_zero, List.set_cons_succ]
                    refine wpAnyH_take (i := 11) (oi := _) (v := undef) (by rw [List.getElem?_toArray]; rfl) (by kernel_rfl) (by kernel_rfl) (by kernel_rfl) (fun _ _ _ h => by exact h) (Or.inr ⟨by rfl, rfl⟩) (by assumption) ?_
                    try simp only [Act.put, List.setIfInBounds_toArray, List.set_cons_zero, List.set_cons_succ]
                    refine wpAnyH_take (i := 12) (oi := _) (v := undef) (by rw [List.getElem?_toArray]; rfl) (by kernel_rfl) (by kernel_rfl) (by kernel_rfl) (fun _ _ _ h => by exact h) (Or.inr ⟨by rfl, rfl⟩) (by assumption) ?_
                    try simp only [Act.put, List.setIfInBounds_toArray, List.set_cons_zero, List.set_cons_succ]
                    refine wpAnyH_take (i := 13) (oi := _) (v := undef) (by rw [List.getElem?_toArray]; rfl) (by kernel_rfl) (by kernel_rfl) (by kernel_rfl) (fun _ _ _ h => by exact h) (Or.inr ⟨by rfl, rfl⟩) (by assumption) ?_
                    try simp only [Act.put, List.setIfInBounds_toArray, List.set_cons_zero, List.set_cons_succ]
                    refine wpAnyH_take (i := 14) (oi := _) (v := undef) (by rw [List.getElem?_toArray]; rfl) (by kernel_rfl) (by kernel_rfl) (by kernel_rfl) (fun _ _ _ h => by exact h) (Or.inr ⟨by rfl, rfl⟩) (by assumption) ?_
                    try simp only [Act.put, List.setIfInBounds_toArray, List.set_cons_zero, List.set_cons_succ]
                    refine wpAnyH_take (i := 15) (oi := _) (v := undef) (by rw [List.getElem?_toArray]; rfl) (by kernel_rfl) (by kernel_rfl) (by kernel_rfl) (fun _ _ _ h => by exact h) (Or.inr ⟨by rfl, rfl⟩) (by assumption) ?_
                    try simp only [Act.put, List.setIfInBounds_toArray, List.set_cons_zero, List.set_cons_succ]
                    refine wpAnyH_take (i := 16) (oi := _) (v := undef) (by rw [List.getElem?_toArray]; rfl) (by kernel_rfl) (by kernel_rfl) (by kernel_rfl) (fun _ _ _ h => by exact h) (Or.inr ⟨by rfl, rfl⟩) (by assumption) ?_
                    try simp only [Act.put, List.setIfInBounds_toArray, List.set_cons_zero, List.set_cons_succ]
                    refine wpAnyH_take (i := 17) (oi := _) (v := undef) (by rw [List.getElem?_toArray]; rfl) (by kernel_rfl) (by kernel_rfl) (by kernel_rfl) (fun _ _ _ h => by exact h) (Or.inr ⟨by rfl, rfl⟩) (by assumption) ?_
                    try simp only [Act.put, List.setIfInBounds_toArray, List.set_cons_zero, List.set_cons_succ]
                    refine wpAnyH_take (i := 18) (oi := _) (v := undef) (by rw [List.getElem?_toArray]; rfl) (by kernel_rfl) (by kernel_rfl) (by kernel_rfl) (fun _ _ _ h => by exact h) (Or.inr ⟨by rfl, rfl⟩) (by assumption) ?_
                    try simp only [Act.put, List.setIfInBounds_toArray, List.set_cons_zero, List.set_cons_succ]
                    refine wpAnyH_take (i := 19) (oi := _) (v := ?_) (by rw [List.getElem?_toArray]; rfl) (by kernel_rfl) (by kernel_rfl) (by kernel_rfl) (fun _ _ _ h => by exact h) (Or.inl ⟨by rfl, ?_⟩) (by assumption) ?_
                    rotate_left
                    · (intro w hSw; (try dsimp only at hSw); go_simp; (try with_reducible rfl))
                    try simp only [Act.put, List.setIfInBounds_toArray, List.set_cons_zero, List.set_cons_succ]
                    refine wpAnyH_take (i := 20) (oi := _) (v := ?_) (by rw [List.getElem?_toArray]; rfl) (by kernel_rfl) (by kernel_rfl) (by kernel_rfl) (fun _ _ _ h => by exact h) (Or.inl ⟨by rfl, ?_⟩) (by assumption) ?_
                    rotate_left
                    · (intro w hSw; (try dsimp only at hSw); go_simp; (try with_reducible rfl))
                    try simp only [Act.put, List.setIfInBounds_toArray, List.set_cons_zero, List.set_cons_succ]
                    refine wpAnyH_done (by kernel_rfl) ?_ _
                    have HTK : Hid (∀ W9, Fr (fun _ => False) wl W9 → ∃ v6 w6, (Builtin.append_ #[28, 28] 28 #[.slice none 0 0, .slice ao q cap]).run Try.prog W9 = .ok v6 w6 ∧ (OwnE w6 (fun i => w4.heap.size ≤ i ∨ (W.heap.size ≤ i ∧ i < w3.heap.size)) v6 (es.take q) ∧ Fr (fun _ => False) wl w6 ∧ ∀ i, v6.ownBlock = some i → wl.heap.size ≤ i)) := fun W9 f9 => by
                        obtain ⟨v6, w6, x1, x2, x3, x4⟩ := run_take W9 28 _ _ (fun i => w4.heap.size ≤ i ∨ (W.heap.size ≤ i ∧ i < w3.heap.size)) ao es cap (HES5.out.fr (HF2.out.trans f9) (by simp)).erow q (by omega) (fun i _ hi => Or.inr hi) (fun i hi => Or.inl (by have := HS45.out; have := (HF2.out.trans f9).size; omega)) (by omega)
                        exact ⟨v6, w6, x1, x2, f9.trans x3, fun i hi => Nat.le_trans f9.size (x4 i hi)⟩
                    have hcc1 := HCS5.out.erow.len.2.1
                    have hcc2 := HCS5.out.erow.len.2.2
                    have hcp1 := HES5.out.erow.len.2.1
                    have hcp2 := HES5.out.erow.len.2.2
                    have n1 : ¬ cc = j := by omega
                    have n2 : (q : Int) ≤ (cap : Int) := by omega
                    have n3 : (j : Int) ≤ (cs.length : Int) := by omega
                    have n4 : (cs.length : Int) ≤ (cc : Int) := by omega
                    go_wp2_with fail
                    refine wp_region_held_drew (S := (fun _ : World => True)) (by kernel_rfl) trivial (fun hHeld => ?_)
                    refine wpAnyH_take (i := 0) (oi := _) (v := ?_) (by rw [List.getElem?_toArray]; rfl) (by kernel_rfl) (by kernel_rfl) (by kernel_rfl) (fun _ _ _ h => by exact h) (Or.inl ⟨by rfl, ?_⟩) (by assumption) ?_
                    rotate_left
                    · (intro w hSw; (try dsimp only at hSw); go_simp; (try with_reducible rfl))
                    try simp only [Act.put, List.setIfInBounds_toArray, List.set_cons_zero, List.set_cons_succ]
                    refine wpAnyH_take (i := 1) (oi := _) (v := ?_) (by rw [List.getElem?_toArray]; rfl) (by kernel_rfl) (by kernel_rfl) (by kernel_rfl) (fun _ _ _ h => by exact h) (Or.inl ⟨by rfl, ?_⟩) (by assumption) ?_
                    rotate_left
                    · (intro w hSw; (try dsimp only at hSw); go_simp; (try with_reducible rfl))
                    try simp only [Act.put, List.setIfInBounds_toArray, List.set_cons_zero, List.set_cons_succ]
                    refine wpAnyH_take (i := 2) (oi := _) (v := ?_) (by rw [List.getElem?_toArray]; rfl) (by kernel_rfl) (by kernel_rfl) (by kernel_rfl) (fun _ _ _ h => by exact h) (Or.inl ⟨by rfl, ?_⟩) (by assumption) ?_
                    rotate_left
                    · (intro w hSw; (try dsimp only at hSw); go_simp; (try with_reducible rfl))
                    try simp only [Act.put, List.setIfInBounds_toArray, List.set_cons_zero, List.set_cons_succ]
                    refine wpAnyH_take (i := 4) (oi := _) (v := ?_) (by rw [List.getElem?_toArray]; rfl) (by kernel_rfl) (by kernel_rfl) (by kernel_rfl) (fun _ _ _ h => by exact h) (Or.inl ⟨by rfl, ?_⟩) (by assumption) ?_
                    rotate_left
                    · (intro w hSw; (try dsimp only at hSw); go_simp; (try with_reducible rfl))
                    try simp only [Act.put, List.setIfInBounds_toArray, List.set_cons_zero, List.set_cons_succ]
                    refine wpAnyH_take (i := 5) (oi := _) (v := ?_) (by rw [List.getElem?_toArray]; rfl) (by kernel_rfl) (by kernel_rfl) (by kernel_rfl) (fun _ _ _ h => by exact h) (Or.inl ⟨by rfl, ?_⟩) (by assumption) ?_
                    rotate_left
                    · (intro w hSw; (try dsimp only at hSw); go_simp; (try with_reducible rfl))
                    try simp only [Act.put, List.setIfInBounds_toArray, List.set_cons_zero, List.set_cons_succ]
                    refine wpAnyH_take (i := 6) (oi := _) (v := ?_) (by rw [List.getElem?_toArray]; rfl) (by kernel_rfl) (by kernel_rfl) (by kernel_rfl) (fun _ _ _ h => by exact h) (Or.inl ⟨by rfl, ?_⟩) (by assumption) ?_
                    rotate_left
                    · (intro w hSw; (try dsimp only at hSw); go_simp; (try with_reducible rfl))
                    try simp only [Act.put, List.setIfInBounds_toArray, List.set_cons_zero, List.set_cons_succ]
                    refine wpAnyH_ready (rs := [3]) (by kernel_rfl) (by simp) ?_
                    refine AllReadyH.cons (o := _) (by rw [List.getElem?_toArray]; rfl) (fun K hK => ?_) ?_
                    · refine step_append_ex rfl (.const (.slice none 0 0)) (.tmp 160) 28 rfl rfl rfl (HTK.out _ (by first | exact ((Fr.refl _ _).drewN _).drew | exact (Fr.refl _ _).drewN _)) ?_
                      rintro v6 w6 ⟨ho6, f6, hb6⟩
                      obtain ⟨a6, c6, hv6, _⟩ := ho6.form
                      subst hv6
                      have HO6 : Hid (OwnE w6 (fun i => w4.heap.size ≤ i ∨ (W.heap.size ≤ i ∧ i < w3.heap.size)) (.slice a6 (es.take q).length c6) (es.take q)) := ho6
                      have G6 : Hid (Fr (fun _ => False) wl w6) := f6
                      have HB6 : Hid (∀ i, (Value.slice a6 (es.take q).length c6).ownBlock = some i → wl.heap.size ≤ i) := hb6
                      clear ho6 f6 hb6
                      refine hK.out _ _ trivial (fun hHeld => ?_)
                      clear hK K
                      try simp only [Act.put, List.setIfInBounds_toArray, List.set_cons_zero, List.set_cons_succ]
                      refine wpAnyH_ready (rs := [7]) (by kernel_rfl) (by simp) ?_
                      refine AllReadyH.cons (o := _) (by rw [List.getElem?_toArray]; rfl) (fun K hK => ?_) ?_
                      · have H7 : ∃ v7 w7, (Builtin.append_ #[28, 28] 28 #[.slice a6 (es.take q).length c6, .slice (some ⟨cb, co + j * 4, none⟩) (cs.length - j) (cc - j)]).run Try.prog w6 = .ok v7 w7 ∧ (OwnE w7 (fun i => w4.heap.size ≤ i ∨ (W.heap.size ≤ i ∧ i < w3.heap.size)) v7 (es.take q ++ cs.drop j) ∧ Fr (fun _ => False) wl w7) := by
                            have hrow := (HCS5.out.fr (HF2.out.trans G6.out) (by simp)).erow.drop' j (by omega)
                            obtain ⟨v7, w7, x1, x2, x3, x4⟩ := run_append_ents w6 28 (fun i => w4.heap.size ≤ i ∨ (W.heap.size ≤ i ∧ i < w3.heap.size)) (.slice a6 (es.take q).length c6) (es.take q) HO6.out ⟨cb, co + j * 4, none⟩ (cs.drop j) (cc - j) hrow.cells (fun y hy => (((HCS5.out.fr HF2.out (by simp)).erow.2.2.2.1 y (List.mem_of_mem_drop hy)).mono (fun i hi hd => ⟨hd, fun e => by have := HB6.out i e; omega⟩)).fr G6.out (by simp)) (fun i hi => Or.inl (by have := HS45.out; have := HF2.out.size; have := G6.out.size; omega)) (by simp; omega)
                            rw [show (cs.drop j).length = cs.length - j by simp] at x1
                            exact ⟨v7, w7, x1, x2, G6.out.trans' (Fr.grown (S := fun i => (Value.slice a6 (es.take q).length c6).ownBlock = some i) (Fr.refl _ _) x3 (fun i hi => .inl hi)) (fun i hi e => by have := HB6.out i e; omega)⟩
                        refine step_append_ex rfl (.tmp 161) (.tmp 164) 28 rfl rfl rfl H7 ?_
                        rintro v7 w7 ⟨ho7, f7⟩
                        obtain ⟨ws, Hws⟩ : ∃ ws, Hid (es.take q ++ cs.drop j = ws) := ⟨_, rfl⟩
                        rw [Hws.out] at ho7
                        obtain ⟨a7, c7, hv7, _⟩ := ho7.form
                        subst hv7
                        have HO7 : Hid (OwnE w7 (fun i => w4.heap.size ≤ i ∨ (W.heap.size ≤ i ∧ i < w3.heap.size)) (.slice a7 ws.length c7) ws) := ho7
                        have G7 : Hid (Fr (fun _ => False) wl w7) := f7
                        clear ho7 f7 H7
                        refine hK.out _ _ trivial (fun hHeld => ?_)
                        clear hK K
                        try simp only [Act.put, List.setIfInBounds_toArray, List.set_cons_zero, List.set_cons_succ]
                        refine wpAnyH_take (i := 8) (oi := _) (v := ?_) (by rw [List.getElem?_toArray]; rfl) (by kernel_rfl) (by kernel_rfl) (by kernel_rfl) (fun _ _ _ h => by exact h) (Or.inl ⟨by rfl, ?_⟩) (by assumption) ?_
                        rotate_left
                        · (intro w hSw; (try dsimp only at hSw); go_simp; (try with_reducible rfl))
                        try simp only [Act.put, List.setIfInBounds_toArray, List.set_cons_zero, List.set_cons_succ]
                        refine wpAnyH_done (by kernel_rfl) ?_ _
                        have HWQ : Hid (∀ i, i < (ys.take q ++ zs).length → ((ys.take q ++ zs).getD i default).i = nb + 1 + i) := fun i hi => by
                            have hpp := want_p HYP.out HZP.out q
                            have hl : (es.take q ++ cs.drop j).length = (ys.take q ++ zs).length := by simpa using congrArg List.length hpp
                            rw [p_i hpp.symm i (by omega)]
                            exact want_ix (fun i hi => ents_ix HPE.out i hi) (fun i hi => HCI.out i (by have := HCL.out; omega)) Hq.out (by have := HQL.out; have := Hqq.out; have := Hq.out; omega) i (by omega)
                        have HLQ : Hid (Lg w7 gb (fun i => w3.heap.size ≤ i ∧ i ≠ gb) nb nt n (ys.take q ++ zs) v5) := (show Lg _ _ _ _ _ _ _ _ by have h := HLL.out.fr (HF2.out.trans G7.out) (by simp) (by simp); rw [show qq = q from by have := Hqq.out; have := Hq.out; omega] at h; exact h)
                        have KT : Hid (Calls Try.prog 13 #[.pointer (some ⟨gb, 0, none⟩), .agg #[.int .u64 (nb : Int), .int .u64 (nt : Int), .int .u64 (n : Int), .slice none 0 0], .slice a7 ws.length c7] w7 fun e w' => e = .returned (.bool true) ∧ Fr (fun _ => False) w7 w') := look_any HLQ.out a7 ws c7 _ _ HO7.out.erow (by rw [← Hws.out]; exact want_p HYP.out HZP.out q) HWQ.out (by have h := congrArg List.length HZP.out; simp at h; simp; have := HYL.out; omega) (fun y hy => by
                            rcases List.mem_append.1 hy with hy1 | hy1
                            · exact ents_d HYE.out y (List.mem_of_mem_take hy1)
                            · exact d_of_p HZP.out 1000000 (fun z hz => HCD.out z (List.mem_of_mem_drop hz)) y hy1) none 0 0
                        obtain ⟨s0, s1, s2, s3, sz0, sz1, sz2⟩ := HBX5.out.fr (HF2.out.trans G7.out) (by simp)
                        have hgx : gi = xi := by rw [← Hgi.out, ← Hxi.out, Hx.out]
                        subst hgx
                        go_wp2_with fail
                        refine KT.out.mono ?_
                        rintro e w9 ⟨rfl, f9⟩
                        go_wp2
                        go_ret
                        exact ⟨rfl, FTOT.out.trans (HF2.out.trans (G7.out.trans f9))⟩
                      exact AllReadyH.nil
                    exact AllReadyH.nil
end Go.Proofs.Ytkkpdnholnkeoab
