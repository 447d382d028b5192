/- The statement LocksKeeps, walked. -/
import Derived.Test.YtaalkhipncbjpaaLocF
namespace Go.Proofs.Ytaalkhipncbjpaa
open Go.RowKit
attribute [local go_sem] run_store_float
set_option maxRecDepth 100000 in
set_option maxHeartbeats 2000000 in
theorem take1 (p pc sg sc bx : Nat) (da : Option Addr) (dn dc : Nat) (w : World) (hb : C7 w bx (.int .u64 2) (.int .u64 1) (.int .u64 0) (.slice none 0 0) (.slice (some ⟨sg, 0, none⟩) 1 sc) (.slice none 0 0) (.slice none 0 0)) (hp : w.cell? ⟨p, 0, none⟩ = some (.float .f64 4607182418800017408)) (h0 : w.cell? ⟨sg, 0, none⟩ = some (.float .f64 0)) (h1 : w.cell? ⟨sg, 1, none⟩ = some (.float .f64 4611686018427387904)) : Calls Try.prog 53 #[.agg #[.int .u64 1, .int .u64 1, .int .u64 0, .slice none 0 0, .slice none 0 0, .slice (some ⟨p, 0, none⟩) 1 pc, .slice da dn dc], .pointer (some ⟨bx, 0, none⟩)] w fun e w' => e = .returned (.bool true) ∧ Fr (fun _ => False) w w' := by
  have F0 : Hid (Fr (fun _ => False) w (w.alloc (.cells #[.int .u64 1, .int .u64 1, .int .u64 0, .slice none 0 0, .slice none 0 0, .slice (some ⟨p, 0, none⟩) 1 pc, .slice da dn dc] 29))) := (Fr.refl (fun _ => False) w).alloc _
  obtain ⟨d0, d1, d2, d3, d4, d5, d6⟩ := hb.fr F0.out (by simp)
  have K : Hid (Calls _ _ _ _ _) := meet_ab p pc sg sc da dn dc _ (F0.out.cell hp (by simp)) (F0.out.cell h0 (by simp)) (F0.out.cell h1 (by simp))
  clear hb hp h0 h1
  go_enter Try.func53, Try.ntmps53
  go_wp2_with fail
  refine K.out.mono ?_
  rintro e w1 ⟨rfl, f1⟩
  go_wp2
  go_ret
  exact ⟨rfl, F0.out.trans f1⟩
set_option maxRecDepth 100000 in
set_option maxHeartbeats 2000000 in
theorem contains_hold (p pc sg sc bx g cp : Nat) (da : Option Addr) (dn dc : Nat) (w : World) (hg : C7 w g (.int .u64 1) (.int .u64 1) (.int .u64 0) (.slice none 0 0) (.slice none 0 0) (.slice (some ⟨p, 0, none⟩) 1 pc) (.slice da dn dc)) (hb : C7 w bx (.int .u64 2) (.int .u64 1) (.int .u64 0) (.slice none 0 0) (.slice (some ⟨sg, 0, none⟩) 1 sc) (.slice none 0 0) (.slice none 0 0)) (hp : w.cell? ⟨p, 0, none⟩ = some (.float .f64 4607182418800017408)) (h0 : w.cell? ⟨sg, 0, none⟩ = some (.float .f64 0)) (h1 : w.cell? ⟨sg, 1, none⟩ = some (.float .f64 4611686018427387904)) : Calls Try.prog 52 #[.slice (some ⟨g, 0, none⟩) 1 cp, .func (.func 53) #[] #[.pointer (some ⟨bx, 0, none⟩)]] w fun e w' => e = .returned (.bool true) ∧ Fr (fun _ => False) w w' := by
  have K : Hid (Calls _ _ _ _ _) := take1 p pc sg sc bx da dn dc w hb hp h0 h1
  obtain ⟨d0, d1, d2, d3, d4, d5, d6⟩ := hg
  clear hb hp h0 h1
  go_enter Try.func52, Try.ntmps52
  go_wp2_with (go_at_call 89; go_in)
  refine wp_loop_rounds 1 ?_
  rw [rounds_succ]
  go_wp2_with fail
  refine K.out.mono ?_
  rintro e w1 ⟨rfl, f1⟩
  clear d0 d1 d2 d3 d4 d5 d6
  go_wp2
  go_ret
  exact ⟨rfl, f1⟩
set_option maxRecDepth 100000 in
set_option maxHeartbeats 2000000 in
theorem take_meets (p pc sg sc tb g cp : Nat) (da : Option Addr) (dn dc : Nat) (w : World) (hc : w.cell? ⟨tb, 0, none⟩ = some (.slice (some ⟨g, 0, none⟩) 1 cp)) (hg : C7 w g (.int .u64 1) (.int .u64 1) (.int .u64 0) (.slice none 0 0) (.slice none 0 0) (.slice (some ⟨p, 0, none⟩) 1 pc) (.slice da dn dc)) (hp : w.cell? ⟨p, 0, none⟩ = some (.float .f64 4607182418800017408)) (h0 : w.cell? ⟨sg, 0, none⟩ = some (.float .f64 0)) (h1 : w.cell? ⟨sg, 1, none⟩ = some (.float .f64 4611686018427387904)) : Calls Try.prog 23 #[.pointer (some ⟨tb, 0, none⟩), .agg #[.int .u64 2, .int .u64 1, .int .u64 0, .slice none 0 0, .slice (some ⟨sg, 0, none⟩) 1 sc, .slice none 0 0, .slice none 0 0]] w fun e w' => e = .returned (.int .i64 8) ∧ Fr (fun _ => False) w w' := by
  have F0 : Hid (Fr (fun _ => False) w (w.alloc (.cells #[.int .u64 2, .int .u64 1, .int .u64 0, .slice none 0 0, .slice (some ⟨sg, 0, none⟩) 1 sc, .slice none 0 0, .slice none 0 0] 29))) := (Fr.refl (fun _ => False) w).alloc _
  have K : Hid (Calls _ _ _ _ _) := contains_hold p pc sg sc w.heap.size g cp da dn dc _ (hg.fr F0.out (by simp)) (C7.new w 29 (.int .u64 2) (.int .u64 1) (.int .u64 0) (.slice none 0 0) (.slice (some ⟨sg, 0, none⟩) 1 sc) (.slice none 0 0) (.slice none 0 0)) (F0.out.cell hp (by simp)) (F0.out.cell h0 (by simp)) (F0.out.cell h1 (by simp))
  have c0 := F0.out.cell hc (by simp)
  clear hc hg hp h0 h1
  go_enter Try.func23, Try.ntmps23
  go_wp2_with fail
  refine K.out.mono ?_
  rintro e w1 ⟨rfl, f1⟩
  clear c0
  go_wp2
  go_ret
  exact ⟨rfl, F0.out.trans f1⟩
set_option maxRecDepth 100000 in
set_option maxHeartbeats 4000000 in
theorem awake_any (w : World) : Calls Try.prog 9 #[] w fun e w' => e = .returned (.bool true) ∧ Fr (fun _ => False) w w' := by
  obtain ⟨W, HW⟩ : ∃ W, Hid (W = ((((w.alloc (.cells #[.float .f64 4607182418800017408] 71)).alloc (.cells #[.int .u64 1, .int .u64 1, .int .u64 0, .slice none 0 0, .slice none 0 0, .slice (some ⟨w.heap.size, 0, none⟩) 1 1, .slice none 0 0] 29)).alloc (.cells #[.float .f64 0, .float .f64 4611686018427387904] 75)).alloc (.cells #[.int .u64 2, .int .u64 1, .int .u64 0, .slice none 0 0, .slice (some ⟨w.heap.size + 1 + 1, 0, none⟩) 1 1, .slice none 0 0, .slice none 0 0] 29)).alloc (.cells #[.slice none 0 0] 88)) := ⟨_, rfl⟩
  have F0 : Hid (Fr (fun _ => False) w W) := (show Fr _ _ _ by rw [HW.out]; exact (((((Fr.refl (fun _ => False) w).alloc _).alloc _).alloc _).alloc _).alloc _)
  obtain ⟨V1, HV1⟩ : ∃ V, Hid (V = w.alloc (.cells #[.float .f64 4607182418800017408] 71)) := ⟨_, rfl⟩
  obtain ⟨V2, HV2⟩ : ∃ V, Hid (V = V1.alloc (.cells #[.int .u64 1, .int .u64 1, .int .u64 0, .slice none 0 0, .slice none 0 0, .slice (some ⟨w.heap.size, 0, none⟩) 1 1, .slice none 0 0] 29)) := ⟨_, rfl⟩
  obtain ⟨V3, HV3⟩ : ∃ V, Hid (V = V2.alloc (.cells #[.float .f64 0, .float .f64 4611686018427387904] 75)) := ⟨_, rfl⟩
  obtain ⟨V4, HV4⟩ : ∃ V, Hid (V = V3.alloc (.cells #[.int .u64 2, .int .u64 1, .int .u64 0, .slice none 0 0, .slice (some ⟨w.heap.size + 1 + 1, 0, none⟩) 1 1, .slice none 0 0, .slice none 0 0] 29)) := ⟨_, rfl⟩
  have HWV : Hid (W = V4.alloc (.cells #[.slice none 0 0] 88)) := (show _ = _ by rw [HW.out, HV4.out, HV3.out, HV2.out, HV1.out])
  have z1 : V1.heap.size = w.heap.size + 1 := by rw [HV1.out]; simp
  have z2 : V2.heap.size = w.heap.size + 1 + 1 := by rw [HV2.out, ← z1]; simp
  have z3 : V3.heap.size = w.heap.size + 1 + 1 + 1 := by rw [HV3.out, ← z2]; simp
  have z4 : V4.heap.size = w.heap.size + 1 + 1 + 1 + 1 := by rw [HV4.out, ← z3]; simp
  have g5 : Fr (fun _ => False) V4 W := by rw [HWV.out]; exact (Fr.refl _ _).alloc _
  have g4 : Fr (fun _ => False) V3 W := Fr.trans (w1 := V4) (by rw [HV4.out]; exact (Fr.refl _ _).alloc _) g5
  have g3 : Fr (fun _ => False) V2 W := Fr.trans (w1 := V3) (by rw [HV3.out]; exact (Fr.refl _ _).alloc _) g4
  have g2 : Fr (fun _ => False) V1 W := Fr.trans (w1 := V2) (by rw [HV2.out]; exact (Fr.refl _ _).alloc _) g3
  have HA : Hid (C7 W (w.heap.size + 1) (.int .u64 1) (.int .u64 1) (.int .u64 0) (.slice none 0 0) (.slice none 0 0) (.slice (some ⟨w.heap.size, 0, none⟩) 1 1) (.slice none 0 0)) := (show C7 _ _ _ _ _ _ _ _ _ by rw [← z1]; exact C7.fr (w := V2) (by rw [HV2.out]; exact C7.new V1 29 _ _ _ _ _ _ _) g3 (by simp))
  have HB : Hid (C7 W (w.heap.size + 1 + 1 + 1) (.int .u64 2) (.int .u64 1) (.int .u64 0) (.slice none 0 0) (.slice (some ⟨w.heap.size + 1 + 1, 0, none⟩) 1 1) (.slice none 0 0) (.slice none 0 0)) := (show C7 _ _ _ _ _ _ _ _ _ by rw [← z3]; exact C7.fr (w := V4) (by rw [HV4.out]; exact C7.new V3 29 _ _ _ _ _ _ _) g5 (by simp))
  have HP : Hid (W.cell? ⟨w.heap.size, 0, none⟩ = some (.float .f64 4607182418800017408)) := g2.cell (by rw [HV1.out]; simp) (by simp)
  have HS : Hid (W.cell? ⟨w.heap.size + 1 + 1, 0, none⟩ = some (.float .f64 0) ∧ W.cell? ⟨w.heap.size + 1 + 1, 1, none⟩ = some (.float .f64 4611686018427387904)) := (show _ ∧ _ by rw [← z2]; exact ⟨g4.cell (by rw [HV3.out]; simp) (by simp), g4.cell (by rw [HV3.out]; simp) (by simp)⟩)
  have HT : Hid (W.cell? ⟨w.heap.size + 1 + 1 + 1 + 1, 0, none⟩ = some (.slice none 0 0) ∧ W.frozen? ⟨w.heap.size + 1 + 1 + 1 + 1, 0, none⟩ = false) := (show _ ∧ _ by rw [← z4, HWV.out]; exact ⟨by simp, by simp⟩)
  clear g2 g3 g4 g5 z1 z2 z3 z4 HV1 HV2 HV3 HV4 HWV
  obtain ⟨s0, Hs0⟩ : ∃ s0, Hid (w.heap.size = s0) := ⟨_, rfl⟩
  rw [Hs0.out] at HA HB HP HS HT
  have KM : Hid (Calls _ _ _ _ _) := meet_ab s0 1 (s0 + 1 + 1) 1 none 0 0 W HP.out HS.out.1 HS.out.2
  have KT : Hid (∀ V, Fr (fun _ => False) W V → Calls Try.prog 23 #[.pointer (some ⟨s0 + 1 + 1 + 1 + 1, 0, none⟩), .agg #[.int .u64 1, .int .u64 1, .int .u64 0, .slice none 0 0, .slice none 0 0, .slice (some ⟨s0, 0, none⟩) 1 1, .slice none 0 0]] V fun e w' => e = .returned (.int .i64 0) ∧ (∃ g cp pg gc a1 c1, w'.cell? ⟨s0 + 1 + 1 + 1 + 1, 0, none⟩ = some (.slice (some ⟨g, 0, none⟩) 1 cp) ∧ V.heap.size ≤ g ∧ V.heap.size ≤ pg ∧ (∀ a, a1 = some a → V.heap.size ≤ a.block) ∧ C7 w' g (.int .u64 1) (.int .u64 1) (.int .u64 0) (.slice none 0 0) (.slice none 0 0) (.slice (some ⟨pg, 0, none⟩) 1 gc) (.slice a1 0 c1) ∧ w'.cell? ⟨pg, 0, none⟩ = some (.float .f64 4607182418800017408) ∧ Row w' a1 [] c1) ∧ Fr (fun k => k = s0 + 1 + 1 + 1 + 1) V w') := fun V f => take_first 1 1 0 s0 1 4607182418800017408 (s0 + 1 + 1 + 1 + 1) none [] 0 V (f.cell HT.out.1 (by simp)) ((f.frozenEq (a := ⟨s0 + 1 + 1 + 1 + 1, 0, none⟩) (World.block_lt_of_cell? _ _ HT.out.1) (by simp)).trans HT.out.2) (f.cell HP.out (by simp)) (row_nil V) (by simp)
  go_enter Try.func9, Try.ntmps9
  go_wp2_with fail
  refine (new_any _).mono ?_
  rintro e w1 ⟨rfl, rfl⟩
  go_wp2_with fail
  rw [← HW.out, Hs0.out]
  refine KM.out.mono ?_
  rintro e w5 ⟨rfl, f5⟩
  have F5 : Hid (Fr (fun _ => False) W w5) := f5
  obtain ⟨a0, a1', a2, a3, a4, a5, a6⟩ := HA.out.fr f5 (by simp)
  clear f5 KM
  go_wp2_with fail
  refine (KT.out _ F5.out).mono ?_
  rintro e w6 ⟨rfl, ⟨g, cp, pg, gc, a1, c1, hc6, hg6, hp6, hf6, hk6, hx6, hr6⟩, f6⟩
  have F6 : Hid (Fr (fun k => k = s0 + 1 + 1 + 1 + 1) w5 w6) := f6
  have HC6 : Hid (w6.cell? ⟨s0 + 1 + 1 + 1 + 1, 0, none⟩ = some (.slice (some ⟨g, 0, none⟩) 1 cp)) := hc6
  have KT2 : Hid (Calls _ _ _ _ _) := take_meets pg gc (s0 + 1 + 1) 1 (s0 + 1 + 1 + 1 + 1) g cp a1 0 c1 w6 hc6 hk6 hx6 (f6.cell (F5.out.cell HS.out.1 (by simp)) (show ¬ _ = _ by simp)) (f6.cell (F5.out.cell HS.out.2 (by simp)) (show ¬ _ = _ by simp))
  obtain ⟨b0, b1, b2, b3, b4, b5, b6⟩ := (HB.out.fr F5.out (by simp)).fr f6 (show ¬ _ = _ by omega)
  clear f6 hc6 hg6 hp6 hf6 hk6 hx6 hr6 a0 a1' a2 a3 a4 a5 a6 KT
  go_wp2_with fail
  refine KT2.out.mono ?_
  rintro e w7 ⟨rfl, f7⟩
  have F7 : Hid (Fr (fun _ => False) w6 w7) := f7
  have KL : Hid (Calls _ _ _ _ _) := len_one (s0 + 1 + 1 + 1 + 1) g cp w7 (f7.cell HC6.out (by simp))
  clear f7 b0 b1 b2 b3 b4 b5 b6 KT2
  go_wp2_with fail
  refine KL.out.mono ?_
  rintro e w8 ⟨rfl, rfl⟩
  go_wp2
  go_ret
  exact ⟨rfl, ((F0.out.trans F5.out).trans' F6.out (fun i hi e => by have := Hs0.out; omega)).trans F7.out⟩
theorem const_bytes (w : World) : (convert 27 27 (.slice (some ⟨w.heap.size, 0, none⟩) 1 1)).run Try.prog (w.alloc (.cells #[.int .u8 100] 5)) = .ok (.slice (some ⟨w.heap.size, 0, none⟩) 1 1) (w.alloc (.cells #[.int .u8 100] 5 (1, 2))) := Lib.run_convert_bytes_const (P := Try.prog) w 27 5 #[.int .u8 100] 1 1 Try.underlying27 Try.underlying5
theorem mark_cell (w : World) : (w.alloc (.cells #[.int .u8 100] 5 (1, 2))).cell? ⟨w.heap.size, 0, none⟩ = some (.int .u8 100) := (World.cell?_alloc_mark w #[.int .u8 100] 5 (1, 2) 0).trans rfl
theorem mark_frozen (w : World) : (w.alloc (.cells #[.int .u8 100] 5 (1, 2))).frozen? ⟨w.heap.size, 0, none⟩ = false := by
  unfold World.frozen?
  rw [heap_alloc_new]
  rfl
theorem row_d (w : World) (d : Nat) (h : w.cell? ⟨d, 0, none⟩ = some (.int .u8 100)) : Row w (some ⟨d, 0, none⟩) [100] 1 :=
  ⟨by simp, by unfold maxLen; omega, by simp, by simp, fun _ => ⟨d, 0, rfl, fun i hi => by
    have : i = 0 := by simpa using hi
    subst this; simpa using h⟩⟩
set_option maxRecDepth 100000 in
set_option maxHeartbeats 8000000 in
theorem keeps_walk (x y e0 : Nat) (hx : x < 18446744073709551616) (w : World) : Calls Try.prog 8 #[.float .f64 x, .float .f64 y, .int .u64 (e0 : Int)] w fun e w' => e = .returned (.bool true) ∧ Fr (fun _ => False) w w' := by
  obtain ⟨V1, HV1⟩ : ∃ V, Hid (V = w.alloc (.cells #[.float .f64 x] 71)) := ⟨_, rfl⟩
  have z1 : V1.heap.size = w.heap.size + 1 := by rw [HV1.out]; simp
  have hcv := const_bytes V1
  rw [z1] at hcv
  obtain ⟨V2, HV2⟩ : ∃ V, Hid (V = V1.alloc (.cells #[.int .u8 100] 5 (1, 2))) := ⟨_, rfl⟩
  obtain ⟨V3, HV3⟩ : ∃ V, Hid (V = V2.alloc (.cells #[.int .u64 1, .int .u64 1, .int .u64 (e0 : Int), .slice none 0 0, .slice none 0 0, .slice (some ⟨w.heap.size, 0, none⟩) 1 1, .slice (some ⟨w.heap.size + 1, 0, none⟩) 1 1] 29)) := ⟨_, rfl⟩
  obtain ⟨W, HW⟩ : ∃ V, Hid (V = V3.alloc (.cells #[.slice none 0 0] 88)) := ⟨_, rfl⟩
  have z2 : V2.heap.size = w.heap.size + 1 + 1 := by rw [HV2.out, ← z1]; simp
  have z3 : V3.heap.size = w.heap.size + 1 + 1 + 1 := by rw [HV3.out, ← z2]; simp
  have z4 : W.heap.size = w.heap.size + 1 + 1 + 1 + 1 := by rw [HW.out, ← z3]; simp
  have g4 : Fr (fun _ => False) V3 W := by rw [HW.out]; exact (Fr.refl _ _).alloc _
  have g3 : Fr (fun _ => False) V2 W := Fr.trans (w1 := V3) (by rw [HV3.out]; exact (Fr.refl _ _).alloc _) g4
  have g2 : Fr (fun _ => False) V1 W := Fr.trans (w1 := V2) (by rw [HV2.out]; exact (Fr.refl _ _).alloc _) g3
  have F0 : Hid (Fr (fun _ => False) w W) := Fr.trans (w1 := V1) (by rw [HV1.out]; exact (Fr.refl _ _).alloc _) g2
  have hVV : Hid (((((w.alloc (.cells #[.float .f64 x] 71)).alloc (.cells #[.int .u8 100] 5 (1, 2))).alloc (.cells #[.int .u64 1, .int .u64 1, .int .u64 (e0 : Int), .slice none 0 0, .slice none 0 0, .slice (some ⟨w.heap.size, 0, none⟩) 1 1, .slice (some ⟨w.heap.size + 1, 0, none⟩) 1 1] 29)).alloc (.cells #[.slice none 0 0] 88)) = W) := (show _ = _ by rw [HW.out, HV3.out, HV2.out, HV1.out])
  rw [HV1.out] at hcv
  have HH : Hid (C7 W (w.heap.size + 1 + 1) (.int .u64 1) (.int .u64 1) (.int .u64 (e0 : Int)) (.slice none 0 0) (.slice none 0 0) (.slice (some ⟨w.heap.size, 0, none⟩) 1 1) (.slice (some ⟨w.heap.size + 1, 0, none⟩) 1 1)) := (show C7 _ _ _ _ _ _ _ _ _ by rw [← z2]; exact C7.fr (w := V3) (by rw [HV3.out]; exact C7.new V2 29 _ _ _ _ _ _ _) g4 (by simp))
  have HP : Hid (W.cell? ⟨w.heap.size, 0, none⟩ = some (.float .f64 x) ∧ W.frozen? ⟨w.heap.size, 0, none⟩ = false) := ⟨g2.cell (by rw [HV1.out]; simp) (by simp), (g2.frozenEq (a := ⟨w.heap.size, 0, none⟩) (show w.heap.size < V1.heap.size by omega) (by simp)).trans (by rw [HV1.out]; simp)⟩
  have HD : Hid (W.cell? ⟨w.heap.size + 1, 0, none⟩ = some (.int .u8 100) ∧ W.frozen? ⟨w.heap.size + 1, 0, none⟩ = false) := (show _ ∧ _ by rw [← z1]; exact ⟨g3.cell (by rw [HV2.out]; exact mark_cell V1) (by simp), (g3.frozenEq (a := ⟨V1.heap.size, 0, none⟩) (show V1.heap.size < V2.heap.size by omega) (by simp)).trans (by rw [HV2.out]; exact mark_frozen V1)⟩)
  have HT : Hid (W.cell? ⟨w.heap.size + 1 + 1 + 1, 0, none⟩ = some (.slice none 0 0) ∧ W.frozen? ⟨w.heap.size + 1 + 1 + 1, 0, none⟩ = false) := (show _ ∧ _ by rw [← z3, HW.out]; exact ⟨by simp, by simp⟩)
  have HZ : Hid (W.heap.size = w.heap.size + 1 + 1 + 1 + 1) := z4
  clear g2 g3 g4 z1 z2 z3 z4 HV1 HV2 HV3 HW
  obtain ⟨s0, Hs0⟩ : ∃ s0, Hid (w.heap.size = s0) := ⟨_, rfl⟩
  rw [Hs0.out] at HH HP HD HT HZ
  have KT : Hid (Calls Try.prog 23 #[.pointer (some ⟨s0 + 1 + 1 + 1, 0, none⟩), .agg #[.int .u64 1, .int .u64 1, .int .u64 (e0 : Int), .slice none 0 0, .slice none 0 0, .slice (some ⟨s0, 0, none⟩) 1 1, .slice (some ⟨s0 + 1, 0, none⟩) 1 1]] W fun e w' => e = .returned (.int .i64 0) ∧ (∃ g cp pg gc a1 c1, w'.cell? ⟨s0 + 1 + 1 + 1, 0, none⟩ = some (.slice (some ⟨g, 0, none⟩) 1 cp) ∧ W.heap.size ≤ g ∧ W.heap.size ≤ pg ∧ (∀ a, a1 = some a → W.heap.size ≤ a.block) ∧ C7 w' g (.int .u64 ((1 : Nat) : Int)) (.int .u64 ((1 : Nat) : Int)) (.int .u64 (e0 : Int)) (.slice none 0 0) (.slice none 0 0) (.slice (some ⟨pg, 0, none⟩) 1 gc) (.slice a1 1 c1) ∧ w'.cell? ⟨pg, 0, none⟩ = some (.float .f64 x) ∧ Row w' a1 [100] c1) ∧ Fr (fun k => k = s0 + 1 + 1 + 1) W w') := take_first 1 1 e0 s0 1 x (s0 + 1 + 1 + 1) (some ⟨s0 + 1, 0, none⟩) [100] 1 W HT.out.1 HT.out.2 HP.out.1 (row_d W (s0 + 1) HD.out.1) (by simp)
  go_enter Try.func8, Try.ntmps8
  go_wp2_with fail
  refine (new_any _).mono ?_
  rintro e w1 ⟨rfl, rfl⟩
  clear hcv
  go_wp2_with fail
  rw [hVV.out, Hs0.out]
  refine KT.out.mono ?_
  rintro e w5 ⟨rfl, ⟨g, cp, pg, gc, a1, c1, hc5, hg5, hp5, hf5, hk5, hx5, hr5⟩, f5⟩
  obtain ⟨h0, h1, h2, h3, h4, h5, h6⟩ := HH.out.fr f5 (by omega)
  have p5 := f5.cell HP.out.1 (show ¬ s0 = _ by omega)
  have pz := (f5.frozenEq (a := ⟨s0, 0, none⟩) (World.block_lt_of_cell? _ _ HP.out.1) (show ¬ s0 = _ by omega)).trans HP.out.2
  have d5 := f5.cell HD.out.1 (show ¬ s0 + 1 = _ by omega)
  have dz := (f5.frozenEq (a := ⟨s0 + 1, 0, none⟩) (World.block_lt_of_cell? _ _ HD.out.1) (show ¬ s0 + 1 = _ by omega)).trans HD.out.2
  have F5 : Hid (Fr (fun k => k = s0 + 1 + 1 + 1) W w5) := f5
  obtain ⟨w6, Hw6⟩ : ∃ w6, Hid ((w5.setCell ⟨s0, 0, none⟩ (.float .f64 y)).setCell ⟨s0 + 1, 0, none⟩ (.int .u8 120) = w6) := ⟨_, rfl⟩
  have f6 : Fr (fun k => k = s0 ∨ k = s0 + 1) w5 w6 := by rw [← Hw6.out]; exact ((Fr.refl (fun k => k = s0 ∨ k = s0 + 1) w5).setCell (p := ⟨s0, 0, none⟩) (Or.inl (Or.inl rfl)) _).setCell (p := ⟨s0 + 1, 0, none⟩) (Or.inl (Or.inr rfl)) _
  have HH6 : Hid (C7 w6 (s0 + 1 + 1) (.int .u64 1) (.int .u64 1) (.int .u64 (e0 : Int)) (.slice none 0 0) (.slice none 0 0) (.slice (some ⟨s0, 0, none⟩) 1 1) (.slice (some ⟨s0 + 1, 0, none⟩) 1 1)) := (HH.out.fr f5 (by omega)).fr f6 (by omega)
  have hge : s0 + 1 < g ∧ s0 + 1 < pg := by have := HZ.out; omega
  have KG : Hid (Calls Try.prog 26 #[.pointer (some ⟨s0 + 1 + 1 + 1, 0, none⟩), .agg #[.int .u64 1, .int .u64 1]] w6 fun e w' => ∃ pg gc a1 c1, e = .returned (.tuple #[.agg #[.int .u64 1, .int .u64 1, .int .u64 (e0 : Int), .slice none 0 0, .slice none 0 0, .slice (some ⟨pg, 0, none⟩) 1 gc, .slice a1 1 c1], .bool true]) ∧ w6.heap.size ≤ pg ∧ w'.cell? ⟨pg, 0, none⟩ = some (.float .f64 x) ∧ Row w' a1 [100] c1 ∧ (∀ a, a1 = some a → w6.heap.size ≤ a.block) ∧ Fr (fun _ => False) w6 w') := get_one 1 1 e0 pg gc x (s0 + 1 + 1 + 1) g cp a1 [100] c1 w6 (f6.cell hc5 (show ¬ (_ ∨ _) by simp; omega)) (hk5.fr f6 (by omega)) (f6.cell hx5 (show ¬ (_ ∨ _) by simp; omega)) (f6.row hr5 (fun _ a ha e => by have := hf5 a ha; have := HZ.out; omega)) (by simp)
  have F6 : Hid (Fr (fun k => k = s0 ∨ k = s0 + 1) w5 w6) := f6
  clear f5 f6 hc5 hg5 hp5 hf5 hk5 hx5 hr5 hge KT
  obtain ⟨k0, k1, k2, k3, k4, k5, k6⟩ := HH6.out
  go_wp2_with fail
  rw [Hw6.out]
  refine KG.out.mono ?_
  rintro e w7 ⟨p2, q2, a2, c2, rfl, hp7, hx7, hr7, hf7, f7⟩
  have f7a : Fr (fun _ => False) w6 (w7.alloc (.cells #[.int .u64 1, .int .u64 1, .int .u64 (e0 : Int), .slice none 0 0, .slice none 0 0, .slice (some ⟨p2, 0, none⟩) 1 q2, .slice a2 1 c2] 29)) := f7.alloc _
  have G7 : Hid (Fr (fun _ => False) w7 (w7.alloc (.cells #[.int .u64 1, .int .u64 1, .int .u64 (e0 : Int), .slice none 0 0, .slice none 0 0, .slice (some ⟨p2, 0, none⟩) 1 q2, .slice a2 1 c2] 29))) := (Fr.refl _ _).alloc _
  have F7 : Hid (Fr (fun _ => False) w6 (w7.alloc (.cells #[.int .u64 1, .int .u64 1, .int .u64 (e0 : Int), .slice none 0 0, .slice none 0 0, .slice (some ⟨p2, 0, none⟩) 1 q2, .slice a2 1 c2] 29))) := f7a
  have HR7 : Hid (C7 (w7.alloc (.cells #[.int .u64 1, .int .u64 1, .int .u64 (e0 : Int), .slice none 0 0, .slice none 0 0, .slice (some ⟨p2, 0, none⟩) 1 q2, .slice a2 1 c2] 29)) w7.heap.size (.int .u64 1) (.int .u64 1) (.int .u64 (e0 : Int)) (.slice none 0 0) (.slice none 0 0) (.slice (some ⟨p2, 0, none⟩) 1 q2) (.slice a2 1 c2)) := C7.new w7 29 _ _ _ _ _ _ _
  have HX7 : Hid (w7.cell? ⟨p2, 0, none⟩ = some (.float .f64 x) ∧ Row w7 a2 [100] c2) := ⟨hx7, hr7⟩
  clear hp7 hx7 hr7 hf7 f7 f7a k0 k1 k2 k3 k4 k5 k6 h0 h1 h2 h3 h4 h5 h6 p5 pz d5 dz
  go_wp2_with fail
  refine (awake_any _).mono ?_
  rintro e w8 ⟨rfl, f8⟩
  have F8 : Hid (Fr (fun _ => False) w6 w8) := F7.out.trans f8
  have HX8 : Hid (w8.cell? ⟨p2, 0, none⟩ = some (.float .f64 x) ∧ Row w8 a2 [100] c2) := ⟨(G7.out.trans f8).cell HX7.out.1 (by simp), (G7.out.trans f8).row HX7.out.2 (by simp)⟩
  obtain ⟨r0, r1, r2, r3, r4, r5, r6⟩ := HR7.out.fr f8 (by simp)
  obtain ⟨k0, k1, k2, k3, k4, k5, k6⟩ := HH6.out.fr F8.out (by simp)
  obtain ⟨rb, Hrb⟩ : ∃ rb, Hid (w7.heap.size = rb) := ⟨_, rfl⟩
  rw [Hrb.out] at r0 r1 r2 r3 r4 r5 r6 ⊢
  have z8 : (w8.alloc (.cells #[.float .f64 x] 71)).heap.size = w8.heap.size + 1 := by simp
  have hcv := const_bytes (w8.alloc (.cells #[.float .f64 x] 71))
  have F9 : Hid (Fr (fun _ => False) w8 ((w8.alloc (.cells #[.float .f64 x] 71)).alloc (.cells #[.int .u8 100] 5 (1, 2)))) := ((Fr.refl _ _).alloc _).alloc _
  have m9 := mark_cell (w8.alloc (.cells #[.float .f64 x] 71))
  rw [z8] at hcv m9
  have KS : Hid (Calls Try.prog 13 #[.agg #[.int .u64 1, .int .u64 1, .int .u64 (e0 : Int), .slice none 0 0, .slice none 0 0, .slice (some ⟨p2, 0, none⟩) 1 q2, .slice a2 1 c2], .agg #[.int .u64 1, .int .u64 1, .int .u64 (e0 : Int), .slice none 0 0, .slice none 0 0, .slice (some ⟨w8.heap.size, 0, none⟩) 1 1, .slice (some ⟨w8.heap.size + 1, 0, none⟩) 1 1]] ((w8.alloc (.cells #[.float .f64 x] 71)).alloc (.cells #[.int .u8 100] 5 (1, 2))) fun e w' => e = .returned (.bool true) ∧ Fr (fun _ => False) ((w8.alloc (.cells #[.float .f64 x] 71)).alloc (.cells #[.int .u8 100] 5 (1, 2))) w') := samehold_one 1 1 e0 p2 q2 w8.heap.size 1 x hx a2 (some ⟨w8.heap.size + 1, 0, none⟩) [100] c2 1 _ (F9.out.cell HX8.out.1 (by simp)) (Fr.cell (w := w8.alloc (.cells #[.float .f64 x] 71)) ((Fr.refl (fun _ => False) _).alloc _) (by simp) (by simp)) (F9.out.row HX8.out.2 (by simp)) (row_d _ _ m9)
  clear f8 G7 z8 m9
  go_wp2_with fail
  refine KS.out.mono ?_
  rintro e w10 ⟨rfl, f10⟩
  have F10 : Hid (Fr (fun _ => False) w8 w10) := F9.out.trans f10
  have KN : Hid (∀ V, Calls Try.prog 23 #[.pointer none, .agg #[.int .u64 1, .int .u64 1, .int .u64 (e0 : Int), .slice none 0 0, .slice none 0 0, .slice (some ⟨s0, 0, none⟩) 1 1, .slice (some ⟨s0 + 1, 0, none⟩) 1 1]] V fun e w' => e = .returned (.int .i64 2) ∧ Fr (fun _ => False) V w') := fun V => take_nil 1 1 e0 (some ⟨s0, 0, none⟩) 1 1 (some ⟨s0 + 1, 0, none⟩) 1 1 V
  have KD : Hid (∀ V, Calls Try.prog 21 #[.pointer none, .agg #[.int .u64 1, .int .u64 1]] V fun e w' => e = .returned (.bool false) ∧ Fr (fun _ => False) V w') := fun V => drop_nil 1 1 V
  clear r0 r1 r2 r3 r4 r5 r6 k0 k1 k2 k3 k4 k5 k6 hcv f10 KS
  obtain ⟨k0, k1, k2, k3, k4, k5, k6⟩ := (HH6.out.fr F8.out (by simp)).fr F10.out (by simp)
  go_wp2_with fail
  refine (KN.out _).mono ?_
  rintro e w11 ⟨rfl, f11⟩
  have F11 : Hid (Fr (fun _ => False) w8 w11) := F10.out.trans f11
  clear k0 k1 k2 k3 k4 k5 k6 f11
  obtain ⟨k0, k1, k2, k3, k4, k5, k6⟩ := (HH6.out.fr F8.out (by simp)).fr F11.out (by simp)
  go_wp2_with fail
  refine (KD.out _).mono ?_
  rintro e w12 ⟨rfl, f12⟩
  have F12 : Hid (Fr (fun _ => False) w8 w12) := F11.out.trans f12
  clear k0 k1 k2 k3 k4 k5 k6 f12
  go_wp2_with fail
  refine (len_nil _).mono ?_
  rintro e w13 ⟨rfl, rfl⟩
  go_wp2_with fail
  refine (all_nil _).mono ?_
  rintro e w14 ⟨rfl, rfl⟩
  go_wp2_with fail
  refine (until_nil e0 _).mono ?_
  rintro e w15 ⟨rfl, f15⟩
  go_wp2
  go_ret
  refine ⟨rfl, ?_⟩
  have A1 : Fr (fun _ => False) w w5 := F0.out.trans' F5.out (fun i hi e => by have := Hs0.out; omega)
  have A2 : Fr (fun _ => False) w w6 := A1.trans' F6.out (fun i hi e => by have := Hs0.out; rcases e with e | e <;> omega)
  exact (A2.trans F8.out).trans (F12.out.trans f15)
end Go.Proofs.Ytaalkhipncbjpaa
