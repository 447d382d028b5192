/- told, list, Get. -/
import Derived.Test.YtmjkipdflhbgdaaMvE
namespace Go.Proofs.Ytmjkipdflhbgdaa
open Go.RowKit
theorem C2.new (w : World) (t : TypeId) (v0 v1 : Value) : C2 (w.alloc (.cells #[v0, v1] t)) w.heap.size v0 v1 := by constructor <;> simp
theorem C2.put2 {w : World} {g : Nat} {v0 v1 : Value} (h : C2 w g v0 v1) (u0 u1 : Value) : C2 ((w.setCell ⟨g, 0, none⟩ u0).setCell ⟨g, 1, none⟩ u1) g u0 u1 ∧ Fr (fun k => k = g) w ((w.setCell ⟨g, 0, none⟩ u0).setCell ⟨g, 1, none⟩ u1) := by
  obtain ⟨h0, h1, hz⟩ := h
  refine ⟨?_, ((Fr.refl (fun k => k = g) w).setCell (p := ⟨g, 0, none⟩) (Or.inl rfl) _).setCell (p := ⟨g, 1, none⟩) (Or.inl rfl) _⟩
  constructor <;> simp [World.cell?_setCell_same', World.cell?_setCell_other, *]
set_option maxRecDepth 100000 in
set_option maxHeartbeats 2000000 in
theorem told_nil (ep : Nat) (w : World) : Calls Try.prog 31 #[.slice none 0 0, .int .u64 (ep : Int)] w fun e w' => e = .returned (.agg #[.bool false, .slice none 0 0]) ∧ Fr (fun _ => False) w w' := by
  have F0 : Hid (Fr (fun _ => False) w (w.alloc (.cells #[.bool false, .slice none 0 0] 34))) := (Fr.refl (fun _ => False) w).alloc _
  have HR : Hid (C2 (w.alloc (.cells #[.bool false, .slice none 0 0] 34)) w.heap.size (.bool false) (.slice none 0 0)) := C2.new w 34 _ _
  obtain ⟨rx, Hrx⟩ : ∃ rx, Hid (w.heap.size = rx) := ⟨_, rfl⟩
  rw [Hrx.out] at HR
  have KU : Hid (Calls _ _ _ _ _) := until_0 ep (w.alloc (.cells #[.bool false, .slice none 0 0] 34))
  go_enter Try.func31, Try.ntmps31
  go_wp2_with fail
  rw [Hrx.out]
  refine KU.out.mono ?_
  rintro e w5 ⟨rfl, f5⟩
  have HR5 : Hid (C2 w5 rx (.bool false) (.slice none 0 0)) := HR.out.fr f5 (by simp)
  have HF5 : Hid (Fr (fun _ => False) w w5) := F0.out.trans f5
  clear f5
  have k0 := HR5.out.c0
  have k1 := HR5.out.c1
  have kz := HR5.out.z
  go_wp2
  obtain ⟨hq, fq⟩ := HR5.out.put2 (.bool false) (.slice none 0 0)
  clear k0 k1 kz
  refine bodyPost_ret (v := .agg #[.bool false, .slice none 0 0]) ?_ rfl ⟨rfl, HF5.out.trans' fq (fun i hi e => by have := Hrx.out; omega)⟩
  revert hq
  generalize (w5.setCell _ _).setCell _ _ = WQ
  intro hq
  obtain ⟨d0, d1, _⟩ := hq
  simp [results, Try.results31, go_sem, *]
set_option maxRecDepth 100000 in
set_option maxHeartbeats 2000000 in
theorem told_del (g c e1 ep : Nat) (h1 : e1 ≤ ep) (w : World) (c4 : w.cell? ⟨g, 4, none⟩ = some (.int .u64 (e1 : Int))) (c6 : w.cell? ⟨g, 6, none⟩ = some (.bool true)) : Calls Try.prog 31 #[.slice (some ⟨g, 0, none⟩) 2 c, .int .u64 (ep : Int)] w fun e w' => e = .returned (.agg #[.bool false, .slice none 0 0]) ∧ Fr (fun _ => False) w w' := by
  have F0 : Hid (Fr (fun _ => False) w (w.alloc (.cells #[.bool false, .slice none 0 0] 34))) := (Fr.refl (fun _ => False) w).alloc _
  have HR : Hid (C2 (w.alloc (.cells #[.bool false, .slice none 0 0] 34)) w.heap.size (.bool false) (.slice none 0 0)) := C2.new w 34 _ _
  obtain ⟨rx, Hrx⟩ : ∃ rx, Hid (w.heap.size = rx) := ⟨_, rfl⟩
  rw [Hrx.out] at HR
  have H6 : Hid (w.cell? ⟨g, 6, none⟩ = some (.bool true)) := c6
  have KU : Hid (Calls _ _ _ _ _) := until_2b g c e1 ep h1 (w.alloc (.cells #[.bool false, .slice none 0 0] 34)) (F0.out.cell c4 (by simp))
  clear c4 c6
  go_enter Try.func31, Try.ntmps31
  go_wp2_with fail
  rw [Hrx.out]
  refine KU.out.mono ?_
  rintro e w5 ⟨rfl, f5⟩
  have HR5 : Hid (C2 w5 rx (.bool false) (.slice none 0 0)) := HR.out.fr f5 (by simp)
  have HF5 : Hid (Fr (fun _ => False) w w5) := F0.out.trans f5
  have h6 := HF5.out.cell H6.out (by simp)
  clear f5
  have k0 := HR5.out.c0
  have k1 := HR5.out.c1
  have kz := HR5.out.z
  go_wp2
  obtain ⟨hq, fq⟩ := HR5.out.put2 (.bool false) (.slice none 0 0)
  clear k0 k1 kz
  refine bodyPost_ret (v := .agg #[.bool false, .slice none 0 0]) ?_ rfl ⟨rfl, HF5.out.trans' fq (fun i hi e => by have := Hrx.out; omega)⟩
  revert hq
  generalize (w5.setCell _ _).setCell _ _ = WQ
  intro hq
  obtain ⟨d0, d1, _⟩ := hq
  simp [results, Try.results31, go_sem, *]
set_option maxRecDepth 100000 in
set_option maxHeartbeats 4000000 in
theorem told_1 (g c e0 i0 ep : Nat) (va : Option Addr) (l : List Nat) (vc : Nat) (h0 : e0 ≤ ep) (w : World) (hg : C4 w g (.int .u64 (e0 : Int)) (.int .u64 (i0 : Int)) (.bool false) (.slice va l.length vc)) (hv : Row w va l vc) (hl : l.length ≤ 1000) : Calls Try.prog 31 #[.slice (some ⟨g, 0, none⟩) 1 c, .int .u64 (ep : Int)] w fun e w' => ∃ a1 c1, e = .returned (.agg #[.bool true, .slice a1 l.length c1]) ∧ Row w' a1 l c1 ∧ (∀ a, a1 = some a → w.heap.size ≤ a.block) ∧ Fr (fun _ => False) w w' := by
  have F0 : Hid (Fr (fun _ => False) w (w.alloc (.cells #[.bool false, .slice none 0 0] 34))) := (Fr.refl (fun _ => False) w).alloc _
  have HR : Hid (C2 (w.alloc (.cells #[.bool false, .slice none 0 0] 34)) w.heap.size (.bool false) (.slice none 0 0)) := C2.new w 34 _ _
  obtain ⟨rx, Hrx⟩ : ∃ rx, Hid (w.heap.size = rx) := ⟨_, rfl⟩
  rw [Hrx.out] at HR
  have HG : Hid (C4 w g (.int .u64 (e0 : Int)) (.int .u64 (i0 : Int)) (.bool false) (.slice va l.length vc)) := hg
  have HV : Hid (Row w va l vc) := hv
  have KU : Hid (Calls _ _ _ _ _) := until_1 g c e0 ep h0 (w.alloc (.cells #[.bool false, .slice none 0 0] 34)) (F0.out.cell hg.c0 (by simp))
  have KO : Hid (∀ W, Fr (fun _ => False) w W → Calls _ _ _ W _) := fun W f => own_any e0 i0 false va l vc W (f.row hv (by simp)) hl
  clear hg hv
  go_enter Try.func31, Try.ntmps31
  go_wp2_with fail
  rw [Hrx.out]
  refine KU.out.mono ?_
  rintro e w4 ⟨rfl, f4⟩
  have HR4 : Hid (C2 w4 rx (.bool false) (.slice none 0 0)) := HR.out.fr f4 (by simp)
  have HF4 : Hid (Fr (fun _ => False) w w4) := F0.out.trans f4
  obtain ⟨g0, g1, g2, g3, _⟩ := HG.out.fr HF4.out (by simp)
  clear f4
  go_wp2_with fail
  refine (KO.out w4 HF4.out).mono ?_
  rintro e w5 ⟨a1, l1, c1, rfl, hl1, hr1, hb1, f5⟩
  have hl2 := hl1 trivial
  subst hl2
  have HR5 : Hid (C2 w5 rx (.bool false) (.slice none 0 0)) := HR4.out.fr f5 (by simp)
  have HF5 : Hid (Fr (fun _ => False) w w5) := HF4.out.trans f5
  have HX : Hid (Row w5 a1 l1 c1 ∧ ∀ a, a1 = some a → rx < a.block) := ⟨hr1, fun a ha => by have := hb1 a ha; have := HR4.out.lt; omega⟩
  clear g0 g1 g2 g3 f5 hl1 hr1 hb1
  have qf : ∀ w : World, (Instr.field 60 (.agg #[.int .u64 (e0 : Int), .int .u64 (i0 : Int), .bool false, .slice a1 l1.length c1]) 3).run Try.prog w = .ok (.slice a1 l1.length c1) w := fun w => by kernel_rfl
  have k0 := HR5.out.c0
  have k1 := HR5.out.c1
  have kz := HR5.out.z
  go_wp2
  obtain ⟨hq, fq⟩ := HR5.out.put2 (.bool true) (.slice a1 l1.length c1)
  clear k0 k1 kz
  refine bodyPost_ret (v := .agg #[.bool true, .slice a1 l1.length c1]) ?_ rfl ⟨a1, c1, rfl, fq.row HX.out.1 (fun _ a ha e => by have := HX.out.2 a ha; omega), fun a ha => by have := HX.out.2 a ha; have := Hrx.out; omega, HF5.out.trans' fq (fun i hi e => by have := Hrx.out; omega)⟩
  revert hq
  generalize (w5.setCell _ _).setCell _ _ = WQ
  intro hq
  obtain ⟨d0, d1, _⟩ := hq
  simp [results, Try.results31, go_sem, *]
set_option maxRecDepth 100000 in
set_option maxHeartbeats 4000000 in
theorem told_2 (g c e0 e1 i0 ep : Nat) (va : Option Addr) (l : List Nat) (vc : Nat) (h0 : e0 ≤ ep) (h1 : ep < e1) (w : World) (hg : C4 w g (.int .u64 (e0 : Int)) (.int .u64 (i0 : Int)) (.bool false) (.slice va l.length vc)) (c4 : w.cell? ⟨g, 4, none⟩ = some (.int .u64 (e1 : Int))) (hv : Row w va l vc) (hl : l.length ≤ 1000) : Calls Try.prog 31 #[.slice (some ⟨g, 0, none⟩) 2 c, .int .u64 (ep : Int)] w fun e w' => ∃ a1 c1, e = .returned (.agg #[.bool true, .slice a1 l.length c1]) ∧ Row w' a1 l c1 ∧ (∀ a, a1 = some a → w.heap.size ≤ a.block) ∧ Fr (fun _ => False) w w' := by
  have F0 : Hid (Fr (fun _ => False) w (w.alloc (.cells #[.bool false, .slice none 0 0] 34))) := (Fr.refl (fun _ => False) w).alloc _
  have HR : Hid (C2 (w.alloc (.cells #[.bool false, .slice none 0 0] 34)) w.heap.size (.bool false) (.slice none 0 0)) := C2.new w 34 _ _
  obtain ⟨rx, Hrx⟩ : ∃ rx, Hid (w.heap.size = rx) := ⟨_, rfl⟩
  rw [Hrx.out] at HR
  have HG : Hid (C4 w g (.int .u64 (e0 : Int)) (.int .u64 (i0 : Int)) (.bool false) (.slice va l.length vc)) := hg
  have HV : Hid (Row w va l vc) := hv
  have KU : Hid (Calls _ _ _ _ _) := until_2a g c e0 e1 ep h0 h1 (w.alloc (.cells #[.bool false, .slice none 0 0] 34)) (F0.out.cell hg.c0 (by simp)) (F0.out.cell c4 (by simp))
  have KO : Hid (∀ W, Fr (fun _ => False) w W → Calls _ _ _ W _) := fun W f => own_any e0 i0 false va l vc W (f.row hv (by simp)) hl
  clear hg hv c4
  go_enter Try.func31, Try.ntmps31
  go_wp2_with fail
  rw [Hrx.out]
  refine KU.out.mono ?_
  rintro e w4 ⟨rfl, f4⟩
  have HR4 : Hid (C2 w4 rx (.bool false) (.slice none 0 0)) := HR.out.fr f4 (by simp)
  have HF4 : Hid (Fr (fun _ => False) w w4) := F0.out.trans f4
  obtain ⟨g0, g1, g2, g3, _⟩ := HG.out.fr HF4.out (by simp)
  clear f4
  go_wp2_with fail
  refine (KO.out w4 HF4.out).mono ?_
  rintro e w5 ⟨a1, l1, c1, rfl, hl1, hr1, hb1, f5⟩
  have hl2 := hl1 trivial
  subst hl2
  have HR5 : Hid (C2 w5 rx (.bool false) (.slice none 0 0)) := HR4.out.fr f5 (by simp)
  have HF5 : Hid (Fr (fun _ => False) w w5) := HF4.out.trans f5
  have HX : Hid (Row w5 a1 l1 c1 ∧ ∀ a, a1 = some a → rx < a.block) := ⟨hr1, fun a ha => by have := hb1 a ha; have := HR4.out.lt; omega⟩
  clear g0 g1 g2 g3 f5 hl1 hr1 hb1
  have qf : ∀ w : World, (Instr.field 60 (.agg #[.int .u64 (e0 : Int), .int .u64 (i0 : Int), .bool false, .slice a1 l1.length c1]) 3).run Try.prog w = .ok (.slice a1 l1.length c1) w := fun w => by kernel_rfl
  have k0 := HR5.out.c0
  have k1 := HR5.out.c1
  have kz := HR5.out.z
  go_wp2
  obtain ⟨hq, fq⟩ := HR5.out.put2 (.bool true) (.slice a1 l1.length c1)
  clear k0 k1 kz
  refine bodyPost_ret (v := .agg #[.bool true, .slice a1 l1.length c1]) ?_ rfl ⟨a1, c1, rfl, fq.row HX.out.1 (fun _ a ha e => by have := HX.out.2 a ha; omega), fun a ha => by have := HX.out.2 a ha; have := Hrx.out; omega, HF5.out.trans' fq (fun i hi e => by have := Hrx.out; omega)⟩
  revert hq
  generalize (w5.setCell _ _).setCell _ _ = WQ
  intro hq
  obtain ⟨d0, d1, _⟩ := hq
  simp [results, Try.results31, go_sem, *]
set_option maxRecDepth 100000 in
set_option maxHeartbeats 2000000 in
theorem list_nil (x : Nat) (w : World) : Calls Try.prog 32 #[.pointer none, .float .f64 x] w fun e w' => e = .returned (.slice none 0 0) ∧ w' = w := by
  go_enter Try.func32, Try.ntmps32
  go_wp2_with fail
  refine (place_nil x _).mono ?_
  rintro e w5 ⟨rfl, hw5⟩
  subst hw5
  go_wp2
  go_ret
  exact ⟨rfl, rfl⟩
set_option maxRecDepth 100000 in
set_option maxHeartbeats 2000000 in
theorem list_one (x sb cb cc n c : Nat) (ga : Option Addr) (hx : x < 18446744073709551616) (w : World) (hc : w.cell? ⟨sb, 0, none⟩ = some (.slice (some ⟨cb, 0, none⟩) 1 cc)) (h2 : C2 w cb (.int .u64 ((Fl.rk x : Nat) : Int)) (.slice ga n c)) : Calls Try.prog 32 #[.pointer (some ⟨sb, 0, none⟩), .float .f64 x] w fun e w' => e = .returned (.slice ga n c) ∧ Fr (fun _ => False) w w' := by
  have HT : Hid (w.cell? ⟨sb, 0, none⟩ = some (.slice (some ⟨cb, 0, none⟩) 1 cc)) := hc
  have H2 : Hid (C2 w cb (.int .u64 ((Fl.rk x : Nat) : Int)) (.slice ga n c)) := h2
  have KP : Hid (Calls _ _ _ _ _) := place_gen x sb 1 cc (some ⟨cb, 0, none⟩) true hx w hc (fun W f => searchC_one (Fl.rk x) n c cb cc ga W (h2.fr f (by simp)))
  clear hc h2
  go_enter Try.func32, Try.ntmps32
  go_wp2_with fail
  refine KP.out.mono ?_
  rintro e w5 ⟨rfl, f5⟩
  have HF5 : Hid (Fr (fun _ => False) w w5) := f5
  have h0 := f5.cell HT.out (by simp)
  have h1 := f5.cell H2.out.c1 (by simp)
  clear f5
  go_wp2
  go_ret
  exact ⟨rfl, HF5.out⟩
set_option maxRecDepth 100000 in
set_option maxHeartbeats 4000000 in
theorem get_nil (x : Nat) (ep : Nat) (w : World) : Calls Try.prog 13 #[.pointer none, .float .f64 x, .int .u64 (ep : Int)] w fun e w' => e = .returned (.agg #[.bool false, .slice none 0 0]) ∧ Fr (fun _ => False) w w' := by
  have F0 : Hid (Fr (fun _ => False) w (w.alloc (.cells #[.bool false, .slice none 0 0] 34))) := (Fr.refl (fun _ => False) w).alloc _
  have HR : Hid (C2 (w.alloc (.cells #[.bool false, .slice none 0 0] 34)) w.heap.size (.bool false) (.slice none 0 0)) := C2.new w 34 _ _
  obtain ⟨rx, Hrx⟩ : ∃ rx, Hid (w.heap.size = rx) := ⟨_, rfl⟩
  rw [Hrx.out] at HR
  have KL : Hid (Calls _ _ _ _ _) := list_nil x (w.alloc (.cells #[.bool false, .slice none 0 0] 34))
  have KT : Hid (∀ W, Fr (fun _ => False) w W → Calls _ _ _ W _) := fun W f => told_nil ep W
  go_enter Try.func13, Try.ntmps13
  go_wp2_with fail
  rw [Hrx.out]
  refine KL.out.mono ?_
  rintro e w4 ⟨rfl, hw4⟩
  subst hw4
  have HF4 : Hid (Fr (fun _ => False) w _) := F0.out
  have HR4 := HR
  go_wp2_with fail
  refine (KT.out _ HF4.out).mono ?_
  rintro e w5 ⟨rfl, f5⟩
  have HR5 : Hid (C2 w5 rx (.bool false) (.slice none 0 0)) := HR4.out.fr f5 (by simp)
  have HF5 : Hid (Fr (fun _ => False) w w5) := HF4.out.trans f5
  clear f5
  have k0 := HR5.out.c0
  have k1 := HR5.out.c1
  have kz := HR5.out.z
  go_wp2
  obtain ⟨hq, fq⟩ := HR5.out.put2 (.bool false) (.slice none 0 0)
  clear k0 k1 kz
  refine bodyPost_ret (v := .agg #[.bool false, .slice none 0 0]) ?_ rfl ⟨rfl, HF5.out.trans' fq (fun i hi e => by have := Hrx.out; omega)⟩
  revert hq
  generalize (w5.setCell _ _).setCell _ _ = WQ
  intro hq
  obtain ⟨d0, d1, _⟩ := hq
  simp [results, Try.results13, go_sem, *]
set_option maxRecDepth 100000 in
set_option maxHeartbeats 4000000 in
theorem get_1 (x sb cb cc g c e0 i0 : Nat) (va : Option Addr) (l : List Nat) (vc : Nat) (hx : x < 18446744073709551616) (hl : l.length ≤ 1000) (ep : Nat) (w : World) (hc : w.cell? ⟨sb, 0, none⟩ = some (.slice (some ⟨cb, 0, none⟩) 1 cc)) (h2 : C2 w cb (.int .u64 ((Fl.rk x : Nat) : Int)) (.slice (some ⟨g, 0, none⟩) 1 c)) (h0 : e0 ≤ ep) (hg : C4 w g (.int .u64 (e0 : Int)) (.int .u64 (i0 : Int)) (.bool false) (.slice va l.length vc)) (hv : Row w va l vc) : Calls Try.prog 13 #[.pointer (some ⟨sb, 0, none⟩), .float .f64 x, .int .u64 (ep : Int)] w fun e w' => ∃ a1 c1, e = .returned (.agg #[.bool true, .slice a1 l.length c1]) ∧ Row w' a1 l c1 ∧ (∀ a, a1 = some a → w.heap.size ≤ a.block) ∧ Fr (fun _ => False) w w' := by
  have F0 : Hid (Fr (fun _ => False) w (w.alloc (.cells #[.bool false, .slice none 0 0] 34))) := (Fr.refl (fun _ => False) w).alloc _
  have HR : Hid (C2 (w.alloc (.cells #[.bool false, .slice none 0 0] 34)) w.heap.size (.bool false) (.slice none 0 0)) := C2.new w 34 _ _
  obtain ⟨rx, Hrx⟩ : ∃ rx, Hid (w.heap.size = rx) := ⟨_, rfl⟩
  rw [Hrx.out] at HR
  have KL : Hid (Calls _ _ _ _ _) := list_one x sb cb cc 1 c (some ⟨g, 0, none⟩) hx (w.alloc (.cells #[.bool false, .slice none 0 0] 34)) (F0.out.cell hc (by simp)) (h2.fr F0.out (by simp))
  have KT : Hid (∀ W, Fr (fun _ => False) w W → Calls _ _ _ W _) := fun W f => told_1 g c e0 i0 ep va l vc h0 W (hg.fr f (by simp)) (f.row hv (by simp)) hl
  clear hc h2 hg hv
  go_enter Try.func13, Try.ntmps13
  go_wp2_with fail
  rw [Hrx.out]
  refine KL.out.mono ?_
  rintro e w4 ⟨rfl, f4⟩
  have HF4 : Hid (Fr (fun _ => False) w w4) := F0.out.trans f4
  have HR4 : Hid (C2 w4 rx (.bool false) (.slice none 0 0)) := HR.out.fr f4 (by simp)
  clear f4
  go_wp2_with fail
  refine (KT.out _ HF4.out).mono ?_
  rintro e w5 ⟨a1, c1, rfl, hr1, hb1, f5⟩
  have HX : Hid (Row w5 a1 l c1 ∧ ∀ a, a1 = some a → rx < a.block) := ⟨hr1, fun a ha => by have := hb1 a ha; have := HR4.out.lt; omega⟩
  have HR5 : Hid (C2 w5 rx (.bool false) (.slice none 0 0)) := HR4.out.fr f5 (by simp)
  have HF5 : Hid (Fr (fun _ => False) w w5) := HF4.out.trans f5
  clear hr1 hb1 f5
  have k0 := HR5.out.c0
  have k1 := HR5.out.c1
  have kz := HR5.out.z
  go_wp2
  obtain ⟨hq, fq⟩ := HR5.out.put2 (.bool true) (.slice a1 l.length c1)
  clear k0 k1 kz
  refine bodyPost_ret (v := .agg #[.bool true, .slice a1 l.length c1]) ?_ rfl ⟨a1, c1, rfl, fq.row HX.out.1 (fun _ a ha e => by have := HX.out.2 a ha; omega), fun a ha => by have := HX.out.2 a ha; have := Hrx.out; omega, HF5.out.trans' fq (fun i hi e => by have := Hrx.out; omega)⟩
  revert hq
  generalize (w5.setCell _ _).setCell _ _ = WQ
  intro hq
  obtain ⟨d0, d1, _⟩ := hq
  simp [results, Try.results13, go_sem, *]
set_option maxRecDepth 100000 in
set_option maxHeartbeats 4000000 in
theorem get_2 (x sb cb cc g c e0 e1 i0 : Nat) (va : Option Addr) (l : List Nat) (vc : Nat) (hx : x < 18446744073709551616) (hl : l.length ≤ 1000) (ep : Nat) (w : World) (hc : w.cell? ⟨sb, 0, none⟩ = some (.slice (some ⟨cb, 0, none⟩) 1 cc)) (h2 : C2 w cb (.int .u64 ((Fl.rk x : Nat) : Int)) (.slice (some ⟨g, 0, none⟩) 2 c)) (h0 : e0 ≤ ep) (h1 : ep < e1) (hg : C4 w g (.int .u64 (e0 : Int)) (.int .u64 (i0 : Int)) (.bool false) (.slice va l.length vc)) (c4 : w.cell? ⟨g, 4, none⟩ = some (.int .u64 (e1 : Int))) (hv : Row w va l vc) : Calls Try.prog 13 #[.pointer (some ⟨sb, 0, none⟩), .float .f64 x, .int .u64 (ep : Int)] w fun e w' => ∃ a1 c1, e = .returned (.agg #[.bool true, .slice a1 l.length c1]) ∧ Row w' a1 l c1 ∧ (∀ a, a1 = some a → w.heap.size ≤ a.block) ∧ Fr (fun _ => False) w w' := by
  have F0 : Hid (Fr (fun _ => False) w (w.alloc (.cells #[.bool false, .slice none 0 0] 34))) := (Fr.refl (fun _ => False) w).alloc _
  have HR : Hid (C2 (w.alloc (.cells #[.bool false, .slice none 0 0] 34)) w.heap.size (.bool false) (.slice none 0 0)) := C2.new w 34 _ _
  obtain ⟨rx, Hrx⟩ : ∃ rx, Hid (w.heap.size = rx) := ⟨_, rfl⟩
  rw [Hrx.out] at HR
  have KL : Hid (Calls _ _ _ _ _) := list_one x sb cb cc 2 c (some ⟨g, 0, none⟩) hx (w.alloc (.cells #[.bool false, .slice none 0 0] 34)) (F0.out.cell hc (by simp)) (h2.fr F0.out (by simp))
  have KT : Hid (∀ W, Fr (fun _ => False) w W → Calls _ _ _ W _) := fun W f => told_2 g c e0 e1 i0 ep va l vc h0 h1 W (hg.fr f (by simp)) (f.cell c4 (by simp)) (f.row hv (by simp)) hl
  clear hc h2 hg hv c4
  go_enter Try.func13, Try.ntmps13
  go_wp2_with fail
  rw [Hrx.out]
  refine KL.out.mono ?_
  rintro e w4 ⟨rfl, f4⟩
  have HF4 : Hid (Fr (fun _ => False) w w4) := F0.out.trans f4
  have HR4 : Hid (C2 w4 rx (.bool false) (.slice none 0 0)) := HR.out.fr f4 (by simp)
  clear f4
  go_wp2_with fail
  refine (KT.out _ HF4.out).mono ?_
  rintro e w5 ⟨a1, c1, rfl, hr1, hb1, f5⟩
  have HX : Hid (Row w5 a1 l c1 ∧ ∀ a, a1 = some a → rx < a.block) := ⟨hr1, fun a ha => by have := hb1 a ha; have := HR4.out.lt; omega⟩
  have HR5 : Hid (C2 w5 rx (.bool false) (.slice none 0 0)) := HR4.out.fr f5 (by simp)
  have HF5 : Hid (Fr (fun _ => False) w w5) := HF4.out.trans f5
  clear hr1 hb1 f5
  have k0 := HR5.out.c0
  have k1 := HR5.out.c1
  have kz := HR5.out.z
  go_wp2
  obtain ⟨hq, fq⟩ := HR5.out.put2 (.bool true) (.slice a1 l.length c1)
  clear k0 k1 kz
  refine bodyPost_ret (v := .agg #[.bool true, .slice a1 l.length c1]) ?_ rfl ⟨a1, c1, rfl, fq.row HX.out.1 (fun _ a ha e => by have := HX.out.2 a ha; omega), fun a ha => by have := HX.out.2 a ha; have := Hrx.out; omega, HF5.out.trans' fq (fun i hi e => by have := Hrx.out; omega)⟩
  revert hq
  generalize (w5.setCell _ _).setCell _ _ = WQ
  intro hq
  obtain ⟨d0, d1, _⟩ := hq
  simp [results, Try.results13, go_sem, *]
set_option maxRecDepth 100000 in
set_option maxHeartbeats 4000000 in
theorem get_del (x sb cb cc g c e1 : Nat) (hx : x < 18446744073709551616) (ep : Nat) (w : World) (hc : w.cell? ⟨sb, 0, none⟩ = some (.slice (some ⟨cb, 0, none⟩) 1 cc)) (h2 : C2 w cb (.int .u64 ((Fl.rk x : Nat) : Int)) (.slice (some ⟨g, 0, none⟩) 2 c)) (h1 : e1 ≤ ep) (c4 : w.cell? ⟨g, 4, none⟩ = some (.int .u64 (e1 : Int))) (c6 : w.cell? ⟨g, 6, none⟩ = some (.bool true)) : Calls Try.prog 13 #[.pointer (some ⟨sb, 0, none⟩), .float .f64 x, .int .u64 (ep : Int)] w fun e w' => e = .returned (.agg #[.bool false, .slice none 0 0]) ∧ Fr (fun _ => False) w w' := by
  have F0 : Hid (Fr (fun _ => False) w (w.alloc (.cells #[.bool false, .slice none 0 0] 34))) := (Fr.refl (fun _ => False) w).alloc _
  have HR : Hid (C2 (w.alloc (.cells #[.bool false, .slice none 0 0] 34)) w.heap.size (.bool false) (.slice none 0 0)) := C2.new w 34 _ _
  obtain ⟨rx, Hrx⟩ : ∃ rx, Hid (w.heap.size = rx) := ⟨_, rfl⟩
  rw [Hrx.out] at HR
  have KL : Hid (Calls _ _ _ _ _) := list_one x sb cb cc 2 c (some ⟨g, 0, none⟩) hx (w.alloc (.cells #[.bool false, .slice none 0 0] 34)) (F0.out.cell hc (by simp)) (h2.fr F0.out (by simp))
  have KT : Hid (∀ W, Fr (fun _ => False) w W → Calls _ _ _ W _) := fun W f => told_del g c e1 ep h1 W (f.cell c4 (by simp)) (f.cell c6 (by simp))
  clear hc h2 c4 c6
  go_enter Try.func13, Try.ntmps13
  go_wp2_with fail
  rw [Hrx.out]
  refine KL.out.mono ?_
  rintro e w4 ⟨rfl, f4⟩
  have HF4 : Hid (Fr (fun _ => False) w w4) := F0.out.trans f4
  have HR4 : Hid (C2 w4 rx (.bool false) (.slice none 0 0)) := HR.out.fr f4 (by simp)
  clear f4
  go_wp2_with fail
  refine (KT.out _ HF4.out).mono ?_
  rintro e w5 ⟨rfl, f5⟩
  have HR5 : Hid (C2 w5 rx (.bool false) (.slice none 0 0)) := HR4.out.fr f5 (by simp)
  have HF5 : Hid (Fr (fun _ => False) w w5) := HF4.out.trans f5
  clear f5
  have k0 := HR5.out.c0
  have k1 := HR5.out.c1
  have kz := HR5.out.z
  go_wp2
  obtain ⟨hq, fq⟩ := HR5.out.put2 (.bool false) (.slice none 0 0)
  clear k0 k1 kz
  refine bodyPost_ret (v := .agg #[.bool false, .slice none 0 0]) ?_ rfl ⟨rfl, HF5.out.trans' fq (fun i hi e => by have := Hrx.out; omega)⟩
  revert hq
  generalize (w5.setCell _ _).setCell _ _ = WQ
  intro hq
  obtain ⟨d0, d1, _⟩ := hq
  simp [results, Try.results13, go_sem, *]
end Go.Proofs.Ytmjkipdflhbgdaa
