/- What Get answers may be written over. -/
import Derived.Test.YtmjkipdflhbgdaaMvH
namespace Go.Proofs.Ytmjkipdflhbgdaa
open Go.RowKit
/-- cells that may be written over. -/
def Wipe (w : World) (g n : Nat) : Prop := (∀ j, j < n → ∃ x, w.cell? ⟨g, j, none⟩ = some x) ∧ ∀ j, w.frozen? ⟨g, j, none⟩ = false
theorem Wipe.set {w : World} {g n : Nat} (h : Wipe w g n) (i : Nat) (u : Value) : Wipe (w.setCell ⟨g, i, none⟩ u) g n := by
  refine ⟨fun j hj => ?_, fun j => by simpa using h.2 j⟩
  obtain ⟨x, hx⟩ := h.1 j hj
  by_cases hji : j = i
  · subst hji; exact ⟨u, World.cell?_setCell_same _ _ _ hx⟩
  · exact ⟨x, (World.cell?_setCell_other _ _ _ _ (by simp)).trans hx⟩
theorem Wipe.fr {w w1 : World} {g n : Nat} {S : Nat → Prop} (h : Wipe w g n) (f : Fr S w w1) (hg : g < w.heap.size) (hs : ¬ S g) : Wipe w1 g n :=
  ⟨fun j hj => by obtain ⟨x, hx⟩ := h.1 j hj; exact ⟨x, f.cell hx hs⟩, fun j => (f.frozenEq (a := ⟨g, j, none⟩) hg hs).trans (h.2 j)⟩
theorem Own.wipe {w : World} {base : Nat} {v : Value} {l : List Nat} (h : Own w base v l) : ∃ ao cap, v = .slice ao l.length cap ∧ (l ≠ [] → ∃ g, ao = some ⟨g, 0, none⟩ ∧ Wipe w g l.length) := by
  obtain ⟨⟨hl, h⟩, hb⟩ := h
  rcases h with ⟨rfl, h0⟩ | ⟨g, cap, cur, rfl, hbg, hg, hn, hm, hs, ht⟩
  · exact ⟨none, 0, by rw [h0], fun hne => absurd (List.eq_nil_of_length_eq_zero h0) hne⟩
  · refine ⟨_, cap, rfl, fun _ => ⟨g, rfl, fun i hi => ?_, fun i => by simp [World.frozen?, hg]⟩⟩
    have h1 := cellsOf_get l i hi
    rw [← ht, List.getElem?_take, if_pos (by omega)] at h1
    refine ⟨.int .u8 ((l.getD i 0 : Nat) : Int), ?_⟩
    rw [cell_of_row w g i cur 5 (0, 0) hg]
    simpa using h1
set_option maxHeartbeats 400000 in
theorem cloneB_own (ao : Option Addr) (l : List Nat) (cap : Nat) (w : World) (hr : Row w ao l cap) (hlen : l.length ≤ 1000000) :
    Calls Try.prog 83 #[.slice ao l.length cap] w fun e w' => ∃ a1 c1, e = .returned (.slice a1 l.length c1) ∧ Own w' w.heap.size (.slice a1 l.length c1) l ∧ Fr (fun _ => False) w w' := by
  have q := fun (w : World) (a : Option Addr) (n c n' c' : Nat) => Lib.run_eql_slice_nil (P := Try.prog) w 32 _ a n c n' c' Try.underlying32
  cases ao with
  | none =>
    have hc := hr.2.2.2.1 rfl
    subst hc
    have hl : l = [] := List.eq_nil_of_length_eq_zero (by have := hr.1; omega)
    subst hl
    simp only [List.length_nil]
    go_enter Try.func83, Try.ntmps83
    go_wp2
    go_ret
    exact ⟨none, 0, rfl, Own.nil _ _, Fr.refl _ _⟩
  | some a =>
    have f0 := (Fr.refl (fun _ => False) w).alloc (.cells #[] 5)
    have hown : Own (w.alloc (.cells #[] 5)) w.heap.size (.slice (some ⟨w.heap.size, 0, none⟩) 0 0) [] := ⟨World.ownsRow_made w #[] 0 (Nat.le_refl _) (Nat.zero_le _) (by simp), by simp⟩
    have hr1 := f0.row hr (by simp)
    have HR : Hid (Row _ _ _ _) := hr1
    clear hr hr1
    go_enter Try.func83, Try.ntmps83
    go_wp2_with (at_builtin; refine wpList_append_bytes rfl (.tmp 5) (.tmp 6) rfl w.heap.size _ [] rfl hown (some a) l cap rfl HR.out (by simp; omega) (by simp) ?_)
    intro v1 w1 ho1 hg1 _
    have f1 : Fr (fun _ => False) w w1 := f0.grown hg1 (fun k hk => by simp [Value.ownBlock] at hk; omega)
    have HO : Hid (Own w1 w.heap.size v1 l) := ho1
    obtain ⟨a1, c1, hv, hr1, hb1⟩ := ho1.row
    subst hv
    clear ho1
    go_wp2
    go_ret
    exact ⟨a1, c1, rfl, HO.out, f1⟩
set_option maxRecDepth 100000 in
set_option maxHeartbeats 4000000 in
theorem own_own (e0 i0 : Nat) (va : Option Addr) (l : List Nat) (vc : Nat) (w : World) (hv : Row w va l vc) (hl : l.length ≤ 1000) :
    Calls Try.prog 57 #[.agg #[.int .u64 (e0 : Int), .int .u64 (i0 : Int), .bool false, .slice va l.length vc]] w fun e w' => ∃ a1 c1, e = .returned (.agg #[.int .u64 (e0 : Int), .int .u64 (i0 : Int), .bool false, .slice a1 l.length c1]) ∧ (∃ b, w.heap.size ≤ b ∧ Own w' b (.slice a1 l.length c1) l) ∧ Fr (fun _ => False) w w' := by
  obtain ⟨W, HW⟩ : ∃ W, Hid (W = (w.alloc (.cells #[.int .u64 (e0 : Int), .int .u64 (i0 : Int), .bool false, .slice va l.length vc] 60)).alloc (.cells #[.int .u64 0, .int .u64 0, .bool false, .slice none 0 0] 60)) := ⟨_, rfl⟩
  have F0 : Hid (Fr (fun _ => False) w W) := (show Fr _ _ _ by rw [HW.out]; exact ((Fr.refl (fun _ => False) w).alloc _).alloc _)
  have HB : Hid (C4 W w.heap.size (.int .u64 (e0 : Int)) (.int .u64 (i0 : Int)) (.bool false) (.slice va l.length vc)) := (show C4 _ _ _ _ _ _ by rw [HW.out]; exact (C4.new w 60 _ _ _ _).fr ((Fr.refl (fun _ => False) _).alloc (.cells #[.int .u64 0, .int .u64 0, .bool false, .slice none 0 0] 60)) (by simp))
  have HR : Hid (C4 W (w.heap.size + 1) (.int .u64 0) (.int .u64 0) (.bool false) (.slice none 0 0)) := (show C4 _ _ _ _ _ _ by rw [HW.out]; have := C4.new (w.alloc (.cells #[.int .u64 (e0 : Int), .int .u64 (i0 : Int), .bool false, .slice va l.length vc] 60)) 60 (.int .u64 0) (.int .u64 0) (.bool false) (.slice none 0 0); simpa using this)
  have HV : Hid (Row w va l vc) := hv
  obtain ⟨bx, Hbx⟩ : ∃ bx, Hid (w.heap.size = bx) := ⟨_, rfl⟩
  obtain ⟨rx, Hrx⟩ : ∃ rx, Hid (w.heap.size + 1 = rx) := ⟨_, rfl⟩
  have HBX : Hid (w.heap.size = bx ∧ rx = bx + 1) := ⟨Hbx.out, by have := Hbx.out; have := Hrx.out; omega⟩
  rw [Hbx.out] at HB
  rw [Hrx.out] at HR
  clear hv
  have HSZ : Hid (W.heap.size = w.heap.size + 1 + 1) := (show _ = _ by rw [HW.out]; simp)
  have hWW := HW.out
  have KC : Hid (Calls _ _ _ _ _) := cloneB_own va l vc W (F0.out.row HV.out (by simp)) (by omega)
  go_enter Try.func57, Try.ntmps57
  go_wp2_with fail
  rw [← hWW, Hrx.out, Hbx.out]
  refine KC.out.mono ?_
  rintro e w3 ⟨a1, c1, rfl, hr3, f3⟩
  have HB3 : Hid (C4 w3 bx (.int .u64 (e0 : Int)) (.int .u64 (i0 : Int)) (.bool false) (.slice va l.length vc)) := HB.out.fr f3 (by simp)
  have HR3 : Hid (C4 w3 rx (.int .u64 0) (.int .u64 0) (.bool false) (.slice none 0 0)) := HR.out.fr f3 (by simp)
  have HF3 : Hid (Fr (fun _ => False) w w3) := F0.out.trans f3
  have HX : Hid (Own w3 W.heap.size (.slice a1 l.length c1) l) := hr3
  obtain ⟨hp, fp⟩ := HB3.out.put3 (.slice a1 l.length c1)
  obtain ⟨w4, Hw4⟩ : ∃ w4, Hid (w3.setCell ⟨bx, 3, none⟩ (.slice a1 l.length c1) = w4) := ⟨_, rfl⟩
  rw [Hw4.out] at hp fp
  have HR4 : Hid (C4 w4 rx (.int .u64 0) (.int .u64 0) (.bool false) (.slice none 0 0)) := HR3.out.fr fp (by have := HBX.out; omega)
  have F4 : Hid (Fr (fun k => k = bx) w3 w4) := fp
  have HX4 : Hid (Own w4 W.heap.size (.slice a1 l.length c1) l) := HX.out.fr fp (fun k hk e => by have := (HX.out.lt k hk).1; have := HBX.out; have := HSZ.out; omega)
  obtain ⟨k0, k1, k2, k3, kz⟩ := HB3.out
  obtain ⟨h0, h1, h2, h3, hz⟩ := hp
  obtain ⟨y0, y1, y2, y3, yz⟩ := HR4.out
  rw [← Hw4.out] at h0 h1 h2 h3 y0 y1 y2 y3
  have yz' := fun j => (yz j)
  rw [← Hw4.out] at yz'
  clear f3 hr3 fp hz yz
  go_wp2
  rw [Hw4.out]
  obtain ⟨hq, fq⟩ := HR4.out.put4 (.int .u64 (e0 : Int)) (.int .u64 (i0 : Int)) (.bool false) (.slice a1 l.length c1)
  clear k0 k1 k2 k3 kz h0 h1 h2 h3 y0 y1 y2 y3 yz'
  refine bodyPost_ret (v := .agg #[.int .u64 (e0 : Int), .int .u64 (i0 : Int), .bool false, .slice a1 l.length c1]) ?_ rfl ⟨a1, c1, rfl, ⟨W.heap.size, by have := HSZ.out; omega, HX4.out.fr fq (fun k hk e => by have := (HX4.out.lt k hk).1; have := HBX.out; have := HSZ.out; omega)⟩, (HF3.out.trans' F4.out (fun i hi e => by have := HBX.out; omega)).trans' fq (fun i hi e => by have := HBX.out; omega)⟩
  revert hq
  generalize (((w4.setCell _ _).setCell _ _).setCell _ _).setCell _ _ = WQ
  intro hq
  obtain ⟨false, d1, d2, d3, _⟩ := hq
  simp [results, Try.results57, go_sem, *]
set_option maxRecDepth 100000 in
set_option maxHeartbeats 4000000 in
theorem told_own (g c e0 i0 ep : Nat) (va : Option Addr) (l : List Nat) (vc : Nat) (h0 : e0 ≤ ep) (w : World) (hg : C4 w g (.int .u64 (e0 : Int)) (.int .u64 (i0 : Int)) (.bool false) (.slice va l.length vc)) (hv : Row w va l vc) (hl : l.length ≤ 1000) : Calls Try.prog 31 #[.slice (some ⟨g, 0, none⟩) 1 c, .int .u64 (ep : Int)] w fun e w' => ∃ a1 c1, e = .returned (.agg #[.bool true, .slice a1 l.length c1]) ∧ (∃ b, w.heap.size ≤ b ∧ Own w' b (.slice a1 l.length c1) l) ∧ Fr (fun _ => False) w w' := by
  have F0 : Hid (Fr (fun _ => False) w (w.alloc (.cells #[.bool false, .slice none 0 0] 34))) := (Fr.refl (fun _ => False) w).alloc _
  have HR : Hid (C2 (w.alloc (.cells #[.bool false, .slice none 0 0] 34)) w.heap.size (.bool false) (.slice none 0 0)) := C2.new w 34 _ _
  obtain ⟨rx, Hrx⟩ : ∃ rx, Hid (w.heap.size = rx) := ⟨_, rfl⟩
  rw [Hrx.out] at HR
  have HG : Hid (C4 w g (.int .u64 (e0 : Int)) (.int .u64 (i0 : Int)) (.bool false) (.slice va l.length vc)) := hg
  have HV : Hid (Row w va l vc) := hv
  have KU : Hid (Calls _ _ _ _ _) := until_1 g c e0 ep h0 (w.alloc (.cells #[.bool false, .slice none 0 0] 34)) (F0.out.cell hg.c0 (by simp))
  have KO : Hid (∀ W, Fr (fun _ => False) w W → Calls _ _ _ W _) := fun W f => own_own e0 i0 va l vc W (f.row hv (by simp)) hl
  clear hg hv
  go_enter Try.func31, Try.ntmps31
  go_wp2_with fail
  rw [Hrx.out]
  refine KU.out.mono ?_
  rintro e w4 ⟨rfl, f4⟩
  have HR4 : Hid (C2 w4 rx (.bool false) (.slice none 0 0)) := HR.out.fr f4 (by simp)
  have HF4 : Hid (Fr (fun _ => False) w w4) := F0.out.trans f4
  obtain ⟨g0, g1, g2, g3, _⟩ := HG.out.fr HF4.out (by simp)
  clear f4
  go_wp2_with fail
  refine (KO.out w4 HF4.out).mono ?_
  rintro e w5 ⟨a1, c1, rfl, ⟨b, hb, ho⟩, f5⟩
  have HR5 : Hid (C2 w5 rx (.bool false) (.slice none 0 0)) := HR4.out.fr f5 (by simp)
  have HF5 : Hid (Fr (fun _ => False) w w5) := HF4.out.trans f5
  have HX : Hid (w4.heap.size ≤ b ∧ Own w5 b (.slice a1 l.length c1) l) := ⟨hb, ho⟩
  have HRL : Hid (rx < w4.heap.size) := HR4.out.lt
  clear g0 g1 g2 g3 f5 hb ho
  have qf : ∀ w : World, (Instr.field 60 (.agg #[.int .u64 (e0 : Int), .int .u64 (i0 : Int), .bool false, .slice a1 l.length c1]) 3).run Try.prog w = .ok (.slice a1 l.length c1) w := fun w => by kernel_rfl
  have k0 := HR5.out.c0
  have k1 := HR5.out.c1
  have kz := HR5.out.z
  go_wp2
  obtain ⟨hq, fq⟩ := HR5.out.put2 (.bool true) (.slice a1 l.length c1)
  clear k0 k1 kz
  refine bodyPost_ret (v := .agg #[.bool true, .slice a1 l.length c1]) ?_ rfl ⟨a1, c1, rfl, ⟨b, Nat.le_trans HF4.out.size HX.out.1, HX.out.2.fr fq (fun k hk e => by have := (HX.out.2.lt k hk).1; have := HX.out.1; have := HRL.out; omega)⟩, HF5.out.trans' fq (fun i hi e => by have := Hrx.out; omega)⟩
  revert hq
  generalize (w5.setCell _ _).setCell _ _ = WQ
  intro hq
  obtain ⟨d0, d1, _⟩ := hq
  simp [results, Try.results31, go_sem, *]
set_option maxRecDepth 100000 in
set_option maxHeartbeats 4000000 in
theorem get_own (x sb cb cc g c e0 i0 : Nat) (va : Option Addr) (l : List Nat) (vc : Nat) (hx : x < 18446744073709551616) (hl : l.length ≤ 1000) (ep : Nat) (w : World) (hc : w.cell? ⟨sb, 0, none⟩ = some (.slice (some ⟨cb, 0, none⟩) 1 cc)) (h2 : C2 w cb (.int .u64 ((Fl.rk x : Nat) : Int)) (.slice (some ⟨g, 0, none⟩) 1 c)) (h0 : e0 ≤ ep) (hg : C4 w g (.int .u64 (e0 : Int)) (.int .u64 (i0 : Int)) (.bool false) (.slice va l.length vc)) (hv : Row w va l vc) : Calls Try.prog 13 #[.pointer (some ⟨sb, 0, none⟩), .float .f64 x, .int .u64 (ep : Int)] w fun e w' => ∃ a1 c1, e = .returned (.agg #[.bool true, .slice a1 l.length c1]) ∧ (∃ b, w.heap.size ≤ b ∧ Own w' b (.slice a1 l.length c1) l) ∧ Fr (fun _ => False) w w' := by
  have F0 : Hid (Fr (fun _ => False) w (w.alloc (.cells #[.bool false, .slice none 0 0] 34))) := (Fr.refl (fun _ => False) w).alloc _
  have HR : Hid (C2 (w.alloc (.cells #[.bool false, .slice none 0 0] 34)) w.heap.size (.bool false) (.slice none 0 0)) := C2.new w 34 _ _
  obtain ⟨rx, Hrx⟩ : ∃ rx, Hid (w.heap.size = rx) := ⟨_, rfl⟩
  rw [Hrx.out] at HR
  have KL : Hid (Calls _ _ _ _ _) := list_one x sb cb cc 1 c (some ⟨g, 0, none⟩) hx (w.alloc (.cells #[.bool false, .slice none 0 0] 34)) (F0.out.cell hc (by simp)) (h2.fr F0.out (by simp))
  have KT : Hid (∀ W, Fr (fun _ => False) w W → Calls _ _ _ W _) := fun W f => told_own g c e0 i0 ep va l vc h0 W (hg.fr f (by simp)) (f.row hv (by simp)) hl
  clear hc h2 hg hv
  go_enter Try.func13, Try.ntmps13
  go_wp2_with fail
  rw [Hrx.out]
  refine KL.out.mono ?_
  rintro e w4 ⟨rfl, f4⟩
  have HF4 : Hid (Fr (fun _ => False) w w4) := F0.out.trans f4
  have HR4 : Hid (C2 w4 rx (.bool false) (.slice none 0 0)) := HR.out.fr f4 (by simp)
  clear f4
  go_wp2_with fail
  refine (KT.out _ HF4.out).mono ?_
  rintro e w5 ⟨a1, c1, rfl, ⟨b, hb, ho⟩, f5⟩
  have HX : Hid (w4.heap.size ≤ b ∧ Own w5 b (.slice a1 l.length c1) l) := ⟨hb, ho⟩
  have HRL : Hid (rx < w4.heap.size) := HR4.out.lt
  have HR5 : Hid (C2 w5 rx (.bool false) (.slice none 0 0)) := HR4.out.fr f5 (by simp)
  have HF5 : Hid (Fr (fun _ => False) w w5) := HF4.out.trans f5
  clear hb ho f5
  have k0 := HR5.out.c0
  have k1 := HR5.out.c1
  have kz := HR5.out.z
  go_wp2
  obtain ⟨hq, fq⟩ := HR5.out.put2 (.bool true) (.slice a1 l.length c1)
  clear k0 k1 kz
  refine bodyPost_ret (v := .agg #[.bool true, .slice a1 l.length c1]) ?_ rfl ⟨a1, c1, rfl, ⟨b, Nat.le_trans HF4.out.size HX.out.1, HX.out.2.fr fq (fun k hk e => by have := (HX.out.2.lt k hk).1; have := HX.out.1; have := HRL.out; omega)⟩, HF5.out.trans' fq (fun i hi e => by have := Hrx.out; omega)⟩
  revert hq
  generalize (w5.setCell _ _).setCell _ _ = WQ
  intro hq
  obtain ⟨d0, d1, _⟩ := hq
  simp [results, Try.results13, go_sem, *]
end Go.Proofs.Ytmjkipdflhbgdaa
