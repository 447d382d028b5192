/- The search for a column of a store, and a version of one's own. -/
import Derived.Test.YtmjkipdflhbgdaaNum
import Derived.Test.YtmjkipdflhbgdaaFlat
import Derived.Test.YtmjkipdflhbgdaaStrM
import Derived.Deep.RegionHeld3
namespace Go.Proofs.Ytmjkipdflhbgdaa
open Go.RowKit
structure C2 (w : World) (g : Nat) (v0 v1 : Value) : Prop where
  c0 : w.cell? ⟨g, 0, none⟩ = some v0
  c1 : w.cell? ⟨g, 1, none⟩ = some v1
  z : ∀ j, w.frozen? ⟨g, j, none⟩ = false
structure C4 (w : World) (g : Nat) (v0 v1 v2 v3 : Value) : Prop where
  c0 : w.cell? ⟨g, 0, none⟩ = some v0
  c1 : w.cell? ⟨g, 1, none⟩ = some v1
  c2 : w.cell? ⟨g, 2, none⟩ = some v2
  c3 : w.cell? ⟨g, 3, none⟩ = some v3
  z : ∀ j, w.frozen? ⟨g, j, none⟩ = false
section
variable {w w1 : World} {g : Nat} {v0 v1 v2 v3 : Value} {S : Nat → Prop}
theorem C2.lt (h : C2 w g v0 v1) : g < w.heap.size := World.block_lt_of_cell? _ _ h.c0
theorem C2.fr (h : C2 w g v0 v1) (f : Fr S w w1) (hs : ¬ S g) : C2 w1 g v0 v1 := ⟨f.cell h.c0 hs, f.cell h.c1 hs, fun j => (f.frozenEq (a := ⟨g, j, none⟩) h.lt hs).trans (h.z j)⟩
theorem C4.lt (h : C4 w g v0 v1 v2 v3) : g < w.heap.size := World.block_lt_of_cell? _ _ h.c0
theorem C4.fr (h : C4 w g v0 v1 v2 v3) (f : Fr S w w1) (hs : ¬ S g) : C4 w1 g v0 v1 v2 v3 := ⟨f.cell h.c0 hs, f.cell h.c1 hs, f.cell h.c2 hs, f.cell h.c3 hs, fun j => (f.frozenEq (a := ⟨g, j, none⟩) h.lt hs).trans (h.z j)⟩
theorem C4.new (w : World) (t : TypeId) (v0 v1 v2 v3 : Value) : C4 (w.alloc (.cells #[v0, v1, v2, v3] t)) w.heap.size v0 v1 v2 v3 := by constructor <;> simp
theorem C4.put3 (h : C4 w g v0 v1 v2 v3) (u3 : Value) : C4 (w.setCell ⟨g, 3, none⟩ u3) g v0 v1 v2 u3 ∧ Fr (fun k => k = g) w (w.setCell ⟨g, 3, none⟩ u3) := by
  obtain ⟨h0, h1, h2, h3, hz⟩ := h
  exact ⟨⟨(World.cell?_setCell_other _ _ _ _ (by simp)).trans h0, (World.cell?_setCell_other _ _ _ _ (by simp)).trans h1, (World.cell?_setCell_other _ _ _ _ (by simp)).trans h2, World.cell?_setCell_same _ _ _ h3, fun j => by simpa using hz j⟩, (Fr.refl (fun k => k = g) w).setCell (p := ⟨g, 3, none⟩) (Or.inl rfl) _⟩
theorem C4.put4 (h : C4 w g v0 v1 v2 v3) (u0 u1 u2 u3 : Value) : C4 ((((w.setCell ⟨g, 0, none⟩ u0).setCell ⟨g, 1, none⟩ u1).setCell ⟨g, 2, none⟩ u2).setCell ⟨g, 3, none⟩ u3) g u0 u1 u2 u3 ∧ Fr (fun k => k = g) w ((((w.setCell ⟨g, 0, none⟩ u0).setCell ⟨g, 1, none⟩ u1).setCell ⟨g, 2, none⟩ u2).setCell ⟨g, 3, none⟩ u3) := by
  obtain ⟨h0, h1, h2, h3, hz⟩ := h
  refine ⟨?_, ((((Fr.refl (fun k => k = g) w).setCell (p := ⟨g, 0, none⟩) (Or.inl rfl) _).setCell (p := ⟨g, 1, none⟩) (Or.inl rfl) _).setCell (p := ⟨g, 2, none⟩) (Or.inl rfl) _).setCell (p := ⟨g, 3, none⟩) (Or.inl rfl) _⟩
  constructor <;> simp [World.cell?_setCell_same', World.cell?_setCell_other, *]
end
set_option maxRecDepth 100000 in
set_option maxHeartbeats 1000000 in
theorem cmp_same (a : Nat) (w : World) : Calls Try.prog 62 #[.int .u64 (a : Int), .int .u64 (a : Int)] w fun e w' => e = .returned (.int .i64 0) ∧ w' = w := by
  go_enter Try.func62, Try.ntmps62
  go_wp2_with (go_at_call 86; go_in)
  go_ret
  exact ⟨rfl, rfl⟩
set_option maxRecDepth 100000 in
set_option maxHeartbeats 1000000 in
theorem cmp_lt (a b : Nat) (h : a < b) (w : World) : Calls Try.prog 62 #[.int .u64 (a : Int), .int .u64 (b : Int)] w fun e w' => e = .returned (.int .i64 (-1)) ∧ w' = w := by
  have h1 : (a : Int) < (b : Int) := by omega
  go_enter Try.func62, Try.ntmps62
  go_wp2_with (go_at_call 86; go_in)
  go_ret
  exact ⟨rfl, rfl⟩
set_option maxRecDepth 100000 in
set_option maxHeartbeats 1000000 in
theorem place1_same (r n c : Nat) (g : Option Addr) (w : World) : Calls Try.prog 61 #[.agg #[.int .u64 (r : Int), .slice g n c], .int .u64 (r : Int)] w fun e w' => e = .returned (.int .i64 0) ∧ Fr (fun _ => False) w w' := by
  have F0 : Hid (Fr (fun _ => False) w (w.alloc (.cells #[.int .u64 (r : Int), .slice g n c] 81))) := (Fr.refl (fun _ => False) w).alloc _
  go_enter Try.func61, Try.ntmps61
  go_wp2_with fail
  refine (cmp_same r _).mono ?_
  rintro e w1 ⟨rfl, rfl⟩
  go_wp2
  go_ret
  exact ⟨rfl, F0.out⟩
set_option maxRecDepth 100000 in
set_option maxHeartbeats 1000000 in
theorem searchC_nil (r : Nat) (w : World) : Calls Try.prog 60 #[.slice none 0 0, .int .u64 (r : Int), .func (.func 61) #[] #[]] w fun e w' => e = .returned (.tuple #[.int .i64 0, .bool false]) ∧ Fr (fun _ => False) w w' := by
  go_enter Try.func60, Try.ntmps60
  go_wp2
  refine wp_loop_rounds 1 ?_
  rw [rounds_succ]
  go_wp2
  go_ret2
  exact ⟨rfl, Fr.refl _ _⟩
set_option maxRecDepth 100000 in
set_option maxHeartbeats 2000000 in
theorem searchC_one (r n c cb cc : Nat) (g : Option Addr) (w : World) (h : C2 w cb (.int .u64 (r : Int)) (.slice g n c)) : Calls Try.prog 60 #[.slice (some ⟨cb, 0, none⟩) 1 cc, .int .u64 (r : Int), .func (.func 61) #[] #[]] w fun e w' => e = .returned (.tuple #[.int .i64 0, .bool true]) ∧ Fr (fun _ => False) w w' := by
  have H : Hid (C2 w cb (.int .u64 (r : Int)) (.slice g n c)) := h
  clear h
  go_enter Try.func60, Try.ntmps60
  go_wp2
  go_loopw [9, 10] (fun iv jv wr => iv = .int .i64 0 ∧ (jv = .int .i64 1 ∨ jv = .int .i64 0) ∧ Hid (Fr (fun _ => False) w wr)) (fun _ jv _ => (intOf jv).toNat)
  case atStart => exact ⟨rfl, .inl rfl, Fr.refl _ _⟩
  case round =>
    obtain ⟨rfl, hj, HF⟩ := hrel
    obtain ⟨k0, k1, _⟩ := H.out.fr HF.out (by simp)
    rcases hj with rfl | rfl
    · go_wp2_with fail
      refine (place1_same r n c g _).mono ?_
      rintro e w1 ⟨rfl, f1⟩
      clear k0 k1
      go_wp2
      go_roundw
      case rel => exact ⟨rfl, .inr rfl, HF.out.trans f1⟩
      case measure => simp [intOf]
    · go_wp2_with fail
      refine (place1_same r n c g _).mono ?_
      rintro e w1 ⟨rfl, f1⟩
      clear k0 k1
      go_wp2
      go_ret2
      exact ⟨rfl, HF.out.trans f1⟩
set_option maxRecDepth 100000 in
set_option maxHeartbeats 1000000 in
theorem place_nil (x : Nat) (w : World) : Calls Try.prog 34 #[.pointer none, .float .f64 x] w fun e w' => e = .returned (.tuple #[.int .i64 0, .bool false]) ∧ w' = w := by
  go_enter Try.func34, Try.ntmps34
  go_wp2
  go_ret2
  exact ⟨rfl, rfl⟩
set_option maxRecDepth 100000 in
set_option maxHeartbeats 2000000 in
theorem place_gen (x sb rn rc : Nat) (ra : Option Addr) (t : Bool) (hx : x < 18446744073709551616) (w : World) (hc : w.cell? ⟨sb, 0, none⟩ = some (.slice ra rn rc))
    (hs : ∀ W, Fr (fun _ => False) w W → Calls Try.prog 60 #[.slice ra rn rc, .int .u64 ((Fl.rk x : Nat) : Int), .func (.func 61) #[] #[]] W fun e w' => e = .returned (.tuple #[.int .i64 0, .bool t]) ∧ Fr (fun _ => False) W w') :
    Calls Try.prog 34 #[.pointer (some ⟨sb, 0, none⟩), .float .f64 x] w fun e w' => e = .returned (.tuple #[.int .i64 0, .bool t]) ∧ Fr (fun _ => False) w w' := by
  have HC : Hid (w.cell? ⟨sb, 0, none⟩ = some (.slice ra rn rc)) := hc
  have KS : Hid (∀ W, Fr (fun _ => False) w W → Calls _ _ _ _ _) := hs
  clear hc hs
  go_enter Try.func34, Try.ntmps34
  go_wp2_with fail
  refine wp_region_held_drew (S := (fun W : World => W.cell? ⟨sb, 0, none⟩ = some (.slice ra rn rc))) (by kernel_rfl) (((Fr.refl (fun _ => False) _).drew).cell HC.out (by simp)) (fun hHeld => ?_)
  refine wpAnyH_take (i := 0) (oi := _) (v := ?_) (by rw [List.getElem?_toArray]; rfl) (by kernel_rfl) (by kernel_rfl) (by kernel_rfl) (fun _ _ _ h => by exact h) (Or.inl ⟨by rfl, ?_⟩) (by assumption) ?_
  rotate_left
  · (intro w hSw; (try dsimp only at hSw); go_simp; (try with_reducible rfl))
  try simp only [Act.put, List.setIfInBounds_toArray, List.set_cons_zero, List.set_cons_succ]
  refine wpAnyH_take (i := 1) (oi := _) (v := ?_) (by rw [List.getElem?_toArray]; rfl) (by kernel_rfl) (by kernel_rfl) (by kernel_rfl) (fun _ _ _ h => by exact h) (Or.inl ⟨by rfl, ?_⟩) (by assumption) ?_
  rotate_left
  · (intro w hSw; (try dsimp only at hSw); go_simp; (try with_reducible rfl))
  try simp only [Act.put, List.setIfInBounds_toArray, List.set_cons_zero, List.set_cons_succ]
  refine wpAnyH_take (i := 2) (oi := _) (v := ?_) (by rw [List.getElem?_toArray]; rfl) (by kernel_rfl) (by kernel_rfl) (by kernel_rfl) (fun _ _ _ h => by exact h) (Or.inl ⟨by rfl, ?_⟩) (by assumption) ?_
  rotate_left
  · (intro w hSw; (try dsimp only at hSw); go_simp; (try with_reducible rfl))
  try simp only [Act.put, List.setIfInBounds_toArray, List.set_cons_zero, List.set_cons_succ]
  refine wpAnyH_take (i := 3) (oi := _) (v := ?_) (by rw [List.getElem?_toArray]; rfl) (by kernel_rfl) (by kernel_rfl) (by kernel_rfl) (fun _ _ _ h => by exact h) (Or.inl ⟨by rfl, ?_⟩) (by assumption) ?_
  rotate_left
  · (intro w hSw; (try dsimp only at hSw); go_simp; (try with_reducible rfl))
  try simp only [Act.put, List.setIfInBounds_toArray, List.set_cons_zero, List.set_cons_succ]
  refine wpAnyH_take (i := 4) (oi := _) (v := ?_) (by rw [List.getElem?_toArray]; rfl) (by kernel_rfl) (by kernel_rfl) (by kernel_rfl) (fun _ _ _ h => by exact h) (Or.inl ⟨by rfl, ?_⟩) (by assumption) ?_
  rotate_left
  · (intro w hSw; (try dsimp only at hSw); go_simp; (try with_reducible rfl))
  try simp only [Act.put, List.setIfInBounds_toArray, List.set_cons_zero, List.set_cons_succ]
  refine wpAnyH_ready (rs := [5]) (by kernel_rfl) (by simp) ?_
  refine AllReadyH.cons (o := _) (by rw [List.getElem?_toArray]; rfl) (fun K hK => ?_) ?_
  · go_simp
    go_wp2_with (go_at_call 55; refine (rank_any x _ hx).mono ?_; rintro e w5 ⟨rfl, rfl⟩)
    refine hK.out _ _ (((Fr.refl (fun _ => False) _).drew).cell HC.out (by simp)) (fun hHeld => ?_)
    clear hK K
    try simp only [Act.put, List.setIfInBounds_toArray, List.set_cons_zero, List.set_cons_succ]
    refine wpAnyH_ready (rs := [6]) (by kernel_rfl) (by simp) ?_
    refine AllReadyH.cons (o := _) (by rw [List.getElem?_toArray]; rfl) (fun K hK => ?_) ?_
    · go_simp
      go_wp2_with (go_at_call 60; refine (KS.out _ ((Fr.refl (fun _ => False) w).drew)).mono ?_; rintro e w5 ⟨rfl, f5⟩)
      have G5 : Hid (Fr (fun _ => False) w w5) := ((Fr.refl (fun _ => False) w).drew).trans f5
      clear f5
      refine hK.out _ _ (G5.out.cell HC.out (by simp)) (fun hHeld => ?_)
      clear hK K
      try simp only [Act.put, List.setIfInBounds_toArray, List.set_cons_zero, List.set_cons_succ]
      refine wpAnyH_take (i := 7) (oi := _) (v := ?_) (by rw [List.getElem?_toArray]; rfl) (by kernel_rfl) (by kernel_rfl) (by kernel_rfl) (fun _ _ _ h => by exact h) (Or.inl ⟨by rfl, ?_⟩) (by assumption) ?_
      rotate_left
      · (intro w hSw; (try dsimp only at hSw); go_simp; (try with_reducible rfl))
      try simp only [Act.put, List.setIfInBounds_toArray, List.set_cons_zero, List.set_cons_succ]
      refine wpAnyH_take (i := 8) (oi := _) (v := ?_) (by rw [List.getElem?_toArray]; rfl) (by kernel_rfl) (by kernel_rfl) (by kernel_rfl) (fun _ _ _ h => by exact h) (Or.inl ⟨by rfl, ?_⟩) (by assumption) ?_
      rotate_left
      · (intro w hSw; (try dsimp only at hSw); go_simp; (try with_reducible rfl))
      try simp only [Act.put, List.setIfInBounds_toArray, List.set_cons_zero, List.set_cons_succ]
      refine wpAnyH_take (i := 9) (oi := _) (v := ?_) (by rw [List.getElem?_toArray]; rfl) (by kernel_rfl) (by kernel_rfl) (by kernel_rfl) (fun _ _ _ h => by exact h) (Or.inl ⟨by rfl, ?_⟩) (by assumption) ?_
      rotate_left
      · (intro w hSw; (try dsimp only at hSw); go_simp; (try with_reducible rfl))
      try simp only [Act.put, List.setIfInBounds_toArray, List.set_cons_zero, List.set_cons_succ]
      refine wpAnyH_take (i := 10) (oi := _) (v := ?_) (by rw [List.getElem?_toArray]; rfl) (by kernel_rfl) (by kernel_rfl) (by kernel_rfl) (fun _ _ _ h => by exact h) (Or.inl ⟨by rfl, ?_⟩) (by assumption) ?_
      rotate_left
      · (intro w hSw; (try dsimp only at hSw); go_simp; (try with_reducible rfl))
      try simp only [Act.put, List.setIfInBounds_toArray, List.set_cons_zero, List.set_cons_succ]
      refine wpAnyH_done (by kernel_rfl) ?_ _
      go_wp2
      go_ret2
      exact ⟨rfl, G5.out⟩
    exact AllReadyH.nil
  exact AllReadyH.nil
theorem cloneB_nil (w : World) (n cap : Nat) : Calls Try.prog 83 #[.slice none n cap] w fun e w' => e = .returned (.slice none 0 0) ∧ w' = w := by
  have q := fun (w : World) (a : Option Addr) (n c n' c' : Nat) => Lib.run_eql_slice_nil (P := Try.prog) w 32 _ a n c n' c' Try.underlying32
  go_enter Try.func83, Try.ntmps83
  go_wp2
  go_ret
  exact ⟨rfl, rfl⟩
set_option maxRecDepth 100000 in
set_option maxHeartbeats 4000000 in
theorem own_any (e0 i0 : Nat) (d0 : Bool) (va : Option Addr) (l : List Nat) (vc : Nat) (w : World) (hv : Row w va l vc) (hl : l.length ≤ 1000) :
    Calls Try.prog 57 #[.agg #[.int .u64 (e0 : Int), .int .u64 (i0 : Int), .bool d0, .slice va l.length vc]] w fun e w' => ∃ a1 l1 c1, e = .returned (.agg #[.int .u64 (e0 : Int), .int .u64 (i0 : Int), .bool d0, .slice a1 l1.length c1]) ∧ (d0 = false → l1 = l) ∧ Row w' a1 l1 c1 ∧ (∀ a, a1 = some a → w.heap.size ≤ a.block) ∧ Fr (fun _ => False) w w' := by
  obtain ⟨W, HW⟩ : ∃ W, Hid (W = (w.alloc (.cells #[.int .u64 (e0 : Int), .int .u64 (i0 : Int), .bool d0, .slice va l.length vc] 60)).alloc (.cells #[.int .u64 0, .int .u64 0, .bool false, .slice none 0 0] 60)) := ⟨_, rfl⟩
  have F0 : Hid (Fr (fun _ => False) w W) := (show Fr _ _ _ by rw [HW.out]; exact ((Fr.refl (fun _ => False) w).alloc _).alloc _)
  have HB : Hid (C4 W w.heap.size (.int .u64 (e0 : Int)) (.int .u64 (i0 : Int)) (.bool d0) (.slice va l.length vc)) := (show C4 _ _ _ _ _ _ by rw [HW.out]; exact (C4.new w 60 _ _ _ _).fr ((Fr.refl (fun _ => False) _).alloc (.cells #[.int .u64 0, .int .u64 0, .bool false, .slice none 0 0] 60)) (by simp))
  have HR : Hid (C4 W (w.heap.size + 1) (.int .u64 0) (.int .u64 0) (.bool false) (.slice none 0 0)) := (show C4 _ _ _ _ _ _ by rw [HW.out]; have := C4.new (w.alloc (.cells #[.int .u64 (e0 : Int), .int .u64 (i0 : Int), .bool d0, .slice va l.length vc] 60)) 60 (.int .u64 0) (.int .u64 0) (.bool false) (.slice none 0 0); simpa using this)
  have HV : Hid (Row w va l vc) := hv
  obtain ⟨bx, Hbx⟩ : ∃ bx, Hid (w.heap.size = bx) := ⟨_, rfl⟩
  obtain ⟨rx, Hrx⟩ : ∃ rx, Hid (w.heap.size + 1 = rx) := ⟨_, rfl⟩
  have HBX : Hid (w.heap.size = bx ∧ rx = bx + 1) := ⟨Hbx.out, by have := Hbx.out; have := Hrx.out; omega⟩
  rw [Hbx.out] at HB
  rw [Hrx.out] at HR
  clear hv
  have HSZ : Hid (W.heap.size = w.heap.size + 1 + 1) := (show _ = _ by rw [HW.out]; simp)
  have hWW := HW.out
  cases d0 with
  | false =>
    have KC : Hid (Calls _ _ _ _ _) := cloneB_any va l vc W (F0.out.row HV.out (by simp)) (by omega)
    go_enter Try.func57, Try.ntmps57
    go_wp2_with fail
    rw [← hWW, Hrx.out, Hbx.out]
    refine KC.out.mono ?_
    rintro e w3 ⟨a1, c1, rfl, hr3, hb3, f3⟩
    have HB3 : Hid (C4 w3 bx (.int .u64 (e0 : Int)) (.int .u64 (i0 : Int)) (.bool false) (.slice va l.length vc)) := HB.out.fr f3 (by simp)
    have HR3 : Hid (C4 w3 rx (.int .u64 0) (.int .u64 0) (.bool false) (.slice none 0 0)) := HR.out.fr f3 (by simp)
    have HF3 : Hid (Fr (fun _ => False) w w3) := F0.out.trans f3
    have HX : Hid (Row w3 a1 l c1 ∧ ∀ a, a1 = some a → w.heap.size + 1 < a.block) := ⟨hr3, fun a ha => by have := hb3 a ha; have := HSZ.out; omega⟩
    obtain ⟨hp, fp⟩ := HB3.out.put3 (.slice a1 l.length c1)
    obtain ⟨w4, Hw4⟩ : ∃ w4, Hid (w3.setCell ⟨bx, 3, none⟩ (.slice a1 l.length c1) = w4) := ⟨_, rfl⟩
    rw [Hw4.out] at hp fp
    have HR4 : Hid (C4 w4 rx (.int .u64 0) (.int .u64 0) (.bool false) (.slice none 0 0)) := HR3.out.fr fp (by have := HBX.out; omega)
    have F4 : Hid (Fr (fun k => k = bx) w3 w4) := fp
    have HX4 : Hid (Row w4 a1 l c1) := fp.row HX.out.1 (fun _ a ha e => by have := HX.out.2 a ha; have := HBX.out; omega)
    obtain ⟨k0, k1, k2, k3, kz⟩ := HB3.out
    obtain ⟨h0, h1, h2, h3, hz⟩ := hp
    obtain ⟨y0, y1, y2, y3, yz⟩ := HR4.out
    rw [← Hw4.out] at h0 h1 h2 h3 y0 y1 y2 y3
    have yz' := fun j => (yz j)
    rw [← Hw4.out] at yz'
    clear f3 hr3 hb3 fp hz yz
    go_wp2
    rw [Hw4.out]
    obtain ⟨hq, fq⟩ := HR4.out.put4 (.int .u64 (e0 : Int)) (.int .u64 (i0 : Int)) (.bool false) (.slice a1 l.length c1)
    clear k0 k1 k2 k3 kz h0 h1 h2 h3 y0 y1 y2 y3 yz'
    refine bodyPost_ret (v := .agg #[.int .u64 (e0 : Int), .int .u64 (i0 : Int), .bool false, .slice a1 l.length c1]) ?_ rfl ⟨a1, l, c1, rfl, fun _ => rfl, fq.row HX4.out (fun _ a ha e => by have := HX.out.2 a ha; have := HBX.out; omega), fun a ha => by have := HX.out.2 a ha; omega, (HF3.out.trans' F4.out (fun i hi e => by have := HBX.out; omega)).trans' fq (fun i hi e => by have := HBX.out; omega)⟩
    revert hq
    generalize (((w4.setCell _ _).setCell _ _).setCell _ _).setCell _ _ = WQ
    intro hq
    obtain ⟨d0, d1, d2, d3, _⟩ := hq
    simp [results, Try.results57, go_sem, *]
  | true =>
    go_enter Try.func57, Try.ntmps57
    go_wp2_with fail
    refine (cloneB_nil _ 0 0).mono ?_
    rintro e w3 ⟨rfl, rfl⟩
    go_wp2
    exact bodyPost_ret (v := .agg #[.int .u64 (e0 : Int), .int .u64 (i0 : Int), .bool true, .slice none 0 0]) (by simp [results, Try.results57, go_sem]) rfl ⟨none, [], 0, rfl, (fun h => by cases h), row_nil _, (fun a ha => by cases ha), ((Fr.refl (fun _ => False) w).alloc _).alloc _⟩
end Go.Proofs.Ytmjkipdflhbgdaa
