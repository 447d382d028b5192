/- The program's table of answers. -/
import Derived.Test.YtbjefjcpdhnmkaaMap
import Derived.Deep.RegionHeld3
namespace Go.Proofs.Ytbjefjcpdhnmkaa
open Go.RowKit Go.Maps
/-- A BOX of five cells. -/
structure B5 (w : World) (b : Nat) (v0 v1 v2 v3 v4 : Value) : Prop where
  c0 : w.cell? ⟨b, 0, none⟩ = some v0
  c1 : w.cell? ⟨b, 1, none⟩ = some v1
  c2 : w.cell? ⟨b, 2, none⟩ = some v2
  c3 : w.cell? ⟨b, 3, none⟩ = some v3
  c4 : w.cell? ⟨b, 4, none⟩ = some v4
  z0 : w.frozen? ⟨b, 0, none⟩ = false
  z1 : w.frozen? ⟨b, 1, none⟩ = false
  z2 : w.frozen? ⟨b, 2, none⟩ = false
  z3 : w.frozen? ⟨b, 3, none⟩ = false
  z4 : w.frozen? ⟨b, 4, none⟩ = false
section
variable {w w1 : World} {b : Nat} {v0 v1 v2 v3 v4 : Value}
theorem B5.lt (h : B5 w b v0 v1 v2 v3 v4) : b < w.heap.size := World.block_lt_of_cell? _ _ h.c0
theorem B5.fr {S : Nat → Prop} (h : B5 w b v0 v1 v2 v3 v4) (f : Fr S w w1) (hs : ¬ S b) : B5 w1 b v0 v1 v2 v3 v4 :=
  ⟨f.cell h.c0 hs, f.cell h.c1 hs, f.cell h.c2 hs, f.cell h.c3 hs, f.cell h.c4 hs, (f.frozenEq h.lt hs).trans h.z0, (f.frozenEq h.lt hs).trans h.z1, (f.frozenEq h.lt hs).trans h.z2, (f.frozenEq h.lt hs).trans h.z3, (f.frozenEq h.lt hs).trans h.z4⟩
theorem B5.new (w : World) (t : TypeId) (v0 v1 v2 v3 v4 : Value) : B5 (w.alloc (.cells #[v0, v1, v2, v3, v4] t)) w.heap.size v0 v1 v2 v3 v4 := by constructor <;> simp
theorem B5.put (h : B5 w b v0 v1 v2 v3 v4) (u0 u1 u2 u3 u4 : Value) :
    B5 (((((w.setCell ⟨b, 0, none⟩ u0).setCell ⟨b, 1, none⟩ u1).setCell ⟨b, 2, none⟩ u2).setCell ⟨b, 3, none⟩ u3).setCell ⟨b, 4, none⟩ u4) b u0 u1 u2 u3 u4 ∧ Fr (fun k => k = b) w (((((w.setCell ⟨b, 0, none⟩ u0).setCell ⟨b, 1, none⟩ u1).setCell ⟨b, 2, none⟩ u2).setCell ⟨b, 3, none⟩ u3).setCell ⟨b, 4, none⟩ u4) := by
  obtain ⟨h0, h1, h2, h3, h4, y0, y1, y2, y3, y4⟩ := h
  refine ⟨?_, (((((Fr.refl (fun k => k = b) w).setCell (Or.inl rfl) _).setCell (Or.inl rfl) _).setCell (Or.inl rfl) _).setCell (Or.inl rfl) _).setCell (Or.inl rfl) _⟩
  constructor <;> simp [World.cell?_setCell_same', World.cell?_setCell_other, *]
end
theorem field71 (v0 v1 v2 v3 v4 v5 : Value) (w : World) : (Instr.field 71 (.agg #[v0, v1, v2, v3, v4, v5]) 0).run Try.prog w = .ok v0 w := by kernel_rfl
theorem nil33 (w : World) : (binOp .eql 33 (.slice none 0 0) (.slice none 0 0)).run Try.prog w = .ok (.bool true) w := by kernel_rfl
theorem nil34 (w : World) : (binOp .eql 34 (.slice none 0 0) (.slice none 0 0)).run Try.prog w = .ok (.bool true) w := by kernel_rfl
set_option maxRecDepth 100000 in
set_option maxHeartbeats 2000000 in
theorem own_nil (e0 : Int) (ep ix : Nat) (w : World) : Calls Try.prog 24 #[.agg #[.int .i64 e0, .int .u64 (ep : Int), .int .u64 (ix : Int), .slice none 0 0, .slice none 0 0]] w fun e w' => e = .returned (.agg #[.int .i64 e0, .int .u64 (ep : Int), .int .u64 (ix : Int), .slice none 0 0, .slice none 0 0]) ∧ Fr (fun _ => False) w w' := by
  have h33 := nil33
  have h34 := nil34
  go_enter Try.func24, Try.ntmps24
  go_wp2_with (first | (go_at_call 41; go_in) | (go_at_call 43; go_in))
  go_loopw [12] (fun iv wr => iv = .int .i64 0 ∧ wr = (w.alloc (.cells #[.int .i64 e0, .int .u64 (ep : Int), .int .u64 (ix : Int), .slice none 0 0, .slice none 0 0] 36)).alloc (.cells #[.int .i64 0, .int .u64 0, .int .u64 0, .slice none 0 0, .slice none 0 0] 36)) (fun _ _ => 0)
  case atStart => exact ⟨rfl, rfl⟩
  case round =>
    obtain ⟨rfl, rfl⟩ := hrel
    go_wp2_with (first | (go_at_call 41; go_in) | (go_at_call 43; go_in))
    go_loopw [35] (fun iv wr => iv = .int .i64 0 ∧ wr = (w.alloc (.cells #[.int .i64 e0, .int .u64 (ep : Int), .int .u64 (ix : Int), .slice none 0 0, .slice none 0 0] 36)).alloc (.cells #[.int .i64 0, .int .u64 0, .int .u64 0, .slice none 0 0, .slice none 0 0] 36)) (fun _ _ => 0)
    case atStart => exact ⟨rfl, rfl⟩
    case round =>
      obtain ⟨rfl, rfl⟩ := hrel
      go_wp2
      exact bodyPost_ret (v := .agg #[.int .i64 e0, .int .u64 (ep : Int), .int .u64 (ix : Int), .slice none 0 0, .slice none 0 0]) (by simp [results, Try.results24, go_sem]) rfl ⟨rfl, ((Fr.refl _ _).alloc _).alloc _⟩
set_option maxRecDepth 100000 in
set_option maxHeartbeats 1000000 in
theorem of_nil (id : Nat) (w : World) : Calls Try.prog 25 #[.pointer none, .int .u64 (id : Int)] w fun e w' => e = .returned (.agg #[.int .u64 0, .int .i64 0, .int .u64 0, .int .u64 0, .slice none 0 0, .slice none 0 0]) ∧ Fr (fun _ => False) w w' := by
  go_enter Try.func25, Try.ntmps25
  go_wp2
  exact bodyPost_ret (v := .agg #[.int .u64 0, .int .i64 0, .int .u64 0, .int .u64 0, .slice none 0 0, .slice none 0 0]) (by simp [results, Try.results25, go_sem]) rfl ⟨rfl, (Fr.refl _ _).alloc _⟩
set_option maxRecDepth 100000 in
set_option maxHeartbeats 1000000 in
theorem of_any (b id sq : Nat) (e0 : Int) (ep ix : Nat) (mo : Option Nat) (w : World) (hc : w.cell? ⟨b, 0, none⟩ = some (.map mo))
    (hl : ∀ W, Fr (fun _ => False) w W → (Instr.lookup 55 (.map mo) (.int .u64 (id : Int)) false).run Try.prog W = .ok (.agg #[.int .u64 (sq : Int), .int .i64 e0, .int .u64 (ep : Int), .int .u64 (ix : Int), .slice none 0 0, .slice none 0 0]) W) :
    Calls Try.prog 25 #[.pointer (some ⟨b, 0, none⟩), .int .u64 (id : Int)] w fun e w' => e = .returned (.agg #[.int .u64 (sq : Int), .int .i64 e0, .int .u64 (ep : Int), .int .u64 (ix : Int), .slice none 0 0, .slice none 0 0]) ∧ Fr (fun _ => False) w w' := by
  have f0 := (Fr.refl (fun _ => False) w).alloc (.cells #[.int .u64 0, .int .i64 0, .int .u64 0, .int .u64 0, .slice none 0 0, .slice none 0 0] 71)
  have hl0 := hl _ f0
  have hc0 := f0.cell hc (by simp)
  have F0 : Hid (Fr (fun _ => False) w _) := f0
  clear hl f0
  go_enter Try.func25, Try.ntmps25
  go_wp2
  exact bodyPost_ret (v := .agg #[.int .u64 (sq : Int), .int .i64 e0, .int .u64 (ep : Int), .int .u64 (ix : Int), .slice none 0 0, .slice none 0 0]) (by simp [results, Try.results25, go_sem]) rfl ⟨rfl, (Fr.refl _ _).alloc _⟩
set_option maxRecDepth 100000 in
set_option maxHeartbeats 1000000 in
theorem last_nil (id : Nat) (w : World) : Calls Try.prog 17 #[.pointer none, .int .u64 (id : Int)] w fun e w' => e = .returned (.int .u64 0) ∧ Fr (fun _ => False) w w' := by
  have h71 := field71
  go_enter Try.func17, Try.ntmps17
  go_wp2_with fail
  refine (of_nil id w).mono ?_
  rintro e w1 ⟨rfl, f1⟩
  go_wp2
  go_ret
  exact ⟨rfl, f1⟩
set_option maxRecDepth 100000 in
set_option maxHeartbeats 1000000 in
theorem last_any (b id sq : Nat) (e0 : Int) (ep ix : Nat) (mo : Option Nat) (w : World) (hc : w.cell? ⟨b, 0, none⟩ = some (.map mo))
    (hl : ∀ W, Fr (fun _ => False) w W → (Instr.lookup 55 (.map mo) (.int .u64 (id : Int)) false).run Try.prog W = .ok (.agg #[.int .u64 (sq : Int), .int .i64 e0, .int .u64 (ep : Int), .int .u64 (ix : Int), .slice none 0 0, .slice none 0 0]) W) :
    Calls Try.prog 17 #[.pointer (some ⟨b, 0, none⟩), .int .u64 (id : Int)] w fun e w' => e = .returned (.int .u64 (sq : Int)) ∧ Fr (fun _ => False) w w' := by
  have K : Hid (Calls _ _ _ _ _) := of_any b id sq e0 ep ix mo w hc hl
  clear hl hc
  have h71 := field71
  go_enter Try.func17, Try.ntmps17
  go_wp2_with fail
  refine K.out.mono ?_
  rintro e w1 ⟨rfl, f1⟩
  go_wp2
  go_ret
  exact ⟨rfl, f1⟩
set_option maxRecDepth 100000 in
set_option maxHeartbeats 2000000 in
theorem get_nil (id q : Nat) (w : World) : Calls Try.prog 15 #[.pointer none, .int .u64 (id : Int), .int .u64 (q : Int)] w fun e w' => e = .returned (.tuple #[.agg #[.int .i64 0, .int .u64 0, .int .u64 0, .slice none 0 0, .slice none 0 0], .int .i64 2]) ∧ Fr (fun _ => False) w w' := by
  have F0 : Hid (Fr (fun _ => False) w _) := (Fr.refl (fun _ => False) w).alloc (.cells #[.int .i64 0, .int .u64 0, .int .u64 0, .slice none 0 0, .slice none 0 0] 36)
  have B0 : Hid (B5 _ _ _ _ _ _ _) := B5.new w 36 (.int .i64 0) (.int .u64 0) (.int .u64 0) (.slice none 0 0) (.slice none 0 0)
  go_enter Try.func15, Try.ntmps15
  go_wp2_with fail
  refine (of_nil id _).mono ?_
  rintro e w1 ⟨rfl, f1⟩
  have f2 := f1.alloc (.cells #[.int .u64 0, .int .i64 0, .int .u64 0, .int .u64 0, .slice none 0 0, .slice none 0 0] 71)
  have F1 : Hid (Fr (fun _ => False) w _) := F0.out.trans f2
  have B1 : Hid (B5 _ _ _ _ _ _ _) := B0.out.fr f2 (by simp)
  obtain ⟨c0, c1, c2, c3, c4, z0, z1, z2, z3, z4⟩ := B1.out
  clear f1 f2 B0 F0
  go_wp2
  obtain ⟨hb, fb⟩ := B1.out.put (.int .i64 0) (.int .u64 0) (.int .u64 0) (.slice none 0 0) (.slice none 0 0)
  have FF : Hid (Fr (fun _ => False) w _) := F1.out.trans' fb (fun i hi e => by omega)
  refine bodyPost_ret (v := .tuple #[.agg #[.int .i64 0, .int .u64 0, .int .u64 0, .slice none 0 0, .slice none 0 0], .int .i64 2]) ?_ rfl ⟨rfl, FF.out⟩
  clear fb FF B1 c0 c1 c2 c3 c4 z0 z1 z2 z3 z4
  revert hb
  generalize (((((World.alloc w1 _).setCell _ _).setCell _ _).setCell _ _).setCell _ _).setCell _ _ = W
  intro hb
  obtain ⟨d0, d1, d2, d3, d4, _⟩ := hb
  simp [results, Try.results15, go_sem, *]
set_option maxRecDepth 100000 in
set_option maxHeartbeats 2000000 in
theorem get_none (b id q sq : Nat) (e0 : Int) (ep ix : Nat) (mo : Option Nat) (w : World) (hc : w.cell? ⟨b, 0, none⟩ = some (.map mo))
    (hl : ∀ W, Fr (fun _ => False) w W → (Instr.lookup 55 (.map mo) (.int .u64 (id : Int)) false).run Try.prog W = .ok (.agg #[.int .u64 (sq : Int), .int .i64 e0, .int .u64 (ep : Int), .int .u64 (ix : Int), .slice none 0 0, .slice none 0 0]) W) (h0 : 0 < sq) (h1 : sq < q) :
    Calls Try.prog 15 #[.pointer (some ⟨b, 0, none⟩), .int .u64 (id : Int), .int .u64 (q : Int)] w fun e w' => e = .returned (.tuple #[.agg #[.int .i64 0, .int .u64 0, .int .u64 0, .slice none 0 0, .slice none 0 0], .int .i64 2]) ∧ Fr (fun _ => False) w w' := by
  have F0 : Hid (Fr (fun _ => False) w _) := (Fr.refl (fun _ => False) w).alloc (.cells #[.int .i64 0, .int .u64 0, .int .u64 0, .slice none 0 0, .slice none 0 0] 36)
  have B0 : Hid (B5 _ _ _ _ _ _ _) := B5.new w 36 (.int .i64 0) (.int .u64 0) (.int .u64 0) (.slice none 0 0) (.slice none 0 0)
  have K : Hid (Calls _ _ _ _ _) := of_any b id sq e0 ep ix mo (w.alloc (.cells #[.int .i64 0, .int .u64 0, .int .u64 0, .slice none 0 0, .slice none 0 0] 36)) (F0.out.cell hc (by simp)) (fun W f => hl W (F0.out.trans f))
  have k0 : ((sq : Int) == 0) = false := by simp; omega
  have k1 : (sq : Int) < (q : Int) := by omega
  clear h0 h1
  clear hl hc
  go_enter Try.func15, Try.ntmps15
  go_wp2_with fail
  refine K.out.mono ?_
  rintro e w1 ⟨rfl, f1⟩
  have f2 := f1.alloc (.cells #[.int .u64 (sq : Int), .int .i64 e0, .int .u64 (ep : Int), .int .u64 (ix : Int), .slice none 0 0, .slice none 0 0] 71)
  have F1 : Hid (Fr (fun _ => False) w _) := F0.out.trans f2
  have B1 : Hid (B5 _ _ _ _ _ _ _) := B0.out.fr f2 (by simp)
  clear f1 f2 B0 F0 K
  obtain ⟨c0, c1, c2, c3, c4, z0, z1, z2, z3, z4⟩ := B1.out
  go_wp2
  obtain ⟨hb, fb⟩ := B1.out.put (.int .i64 0) (.int .u64 0) (.int .u64 0) (.slice none 0 0) (.slice none 0 0)
  have FF : Hid (Fr (fun _ => False) w _) := F1.out.trans' fb (fun i hi e => by omega)
  refine bodyPost_ret (v := .tuple #[.agg #[.int .i64 0, .int .u64 0, .int .u64 0, .slice none 0 0, .slice none 0 0], .int .i64 2]) ?_ rfl ⟨rfl, FF.out⟩
  clear fb FF B1 c0 c1 c2 c3 c4 z0 z1 z2 z3 z4
  revert hb
  generalize (((((World.alloc w1 _).setCell _ _).setCell _ _).setCell _ _).setCell _ _).setCell _ _ = W
  intro hb
  obtain ⟨d0, d1, d2, d3, d4, _⟩ := hb
  simp [results, Try.results15, go_sem, *]
set_option maxRecDepth 100000 in
set_option maxHeartbeats 2000000 in
theorem get_old (b id q sq : Nat) (e0 : Int) (ep ix : Nat) (mo : Option Nat) (w : World) (hc : w.cell? ⟨b, 0, none⟩ = some (.map mo))
    (hl : ∀ W, Fr (fun _ => False) w W → (Instr.lookup 55 (.map mo) (.int .u64 (id : Int)) false).run Try.prog W = .ok (.agg #[.int .u64 (sq : Int), .int .i64 e0, .int .u64 (ep : Int), .int .u64 (ix : Int), .slice none 0 0, .slice none 0 0]) W) (h0 : 0 < sq) (h1 : q < sq) :
    Calls Try.prog 15 #[.pointer (some ⟨b, 0, none⟩), .int .u64 (id : Int), .int .u64 (q : Int)] w fun e w' => e = .returned (.tuple #[.agg #[.int .i64 0, .int .u64 0, .int .u64 0, .slice none 0 0, .slice none 0 0], .int .i64 10]) ∧ Fr (fun _ => False) w w' := by
  have F0 : Hid (Fr (fun _ => False) w _) := (Fr.refl (fun _ => False) w).alloc (.cells #[.int .i64 0, .int .u64 0, .int .u64 0, .slice none 0 0, .slice none 0 0] 36)
  have B0 : Hid (B5 _ _ _ _ _ _ _) := B5.new w 36 (.int .i64 0) (.int .u64 0) (.int .u64 0) (.slice none 0 0) (.slice none 0 0)
  have K : Hid (Calls _ _ _ _ _) := of_any b id sq e0 ep ix mo (w.alloc (.cells #[.int .i64 0, .int .u64 0, .int .u64 0, .slice none 0 0, .slice none 0 0] 36)) (F0.out.cell hc (by simp)) (fun W f => hl W (F0.out.trans f))
  have k0 : ((sq : Int) == 0) = false := by simp; omega
  have k1 : ¬ (sq : Int) < (q : Int) := by omega
  have k2 : (q : Int) < (sq : Int) := by omega
  clear h0 h1
  clear hl hc
  go_enter Try.func15, Try.ntmps15
  go_wp2_with fail
  refine K.out.mono ?_
  rintro e w1 ⟨rfl, f1⟩
  have f2 := f1.alloc (.cells #[.int .u64 (sq : Int), .int .i64 e0, .int .u64 (ep : Int), .int .u64 (ix : Int), .slice none 0 0, .slice none 0 0] 71)
  have F1 : Hid (Fr (fun _ => False) w _) := F0.out.trans f2
  have B1 : Hid (B5 _ _ _ _ _ _ _) := B0.out.fr f2 (by simp)
  clear f1 f2 B0 F0 K
  obtain ⟨c0, c1, c2, c3, c4, z0, z1, z2, z3, z4⟩ := B1.out
  go_wp2
  obtain ⟨hb, fb⟩ := B1.out.put (.int .i64 0) (.int .u64 0) (.int .u64 0) (.slice none 0 0) (.slice none 0 0)
  have FF : Hid (Fr (fun _ => False) w _) := F1.out.trans' fb (fun i hi e => by omega)
  refine bodyPost_ret (v := .tuple #[.agg #[.int .i64 0, .int .u64 0, .int .u64 0, .slice none 0 0, .slice none 0 0], .int .i64 10]) ?_ rfl ⟨rfl, FF.out⟩
  clear fb FF B1 c0 c1 c2 c3 c4 z0 z1 z2 z3 z4
  revert hb
  generalize (((((World.alloc w1 _).setCell _ _).setCell _ _).setCell _ _).setCell _ _).setCell _ _ = W
  intro hb
  obtain ⟨d0, d1, d2, d3, d4, _⟩ := hb
  simp [results, Try.results15, go_sem, *]
set_option maxRecDepth 100000 in
set_option maxHeartbeats 2000000 in
theorem get_ok (b id q sq : Nat) (e0 : Int) (ep ix : Nat) (mo : Option Nat) (w : World) (hc : w.cell? ⟨b, 0, none⟩ = some (.map mo))
    (hl : ∀ W, Fr (fun _ => False) w W → (Instr.lookup 55 (.map mo) (.int .u64 (id : Int)) false).run Try.prog W = .ok (.agg #[.int .u64 (sq : Int), .int .i64 e0, .int .u64 (ep : Int), .int .u64 (ix : Int), .slice none 0 0, .slice none 0 0]) W) (h0 : 0 < sq) (h1 : sq = q) :
    Calls Try.prog 15 #[.pointer (some ⟨b, 0, none⟩), .int .u64 (id : Int), .int .u64 (q : Int)] w fun e w' => e = .returned (.tuple #[.agg #[.int .i64 e0, .int .u64 (ep : Int), .int .u64 (ix : Int), .slice none 0 0, .slice none 0 0], .int .i64 0]) ∧ Fr (fun _ => False) w w' := by
  have F0 : Hid (Fr (fun _ => False) w _) := (Fr.refl (fun _ => False) w).alloc (.cells #[.int .i64 0, .int .u64 0, .int .u64 0, .slice none 0 0, .slice none 0 0] 36)
  have B0 : Hid (B5 _ _ _ _ _ _ _) := B5.new w 36 (.int .i64 0) (.int .u64 0) (.int .u64 0) (.slice none 0 0) (.slice none 0 0)
  have K : Hid (Calls _ _ _ _ _) := of_any b id sq e0 ep ix mo (w.alloc (.cells #[.int .i64 0, .int .u64 0, .int .u64 0, .slice none 0 0, .slice none 0 0] 36)) (F0.out.cell hc (by simp)) (fun W f => hl W (F0.out.trans f))
  subst h1
  have k0 : ((sq : Int) == 0) = false := by simp; omega
  clear h0
  clear hl hc
  go_enter Try.func15, Try.ntmps15
  go_wp2_with fail
  refine K.out.mono ?_
  rintro e w1 ⟨rfl, f1⟩
  have f2 := f1.alloc (.cells #[.int .u64 (sq : Int), .int .i64 e0, .int .u64 (ep : Int), .int .u64 (ix : Int), .slice none 0 0, .slice none 0 0] 71)
  have F1 : Hid (Fr (fun _ => False) w _) := F0.out.trans f2
  have B1 : Hid (B5 _ _ _ _ _ _ _) := B0.out.fr f2 (by simp)
  clear f1 f2 B0 F0 K
  have ho : Hid (Calls _ _ _ _ _) := own_nil e0 ep ix (w1.alloc (.cells #[.int .u64 (sq : Int), .int .i64 e0, .int .u64 (ep : Int), .int .u64 (ix : Int), .slice none 0 0, .slice none 0 0] 71))
  go_wp2_with fail
  refine ho.out.mono ?_
  rintro e w3 ⟨rfl, f3⟩
  replace F1 : Hid (Fr (fun _ => False) w _) := F1.out.trans f3
  replace B1 : Hid (B5 _ _ _ _ _ _ _) := B1.out.fr f3 (by simp)
  clear f3 ho
  obtain ⟨c0, c1, c2, c3, c4, z0, z1, z2, z3, z4⟩ := B1.out
  go_wp2
  obtain ⟨hb, fb⟩ := B1.out.put (.int .i64 e0) (.int .u64 (ep : Int)) (.int .u64 (ix : Int)) (.slice none 0 0) (.slice none 0 0)
  have FF : Hid (Fr (fun _ => False) w _) := F1.out.trans' fb (fun i hi e => by omega)
  refine bodyPost_ret (v := .tuple #[.agg #[.int .i64 e0, .int .u64 (ep : Int), .int .u64 (ix : Int), .slice none 0 0, .slice none 0 0], .int .i64 0]) ?_ rfl ⟨rfl, FF.out⟩
  clear fb FF B1 c0 c1 c2 c3 c4 z0 z1 z2 z3 z4
  revert hb
  generalize (((((w3).setCell _ _).setCell _ _).setCell _ _).setCell _ _).setCell _ _ = W
  intro hb
  obtain ⟨d0, d1, d2, d3, d4, _⟩ := hb
  simp [results, Try.results15, go_sem, *]
set_option maxRecDepth 100000 in
set_option maxHeartbeats 1000000 in
theorem put_nil (id q : Nat) (w : World) : Calls Try.prog 13 #[.pointer none, .int .u64 (id : Int), .int .u64 (q : Int), .agg #[.int .i64 0, .int .u64 0, .int .u64 0, .slice none 0 0, .slice none 0 0]] w fun e w' => e = .returned (.int .i64 2) ∧ Fr (fun _ => False) w w' := by
  have F0 : Hid (Fr (fun _ => False) w _) := (Fr.refl (fun _ => False) w).alloc (.cells #[.int .i64 0, .int .u64 0, .int .u64 0, .slice none 0 0, .slice none 0 0] 36)
  go_enter Try.func13, Try.ntmps13
  go_wp2
  go_ret
  exact ⟨rfl, F0.out⟩
set_option maxRecDepth 100000 in
set_option maxHeartbeats 1000000 in
theorem len_nil (w : World) : Calls Try.prog 16 #[.pointer none] w fun e w' => e = .returned (.int .i64 0) ∧ w' = w := by
  go_enter Try.func16, Try.ntmps16
  go_wp2
  go_ret
  exact ⟨rfl, rfl⟩
set_option maxRecDepth 100000 in
set_option maxHeartbeats 1000000 in
theorem new_any (w : World) : Calls Try.prog 9 #[] w fun e w' => e = .returned (.pointer (some ⟨w.heap.size, 0, none⟩)) ∧ w' = w.alloc (.cells #[.map none] 57) := by
  go_enter Try.func9, Try.ntmps9
  go_wp2
  go_ret
  exact ⟨rfl, rfl⟩
end Go.Proofs.Ytbjefjcpdhnmkaa
