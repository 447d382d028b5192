/- The law's awake. -/
import Derived.Test.YtmcjeeeeielhbaaGreatAwakeB
namespace Go.Proofs.YtmcjeeeeielhbaaGreat
open Go.RowKit
set_option maxRecDepth 100000 in
set_option maxHeartbeats 4000000 in
theorem apply_any (sb tb mb : Nat) (w : World) (h : Nw w sb tb mb 1) : Calls Tryz.prog 9 #[.pointer (some ⟨sb, 0, none⟩), .int .u64 1, .agg #[.int .u8 1, .int .u64 0, .int .u64 0, .int .u64 1, .int .u64 0, .int .i64 0, .int .u64 0, .int .u64 0, .int .u64 0, .slice none 0 0, .slice none 0 0, .slice none 0 0, .slice none 0 0, .slice none 0 0, .int .i64 0, .int .u64 0, .int .u64 0, .slice none 0 0, .slice none 0 0, .int .u64 0, .slice none 0 0, .int .u64 0, .int .i64 0, .int .i64 0, .float .f64 0, .float .f64 0, .int .u64 0, .int .i64 0, .bool false]] w fun e w' => e = .returned (.agg #[.int .u8 1, .int .u64 0, .int .u64 0, .int .i64 0, .int .u64 0, .int .u64 0, .slice none 0 0, .slice none 0 0]) ∧ w'.cell? ⟨sb, 0, none⟩ = some (.int .u64 2) ∧ Fr (fun k => k = sb) w w' := by
  obtain ⟨W, HW⟩ : ∃ W, Hid (W = (w.alloc (.cells #[.int .u8 1, .int .u64 0, .int .u64 0, .int .u64 1, .int .u64 0, .int .i64 0, .int .u64 0, .int .u64 0, .int .u64 0, .slice none 0 0, .slice none 0 0, .slice none 0 0, .slice none 0 0, .slice none 0 0, .int .i64 0, .int .u64 0, .int .u64 0, .slice none 0 0, .slice none 0 0, .int .u64 0, .slice none 0 0, .int .u64 0, .int .i64 0, .int .i64 0, .float .f64 0, .float .f64 0, .int .u64 0, .int .i64 0, .bool false] 52)).alloc (.cells #[.int .u8 0, .int .u64 0, .int .u64 0, .int .i64 0, .int .u64 0, .int .u64 0, .slice none 0 0, .slice none 0 0] 42)) := ⟨_, rfl⟩
  have F0 : Hid (Fr (fun _ => False) w W) := (show Fr _ _ _ by rw [HW.out]; exact ((Fr.refl _ w).alloc _).alloc _)
  have H0 : Hid (Nw W sb tb mb 1) := h.fr F0.out (by simp) (by simp) (by simp)
  have HB0 : Hid (Z8 W (w.heap.size + 1) (.int .u8 0) (.int .u64 0) (.int .u64 0) (.int .i64 0) (.int .u64 0) (.int .u64 0) (.slice none 0 0) (.slice none 0 0)) := (show Z8 _ _ _ _ _ _ _ _ _ _ by rw [HW.out]; have := Z8.new (w.alloc (.cells #[.int .u8 1, .int .u64 0, .int .u64 0, .int .u64 1, .int .u64 0, .int .i64 0, .int .u64 0, .int .u64 0, .int .u64 0, .slice none 0 0, .slice none 0 0, .slice none 0 0, .slice none 0 0, .slice none 0 0, .int .i64 0, .int .u64 0, .int .u64 0, .slice none 0 0, .slice none 0 0, .int .u64 0, .slice none 0 0, .int .u64 0, .int .i64 0, .int .i64 0, .float .f64 0, .float .f64 0, .int .u64 0, .int .i64 0, .bool false] 52)) 42 (.int .u8 0) (.int .u64 0) (.int .u64 0) (.int .i64 0) (.int .u64 0) (.int .u64 0) (.slice none 0 0) (.slice none 0 0); simpa using this)
  have HL : Hid (sb < w.heap.size) := h.lt.1
  clear h
  go_enter Tryz.func9, Tryz.ntmps9
  go_wp2_with fail
  rw [← HW.out]
  refine (close_any sb tb mb W H0.out).mono ?_
  rintro e w1 ⟨rfl, hc, f1⟩
  obtain ⟨rb, Hrb⟩ : ∃ rb, Hid (w.heap.size + 1 = rb) := ⟨_, rfl⟩
  rw [Hrb.out]
  rw [Hrb.out] at HB0
  have HB : Hid (Z8 w1 rb (.int .u8 0) (.int .u64 0) (.int .u64 0) (.int .i64 0) (.int .u64 0) (.int .u64 0) (.slice none 0 0) (.slice none 0 0)) := HB0.out.fr f1 (by have := HL.out; have := Hrb.out; omega)
  have F1 : Hid (Fr (fun k => k = sb) w w1) := (F0.out.mono (fun _ _ h => h.elim)).trans f1
  have HC : Hid (w1.cell? ⟨sb, 0, none⟩ = some (.int .u64 2)) := hc
  clear hc f1
  obtain ⟨b0, b1, b2, b3, b4, b5, b6, b7, bz⟩ := HB.out
  go_wp2
  obtain ⟨hq, fq⟩ := HB.out.put (.int .u8 1) (.int .u64 0) (.int .u64 0) (.int .i64 0) (.int .u64 0) (.int .u64 0) (.slice none 0 0) (.slice none 0 0)
  clear b0 b1 b2 b3 b4 b5 b6 b7 bz
  refine bodyPost_ret (v := .agg #[.int .u8 1, .int .u64 0, .int .u64 0, .int .i64 0, .int .u64 0, .int .u64 0, .slice none 0 0, .slice none 0 0]) ?_ rfl ⟨rfl, fq.cell HC.out (by show ¬ sb = rb; have := HL.out; have := Hrb.out; omega), F1.out.trans' fq (fun i hi e => by have := Hrb.out; omega)⟩
  revert hq
  generalize ((((((((w1.setCell _ _).setCell _ _).setCell _ _).setCell _ _).setCell _ _).setCell _ _).setCell _ _).setCell _ _) = WQ
  intro hq
  obtain ⟨d0, d1, d2, d3, d4, d5, d6, d7, _⟩ := hq
  simp [results, Tryz.results9, go_sem, *]
set_option maxRecDepth 100000 in
theorem epoch_any (sb : Nat) (ep : Int) (w : World) (h : w.cell? ⟨sb, 0, none⟩ = some (.int .u64 ep)) : Calls Tryz.prog 10 #[.pointer (some ⟨sb, 0, none⟩)] w fun e w' => e = .returned (.int .u64 ep) ∧ w' = w := by
  go_enter Tryz.func10, Tryz.ntmps10
  go_wp2
  go_ret
  exact ⟨rfl, rfl⟩
set_option maxRecDepth 100000 in
set_option maxHeartbeats 4000000 in
theorem awake_any (w : World) : Calls Tryz.prog 4 #[] w fun e w' => e = .returned (.bool true) ∧ Fr (fun _ => False) w w' := by
  go_enter Tryz.func4, Tryz.ntmps4
  go_wp2_with fail
  refine (new_any w).mono ?_
  rintro e w1 ⟨sb, tb, mb, rfl, hn, hz, f1⟩
  have HN : Hid (Nw w1 sb tb mb 1) := hn
  have HZ : Hid (w.heap.size ≤ sb) := hz.1
  have F1 : Hid (Fr (fun _ => False) w w1) := f1
  clear hn hz f1
  go_wp2_with fail
  refine (apply_any sb tb mb w1 HN.out).mono ?_
  rintro e w2 ⟨rfl, hc, f2⟩
  have F2 : Hid (Fr (fun _ => False) w w2) := F1.out.trans' f2 (fun i hi e => by have := HZ.out; omega)
  have hs : sb < w2.heap.size := World.block_lt_of_cell? _ _ hc
  have f3 : Fr (fun _ => False) w2 (w2.alloc (.cells #[.int .u8 1, .int .u64 0, .int .u64 0, .int .i64 0, .int .u64 0, .int .u64 0, .slice none 0 0, .slice none 0 0] 42)) := (Fr.refl _ w2).alloc _
  have F3 : Hid (Fr (fun _ => False) w (w2.alloc (.cells #[.int .u8 1, .int .u64 0, .int .u64 0, .int .i64 0, .int .u64 0, .int .u64 0, .slice none 0 0, .slice none 0 0] 42))) := F2.out.trans f3
  have K : Hid (Calls _ _ _ _ _) := epoch_any sb 2 _ (f3.cell hc (by simp))
  clear f2 hc f3
  go_wp2_with fail
  refine K.out.mono ?_
  rintro e w3 ⟨rfl, rfl⟩
  go_wp2
  go_ret
  exact ⟨rfl, F3.out⟩
end Go.Proofs.YtmcjeeeeielhbaaGreat
