/- What the statements on frames ask: sameness, a size, the document's example, dummies. -/
import Derived.Test.YtpnjcpamhelaeaaDoorRefSp
namespace Go.Proofs.YtpnjcpamhelaeaaDoor
open Go.RowKit

theorem prow_of_held {w : World} {g size id of : Nat} {p : List Nat} {f : Nat → Value} (h : w.rowIs g 24 of f) (hh : Held w g size id of of p f) (hof : parts size p.length = of) (hs : 19 ≤ size) (hle : of ≤ 1000000) : PRowS w (fun k => g < k) (some ⟨g, 0, none⟩) (frames size id p) of := by
  refine ⟨by rw [frames_length, hof]; exact Nat.le_refl _, by unfold maxLen; omega, fun _ => ⟨g, 0, rfl, fun i hi => ?_⟩⟩
  rw [frames_length, hof] at hi
  obtain ⟨ai, h1, h2, h3⟩ := hh i hi
  rw [frames_get size id p i (by rw [hof]; exact hi), hof, fr1_length size id of i p hs]
  refine ⟨ai, size, ?_, h2, fun _ a ha => h3 a ha⟩
  rw [Nat.zero_add, h.cell hi, h1]
theorem PRow.fr {w w1 : World} {ao : Option Addr} {ps : List (List Nat)} {cap : Nat} (h : PRow w ao ps cap) (f : Fr (fun _ => False) w w1) : PRow w1 ao ps cap := by
  refine ⟨h.1, h.2.1, fun hne => ?_⟩
  obtain ⟨b, off, he, hc⟩ := h.2.2 hne
  exact ⟨b, off, he, fun i hi => by obtain ⟨ai, ci, h1, h2⟩ := hc i hi; exact ⟨ai, ci, f.cell h1 (by simp), f.row h2 (by simp)⟩⟩
theorem Fr.drewN {S : Nat → Prop} {w w1 : World} (h : Fr S w w1) (n : Nat) : Fr S w (w1.drewN n) := ⟨h.os, h.tape, h.output, h.size, h.block⟩
set_option maxRecDepth 100000 in
set_option maxHeartbeats 1000000 in
theorem same_some (b1 o1 b2 o2 : Nat) (ps : List (List Nat)) (c1 c2 : Nat) (w : World) (h1 : PRow w (some ⟨b1, o1, none⟩) ps c1) (h2 : PRow w (some ⟨b2, o2, none⟩) ps c2) (hne : ps ≠ []) :
    Calls Tryd.prog 12 #[.slice (some ⟨b1, o1, none⟩) ps.length c1, .slice (some ⟨b2, o2, none⟩) ps.length c2] w fun e w' => e = .returned (.bool true) ∧ Fr (fun _ => False) w w' := by
  have hlen : ps.length ≤ 9223372036854775807 := by have := h1.1; have := h1.2.1; unfold maxLen at this; omega
  have H1 : Hid (PRow w (some ⟨b1, o1, none⟩) ps c1) := h1
  have H2 : Hid (PRow w (some ⟨b2, o2, none⟩) ps c2) := h2
  clear h1 h2
  go_enter Tryd.func12, Tryd.ntmps12
  go_wp2
  go_loopw [5] (fun i wr => ∃ (k : Nat), k ≤ ps.length ∧ i = .int .i64 (k : Int) ∧ Fr (fun _ => False) w wr) (fun i _ => ps.length - (intOf i).toNat)
  case atStart => exact ⟨0, Nat.zero_le _, rfl, Fr.refl _ _⟩
  case round =>
    obtain ⟨k, hk, rfl, hfr⟩ := hrel
    by_cases hlt : k < ps.length
    · obtain ⟨b1', o1', e1, g1⟩ := (H1.out.fr hfr).2.2 hne
      obtain ⟨b2', o2', e2, g2⟩ := (H2.out.fr hfr).2.2 hne
      cases e1
      cases e2
      obtain ⟨a1, i1, x1, r1⟩ := g1 k hlt
      obtain ⟨a2, i2, x2, r2⟩ := g2 k hlt
      obtain ⟨L, HL⟩ : ∃ L, Hid (ps.getD k [] = L) := ⟨_, rfl⟩
      rw [HL.out] at x1 x2 r1 r2
      have s1 := run_str wr.drew a1 L i1 ((Fr.refl (fun _ => False) wr).drew.row r1 (by simp))
      have s2 := run_str wr.drew a2 L i2 ((Fr.refl (fun _ => False) wr).drew.row r2 (by simp))
      have y1 : wr.drew.cell? ⟨b1, o1 + k, none⟩ = some (.slice a1 L.length i1) := x1
      have y2 : wr.drew.cell? ⟨b2, o2 + k, none⟩ = some (.slice a2 L.length i2) := x2
      generalize strOf L = t at *
      have hb : (t.toList == t.toList) = true := by simp
      have z1 : (0 : Int) ≤ (k : Int) := by omega
      have z2 : (k : Int) < (ps.length : Int) := by omega
      clear g1 g2 r1 r2 x1 x2
      go_wp2_with fail
      go_region_held3 (fun w' => w'.cell? ⟨b1, o1 + k, none⟩ = some (.slice a1 L.length i1) ∧ w'.cell? ⟨b2, o2 + k, none⟩ = some (.slice a2 L.length i2) ∧ Sem.run Tryd.prog (convert 24 9 (.slice a1 L.length i1)) w' = .ok (.string t) w' ∧ Sem.run Tryd.prog (convert 24 9 (.slice a2 L.length i2)) w' = .ok (.string t) w') (first | exact ⟨y1, y2, s1, s2⟩ | go_keep) (fail)
      all_goals
        go_wp2
        go_roundw
        case rel => exact ⟨k + 1, by omega, by go_num, hfr.drew⟩
        case measure => simp [intOf]; omega
    · go_wp2
      go_ret
      exact ⟨rfl, hfr⟩
set_option maxHeartbeats 400000 in
theorem same_nil (a1 a2 : Option Addr) (c1 c2 : Nat) (w : World) : Calls Tryd.prog 12 #[.slice a1 0 c1, .slice a2 0 c2] w fun e w' => e = .returned (.bool true) ∧ Fr (fun _ => False) w w' := by
  go_enter Tryd.func12, Tryd.ntmps12
  go_wp2
  refine wp_loop_rounds 1 ?_
  rw [rounds_succ]
  go_wp2
  go_ret
  exact ⟨rfl, Fr.refl _ _⟩
set_option maxHeartbeats 400000 in
theorem size_any (n : Nat) (w : World) (hn : n < 65536) : Calls Tryd.prog 13 #[.int .u16 (n : Int)] w fun e w' => e = .returned (.int .i64 ((64 + n % 300 : Nat) : Int)) ∧ w' = w := by
  go_enter Tryd.func13, Tryd.ntmps13
  go_wp2
  go_ret
  exact ⟨ret_int (by omega), rfl⟩
/-- 'ab', as it is laid. -/
theorem ab_row (w : World) : Row (w.alloc (.cells #[.int .u8 97, .int .u8 98] 5 (2, 3))) (some ⟨w.heap.size, 0, none⟩) [97, 98] 2 := by
  refine ⟨by simp, by unfold maxLen; simp, by decide, fun h => (by cases h), fun _ => ⟨w.heap.size, 0, rfl, fun i hi => ?_⟩⟩
  simp only [List.length_cons, List.length_nil] at hi
  rw [Nat.zero_add, cell_of_row _ w.heap.size i _ 5 (2, 3) (heap_alloc_new w _)]
  match i, hi with
  | 0, _ | 1, _ => rfl
set_option maxRecDepth 100000 in
set_option maxHeartbeats 1000000 in
theorem awake5_any (w : World) (ht : Tab w) : Calls Tryd.prog 9 #[] w fun e w' => e = .returned (.bool true) ∧ Fr (fun _ => False) w w' := by
  have kc := Lib.run_convert_bytes_const (P := Tryd.prog) w 24 5 #[.int .u8 97, .int .u8 98] 2 2 Tryd.underlying24 Tryd.underlying5
  have hrow := ab_row w
  have f0 := (Fr.refl (fun _ => False) w).alloc (.cells #[.int .u8 97, .int .u8 98] 5 (2, 3))
  have ks := split_ok 64 7 (some ⟨w.heap.size, 0, none⟩) [97, 98] 2 _ (f0.tab ht (by simp)) hrow (by omega) (by decide) (by omega)
  rw [show parts 64 ([97, 98] : List Nat).length = 1 by decide] at ks
  have k1 := fun w => room_any 64 w (by omega)
  have k2 := fun w => parts_any 64 46 w (by omega) (by omega)
  rw [show parts 64 46 = 2 by decide] at k2
  have HS : Hid (Calls _ _ _ _ _) := ks
  clear ks hrow
  go_enter Tryd.func9, Tryd.ntmps9
  go_wp2_with fail
  refine HS.out.mono ?_
  rintro e w1 ⟨g, rfl, _, ⟨f, hri, hh⟩, f1⟩
  obtain ⟨ai, h1, _, _⟩ := hh 0 (by omega)
  have hc := hri.cell (i := 0) (by omega)
  rw [h1] at hc
  clear kc HS hh hri
  go_wp2_with fail
  refine (k1 _).mono ?_
  rintro e w2 ⟨rfl, hw⟩
  subst w2
  go_wp2_with fail
  refine (k2 _).mono ?_
  rintro e w2 ⟨rfl, hw⟩
  subst w2
  go_wp2
  go_ret
  exact ⟨rfl, f0.trans f1⟩
end Go.Proofs.YtpnjcpamhelaeaaDoor
