/- The statement ConfigNear, walked. -/
import Derived.Test.YtjbkmflbhlnbpaaNearF
import Derived.Test.YtjbkmflbhlnbpaaAwake
import Derived.Test.YtjbkmflbhlnbpaaChkD
import Derived.Test.YtjbkmflbhlnbpaaNearS
import Derived.Deep.Cut
import Derived.Deep.CutRange
import Derived.Deep.CutBlock
namespace Go.Proofs.Ytjbkmflbhlnbpaa
open Go.RowKit

/-- the nine cells of a config. -/
def CfgAt (w : World) (N : Nat) (cs : Array Value) : Prop := ∀ i, i < 9 → w.cell? ⟨N, i, none⟩ = some (cs.getD i undef)
theorem CfgAt.fr {S : Nat → Prop} {w w1 : World} {N : Nat} {cs : Array Value} (h : CfgAt w N cs) (f : Fr S w w1) (hs : ¬ S N) : CfgAt w1 N cs := fun i hi => f.cell (h i hi) hs
/-- a config of right labels, whatever its numbers. -/
def NearAt (w w0 : World) (N : Nat) (L : List Nat) : Prop :=
  ∃ (g c : Nat) (nodes : Int) (ao : Option Addr) (cl : List Nat) (cap : Nat) (frame depth quota wide beat elect : Int),
    CfgAt w N (cfg (.slice (some ⟨g, 0, none⟩) L.length c) nodes (.slice ao cl.length cap) frame depth quota wide beat elect) ∧ CameU w (some ⟨g, 0, none⟩) L ∧ FRow w ao cl cap ∧ (ao = none → cap = 0) ∧ Fr (fun _ => False) w0 w
theorem CutsOk.frow {w : World} {cv : Value} {cl : List Nat} (h : CutsOk w cv cl) (hb : ∀ x ∈ cl, x < 18446744073709551616) : ∃ ao cap, cv = .slice ao cl.length cap ∧ FRow w ao cl cap ∧ (ao = none → cap = 0) := by
  obtain ⟨h, hc⟩ := h
  rcases h with ⟨rfl, rfl⟩ | ⟨hl, g, c, rfl, hF⟩
  · exact ⟨none, 0, rfl, ⟨Nat.le_refl _, Nat.zero_le _, by simp, fun h => absurd rfl h⟩, fun _ => rfl⟩
  · exact ⟨_, c, rfl, ⟨(hc _ _ _ rfl).1, (hc _ _ _ rfl).2, hb, fun _ => ⟨g, 0, rfl, hF⟩⟩, fun h => by cases h⟩
theorem cfgAt_new (w : World) (up : Value) (nodes : Int) (cuts : Value) (frame depth quota wide beat elect : Int) : CfgAt (w.alloc (.cells (cfg up nodes cuts frame depth quota wide beat elect) 25)) w.heap.size (cfg up nodes cuts frame depth quota wide beat elect) := fun i hi => by
  rw [cell_of_row _ w.heap.size i _ 25 (0, 0) (heap_alloc_new w _)]
  match i, hi with
  | 0, _ | 1, _ | 2, _ | 3, _ | 4, _ | 5, _ | 6, _ | 7, _ | 8, _ => rfl
theorem near_mk {w w1 : World} {g c : Nat} {L : List Nat} (nodes : Int) (ao : Option Addr) (cl : List Nat) (cap : Nat) (frame depth quota wide beat elect : Int) (hA : Laid w1 g L) (hL : ∀ x ∈ L, x < 18446744073709551616) (h16 : L.length ≤ 16) (hC : FRow w1 ao cl cap) (hn : ao = none → cap = 0) (f : Fr (fun _ => False) w w1) :
    NearAt (w1.alloc (.cells #[.slice (some ⟨g, 0, none⟩) L.length c, .int .i64 nodes, .slice ao cl.length cap, .int .i64 frame, .int .i64 depth, .int .i64 quota, .int .i64 wide, .int .i64 beat, .int .i64 elect] 25)) w w1.heap.size L := by
  have fa : Fr (fun _ => False) w1 (w1.alloc (.cells #[.slice (some ⟨g, 0, none⟩) L.length c, .int .i64 nodes, .slice ao cl.length cap, .int .i64 frame, .int .i64 depth, .int .i64 quota, .int .i64 wide, .int .i64 beat, .int .i64 elect] 25)) := (Fr.refl _ _).alloc _
  exact ⟨g, c, nodes, ao, cl, cap, frame, depth, quota, wide, beat, elect, cfgAt_new w1 _ _ _ _ _ _ _ _ _, ⟨by unfold maxLen; omega, hL, fun _ => ⟨g, 0, rfl, hA.1.fr fa (by simp)⟩⟩, hC.fr fa, hn, f.trans fa⟩
theorem near_cuts {w w1 : World} {g c : Nat} {L : List Nat} (nodes frame depth quota wide beat elect n : Int) (hA : Laid w1 g L) (hL : ∀ x ∈ L, x < 18446744073709551616) (h16 : L.length ≤ 16) (f : Fr (fun _ => False) w w1) :
    NearAt ((w1.alloc (.cells #[.slice (some ⟨g, 0, none⟩) L.length c, .int .i64 nodes, .slice (some ⟨w1.heap.size + 1, 0, none⟩) 2 2, .int .i64 frame, .int .i64 depth, .int .i64 quota, .int .i64 wide, .int .i64 beat, .int .i64 elect] 25)).alloc (.cells #[.float .f64 0, .float .f64 (floatOfInt .f64 n)] 34)) w w1.heap.size L := by
  have fa : Fr (fun _ => False) w1 (w1.alloc (.cells #[.slice (some ⟨g, 0, none⟩) L.length c, .int .i64 nodes, .slice (some ⟨w1.heap.size + 1, 0, none⟩) 2 2, .int .i64 frame, .int .i64 depth, .int .i64 quota, .int .i64 wide, .int .i64 beat, .int .i64 elect] 25)) := (Fr.refl _ _).alloc _
  have hs : (w1.alloc (.cells #[.slice (some ⟨g, 0, none⟩) L.length c, .int .i64 nodes, .slice (some ⟨w1.heap.size + 1, 0, none⟩) 2 2, .int .i64 frame, .int .i64 depth, .int .i64 quota, .int .i64 wide, .int .i64 beat, .int .i64 elect] 25)).heap.size = w1.heap.size + 1 := by simp
  have hcf := cfgAt_new w1 (.slice (some ⟨g, 0, none⟩) L.length c) nodes (.slice (some ⟨w1.heap.size + 1, 0, none⟩) 2 2) frame depth quota wide beat elect
  unfold cfg at hcf
  obtain ⟨W, HW⟩ : ∃ W, W = w1.alloc (.cells #[.slice (some ⟨g, 0, none⟩) L.length c, .int .i64 nodes, .slice (some ⟨w1.heap.size + 1, 0, none⟩) 2 2, .int .i64 frame, .int .i64 depth, .int .i64 quota, .int .i64 wide, .int .i64 beat, .int .i64 elect] 25) := ⟨_, rfl⟩
  rw [← HW] at fa hs hcf ⊢
  have fb : Fr (fun _ => False) W (W.alloc (.cells #[.float .f64 0, .float .f64 (floatOfInt .f64 n)] 34)) := (Fr.refl _ _).alloc _
  refine ⟨g, c, nodes, some ⟨w1.heap.size + 1, 0, none⟩, [0, floatOfInt .f64 n], 2, frame, depth, quota, wide, beat, elect, hcf.fr fb (by simp), ⟨by unfold maxLen; omega, hL, fun _ => ⟨g, 0, rfl, (hA.1.fr fa (by simp)).fr fb (by simp)⟩⟩, ⟨by simp, by unfold maxLen; omega, ?_, fun _ => ⟨w1.heap.size + 1, 0, rfl, fun i hi => ?_⟩⟩, fun h => (by cases h), (f.trans fa).trans fb⟩
  · intro x hx
    simp at hx
    rcases hx with rfl | rfl
    · omega
    · exact floatOfInt_lt n
  · simp only [List.length_cons, List.length_nil] at hi
    rw [← hs, Nat.zero_add, cell_of_row _ W.heap.size i _ 34 (0, 0) (heap_alloc_new W _)]
    match i, hi with
    | 0, _ | 1, _ => rfl
set_option maxRecDepth 100000 in
set_option maxHeartbeats 4000000 in
theorem near_of (k nd : Nat) (L cl : List Nat) (hF : 0 < L.length ∧ L.length ≤ 16 ∧ (∀ x ∈ L, x < 18446744073709551616) ∧ Lat.ok L = true)
    (hS : ∀ w, Calls Try.prog 12 #[.int .u8 (k : Int)] w fun e w' => ∃ g c cv, e = .returned (.agg (cfg (.slice (some ⟨g, 0, none⟩) L.length c) (nd : Int) cv 128 512 1048576 8 2 4)) ∧ w.heap.size ≤ g ∧ Laid w' g L ∧ CutsOk w' cv cl ∧ Fr (fun _ => False) w w')
    (hcl : ∀ x ∈ cl, x < 18446744073709551616) (field : Nat) (hfi : field < 256) (n : Int) (w : World) :
    Calls Try.prog 4 #[.int .u8 (k : Int), .int .u8 (field : Int), .int .i64 n] w fun e w' => e = .returned (.bool true) ∧ Fr (fun _ => False) w w' := by
  have HS : Hid (∀ w, Calls _ _ _ _ _) := hS
  have hL16 := hF.2.1
  have HL : Hid (∀ x ∈ L, x < 18446744073709551616) := hF.2.2.1
  obtain ⟨f8, hf8, hf8'⟩ : ∃ f8 : Nat, (field : Int) % 8 = (f8 : Int) ∧ f8 < 8 := ⟨field % 8, by omega, by omega⟩
  have hf9 : (field : Int).tmod 8 = (f8 : Int) := by rw [Int.tmod_eq_emod_of_nonneg (by omega)]; exact hf8
  clear hS hF
  go_enter Try.func4, Try.ntmps4
  go_wp2_with fail
  refine (HS.out _).mono ?_
  rintro e w1 ⟨g, c, cv, rfl, _, hA, hC, f1⟩
  obtain ⟨ao, cap, rfl, hfr0, hno0⟩ := hC.frow hcl
  have HC : Hid (FRow w1 ao cl cap) := hfr0
  have HNO : Hid (ao = none → cap = 0) := hno0
  have HA : Hid (Laid w1 g L) := hA
  have F1 : Hid (Fr (fun _ => False) w w1) := f1
  unfold cfg
  clear hA hC f1 HS hfr0 hno0 hcl
  go_upto_block 0 with fail
  go_cut [18] from 10 to 64 (fun s wx => NearAt wx w w1.heap.size L)
  case first =>
    rcases (by omega : f8 = 0 ∨ f8 = 1 ∨ f8 = 2 ∨ f8 = 3 ∨ f8 = 4 ∨ f8 = 5 ∨ f8 = 6 ∨ f8 = 7) with rfl | rfl | rfl | rfl | rfl | rfl | rfl | rfl
    · go_wp2_with fail
      go_meet
      exact near_mk _ _ _ _ _ _ _ _ _ _ HA.out HL.out hL16 HC.out HNO.out F1.out
    · go_wp2_with fail
      go_meet
      exact near_mk _ _ _ _ _ _ _ _ _ _ HA.out HL.out hL16 HC.out HNO.out F1.out
    · go_wp2_with fail
      go_meet
      exact near_mk _ _ _ _ _ _ _ _ _ _ HA.out HL.out hL16 HC.out HNO.out F1.out
    · go_wp2_with fail
      go_meet
      exact near_mk _ _ _ _ _ _ _ _ _ _ HA.out HL.out hL16 HC.out HNO.out F1.out
    · go_wp2_with fail
      go_meet
      exact near_mk _ _ _ _ _ _ _ _ _ _ HA.out HL.out hL16 HC.out HNO.out F1.out
    · go_wp2_with fail
      go_meet
      exact near_mk _ _ _ _ _ _ _ _ _ _ HA.out HL.out hL16 HC.out HNO.out F1.out
    · go_wp2_with fail
      go_meet
      exact near_mk _ _ _ _ _ _ _ _ _ _ HA.out HL.out hL16 HC.out HNO.out F1.out
    · go_wp2_with fail
      go_meet
      exact near_cuts _ _ _ _ _ _ _ n HA.out HL.out hL16 F1.out
  case rest =>
    have hN : Hid (w.heap.size ≤ w1.heap.size) := F1.out.size
    clear HC HNO HA F1 hf8 hf8' hf9
    obtain ⟨g2, c2, nodes, ao2, cl2, cap2, frame, depth, quota, wide, beat, elect, hcf, hU, hfr, hno, fw⟩ := hcut
    obtain ⟨R, HN0, HC0⟩ := both (some ⟨g2, 0, none⟩) c2 L cl2 ao2 cap2 nodes frame depth quota wide beat elect wc hU hfr hno
    unfold cfg at HN0 HC0
    have HNN : Hid _ := HN0
    have HCC : Hid _ := HC0
    have HCF : Hid (CfgAt wc w1.heap.size (cfg (.slice (some ⟨g2, 0, none⟩) L.length c2) nodes (.slice ao2 cl2.length cap2) frame depth quota wide beat elect)) := hcf
    have FW : Hid (Fr (fun _ => False) w wc) := fw
    have c0 : wc.cell? ⟨w1.heap.size, 0, none⟩ = some (.slice (some ⟨g2, 0, none⟩) L.length c2) := hcf 0 (by omega)
    have c1 : wc.cell? ⟨w1.heap.size, 1, none⟩ = some (.int .i64 nodes) := hcf 1 (by omega)
    have c2' : wc.cell? ⟨w1.heap.size, 2, none⟩ = some (.slice ao2 cl2.length cap2) := hcf 2 (by omega)
    have c3 : wc.cell? ⟨w1.heap.size, 3, none⟩ = some (.int .i64 frame) := hcf 3 (by omega)
    have c4 : wc.cell? ⟨w1.heap.size, 4, none⟩ = some (.int .i64 depth) := hcf 4 (by omega)
    have c5 : wc.cell? ⟨w1.heap.size, 5, none⟩ = some (.int .i64 quota) := hcf 5 (by omega)
    have c6 : wc.cell? ⟨w1.heap.size, 6, none⟩ = some (.int .i64 wide) := hcf 6 (by omega)
    have c7 : wc.cell? ⟨w1.heap.size, 7, none⟩ = some (.int .i64 beat) := hcf 7 (by omega)
    have c8 : wc.cell? ⟨w1.heap.size, 8, none⟩ = some (.int .i64 elect) := hcf 8 (by omega)
    clear HN0 HC0 hcf hU hfr hno fw
    go_wp2_with fail
    refine (HNN.out wc (Fr.refl _ _)).mono ?_
    rintro e w3 ⟨hres, f3⟩
    have F3 : Hid (Fr (fun _ => False) wc w3) := f3
    clear c0 c1 c2' c3 c4 c5 c6 c7 c8 f3 HNN
    rcases hres with ⟨rfl, p, rfl⟩ | ⟨hz, rfl⟩
    · unfold madeAt
      go_wp2_with fail
      refine (awake_any _).mono ?_
      rintro e w4 ⟨rfl, f4⟩
      have F4 : Hid (Fr (fun _ => False) wc w4) := F3.out.trans f4
      have hcf := HCF.out.fr F4.out (by simp)
      have d0 : w4.cell? ⟨w1.heap.size, 0, none⟩ = some (.slice (some ⟨g2, 0, none⟩) L.length c2) := hcf 0 (by omega)
      have d1 : w4.cell? ⟨w1.heap.size, 1, none⟩ = some (.int .i64 nodes) := hcf 1 (by omega)
      have d2 : w4.cell? ⟨w1.heap.size, 2, none⟩ = some (.slice ao2 cl2.length cap2) := hcf 2 (by omega)
      have d3 : w4.cell? ⟨w1.heap.size, 3, none⟩ = some (.int .i64 frame) := hcf 3 (by omega)
      have d4 : w4.cell? ⟨w1.heap.size, 4, none⟩ = some (.int .i64 depth) := hcf 4 (by omega)
      have d5 : w4.cell? ⟨w1.heap.size, 5, none⟩ = some (.int .i64 quota) := hcf 5 (by omega)
      have d6 : w4.cell? ⟨w1.heap.size, 6, none⟩ = some (.int .i64 wide) := hcf 6 (by omega)
      have d7 : w4.cell? ⟨w1.heap.size, 7, none⟩ = some (.int .i64 beat) := hcf 7 (by omega)
      have d8 : w4.cell? ⟨w1.heap.size, 8, none⟩ = some (.int .i64 elect) := hcf 8 (by omega)
      clear hcf f4
      go_wp2_with fail
      refine (HCC.out _ F4.out).mono ?_
      rintro e w5 ⟨rfl, f5⟩
      clear d0 d1 d2 d3 d4 d5 d6 d7 d8
      go_wp2
      go_ret
      exact ⟨rfl, (FW.out.trans F4.out).trans f5⟩
    · unfold nilErr
      go_wp2_with fail
      refine (awake_any _).mono ?_
      rintro e w4 ⟨rfl, f4⟩
      have F4 : Hid (Fr (fun _ => False) wc w4) := F3.out.trans f4
      have hcf := HCF.out.fr F4.out (by simp)
      have d0 : w4.cell? ⟨w1.heap.size, 0, none⟩ = some (.slice (some ⟨g2, 0, none⟩) L.length c2) := hcf 0 (by omega)
      have d1 : w4.cell? ⟨w1.heap.size, 1, none⟩ = some (.int .i64 nodes) := hcf 1 (by omega)
      have d2 : w4.cell? ⟨w1.heap.size, 2, none⟩ = some (.slice ao2 cl2.length cap2) := hcf 2 (by omega)
      have d3 : w4.cell? ⟨w1.heap.size, 3, none⟩ = some (.int .i64 frame) := hcf 3 (by omega)
      have d4 : w4.cell? ⟨w1.heap.size, 4, none⟩ = some (.int .i64 depth) := hcf 4 (by omega)
      have d5 : w4.cell? ⟨w1.heap.size, 5, none⟩ = some (.int .i64 quota) := hcf 5 (by omega)
      have d6 : w4.cell? ⟨w1.heap.size, 6, none⟩ = some (.int .i64 wide) := hcf 6 (by omega)
      have d7 : w4.cell? ⟨w1.heap.size, 7, none⟩ = some (.int .i64 beat) := hcf 7 (by omega)
      have d8 : w4.cell? ⟨w1.heap.size, 8, none⟩ = some (.int .i64 elect) := hcf 8 (by omega)
      clear hcf f4
      go_wp2_with fail
      refine (HCC.out _ F4.out).mono ?_
      rintro e w5 ⟨rfl, f5⟩
      clear d0 d1 d2 d3 d4 d5 d6 d7 d8
      go_wp2
      go_ret
      exact ⟨ret_bool (by simp), (FW.out.trans F4.out).trans f5⟩
theorem CutsAt.ok {w : World} {cv : Value} (h : CutsAt w cv []) : CutsOk w cv [] := ⟨h, fun a n c e => by
  rcases h with ⟨_, rfl⟩ | ⟨h, _⟩
  · cases e
  · simp at h⟩
theorem near_walk (k : Nat) (hk' : k < 256) (field : Nat) (hfi : field < 256) (n : Int) (w : World) :
    Calls Try.prog 4 #[.int .u8 (k : Int), .int .u8 (field : Int), .int .i64 n] w fun e w' => e = .returned (.bool true) ∧ Fr (fun _ => False) w w' := by
  have en : 1 + (k : Int) / 5 % 3 = ((1 + k / 5 % 3 : Nat) : Int) := by omega
  by_cases h5 : (k : Int) % 5 = 4 <;> by_cases hc : (k : Int) / 16 % 2 = 1
  · exact near_of k _ [3, 2] [0] (lats_fine 0) (fun w => small_d2 k _ hk' en h5 hc w) (by simp) field hfi n w
  · exact near_of k _ [3, 2] [] (lats_fine 0) (fun w => (small_c k _ hk' en h5 (beq_eq_false_iff_ne.2 hc) w).mono fun e w' ⟨g, c, cv, h1, h2, h3, h4, h5⟩ => ⟨g, c, cv, h1, h2, h3, h4.ok, h5⟩) (by simp) field hfi n w
  · exact near_of k _ (lats k) [0] (lats_fine k) (fun w => small_b2 k _ hk' en (beq_eq_false_iff_ne.2 h5) hc w) (by simp) field hfi n w
  · exact near_of k _ (lats k) [] (lats_fine k) (fun w => (small_a k _ hk' en (beq_eq_false_iff_ne.2 h5) (beq_eq_false_iff_ne.2 hc) w).mono fun e w' ⟨g, c, cv, h1, h2, h3, h4, h5⟩ => ⟨g, c, cv, h1, h2, h3, h4.ok, h5⟩) (by simp) field hfi n w
end Go.Proofs.Ytjbkmflbhlnbpaa
