/- The statement ConfigLanes, walked. -/
import Derived.Test.YtjbkmflbhlnbpaaLaneA
import Derived.Test.YtjbkmflbhlnbpaaNearW
import Derived.Test.YtjbkmflbhlnbpaaCfgU
import Derived.Test.YtjbkmflbhlnbpaaChkC
import Derived.Deep.RegionHeld3
import Derived.Deep.RegionWith
namespace Go.Proofs.Ytjbkmflbhlnbpaa
open Go.RowKit

theorem lane_facts (L s m x y q : Nat) (bt : Int) (hm : L * s = m) (hq : x * s = q) (hx : x < L) (hy : y < s) :
    laneI L s (x : Int) (y : Int) = (q : Int) + (y : Int) ∧ labelI L s bt ((q : Int) + (y : Int)) = (x : Int) ∧ partI L s ((q : Int) + (y : Int)) = (y : Int) ∧ laneI L s (x : Int) 0 = (q : Int) ∧ q + s ≤ m := by
  have hqm : x * s + s ≤ L * s := by
    have : (x + 1) * s ≤ L * s := Nat.mul_le_mul_right _ hx
    rwa [Nat.add_mul, Nat.one_mul] at this
  rw [hq, hm] at hqm
  have hs0 : 0 < s := by omega
  have hd1 : (q + y) / s = x := by rw [← hq, Nat.mul_comm, Nat.mul_add_div hs0, Nat.div_eq_of_lt hy, Nat.add_zero]
  have hd2 : (q + y) % s = y := by rw [← hq, Nat.mul_comm, Nat.mul_add_mod, Nat.mod_eq_of_lt hy]
  have hqy : (q : Int) + (y : Int) = ((q + y : Nat) : Int) := by simp
  refine ⟨?_, ?_, ?_, ?_, hqm⟩
  · unfold laneI
    rw [if_pos ⟨by omega, by omega, by omega, by omega⟩, ← Int.natCast_mul, hq]
  · unfold labelI
    rw [hm, if_pos ⟨by omega, by omega⟩, if_neg (by omega), hqy, ← Int.natCast_ediv, hd1]
  · unfold partI
    rw [hm, if_pos ⟨by omega, by omega⟩, hqy, ← Int.natCast_emod, hd2]
  · unfold laneI
    rw [if_pos ⟨by omega, by omega, by omega, by omega⟩, ← Int.natCast_mul, hq, Int.add_zero]
theorem lane_none (L s : Nat) (A B : Int) (h : ¬ (0 ≤ A ∧ A < (L : Int) ∧ 0 ≤ B ∧ B < (s : Int))) : laneI L s A B = -1 := by
  unfold laneI
  rw [if_neg h]
theorem wrap_lane (q : Nat) (h : q ≤ 128) : wrap64 (q : Int) = (q : Int) := by
  simp [wrap64]
  omega
theorem wrap_i64_lane (z : Int) (h0 : 0 ≤ z) (h : z ≤ 128) : IntKind.i64.wrap z = z := by
  simp [IntKind.wrap, IntKind.bits, IntKind.signed]; omega
theorem wrap64_lane (z : Int) (h0 : 0 ≤ z) (h : z ≤ 128) : wrap64 z = z := by
  simp [wrap64]; omega
theorem cast_le128 (q y : Nat) (h : q + y ≤ 128) : 0 ≤ (q : Int) + (y : Int) ∧ (q : Int) + (y : Int) ≤ 128 := by omega
theorem lane_ends (L s m : Nat) (bt : Int) (hm : L * s = m) : labelI L s bt (-1) = -1 ∧ labelI L s bt ((m : Int) + 1) = -1 ∧ partI L s (-1) = -1 ∧ partI L s ((m : Int) + 1) = -1 := by
  refine ⟨?_, ?_, ?_, ?_⟩
  · unfold labelI; rw [if_neg (by omega)]
  · unfold labelI; rw [hm, if_neg (by omega)]
  · unfold partI; rw [if_neg (by omega)]
  · unfold partI; rw [hm, if_neg (by omega)]
set_option maxRecDepth 100000 in
set_option maxHeartbeats 80000000 in
theorem lanes_of (k nd : Nat) (L cl0 : List Nat) (hF : 0 < L.length ∧ L.length ≤ 16 ∧ (∀ x ∈ L, x < 18446744073709551616) ∧ Lat.ok L = true) (hnd : 1 ≤ nd ∧ nd ≤ 7) (hnd3 : nd ≤ 3)
    (hS : ∀ w, Calls Try.prog 12 #[.int .u8 (k : Int)] w fun e w' => ∃ g c cv, e = .returned (.agg (cfg (.slice (some ⟨g, 0, none⟩) L.length c) (nd : Int) cv 128 512 1048576 8 2 4)) ∧ w.heap.size ≤ g ∧ Laid w' g L ∧ CutsOk w' cv cl0 ∧ Fr (fun _ => False) w w')
    (hcl0 : ∀ x ∈ cl0, x < 18446744073709551616) (ao : Option Addr) (cl : List Nat) (cap : Nat) (w : World) (hf : FRow w ao cl cap) (hnone : ao = none → cap = 0) :
    Calls Try.prog 5 #[.int .u8 (k : Int), .slice ao cl.length cap] w fun e w' => e = .returned (.bool true) ∧ Fr (fun _ => False) w w' := by
  have HS : Hid (∀ w, Calls _ _ _ _ _) := hS
  have HF : Hid (FRow w ao cl cap) := hf
  have HN : Hid (ao = none → cap = 0) := hnone
  have hl1 : cl.length ≤ 9223372036854775807 := by have := hf.1; have := hf.2.1; unfold maxLen at this; omega
  clear hS hf hnone
  by_cases h7 : 7 < cl.length
  · go_enter Try.func5, Try.ntmps5
    go_wp2_with fail
    refine (awake_any w).mono ?_
    rintro e w1 ⟨rfl, f1⟩
    go_wp2_with fail
    refine (awake_any w1).mono ?_
    rintro e w2 ⟨rfl, f2⟩
    go_wp2
    go_ret
    exact ⟨rfl, f1.trans f2⟩
  go_enter Try.func5, Try.ntmps5
  go_wp2_with fail
  refine (awake_any w).mono ?_
  rintro e w1 ⟨rfl, f1⟩
  have F1 : Hid (Fr (fun _ => False) w w1) := f1
  clear f1
  go_wp2_with fail
  refine (HS.out _).mono ?_
  rintro e w2 ⟨g, c, cv, rfl, _, hA, hC, f2⟩
  obtain ⟨ao0, cap0, rfl, _, _⟩ := hC.frow hcl0
  have f02 := F1.out.trans f2
  unfold cfg
  have fA : Fr (fun _ => False) w2 (w2.alloc (.cells #[.slice (some ⟨g, 0, none⟩) L.length c, .int .i64 (nd : Int), .slice ao cl.length cap, .int .i64 128, .int .i64 512, .int .i64 1048576, .int .i64 8, .int .i64 2, .int .i64 4] 25)) := (Fr.refl _ _).alloc _
  have hcf := cfgAt_new w2 (.slice (some ⟨g, 0, none⟩) L.length c) (nd : Int) (.slice ao cl.length cap) 128 512 1048576 8 2 4
  have KN : Rises cl → _ := fun hr => cnew_all g c nd L cl ao cap _ hF hnd (hA.1.fr fA (by simp)) ((HF.out.fr f02).fr fA) (by omega) hr HN.out
  have KB : ¬ Rises cl → _ := fun hr => cnew_bad1 (some ⟨g, 0, none⟩) L.length c ao cl.length cap false (nd : Int) 128 512 1048576 8 2 4 (w2.alloc (.cells #[.slice (some ⟨g, 0, none⟩) L.length c, .int .i64 (nd : Int), .slice ao cl.length cap, .int .i64 128, .int .i64 512, .int .i64 1048576, .int .i64 8, .int .i64 2, .int .i64 4] 25)) (fun W fW => by
    have := rising_any ao cl cap W (((HF.out.fr f02).fr fA).fr fW)
    rw [rises_no hr] at this
    exact this) (fun h => by have := h.2.2.1; simp at this)
  unfold cfg at hcf KN KB
  obtain ⟨W, HW⟩ : ∃ W, Hid (W = w2.alloc (.cells #[.slice (some ⟨g, 0, none⟩) L.length c, .int .i64 (nd : Int), .slice ao cl.length cap, .int .i64 128, .int .i64 512, .int .i64 1048576, .int .i64 8, .int .i64 2, .int .i64 4] 25)) := ⟨_, rfl⟩
  rw [← HW.out] at KN KB fA hcf
  obtain ⟨cb, Hcb⟩ : ∃ cb, Hid (w2.heap.size = cb) := ⟨_, rfl⟩
  rw [Hcb.out] at hcf
  have HKN : Hid (Rises cl → _) := KN
  have HKB : Hid (¬ Rises cl → _) := KB
  have HAW : Hid (At .u64 W g 0 L) := hA.1.fr fA (by simp)
  have FW : Hid (Fr (fun _ => False) w W) := f02.trans fA
  have HCF : Hid (CfgAt W cb (cfg (.slice (some ⟨g, 0, none⟩) L.length c) (nd : Int) (.slice ao cl.length cap) 128 512 1048576 8 2 4)) := hcf
  have c0 : W.cell? ⟨cb, 0, none⟩ = some (.slice (some ⟨g, 0, none⟩) L.length c) := hcf 0 (by omega)
  have c1 : W.cell? ⟨cb, 1, none⟩ = some (.int .i64 (nd : Int)) := hcf 1 (by omega)
  have c2 : W.cell? ⟨cb, 2, none⟩ = some (.slice ao cl.length cap) := hcf 2 (by omega)
  have c3 : W.cell? ⟨cb, 3, none⟩ = some (.int .i64 128) := hcf 3 (by omega)
  have c4 : W.cell? ⟨cb, 4, none⟩ = some (.int .i64 512) := hcf 4 (by omega)
  have c5 : W.cell? ⟨cb, 5, none⟩ = some (.int .i64 1048576) := hcf 5 (by omega)
  have c6 : W.cell? ⟨cb, 6, none⟩ = some (.int .i64 8) := hcf 6 (by omega)
  have c7 : W.cell? ⟨cb, 7, none⟩ = some (.int .i64 2) := hcf 7 (by omega)
  have c8 : W.cell? ⟨cb, 8, none⟩ = some (.int .i64 4) := hcf 8 (by omega)
  clear KN KB fA hcf hA hC f2 f02 HS F1
  go_upto_region 5 with fail
  rw [← HW.out, Hcb.out]
  by_cases hr : Rises cl
  case neg =>
    go_wp2_with fail
    refine (HKB.out hr).mono ?_
    rintro e w3 ⟨rfl, f3⟩
    have kr := refrising_any ao cl cap w3 (HF.out.fr (FW.out.trans f3))
    rw [rises_no hr] at kr
    have HKR : Hid (Calls _ _ _ _ _) := kr
    unfold nilErr
    clear kr c0 c1 c2 c3 c4 c5 c6 c7 c8 HKN HKB
    go_wp2_with fail
    refine HKR.out.mono ?_
    rintro e w4 ⟨rfl, q, hw4⟩
    have F4 : Hid (Fr (fun _ => False) w w4) := by show Fr _ _ _; rw [hw4]; exact (FW.out.trans f3).drewN q
    clear hw4 f3 HKR
    go_wp2
    go_ret
    exact ⟨rfl, F4.out⟩
  go_wp2_with fail
  refine (HKN.out hr).mono ?_
  rintro e w3 ⟨p, a2, c2', cp, rfl, hP, _, f3⟩
  clear c0 c1 c2 c3 c4 c5 c6 c7 c8 HKN HKB hr
  have hF2 := fine_of L hF.2.1 hF.1 hF.2.2.1 hF.2.2.2
  obtain ⟨s, Hs⟩ : ∃ s, Hid (cl.length + 1 = s) := ⟨_, rfl⟩
  have hs1 : (cl.length : Int) + 1 = (s : Int) := by have := Hs.out; omega
  have hs8 : 1 ≤ s ∧ s ≤ 8 := by have := Hs.out; omega
  obtain ⟨m, Hm⟩ : ∃ m, Hid (L.length * s = m) := ⟨_, rfl⟩
  have hmb : m ≤ 128 := by rw [← Hm.out]; exact Nat.mul_le_mul hF.2.1 hs8.2
  have hm1 : 1 ≤ m := by rw [← Hm.out]; exact Nat.mul_pos hF.1 hs8.1
  have hwp : wrap64 ((L.length : Int) * (s : Int)) = (m : Int) := by
    rw [← Int.natCast_mul, Hm.out]
    simp [wrap64]
    omega
  obtain ⟨bt, Hbt⟩ : ∃ v, Hid ((Lat.order L).getD 0 0 = v) := ⟨_, rfl⟩
  have K14 : Hid (∀ W, Fr (fun _ => False) w3 W → Calls Try.prog 14 #[.pointer (some ⟨p, 0, none⟩)] W fun e w' => e = .returned (.int .i64 (s : Int)) ∧ w' = W) := fun W f => by have := shards_any (hP.fr f) (by omega); rw [Hs.out] at this; exact this
  have K15 : Hid (∀ W, Fr (fun _ => False) w3 W → Calls Try.prog 15 #[.pointer (some ⟨p, 0, none⟩)] W fun e w' => e = .returned (.int .i64 ((m : Int) + 1)) ∧ w' = W) := fun W f => by have := lanes_any (hP.fr f) (by omega) hF.2.1; rw [Hs.out, Hm.out] at this; exact this
  have K16 : Hid (∀ W, Fr (fun _ => False) w3 W → Calls Try.prog 16 #[.pointer (some ⟨p, 0, none⟩)] W fun e w' => e = .returned (.int .i64 (m : Int)) ∧ w' = W) := fun W f => by have := rules_any (hP.fr f) (by omega) hF.2.1; rw [Hs.out, Hm.out] at this; exact this
  have K17 : Hid (∀ W, Fr (fun _ => False) w3 W → Calls Try.prog 17 #[.pointer (some ⟨p, 0, none⟩)] W fun e w' => e = .returned (.int .i64 (L.length : Int)) ∧ w' = W) := fun W f => l0_any (hP.fr f)
  have K18 : Hid (∀ W x, Fr (fun _ => False) w3 W → Calls Try.prog 18 #[.pointer (some ⟨p, 0, none⟩), .int .i64 x] W fun e w' => e = .returned (.int .i64 (partI L.length s x)) ∧ w' = W) := fun W x f => by have := part_any (hP.fr f) hF.2.1 (by omega) x; rw [Hs.out] at this; exact this
  have K19 : Hid (∀ W x, Fr (fun _ => False) w3 W → Calls Try.prog 19 #[.pointer (some ⟨p, 0, none⟩), .int .i64 x] W fun e w' => e = .returned (.int .i64 (labelI L.length s (bt : Int) x)) ∧ w' = W) := fun W x f => by have := label_any (hP.fr f) hF2 (by omega) x; rw [Hs.out, Hbt.out] at this; exact this
  have K21 : Hid (∀ W a i, Fr (fun _ => False) w3 W → Calls Try.prog 21 #[.pointer (some ⟨p, 0, none⟩), .int .i64 a, .int .i64 i] W fun e w' => e = .returned (.int .i64 (laneI L.length s a i)) ∧ w' = W) := fun W a i f => by have := lane_any (hP.fr f) (by omega) hF.2.1 a i; rw [Hs.out] at this; exact this
  have K22 : Hid (∀ W a, Fr (fun _ => False) w3 W → Calls Try.prog 22 #[.pointer (some ⟨p, 0, none⟩), .int .i64 a] W fun e w' => e = .returned (.int .i64 (laneI L.length s a 0)) ∧ w' = W) := fun W a f => by have := chief_any (hP.fr f) (by omega) hF.2.1 a; rw [Hs.out] at this; exact this
  have K23 : Hid (∀ W, Fr (fun _ => False) w3 W → Calls Try.prog 23 #[.pointer (some ⟨p, 0, none⟩)] W fun e w' => e = .returned (.int .u64 ((2 ^ nd - 1 : Nat) : Int)) ∧ w' = W) := fun W f => all_any (hP.fr f) nd rfl hnd.2
  have K24 : Hid (∀ W i, Fr (fun _ => False) w3 W → Calls Try.prog 24 #[.pointer (some ⟨p, 0, none⟩), .int .i64 i] W fun e w' => e = .returned (.bool (decide (0 ≤ i) && decide (i ≤ (nd : Int) - 1))) ∧ w' = W) := fun W i f => node_any (hP.fr f) (by omega) i
  have K20 : Hid (∀ W, Fr (fun _ => False) w3 W → Calls Try.prog 20 #[.slice (some ⟨g, 0, none⟩) L.length c] W fun e w' => ∃ a9 c9, e = .returned (.slice (some ⟨a9, 0, none⟩) L.length c9) ∧ w'.cell? ⟨a9, 0, none⟩ = some (.int .i64 (bt : Int)) ∧ Fr (fun _ => False) w3 w') := fun V f => by
    refine (reforder_any g 0 c L V hF.2.1 hF.2.2.1 ((HAW.out.fr f3 (by simp)).fr f (by simp))).mono ?_
    rintro e w' ⟨v, rfl, ho, f'⟩
    obtain ⟨a9, c9, rfl, hrow⟩ := ho.row
    have hlen : (Lat.order L).length = L.length := Lat.order_length L
    obtain ⟨g9, rfl, _, hat, _⟩ := hrow (fun e => by rw [e] at hlen; simp at hlen; have := hF.1; omega)
    refine ⟨g9, c9, by rw [hlen], ?_, f.trans f'⟩
    have := hat 0 (by rw [hlen]; exact hF.1)
    rw [Hbt.out] at this
    exact this
  have HC3 : Hid (CfgAt w3 cb (cfg (.slice (some ⟨g, 0, none⟩) L.length c) (nd : Int) (.slice ao cl.length cap) 128 512 1048576 8 2 4)) := HCF.out.fr f3 (by simp)
  have F3 : Hid (Fr (fun _ => False) w w3) := FW.out.trans f3
  have d0 : w3.cell? ⟨cb, 0, none⟩ = some (.slice (some ⟨g, 0, none⟩) L.length c) := HC3.out 0 (by omega)
  have hL16 : L.length ≤ 16 := hF.2.1
  have hL1 : 1 ≤ L.length := hF.1
  have ep : partI L.length s (m : Int) = -1 := by unfold partI; rw [Hm.out, if_neg (by omega)]
  have el : labelI L.length s (bt : Int) (m : Int) = (bt : Int) := by unfold labelI; rw [Hm.out, if_pos (by omega), if_pos rfl]
  clear HCF f3 hP HAW FW hF2 hF
  unfold madeAt
  go_upto_region 10 with fail
  have fd : Hid (Fr (fun _ => False) w3 w3.drew) := (Fr.refl _ _).drew
  have ep' : ∀ W, Fr (fun _ => False) w3 W → Calls Try.prog 18 #[.pointer (some ⟨p, 0, none⟩), .int .i64 (m : Int)] W fun e w' => e = .returned (.int .i64 (-1)) ∧ w' = W := fun W f => by have := K18.out W (m : Int) f; rw [ep] at this; exact this
  have el' : ∀ W, Fr (fun _ => False) w3 W → Calls Try.prog 19 #[.pointer (some ⟨p, 0, none⟩), .int .i64 (m : Int)] W fun e w' => e = .returned (.int .i64 (bt : Int)) ∧ w' = W := fun W f => by have := K19.out W (m : Int) f; rw [el] at this; exact this
  have EP : Hid (∀ W, Fr _ _ _ → _) := ep'
  have EL : Hid (∀ W, Fr _ _ _ → _) := el'
  clear ep el ep' el'
  have hwm : IntKind.i64.wrap (m : Int) = (m : Int) := by simp [IntKind.wrap, IntKind.bits, IntKind.signed]; omega
  have nb1 : ((s : Int) != (s : Int)) = false := by simp
  have nb2 : ((m : Int) + 1 != (m : Int) + 1) = false := by simp
  have nb3 : ((m : Int) != (m : Int)) = false := by simp
  have nb4 : ((L.length : Int) != (L.length : Int)) = false := by simp
  have nb5 : ((bt : Int) != (bt : Int)) = false := by simp
  simp only [hwp]
  go_cut [87] from 44 to 87 (fun s wx => s = .bool false ∧ Fr (fun _ => False) w3 wx)
  case first =>
    clear K18 K19 K21 K22 K23 K24 HC3 F3 HF HN HW Hcb Hs Hm Hbt hnd hcl0 hwp hs8 hmb hm1 hL16
    have d0' : w3.drew.cell? ⟨cb, 0, none⟩ = some (.slice (some ⟨g, 0, none⟩) L.length c) := d0
    have hz0 : (0 : Int) < (L.length : Int) := by omega
    clear hL1
    go_region_with (first
      | (go_at_call 20; refine (K20.out _ fd.out).mono ?_; rintro e w9 ⟨a9, c9, rfl, hb9, f9⟩; have F9 : Hid (Fr (fun _ => False) w3 w9) := f9; clear f9)
      | (go_at_call 19; refine (EL.out _ fd.out).mono ?_; rintro e w9 ⟨rfl, hw⟩; subst w9)
      | (go_at_call 18; refine (EP.out _ fd.out).mono ?_; rintro e w9 ⟨rfl, hw⟩; subst w9)
      | (go_at_call 17; refine (K17.out _ fd.out).mono ?_; rintro e w9 ⟨rfl, hw⟩; subst w9)
      | (go_at_call 16; refine (K16.out _ fd.out).mono ?_; rintro e w9 ⟨rfl, hw⟩; subst w9)
      | (go_at_call 15; refine (K15.out _ fd.out).mono ?_; rintro e w9 ⟨rfl, hw⟩; subst w9)
      | (go_at_call 14; refine (K14.out _ fd.out).mono ?_; rintro e w9 ⟨rfl, hw⟩; subst w9))
    all_goals
      go_wp2_with fail
      go_meet
      exact ⟨rfl, F9.out⟩
  case rest =>
    obtain ⟨rfl, fc⟩ := hcut
    have FC : Hid (Fr (fun _ => False) w3 wc) := fc
    have F9 : Hid (Fr (fun _ => False) w wc) := F3.out.trans fc
    have e0 : wc.cell? ⟨cb, 0, none⟩ = some (.slice (some ⟨g, 0, none⟩) L.length c) := fc.cell d0 (by simp)
    have e1 : wc.cell? ⟨cb, 1, none⟩ = some (.int .i64 (nd : Int)) := fc.cell (HC3.out 1 (by omega)) (by simp)
    clear fc d0 HC3 F3 fd EP EL K14 K15 K16 K17 K20 nb1 nb2 nb3 nb4 nb5 hwm hwp
    clear HF HN HW Hcb hcl0
    go_wp2
    go_loop [10, 11, 12] (fun a _ _ => ∃ A : Int, -1 ≤ A ∧ A ≤ (L.length : Int) + 1 ∧ a = .int .i64 A) (fun a _ _ => ((L.length : Int) + 1 - intOf a).toNat)
    case atStart => exact ⟨-1, by omega, by omega, rfl⟩
    case round =>
      obtain ⟨A, hA0, hA1, rfl⟩ := hrel
      by_cases hltA : A ≤ (L.length : Int)
      · go_wp2
        go_loop [11, 12] (fun i _ => ∃ B : Int, -1 ≤ B ∧ B ≤ (s : Int) + 1 ∧ i = .int .i64 B) (fun i _ => ((s : Int) + 1 - intOf i).toNat)
        case atStart => exact ⟨-1, by omega, by omega, rfl⟩
        case round =>
          obtain ⟨B, hB0, hB1, rfl⟩ := hrel
          by_cases hltB : B ≤ (s : Int)
          · by_cases hok : 0 ≤ A ∧ A < (L.length : Int) ∧ 0 ≤ B ∧ B < (s : Int)
            · obtain ⟨x, rfl⟩ : ∃ x : Nat, A = x := ⟨A.toNat, by omega⟩
              obtain ⟨y, rfl⟩ : ∃ y : Nat, B = y := ⟨B.toNat, by omega⟩
              obtain ⟨q, Hq⟩ : ∃ q, Hid (x * s = q) := ⟨_, rfl⟩
              have hxL : x < L.length := Int.ofNat_lt.1 hok.2.1
              have hyS : y < s := Int.ofNat_lt.1 hok.2.2.2
              obtain ⟨l1, l2, l3, l4, hqm⟩ := lane_facts L.length s m x y q (bt : Int) Hm.out Hq.out hxL hyS
              have hq128 : q + y ≤ 128 := Nat.le_trans (Nat.add_le_add_left (Nat.le_of_lt hyS) q) (Nat.le_trans hqm hmb)
              have hq0 : q ≤ 128 := Nat.le_trans (Nat.le_add_right _ _) hq128
              have hwx : wrap64 ((x : Int) * (s : Int)) = (q : Int) := by
                rw [← Int.natCast_mul, Hq.out]
                exact wrap_lane q hq0
              have q21 := K21.out wc (x : Int) (y : Int) FC.out
              rw [l1] at q21
              have q19 := K19.out wc ((q : Int) + (y : Int)) FC.out
              rw [l2] at q19
              have q18 := K18.out wc ((q : Int) + (y : Int)) FC.out
              rw [l3] at q18
              have q22 := K22.out wc (x : Int) FC.out
              rw [l4] at q22
              have hx1 : ¬ (L.length : Int) ≤ (x : Int) := Int.not_le.2 hok.2.1
              have hy1 : ¬ (s : Int) ≤ (y : Int) := Int.not_le.2 hok.2.2.2
              have nx0 : (0 : Int) ≤ (x : Int) := Int.natCast_nonneg _
              have ny0 : (0 : Int) ≤ (y : Int) := Int.natCast_nonneg _
              have hqy2 : IntKind.i64.wrap ((q : Int) + (y : Int)) = (q : Int) + (y : Int) := wrap_i64_lane _ (cast_le128 q y hq128).1 (cast_le128 q y hq128).2
              have hqy3 : wrap64 ((q : Int) + (y : Int)) = (q : Int) + (y : Int) := wrap64_lane _ (cast_le128 q y hq128).1 (cast_le128 q y hq128).2
              have nbx : ((x : Int) != (x : Int)) = false := by simp
              have nby : ((y : Int) != (y : Int)) = false := by simp
              have nbqq : ((q : Int) != (q : Int)) = false := by simp
              obtain ⟨z, Hz⟩ : ∃ z : Int, Hid ((q : Int) + (y : Int) = z) := ⟨_, rfl⟩
              rw [Hz.out] at q21 q19 q18
              rw [Hz.out] at hqy2 hqy3
              have hqz : (q : Int) + (y : Int) = z := Hz.out
              have nbz : (z != z) = false := by simp
              clear l1 l2 l3 l4 hok hqm hxL hyS hq0 hq128
              as_aux_lemma =>
                go_wp2_with fail
                refine q21.mono ?_
                rintro e w9 ⟨rfl, hw⟩
                subst w9
                go_wp2_with fail
                refine q19.mono ?_
                rintro e w9 ⟨rfl, hw⟩
                subst w9
                go_wp2_with fail
                refine q18.mono ?_
                rintro e w9 ⟨rfl, hw⟩
                subst w9
                go_wp2_with fail
                refine q22.mono ?_
                rintro e w9 ⟨rfl, hw⟩
                subst w9
                go_wp2
                go_round
                case rel => exact ⟨(y : Int) + 1, by omega, by omega, rfl⟩
                case measure => simp [intOf]; omega
            · have q21 := K21.out wc A B FC.out
              rw [lane_none L.length s A B hok] at q21
              by_cases g1 : A < 0
              · as_aux_lemma =>
                  clear hok
                  go_wp2_with fail
                  refine q21.mono ?_
                  rintro e w9 ⟨rfl, hw⟩
                  subst w9
                  go_wp2
                  go_round
                  case rel => exact ⟨B + 1, by omega, by omega, rfl⟩
                  case measure => simp [intOf]; omega
              · by_cases g2 : (L.length : Int) ≤ A
                · as_aux_lemma =>
                    clear hok
                    go_wp2_with fail
                    refine q21.mono ?_
                    rintro e w9 ⟨rfl, hw⟩
                    subst w9
                    go_wp2
                    go_round
                    case rel => exact ⟨B + 1, by omega, by omega, rfl⟩
                    case measure => simp [intOf]; omega
                · by_cases g3 : B < 0
                  · as_aux_lemma =>
                      clear hok
                      go_wp2_with fail
                      refine q21.mono ?_
                      rintro e w9 ⟨rfl, hw⟩
                      subst w9
                      go_wp2
                      go_round
                      case rel => exact ⟨B + 1, by omega, by omega, rfl⟩
                      case measure => simp [intOf]; omega
                  · have g4 : (s : Int) ≤ B := by omega
                    as_aux_lemma =>
                      clear hok
                      go_wp2_with fail
                      refine q21.mono ?_
                      rintro e w9 ⟨rfl, hw⟩
                      subst w9
                      go_wp2
                      go_round
                      case rel => exact ⟨B + 1, by omega, by omega, rfl⟩
                      case measure => simp [intOf]; omega
          · go_wp2
            go_round
            case rel => exact ⟨A + 1, by omega, by omega, rfl⟩
            case measure => simp [intOf]; omega
      · have hlt' : ¬ A ≤ (L.length : Int) := hltA
        obtain ⟨n1, n2, n3, n4⟩ := lane_ends L.length s m (bt : Int) Hm.out
        have Q19 : Hid (∀ q (z : Int), (z = -1 ∨ z = (m : Int) + 1) → Calls Try.prog 19 #[.pointer (some ⟨p, 0, none⟩), .int .i64 z] (wc.drewN q) fun e w' => e = .returned (.int .i64 (-1)) ∧ w' = wc.drewN q) := fun q z h => by
          have := K19.out _ z (FC.out.drewN q)
          rcases h with rfl | rfl
          · rw [n1] at this; exact this
          · rw [n2] at this; exact this
        have Q18 : Hid (∀ q (z : Int), (z = -1 ∨ z = (m : Int) + 1) → Calls Try.prog 18 #[.pointer (some ⟨p, 0, none⟩), .int .i64 z] (wc.drewN q) fun e w' => e = .returned (.int .i64 (-1)) ∧ w' = wc.drewN q) := fun q z h => by
          have := K18.out _ z (FC.out.drewN q)
          rcases h with rfl | rfl
          · rw [n3] at this; exact this
          · rw [n4] at this; exact this
        clear n1 n2 n3 n4
        rcases (by omega : nd = 1 ∨ nd = 2 ∨ nd = 3) with rfl | rfl | rfl
        · as_aux_lemma =>
            have e1' : wc.cell? ⟨cb, 1, none⟩ = some (.int .i64 1) := e1
            have q23 : ∀ q, Calls Try.prog 23 #[.pointer (some ⟨p, 0, none⟩)] (wc.drewN q) fun e w' => e = .returned (.int .u64 1) ∧ w' = wc.drewN q := fun q => K23.out _ (FC.out.drewN q)
            have Q24 : Hid (∀ q (z : Int) (r : Bool), ((z = 0 ∧ r = true) ∨ (z = 1 ∧ r = false) ∨ (z = -1 ∧ r = false)) → Calls Try.prog 24 #[.pointer (some ⟨p, 0, none⟩), .int .i64 z] (wc.drewN q) fun e w' => e = .returned (.bool r) ∧ w' = wc.drewN q) := fun q z r h => by
              have := K24.out _ z (FC.out.drewN q)
              rcases h with ⟨rfl, rfl⟩ | ⟨rfl, rfl⟩ | ⟨rfl, rfl⟩
              · exact this
              · exact this
              · exact this
            clear e1 K18 K19 K21 K22 K23 K24 FC hnd hnd3
            go_wp2_with fail
            go_quiet (first
              | (go_at_call 24; refine Calls.quiet_of_same (Q24.out _ _ _ (by first | exact Or.inl ⟨rfl, rfl⟩ | exact Or.inr (Or.inl ⟨rfl, rfl⟩) | exact Or.inr (Or.inr ⟨rfl, rfl⟩))))
              | (go_at_call 23; exact Calls.quiet_of_same (q23 _))
              | (go_at_call 18; refine Calls.quiet_of_same (Q18.out _ _ (by first | exact Or.inl rfl | exact Or.inr rfl)))
              | (go_at_call 19; refine Calls.quiet_of_same (Q19.out _ _ (by first | exact Or.inl rfl | exact Or.inr rfl))))
            go_wp2
            go_ret
            exact ⟨rfl, F9.out.drewN _⟩
        · as_aux_lemma =>
            have e1' : wc.cell? ⟨cb, 1, none⟩ = some (.int .i64 2) := e1
            have q23 : ∀ q, Calls Try.prog 23 #[.pointer (some ⟨p, 0, none⟩)] (wc.drewN q) fun e w' => e = .returned (.int .u64 3) ∧ w' = wc.drewN q := fun q => K23.out _ (FC.out.drewN q)
            have Q24 : Hid (∀ q (z : Int) (r : Bool), ((z = 1 ∧ r = true) ∨ (z = 2 ∧ r = false) ∨ (z = -1 ∧ r = false)) → Calls Try.prog 24 #[.pointer (some ⟨p, 0, none⟩), .int .i64 z] (wc.drewN q) fun e w' => e = .returned (.bool r) ∧ w' = wc.drewN q) := fun q z r h => by
              have := K24.out _ z (FC.out.drewN q)
              rcases h with ⟨rfl, rfl⟩ | ⟨rfl, rfl⟩ | ⟨rfl, rfl⟩
              · exact this
              · exact this
              · exact this
            clear e1 K18 K19 K21 K22 K23 K24 FC hnd hnd3
            go_wp2_with fail
            go_quiet (first
              | (go_at_call 24; refine Calls.quiet_of_same (Q24.out _ _ _ (by first | exact Or.inl ⟨rfl, rfl⟩ | exact Or.inr (Or.inl ⟨rfl, rfl⟩) | exact Or.inr (Or.inr ⟨rfl, rfl⟩))))
              | (go_at_call 23; exact Calls.quiet_of_same (q23 _))
              | (go_at_call 18; refine Calls.quiet_of_same (Q18.out _ _ (by first | exact Or.inl rfl | exact Or.inr rfl)))
              | (go_at_call 19; refine Calls.quiet_of_same (Q19.out _ _ (by first | exact Or.inl rfl | exact Or.inr rfl))))
            go_wp2
            go_ret
            exact ⟨rfl, F9.out.drewN _⟩
        · as_aux_lemma =>
            have e1' : wc.cell? ⟨cb, 1, none⟩ = some (.int .i64 3) := e1
            have q23 : ∀ q, Calls Try.prog 23 #[.pointer (some ⟨p, 0, none⟩)] (wc.drewN q) fun e w' => e = .returned (.int .u64 7) ∧ w' = wc.drewN q := fun q => K23.out _ (FC.out.drewN q)
            have Q24 : Hid (∀ q (z : Int) (r : Bool), ((z = 2 ∧ r = true) ∨ (z = 3 ∧ r = false) ∨ (z = -1 ∧ r = false)) → Calls Try.prog 24 #[.pointer (some ⟨p, 0, none⟩), .int .i64 z] (wc.drewN q) fun e w' => e = .returned (.bool r) ∧ w' = wc.drewN q) := fun q z r h => by
              have := K24.out _ z (FC.out.drewN q)
              rcases h with ⟨rfl, rfl⟩ | ⟨rfl, rfl⟩ | ⟨rfl, rfl⟩
              · exact this
              · exact this
              · exact this
            clear e1 K18 K19 K21 K22 K23 K24 FC hnd hnd3
            go_wp2_with fail
            go_quiet (first
              | (go_at_call 24; refine Calls.quiet_of_same (Q24.out _ _ _ (by first | exact Or.inl ⟨rfl, rfl⟩ | exact Or.inr (Or.inl ⟨rfl, rfl⟩) | exact Or.inr (Or.inr ⟨rfl, rfl⟩))))
              | (go_at_call 23; exact Calls.quiet_of_same (q23 _))
              | (go_at_call 18; refine Calls.quiet_of_same (Q18.out _ _ (by first | exact Or.inl rfl | exact Or.inr rfl)))
              | (go_at_call 19; refine Calls.quiet_of_same (Q19.out _ _ (by first | exact Or.inl rfl | exact Or.inr rfl))))
            go_wp2
            go_ret
            exact ⟨rfl, F9.out.drewN _⟩
theorem lanes_walk (k : Nat) (hk' : k < 256) (ao : Option Addr) (cl : List Nat) (cap : Nat) (w : World) (hf : FRow w ao cl cap) (hnone : ao = none → cap = 0) :
    Calls Try.prog 5 #[.int .u8 (k : Int), .slice ao cl.length cap] w fun e w' => e = .returned (.bool true) ∧ Fr (fun _ => False) w w' := by
  have en : 1 + (k : Int) / 5 % 3 = ((1 + k / 5 % 3 : Nat) : Int) := by omega
  have hnd : 1 ≤ 1 + k / 5 % 3 ∧ 1 + k / 5 % 3 ≤ 7 := by omega
  have hnd3 : 1 + k / 5 % 3 ≤ 3 := by omega
  by_cases h5 : (k : Int) % 5 = 4 <;> by_cases hc : (k : Int) / 16 % 2 = 1
  · exact lanes_of k _ [3, 2] [0] (lats_fine 0) hnd hnd3 (fun w => small_d2 k _ hk' en h5 hc w) (by simp) ao cl cap w hf hnone
  · exact lanes_of k _ [3, 2] [] (lats_fine 0) hnd hnd3 (fun w => (small_c k _ hk' en h5 (beq_eq_false_iff_ne.2 hc) w).mono fun e w' ⟨g, c, cv, h1, h2, h3, h4, h5⟩ => ⟨g, c, cv, h1, h2, h3, h4.ok, h5⟩) (by simp) ao cl cap w hf hnone
  · exact lanes_of k _ (lats k) [0] (lats_fine k) hnd hnd3 (fun w => small_b2 k _ hk' en (beq_eq_false_iff_ne.2 h5) hc w) (by simp) ao cl cap w hf hnone
  · exact lanes_of k _ (lats k) [] (lats_fine k) hnd hnd3 (fun w => (small_a k _ hk' en (beq_eq_false_iff_ne.2 h5) (beq_eq_false_iff_ne.2 hc) w).mono fun e w' ⟨g, c, cv, h1, h2, h3, h4, h5⟩ => ⟨g, c, cv, h1, h2, h3, h4.ok, h5⟩) (by simp) ao cl cap w hf hnone
end Go.Proofs.Ytjbkmflbhlnbpaa
