/- What a nil disk does; the statement WalNil, walked. -/
import Derived.Test.YtlcakglmheleeaaDoorAwake
import Derived.Test.YtlcakglmheleeaaDoorWhole
namespace Go.Proofs.YtlcakglmheleeaaDoor
open Go.RowKit

theorem append_nil (sl : Value) (w : World) : Calls Tryd.prog 27 #[.pointer none, sl] w fun e w' => e = .returned (.int .i64 2) ∧ w' = w := by
  go_enter Tryd.func27, Tryd.ntmps27
  go_wp2
  go_ret
  exact ⟨rfl, rfl⟩
theorem put_nil (sl : Value) (w : World) : Calls Tryd.prog 42 #[.pointer none, sl] w fun e w' => e = .returned (.int .i64 2) ∧ w' = w := by
  go_enter Tryd.func42, Tryd.ntmps42
  go_wp2
  go_ret
  exact ⟨rfl, rfl⟩
set_option maxHeartbeats 400000 in
theorem keep_nil (t : Nat) (w : World) (ht : Tab w) (ht64 : t < 18446744073709551616) : Calls Tryd.prog 21 #[.pointer none, .agg #[.bool true, .int .u64 (t : Int), .int .i64 0, .slice none 0 0]] w fun e w' => e = .returned (.int .i64 2) ∧ Fr (fun _ => False) w w' := by
  have HT : Hid (Tab w) := ht
  clear ht
  go_enter Tryd.func21, Tryd.ntmps21
  go_wp2_with fail
  have K : Hid (Calls _ _ _ _ _) := bytes_any true t 1 0 none [] 0 (w.alloc (.cells #[.bool true, .int .u64 (t : Int), .int .i64 0, .slice none 0 0] 54)) (fun _ => False) (fun _ => False) (ERow.nil _ _ _) (((Fr.refl (fun _ => False) w).alloc _).tab HT.out (by simp)) ht64 (by omega) (by omega) (by simp) (by simp)
  first
    | (refine K.out.mono ?_)
    | trace_state
  rintro e w1 ⟨v1, rfl, h1, f1⟩
  obtain ⟨a1, c1, hv1, _⟩ := h1.row
  subst hv1
  have F1 : Hid (Fr (fun _ => False) w w1) := ((Fr.refl (fun _ => False) w).alloc _).trans f1
  clear h1 f1 K
  go_wp2_with fail
  refine (append_nil _ w1).mono ?_
  rintro e w2 ⟨rfl, rfl⟩
  go_wp2
  go_ret
  exact ⟨rfl, F1.out⟩
set_option maxHeartbeats 400000 in
theorem compact_nil (w : World) (ht : Tab w) : Calls Tryd.prog 28 #[.pointer none, .agg #[.int .u64 0, .int .i64 0, .int .u64 0, .int .u64 0, .int .u64 0, .slice none 0 0, .slice none 0 0]] w fun e w' => e = .returned (.int .i64 2) ∧ Fr (fun _ => False) w w' := by
  have HT : Hid (Tab w) := ht
  clear ht
  go_enter Tryd.func28, Tryd.ntmps28
  go_wp2_with fail
  have K : Hid (Calls _ _ _ _ _) := whole_any 0 1 0 0 0 0 none none [] 0 [] 0 (w.alloc (.cells #[.int .u64 0, .int .i64 0, .int .u64 0, .int .u64 0, .int .u64 0, .slice none 0 0, .slice none 0 0] 42)) (fun _ => False) (fun _ => False) (ERow.nil _ _ _) (row_nil _) (((Fr.refl (fun _ => False) w).alloc _).tab HT.out (by simp)) (by omega) (by omega) (by omega) (by omega) (by omega) (by omega) (by simp) (by simp) (by simp)
  first
    | (refine K.out.mono ?_)
    | trace_state
  rintro e w1 ⟨v1, rfl, h1, f1⟩
  obtain ⟨a1, c1, hv1, _⟩ := h1.row
  subst hv1
  have F1 : Hid (Fr (fun _ => False) w w1) := ((Fr.refl (fun _ => False) w).alloc _).trans f1
  obtain ⟨q, Hq⟩ : ∃ q, Hid (wholeB ⟨0, 0, 0, 0, 0, [], List.map En.p []⟩ = q) := ⟨_, rfl⟩
  rw [Hq.out]
  clear h1 f1 K
  go_wp2_with fail
  refine (put_nil _ w1).mono ?_
  rintro e w2 ⟨rfl, rfl⟩
  go_wp2
  go_ret
  exact ⟨rfl, F1.out⟩
set_option maxHeartbeats 400000 in
theorem open_nil (w : World) : Calls Tryd.prog 26 #[.pointer none] w fun e w' => e = .returned (.tuple #[.agg #[.int .u64 0, .int .i64 0, .int .u64 0, .int .u64 0, .int .u64 0, .slice none 0 0, .slice none 0 0], .int .i64 2]) ∧ Fr (fun _ => False) w w' := by
  go_enter Tryd.func26, Tryd.ntmps26
  go_wp2
  have f := (Fr.refl (fun _ => False) w).alloc (.cells #[.int .u64 0, .int .i64 0, .int .u64 0, .int .u64 0, .int .u64 0, .slice none 0 0, .slice none 0 0] 42)
  exact bodyPost_ret (v := .tuple #[.agg #[.int .u64 0, .int .i64 0, .int .u64 0, .int .u64 0, .int .u64 0, .slice none 0 0, .slice none 0 0], .int .i64 2]) (by simp [results, Tryd.results26, go_sem]) rfl ⟨rfl, f⟩
set_option maxRecDepth 100000 in
set_option maxHeartbeats 1600000 in
theorem nil_walk (t : Nat) (w : World) (ht : Tab w) (ht64 : t < 18446744073709551616) : Calls Tryd.prog 8 #[.int .u64 (t : Int)] w fun e w' => e = .returned (.bool true) ∧ Fr (fun _ => False) w w' := by
  have HT : Hid (Tab w) := ht
  have HA : Hid (Fr (fun _ => False) w (w.alloc (.cells #[.bool true, .int .u64 (t : Int), .int .i64 0, .slice none 0 0] 54))) := (Fr.refl _ _).alloc _
  have n0 : (w.alloc (.cells #[.bool true, .int .u64 (t : Int), .int .i64 0, .slice none 0 0] 54)).cell? ⟨w.heap.size, 0, none⟩ = some (.bool true) := by simp
  have n1 : (w.alloc (.cells #[.bool true, .int .u64 (t : Int), .int .i64 0, .slice none 0 0] 54)).cell? ⟨w.heap.size, 1, none⟩ = some (.int .u64 (t : Int)) := by simp
  have n2 : (w.alloc (.cells #[.bool true, .int .u64 (t : Int), .int .i64 0, .slice none 0 0] 54)).cell? ⟨w.heap.size, 2, none⟩ = some (.int .i64 0) := by simp
  have n3 : (w.alloc (.cells #[.bool true, .int .u64 (t : Int), .int .i64 0, .slice none 0 0] 54)).cell? ⟨w.heap.size, 3, none⟩ = some (.slice none 0 0) := by simp
  have N : Hid _ := And.intro n0 (And.intro n1 (And.intro n2 n3))
  clear ht n0 n1 n2 n3
  go_enter Tryd.func8, Tryd.ntmps8
  go_wp2_with fail
  refine (open_nil _).mono ?_
  rintro e w1 ⟨rfl, f1⟩
  have F1 : Hid (Fr (fun _ => False) w (w1.alloc (.cells #[.int .u64 0, .int .i64 0, .int .u64 0, .int .u64 0, .int .u64 0, .slice none 0 0, .slice none 0 0] 42))) := (HA.out.trans f1).alloc _
  have FA : Hid (Fr (fun _ => False) (w.alloc (.cells #[.bool true, .int .u64 (t : Int), .int .i64 0, .slice none 0 0] 54)) (w1.alloc (.cells #[.int .u64 0, .int .i64 0, .int .u64 0, .int .u64 0, .int .u64 0, .slice none 0 0, .slice none 0 0] 42))) := f1.alloc _
  have m0 : (w1.alloc (.cells #[.int .u64 0, .int .i64 0, .int .u64 0, .int .u64 0, .int .u64 0, .slice none 0 0, .slice none 0 0] 42)).cell? ⟨w1.heap.size, 6, none⟩ = some (.slice none 0 0) := by simp
  have M0 : Hid _ := m0
  have K : Hid (Calls _ _ _ _ _) := awake_any _ (F1.out.tab HT.out (by simp))
  clear m0 f1
  go_wp2_with fail
  refine K.out.mono ?_
  rintro e w2 ⟨rfl, f2⟩
  have F2 : Hid (Fr (fun _ => False) w w2) := F1.out.trans f2
  have c0 := (FA.out.trans f2).cell N.out.1 (by simp)
  have c1 := (FA.out.trans f2).cell N.out.2.1 (by simp)
  have c2 := (FA.out.trans f2).cell N.out.2.2.1 (by simp)
  have c3 := (FA.out.trans f2).cell N.out.2.2.2 (by simp)
  have m2 := f2.cell M0.out (by simp)
  have K3 : Hid (Calls _ _ _ _ _) := keep_nil t w2 (F2.out.tab HT.out (by simp)) ht64
  clear f2 K M0
  have M2 : Hid _ := m2
  go_wp2_with fail
  refine K3.out.mono ?_
  rintro e w3 ⟨rfl, f3⟩
  have F3 : Hid (Fr (fun _ => False) w w3) := F2.out.trans f3
  have m3 := f3.cell M2.out (by simp)
  have M3 : Hid _ := m3
  have K4 : Hid (Calls _ _ _ _ _) := compact_nil w3 (F3.out.tab HT.out (by simp))
  clear f3 K3 c0 c1 c2 c3 m2 M2
  go_wp2_with fail
  refine K4.out.mono ?_
  rintro e w4 ⟨rfl, f4⟩
  have F4 : Hid (Fr (fun _ => False) w w4) := F3.out.trans f4
  have m4 := f4.cell M3.out (by simp)
  have K5 : Hid (Calls _ _ _ _ _) := refseal_any none [] 0 w4 (row_nil _) (by simp)
  have HSL : Hid ((sealed []).length = 4) := by show _ = _; rw [sealed_length]; rfl
  clear f4 K4 m3 M3
  go_wp2_with fail
  refine K5.out.mono ?_
  rintro e w5 ⟨v5, rfl, o5, f5⟩
  obtain ⟨a5, c5, hv5, _⟩ := o5.row
  subst hv5
  rw [HSL.out]
  have F5 : Hid (Fr (fun _ => False) w w5) := F4.out.trans f5
  clear o5 f5
  go_wp2
  go_ret
  exact ⟨rfl, F5.out⟩
end Go.Proofs.YtlcakglmheleeaaDoor
