/- A nil log: what each of its calls answers. -/
import Derived.Test.YtkkpdnholnkeoacAwake
namespace Go.Proofs.Ytkkpdnholnkeoac
open Go.RowKit

theorem nbase (w : World) : Calls Try.prog 9 #[.pointer none] w fun e w' => e = .returned (.int .u64 0) ∧ w' = w := by
  go_enter Try.func9, Try.ntmps9
  go_wp2
  go_ret
  exact ⟨rfl, rfl⟩
theorem nlast (w : World) : Calls Try.prog 10 #[.pointer none] w fun e w' => e = .returned (.int .u64 0) ∧ w' = w := by
  go_enter Try.func10, Try.ntmps10
  go_wp2
  go_ret
  exact ⟨rfl, rfl⟩
theorem nplace (i : Nat) (w : World) : Calls Try.prog 19 #[.pointer none, .int .u64 (i : Int)] w fun e w' => e = .returned (.tuple #[.int .i64 0, .bool false]) ∧ w' = w := by
  go_enter Try.func19, Try.ntmps19
  go_wp2
  go_ret2
  exact ⟨rfl, rfl⟩
theorem nterm (i : Nat) (w : World) : Calls Try.prog 5 #[.pointer none, .int .u64 (i : Int)] w fun e w' => e = .returned (.tuple #[.int .u64 0, .bool false]) ∧ w' = w := by
  go_enter Try.func5, Try.ntmps5
  go_wp2_with fail
  refine (nplace i w).mono ?_
  rintro e w1 ⟨rfl, rfl⟩
  go_wp2
  go_ret2
  exact ⟨rfl, rfl⟩
theorem nfrom (i : Nat) (m : Int) (w : World) : Calls Try.prog 12 #[.pointer none, .int .u64 (i : Int), .int .i64 m] w fun e w' => e = .returned (.slice none 0 0) ∧ w' = w := by
  go_enter Try.func12, Try.ntmps12
  go_wp2_with fail
  refine (nplace i w).mono ?_
  rintro e w1 ⟨rfl, rfl⟩
  go_wp2
  go_ret
  exact ⟨rfl, rfl⟩
theorem nentry (i : Nat) (w : World) : Calls Try.prog 6 #[.pointer none, .int .u64 (i : Int)] w fun e w' => e = .returned (.tuple #[.agg #[.int .u64 0, .int .u64 0, .int .u8 0, .slice none 0 0], .bool false]) ∧ Fr (fun _ => False) w w' := by
  have f := (Fr.refl (fun _ => False) w).alloc (.cells #[.int .u64 0, .int .u64 0, .int .u8 0, .slice none 0 0] 29)
  go_enter Try.func6, Try.ntmps6
  go_wp2_with fail
  refine (nfrom i 1 _).mono ?_
  rintro e w1 ⟨rfl, rfl⟩
  go_wp2
  exact bodyPost_ret (v := .tuple #[.agg #[.int .u64 0, .int .u64 0, .int .u8 0, .slice none 0 0], .bool false]) (by simp [results, Try.results6, go_sem]) rfl ⟨rfl, f⟩
theorem ntold (i : Nat) (w : World) : Calls Try.prog 20 #[.pointer none, .int .u64 (i : Int)] w fun e w' => e = .returned (.tuple #[.int .u64 0, .int .u64 0]) ∧ Fr (fun _ => False) w w' := by
  have f := (((Fr.refl (fun _ => False) w).alloc (.cells #[.int .u64 (i : Int)] 22)).alloc (.cells #[.int .u64 0] 22)).alloc (.cells #[.int .u64 0] 22)
  go_enter Try.func20, Try.ntmps20
  go_wp2
  exact bodyPost_ret (v := .tuple #[.int .u64 0, .int .u64 0]) (by simp [results, Try.results20, go_sem]) rfl ⟨rfl, f⟩
theorem nvoters (w : World) : Calls Try.prog 7 #[.pointer none] w fun e w' => e = .returned (.tuple #[.int .u64 0, .int .u64 0]) ∧ Fr (fun _ => False) w w' := by
  go_enter Try.func7, Try.ntmps7
  go_wp2_with fail
  refine (nlast w).mono ?_
  rintro e w1 ⟨rfl, rfl⟩
  go_wp2_with fail
  refine (ntold 0 _).mono ?_
  rintro e w2 ⟨rfl, f⟩
  go_wp2
  go_ret2
  exact ⟨rfl, f⟩
theorem nvotersAt (i : Nat) (w : World) : Calls Try.prog 16 #[.pointer none, .int .u64 (i : Int)] w fun e w' => e = .returned (.int .u64 0) ∧ Fr (fun _ => False) w w' := by
  go_enter Try.func16, Try.ntmps16
  go_wp2_with fail
  refine (ntold i w).mono ?_
  rintro e w1 ⟨rfl, f⟩
  go_wp2
  go_ret
  exact ⟨rfl, f⟩
theorem nreset (i : Nat) (w : World) : Calls Try.prog 8 #[.pointer none, .agg #[.int .u64 (i : Int), .int .u64 0, .int .u64 0, .slice none 0 0]] w fun e w' => e = .returned (.tuple #[]) ∧ Fr (fun _ => False) w w' := by
  have f := (Fr.refl (fun _ => False) w).alloc (.cells #[.int .u64 (i : Int), .int .u64 0, .int .u64 0, .slice none 0 0] 36)
  go_enter Try.func8, Try.ntmps8
  go_wp2
  go_end0
  exact ⟨rfl, f⟩
theorem nlastTerm (w : World) : Calls Try.prog 11 #[.pointer none] w fun e w' => e = .returned (.int .u64 0) ∧ w' = w := by
  go_enter Try.func11, Try.ntmps11
  go_wp2_with fail
  refine (nlast w).mono ?_
  rintro e w1 ⟨rfl, rfl⟩
  go_wp2_with fail
  refine (nterm 0 _).mono ?_
  rintro e w2 ⟨rfl, rfl⟩
  go_wp2
  go_ret
  exact ⟨rfl, rfl⟩
theorem nput (t : Nat) (sl : Value) (w : World) : Calls Try.prog 13 #[.pointer none, .int .u64 (t : Int), .int .u8 0, sl] w fun e w' => e = .returned (.int .u64 0) ∧ w' = w := by
  go_enter Try.func13, Try.ntmps13
  go_wp2_with fail
  refine (nlast w).mono ?_
  rintro e w1 ⟨rfl, rfl⟩
  go_wp2
  go_ret
  exact ⟨rfl, rfl⟩
theorem nfit (i t : Nat) (w : World) : Calls Try.prog 14 #[.pointer none, .int .u64 (i : Int), .int .u64 (t : Int)] w fun e w' => e = .returned (.bool false) ∧ w' = w := by
  go_enter Try.func14, Try.ntmps14
  go_wp2_with fail
  refine (nterm i w).mono ?_
  rintro e w1 ⟨rfl, rfl⟩
  go_wp2
  go_ret
  exact ⟨rfl, rfl⟩
theorem ncompact (i : Nat) (w : World) : Calls Try.prog 17 #[.pointer none, .int .u64 (i : Int)] w fun e w' => e = .returned (.int .i64 1) ∧ w' = w := by
  go_enter Try.func17, Try.ntmps17
  go_wp2_with fail
  refine (nterm i w).mono ?_
  rintro e w1 ⟨rfl, rfl⟩
  go_wp2
  go_ret
  exact ⟨rfl, rfl⟩
set_option maxRecDepth 100000 in
set_option maxHeartbeats 1000000 in
theorem nlacks (w : World) : Calls Try.prog 24 #[.pointer none, .agg #[.int .u64 1, .int .u64 0, .int .u8 0, .slice none 0 0]] w fun e w' => e = .returned (.bool true) ∧ Fr (fun _ => False) w w' := by
  have f := (Fr.refl (fun _ => False) w).alloc (.cells #[.int .u64 1, .int .u64 0, .int .u8 0, .slice none 0 0] 29)
  have F : Hid (Fr _ _ _) := f
  have n0 : (w.alloc (.cells #[.int .u64 1, .int .u64 0, .int .u8 0, .slice none 0 0] 29)).cell? ⟨w.heap.size, 0, none⟩ = some (.int .u64 1) := by simp
  have n1 : (w.alloc (.cells #[.int .u64 1, .int .u64 0, .int .u8 0, .slice none 0 0] 29)).cell? ⟨w.heap.size, 1, none⟩ = some (.int .u64 0) := by simp
  clear f
  go_enter Try.func24, Try.ntmps24
  go_wp2_with fail
  go_quiet (first | (go_at_call 9; exact Calls.quiet_of_same (nbase _)) | (go_at_call 14; exact Calls.quiet_of_same (nfit 1 0 _)))
  go_wp2
  go_ret
  exact ⟨rfl, F.out.drewN _⟩
set_option maxRecDepth 100000 in
set_option maxHeartbeats 1000000 in
theorem nindex (g : Nat) (w : World) (m0 : w.cell? ⟨g, 0, none⟩ = some (.int .u64 1)) (m1 : w.cell? ⟨g, 1, none⟩ = some (.int .u64 0)) (m2 : w.cell? ⟨g, 2, none⟩ = some (.int .u8 0)) (m3 : w.cell? ⟨g, 3, none⟩ = some (.slice none 0 0)) :
    Calls Try.prog 23 #[.slice (some ⟨g, 0, none⟩) 1 1, .func (.func 24) #[.pointer none] #[]] w fun e w' => e = .returned (.int .i64 0) ∧ Fr (fun _ => False) w w' := by
  have K : Hid (Calls _ _ _ _ _) := nlacks w
  go_enter Try.func23, Try.ntmps23
  go_wp2
  refine wp_loop_rounds 1 ?_
  rw [rounds_succ]
  go_wp2_with fail
  refine K.out.mono ?_
  rintro e w1 ⟨rfl, f1⟩
  clear m0 m1 m2 m3
  go_wp2
  go_ret
  exact ⟨rfl, f1⟩
set_option maxRecDepth 100000 in
set_option maxHeartbeats 1000000 in
theorem nmerge (g : Nat) (w : World) (m0 : w.cell? ⟨g, 0, none⟩ = some (.int .u64 1)) (m1 : w.cell? ⟨g, 1, none⟩ = some (.int .u64 0)) (m2 : w.cell? ⟨g, 2, none⟩ = some (.int .u8 0)) (m3 : w.cell? ⟨g, 3, none⟩ = some (.slice none 0 0)) :
    Calls Try.prog 15 #[.pointer none, .slice (some ⟨g, 0, none⟩) 1 1] w fun e w' => e = .returned (.int .u64 0) ∧ Fr (fun _ => False) w w' := by
  have K : Hid (Calls _ _ _ _ _) := nindex g w m0 m1 m2 m3
  clear m0 m1 m2 m3
  go_enter Try.func15, Try.ntmps15
  go_wp2_with fail
  refine K.out.mono ?_
  rintro e w1 ⟨rfl, f1⟩
  go_wp2
  go_ret
  exact ⟨rfl, f1⟩
end Go.Proofs.Ytkkpdnholnkeoac
