/- The program's Split lays the frames of a message. -/
import Derived.Test.YtpnjcpamhelaeaaDoorRefFr
import Derived.Deep.OwnRows
namespace Go.Proofs.YtpnjcpamhelaeaaDoor
open Go.RowKit

theorem Fr.rowIs {S : Nat → Prop} {w w1 : World} {g t n : Nat} {f : Nat → Value} (h : w.rowIs g t n f) (k : Fr S w w1) (hs : ¬ S g) : w1.rowIs g t n f := h.of_block (k.block g h.lt hs)
/-- how many frames. -/
def parts (size n : Nat) : Nat := (max n 1 - 1) / (size - 19) + 1
/-- a frame's part of a message. -/
def chunk (size i : Nat) (p : List Nat) : List Nat := (p.drop (i * (size - 19))).take (size - 19)
/-- a message's frame. -/
def fr1 (size id of i : Nat) (p : List Nat) : List Nat := sealed (body size id i of (chunk size i p))
def frames (size id : Nat) (p : List Nat) : List (List Nat) := (List.range (parts size p.length)).map fun i => fr1 size id (parts size p.length) i p
theorem frames_length (size id : Nat) (p : List Nat) : (frames size id p).length = parts size p.length := by simp [frames]
theorem frames_get (size id : Nat) (p : List Nat) (i : Nat) (h : i < parts size p.length) : (frames size id p).getD i [] = fr1 size id (parts size p.length) i p := by
  simp [frames, List.getD_eq_getElem?_getD, h]
theorem chunk_le (size i : Nat) (p : List Nat) (h : 19 ≤ size) : (chunk size i p).length + 19 ≤ size := by simp [chunk]; omega
theorem fr1_length (size id of i : Nat) (p : List Nat) (h : 19 ≤ size) : (fr1 size id of i p).length = size := by
  unfold fr1
  rw [sealed_length, body_length _ _ _ _ _ (chunk_le size i p h)]
  omega
theorem parts_pos (size n : Nat) : 1 ≤ parts size n := Nat.le_add_left _ _
theorem parts_le (size n : Nat) (hs : 64 ≤ size) (hn : n ≤ 1048576) : parts size n ≤ 23303 := by
  unfold parts
  have h1 : (max n 1 - 1) / (size - 19) ≤ 1048576 / 45 := by
    calc (max n 1 - 1) / (size - 19) ≤ 1048576 / (size - 19) := Nat.div_le_div_right (by omega)
      _ ≤ 1048576 / 45 := Nat.div_le_div_left (by omega) (by omega)
  omega
theorem parts_cover (size n : Nat) (hs : 20 ≤ size) : n ≤ parts size n * (size - 19) := by
  unfold parts
  have h := Nat.div_add_mod (max n 1 - 1) (size - 19)
  have h2 := Nat.mod_lt (max n 1 - 1) (show 0 < size - 19 by omega)
  rw [Nat.add_mul, Nat.mul_comm ((max n 1 - 1) / (size - 19))]
  omega
theorem ret_bool {a b : Bool} (h : a = b) : Ending.returned (.bool a) = .returned (.bool b) := by rw [h]
set_option maxHeartbeats 400000 in
theorem isSize_any (n : Int) (w : World) : Calls Tryd.prog 28 #[.int .i64 n] w fun e w' => e = .returned (.bool (decide (64 ≤ n) && decide (n ≤ 4096))) ∧ w' = w := by
  by_cases h : 64 ≤ n
  · rw [decide_eq_true h]
    go_enter Tryd.func28, Tryd.ntmps28
    go_wp2
    go_ret
    exact ⟨rfl, rfl⟩
  · rw [decide_eq_false h]
    go_enter Tryd.func28, Tryd.ntmps28
    go_wp2
    go_ret
    exact ⟨rfl, rfl⟩
set_option maxHeartbeats 400000 in
theorem room_any (size : Nat) (w : World) (h : 19 ≤ size ∧ size ≤ 5000) : Calls Tryd.prog 15 #[.int .i64 (size : Int)] w fun e w' => e = .returned (.int .i64 ((size - 19 : Nat) : Int)) ∧ w' = w := by
  go_enter Tryd.func15, Tryd.ntmps15
  go_wp2
  go_ret
  exact ⟨ret_int (by omega), rfl⟩
set_option maxHeartbeats 1000000 in
theorem parts_any (size n : Nat) (w : World) (h : 64 ≤ size ∧ size ≤ 4096) (hn : n ≤ 140737488355328) : Calls Tryd.prog 14 #[.int .i64 (size : Int), .int .i64 (n : Int)] w fun e w' => e = .returned (.int .i64 ((parts size n : Nat) : Int)) ∧ w' = w := by
  have k := room_any size w (by omega)
  obtain ⟨r, Hr⟩ : ∃ r, Hid (size - 19 = r) := ⟨_, rfl⟩
  have hr : 45 ≤ r ∧ r ≤ 4096 := by have := Hr.out; omega
  rw [Hr.out] at k
  have hfin : Hid (parts size n = (max n 1 - 1) / r + 1) := by show _ = _; unfold parts; rw [Hr.out]
  obtain ⟨m, hm, Hm⟩ : ∃ m : Nat, m ≤ 140737488355328 ∧ Hid (max n 1 - 1 = m) := ⟨_, by omega, rfl⟩
  have hq : m / r ≤ m := Nat.div_le_self _ _
  obtain ⟨q, hq2, Hq⟩ : ∃ q : Nat, q ≤ 140737488355328 ∧ Hid (m / r = q) := ⟨_, by omega, rfl⟩
  have e1 : (m : Int).tdiv (r : Int) = (q : Int) := by rw [Int.tdiv_eq_ediv_of_nonneg (by omega)]; rw [← Hq.out]; simp
  have e1' : (m : Int) / (r : Int) = (q : Int) := by rw [← Hq.out]; simp
  have e2 : ((r : Int) == 0) = false := beq_eq_false_iff_ne.2 (by omega)
  have e3 : ¬ r = 0 := by omega
  have hr1 : ¬ (r : Int) < 1 := by omega
  rw [hfin.out, Hm.out, Hq.out]
  by_cases h1 : 1 ≤ n
  · have e4 : (n : Int) - 1 = (m : Int) := by have := Hm.out; omega
    have e5 : max (n : Int) 1 = (n : Int) := by omega
    go_enter Tryd.func14, Tryd.ntmps14
    go_wp2_with fail
    refine k.mono ?_
    rintro e w1 ⟨rfl, hw⟩
    subst w1
    go_wp2
    go_ret
    exact ⟨by go_num, rfl⟩
  · have e4 : m = 0 := by have := Hm.out; omega
    have e5 : q = 0 := by rw [← Hq.out, e4]; simp
    have e6 : n = 0 := by omega
    subst e4 e6 e5
    clear e1 e1'
    go_enter Tryd.func14, Tryd.ntmps14
    go_wp2_with fail
    refine k.mono ?_
    rintro e w1 ⟨rfl, hw⟩
    subst w1
    go_wp2
    go_ret
    exact ⟨by go_num, rfl⟩
end Go.Proofs.YtpnjcpamhelaeaaDoor
