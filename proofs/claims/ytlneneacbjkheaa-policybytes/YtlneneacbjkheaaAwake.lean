/- The document's example of a book. -/
import Derived.Test.YtlneneacbjkheaaAt
namespace Go.Proofs.Ytlneneacbjkheaa
open Go.RowKit
attribute [local go_sem] run_store_float
theorem last_none (q : Gr → Bool) : LastAt [] q 0 false := .inr ⟨rfl, rfl, fun j hj => by simp at hj⟩
theorem last_one (x : Gr) (q : Gr → Bool) (h : q x = true) : LastAt [x] q 0 true := .inl ⟨rfl, by simp, h, fun j h1 h2 => by simp at h2; omega⟩
theorem last_one_no (x : Gr) (q : Gr → Bool) (h : q x = false) : LastAt [x] q 0 false := .inr ⟨rfl, rfl, fun j h2 => by
  have : j = 0 := by simp at h2; omega
  subst this
  exact h⟩
set_option maxRecDepth 100000 in
set_option maxHeartbeats 2000000 in
theorem awake_any (w : World) : Calls Try.prog 8 #[] w fun e w' => e = .returned (.bool true) ∧ Fr (fun _ => False) w w' := by
  go_enter Try.func8, Try.ntmps8
  go_wp2_with fail
  refine (new_any w w.heap.size (Nat.le_refl _)).mono ?_
  rintro e w1 ⟨rfl, b1, f1⟩
  have K1 : Hid (Calls _ _ _ _ _) := grant_any b1 ⟨5, 0, 0, 0, 0, 0, 1⟩ ⟨by decide, by decide, by decide⟩ 2 (by decide) (by simp) 0 false (last_none _)
  have F1 : Hid (Fr (fun _ => False) w w1) := f1
  have hw1 : w.heap.size < w1.heap.size := b1.lt
  clear b1 f1
  go_wp2_with fail
  refine K1.out.mono ?_
  rintro e w2 ⟨rfl, ⟨v2, b2, hv2⟩, f2⟩
  have F2 : Hid (Fr (fun _ => False) w w2) := F1.out.trans' f2 (fun i hi e => by
    rcases e with e | e
    · simp [Value.ownBlock] at e
    · omega)
  have b2' : Bk w2 w.heap.size w.heap.size [⟨⟨5, 0, 0, 0, 0, 0, 1⟩, 2, 0⟩] v2 := b2
  have K2 : Hid (Calls _ _ _ _ _) := revoke_any b2' 5 4 (by decide) (by simp) 0 true (last_one _ _ rfl)
  have hv2' : Hid (∀ k, v2.ownBlock = some k → w.heap.size ≤ k) := fun k hk => (b2'.own.lt k hk).1
  clear b2 b2' hv2 f2 K1
  go_wp2_with fail
  refine K2.out.mono ?_
  rintro e w3 ⟨rfl, b3, f3⟩
  have b3' : Bk w3 w.heap.size w.heap.size [⟨⟨5, 0, 0, 0, 0, 0, 1⟩, 2, 4⟩] v2 := b3
  have B3 : Hid (Bk w3 w.heap.size w.heap.size [⟨⟨5, 0, 0, 0, 0, 0, 1⟩, 2, 4⟩] v2) := b3'
  have F3 : Hid (Fr (fun _ => False) w w3) := F2.out.trans' f3 (fun i hi e => by have := hv2'.out i e; omega)
  have hw3 : w.heap.size < w3.heap.size := b3'.lt
  have K3 : Hid (Calls _ _ _ _ _) := at_no b3' 5 1 (by simp) 0 (last_one_no _ _ rfl)
  clear b3 b3' f3 K2
  go_wp2_with fail
  refine K3.out.mono ?_
  rintro e w4 ⟨rfl, f4⟩
  have F4 : Hid (Fr (fun _ => False) w3 (w4.alloc (.cells #[.int .u64 0, .int .i64 0, .int .i64 0, .float .f64 0, .float .f64 0, .int .u64 0, .int .i64 0] 34))) := f4.alloc _
  have K4 : Hid (Calls _ _ _ _ _) := at_yes (B3.out.fr F4.out (by simp) (by simp)) 5 3 (by simp) 0 (last_one _ _ rfl) _ rfl
  clear f4 K3
  go_wp2_with fail
  refine K4.out.mono ?_
  rintro e w5 ⟨rfl, f5⟩
  have F5 : Hid (Fr (fun _ => False) w3 (w5.alloc (.cells #[.int .u64 5, .int .i64 0, .int .i64 0, .float .f64 0, .float .f64 0, .int .u64 0, .int .i64 1] 34))) := (F4.out.trans f5).alloc _
  have K5 : Hid (Calls _ _ _ _ _) := at_no (B3.out.fr F5.out (by simp) (by simp)) 5 4 (by simp) 0 (last_one_no _ _ rfl)
  have HQ : Hid ((w5.alloc (.cells #[.int .u64 5, .int .i64 0, .int .i64 0, .float .f64 0, .float .f64 0, .int .u64 0, .int .i64 1] 34)).cell? ⟨w5.heap.size, 6, none⟩ = some (.int .i64 1)) := by show _ = _; simp
  clear f5 K4
  go_wp2_with fail
  refine K5.out.mono ?_
  rintro e w6 ⟨rfl, f6⟩
  have q6 := f6.cell HQ.out (by simp)
  have F6 : Hid (Fr (fun _ => False) w w6) := F3.out.trans (F5.out.trans f6)
  have q7 := ((Fr.refl (fun _ => False) w6).alloc (.cells #[.int .u64 0, .int .i64 0, .int .i64 0, .float .f64 0, .float .f64 0, .int .u64 0, .int .i64 0] 34)).cell q6 (by simp)
  clear f6 K5
  go_wp2
  go_ret
  exact ⟨rfl, F6.out.alloc _⟩
end Go.Proofs.Ytlneneacbjkheaa
