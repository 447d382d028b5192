/- Bytes as a string, and the document's examples: the sum of 123456789, and a number of two bytes. -/
import Derived.Test.YtonhkmcjfggnlaaDoorDone
import Derived.Test.YtonhkmcjfggnlaaDoorSum
import Derived.Laws.BytesString
import Derived.Lib.SlBytesConst
namespace Go.Proofs.YtonhkmcjfggnlaaDoor
open Go.RowKit

/-- bytes as a string. -/
def strOf (l : List Nat) : ByteArray := ⟨(l.map UInt8.ofNat).toArray⟩
theorem str_fold (ns : List Nat) (s : ByteArray) : (ns.map (fun x : Nat => (x : Int))).foldl (fun r n => r.push (UInt8.ofNat n.toNat)) s = ⟨s.data ++ (ns.map UInt8.ofNat).toArray⟩ := by
  induction ns generalizing s with
  | nil => simp
  | cons x ns ih =>
    simp only [List.map_cons, List.foldl_cons, ih]
    simp [ByteArray.push]
theorem run_str (w : World) (ao : Option Addr) (l : List Nat) (cap : Nat) (h : Row w ao l cap) : (convert 23 9 (.slice ao l.length cap)).run Tryd.prog w = .ok (.string (strOf l)) w := by
  rw [run_convert_bytes_string w 23 9 5 ao l.length cap Tryd.underlying23 Tryd.underlying5 Tryd.underlying9]
  obtain ⟨h1, h2, h3, h4, h5⟩ := h
  cases ao with
  | none =>
    have := h4 rfl
    have hl : l = [] := List.eq_nil_of_length_eq_zero (by omega)
    subst hl
    simp [Conv.bytesToString, strOf]
    rfl
  | some a =>
    have hload : (loadCells a l.length).run Tryd.prog w = .ok ((l.map (fun x : Nat => (x : Int))).map (Value.int .u8)).toArray w := by
      have := run_loadCells_list (P := Tryd.prog) w a (cellsOf l) (by
        intro j u hu
        have hj : j < l.length := by
          have := (List.getElem?_eq_some_iff.1 hu).1
          rwa [cellsOf_length] at this
        obtain ⟨b, off, he, hc⟩ := h5 (fun e => by rw [e] at hj; simp at hj)
        cases he
        rw [cellsOf_get l j hj] at hu
        cases hu
        rw [show (⟨b, off, none⟩ : Addr).add j = ⟨b, off + j, none⟩ from by unfold Addr.add; split <;> simp_all]
        exact hc j hj)
      rw [cellsOf_length] at this
      rw [this]
      simp [cellsOf]
    rw [run_bytesToString w a l.length cap _ hload, str_fold]
    simp [strOf]
theorem strOf_inj (l m : List Nat) (hl : ∀ x ∈ l, x < 256) (hm : ∀ x ∈ m, x < 256) (h : strOf l = strOf m) : l = m := by
  have h2 : l.map UInt8.ofNat = m.map UInt8.ofNat := by
    have := congrArg (fun b : ByteArray => b.data.toList) h
    simpa [strOf] using this
  have h3 : ∀ k : List Nat, (∀ x ∈ k, x < 256) → (k.map UInt8.ofNat).map UInt8.toNat = k := by
    intro k hk
    induction k with
    | nil => rfl
    | cons x k ih =>
      have := hk x (by simp)
      simp only [List.map_cons, ih (fun y hy => hk y (by simp [hy]))]
      congr 1
      simp only [UInt8.toNat_ofNat']
      omega
  rw [← h3 l hl, ← h3 m hm, h2]

theorem awake_row (w : World) : Row (w.alloc (.cells #[.int .u8 49, .int .u8 50, .int .u8 51, .int .u8 52, .int .u8 53, .int .u8 54, .int .u8 55, .int .u8 56, .int .u8 57] 5 (9, 10))) (some ⟨w.heap.size, 0, none⟩) [49, 50, 51, 52, 53, 54, 55, 56, 57] 9 := by
  refine ⟨by simp, by unfold maxLen; simp, by decide, fun h => (by cases h), fun _ => ⟨w.heap.size, 0, rfl, fun i hi => ?_⟩⟩
  simp only [List.length_cons, List.length_nil] at hi
  rw [Nat.zero_add, cell_of_row _ w.heap.size i _ 5 (9, 10) (heap_alloc_new w _)]
  match i, hi with
  | 0, _ | 1, _ | 2, _ | 3, _ | 4, _ | 5, _ | 6, _ | 7, _ | 8, _ => rfl
theorem wr_new (w : World) (base : Nat) : Wr (w.alloc (.cells #[.slice none 0 0] 28)) base w.heap.size (.slice none 0 0) [] :=
  ⟨by simp, by simp, Own.nil _ _, by simp [Value.ownBlock]⟩
set_option maxHeartbeats 400000 in
theorem awake_any (w : World) (ht : Tab w) : Calls Tryd.prog 9 #[] w fun e w' => e = .returned (.bool true) ∧ Fr (fun _ => False) w w' := by
  have hz : (w.alloc (.cells #[.slice none 0 0] 28)).heap.size = w.heap.size + 1 := by simp
  have kc := Lib.run_convert_bytes_const (P := Tryd.prog) (w.alloc (.cells #[.slice none 0 0] 28)) 23 5 #[.int .u8 49, .int .u8 50, .int .u8 51, .int .u8 52, .int .u8 53, .int .u8 54, .int .u8 55, .int .u8 56, .int .u8 57] 9 9 Tryd.underlying23 Tryd.underlying5
  rw [hz] at kc
  have hrow := awake_row (w.alloc (.cells #[.slice none 0 0] 28))
  rw [hz] at hrow
  clear hz
  go_enter Tryd.func9, Tryd.ntmps9
  go_wp2_with fail
  refine (sum_any _ [49, 50, 51, 52, 53, 54, 55, 56, 57] 9 _ ?_ hrow).mono ?_
  · exact (((Fr.refl (fun _ => False) w).alloc _).alloc _).tab ht (by simp)
  have hsum : (Crc.sum [49, 50, 51, 52, 53, 54, 55, 56, 57]) = 3421780262 := by decide +kernel
  rw [hsum]
  rintro e w1 ⟨rfl, rfl⟩
  clear hrow kc hsum
  go_wp2_with fail
  refine (wnum_any w.heap.size w.heap.size (.slice none 0 0) [] 258 2 _ ((wr_new w _).alloc _) (by simp; omega) (by omega) (by omega) (by simp)).mono ?_
  rintro e w1 ⟨rfl, v1, hw1, hl1⟩
  have hf1 : Fr (fun _ => False) w w1 := (((Fr.refl (fun _ => False) w).alloc _).alloc _).trans' hl1.fr (fun i hi ht => by
    rcases ht with rfl | ht
    · omega
    · cases ht)
  go_wp2_with fail
  rw [show ([] ++ Crc.le 2 258 : List Nat) = [2, 1] by decide +kernel] at hw1
  refine (done_any _ _ _ [2, 1] _ hw1 (by simp)).mono ?_
  rintro e w2 ⟨a1, rfl, h1, h2⟩
  have hs : (convert 23 9 (.slice a1 2 2)).run Tryd.prog w2 = .ok (.string ⟨#[2, 1]⟩) w2 := by
    have := run_str w2 a1 [2, 1] 2 h1.1
    rwa [show strOf [2, 1] = ⟨#[2, 1]⟩ by decide +kernel] at this
  clear h1
  go_wp2
  go_ret
  exact ⟨rfl, hf1.trans h2⟩
end Go.Proofs.YtonhkmcjfggnlaaDoor
