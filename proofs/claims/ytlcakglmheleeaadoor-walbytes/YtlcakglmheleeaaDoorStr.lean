/- Bytes as a string, and the document's examples: the sum of 123456789, and a number of two bytes. -/
import Derived.Test.YtlcakglmheleeaaDoorDone
import Derived.Test.YtlcakglmheleeaaDoorSum
import Derived.Laws.BytesString
import Derived.Lib.SlBytesConst
namespace Go.Proofs.YtlcakglmheleeaaDoor
open Go.RowKit

/-- bytes as a string. -/
def strOf (l : List Nat) : ByteArray := ⟨(l.map UInt8.ofNat).toArray⟩
theorem str_fold (ns : List Nat) (s : ByteArray) : (ns.map (fun x : Nat => (x : Int))).foldl (fun r n => r.push (UInt8.ofNat n.toNat)) s = ⟨s.data ++ (ns.map UInt8.ofNat).toArray⟩ := by
  induction ns generalizing s with
  | nil => simp
  | cons x ns ih =>
    simp only [List.map_cons, List.foldl_cons, ih]
    simp [ByteArray.push]
theorem run_str (w : World) (ao : Option Addr) (l : List Nat) (cap : Nat) (h : Row w ao l cap) : (convert 23 9 (.slice ao l.length cap)).run Tryd.prog w = .ok (.string (strOf l)) w := by
  rw [run_convert_bytes_string w 23 9 5 ao l.length cap Tryd.underlying23 Tryd.underlying5 Tryd.underlying9]
  obtain ⟨h1, h2, h3, h4, h5⟩ := h
  cases ao with
  | none =>
    have := h4 rfl
    have hl : l = [] := List.eq_nil_of_length_eq_zero (by omega)
    subst hl
    simp [Conv.bytesToString, strOf]
    rfl
  | some a =>
    have hload : (loadCells a l.length).run Tryd.prog w = .ok ((l.map (fun x : Nat => (x : Int))).map (Value.int .u8)).toArray w := by
      have := run_loadCells_list (P := Tryd.prog) w a (cellsOf l) (by
        intro j u hu
        have hj : j < l.length := by
          have := (List.getElem?_eq_some_iff.1 hu).1
          rwa [cellsOf_length] at this
        obtain ⟨b, off, he, hc⟩ := h5 (fun e => by rw [e] at hj; simp at hj)
        cases he
        rw [cellsOf_get l j hj] at hu
        cases hu
        rw [show (⟨b, off, none⟩ : Addr).add j = ⟨b, off + j, none⟩ from by unfold Addr.add; split <;> simp_all]
        exact hc j hj)
      rw [cellsOf_length] at this
      rw [this]
      simp [cellsOf]
    rw [run_bytesToString w a l.length cap _ hload, str_fold]
    simp [strOf]
theorem strOf_inj (l m : List Nat) (hl : ∀ x ∈ l, x < 256) (hm : ∀ x ∈ m, x < 256) (h : strOf l = strOf m) : l = m := by
  have h2 : l.map UInt8.ofNat = m.map UInt8.ofNat := by
    have := congrArg (fun b : ByteArray => b.data.toList) h
    simpa [strOf] using this
  have h3 : ∀ k : List Nat, (∀ x ∈ k, x < 256) → (k.map UInt8.ofNat).map UInt8.toNat = k := by
    intro k hk
    induction k with
    | nil => rfl
    | cons x k ih =>
      have := hk x (by simp)
      simp only [List.map_cons, ih (fun y hy => hk y (by simp [hy]))]
      congr 1
      simp only [UInt8.toNat_ofNat']
      omega
  rw [← h3 l hl, ← h3 m hm, h2]

theorem wr_new (w : World) (base : Nat) : Wr (w.alloc (.cells #[.slice none 0 0] 105)) base w.heap.size (.slice none 0 0) [] :=
  ⟨by simp, by simp, Own.nil _ _, by simp [Value.ownBlock]⟩
end Go.Proofs.YtlcakglmheleeaaDoor
