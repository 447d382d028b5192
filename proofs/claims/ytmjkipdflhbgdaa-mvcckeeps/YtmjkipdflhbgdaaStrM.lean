/- Bytes as a string; a copy of bytes. -/
import Derived.Test.YtmjkipdflhbgdaaBase
import Derived.Laws.BytesString
import Derived.Lib.SlBytesConst
namespace Go.Proofs.Ytmjkipdflhbgdaa
open Go.RowKit
/-- bytes as a string. -/
def strOf (l : List Nat) : ByteArray := ⟨(l.map UInt8.ofNat).toArray⟩
theorem str_fold (ns : List Nat) (s : ByteArray) : (ns.map (fun x : Nat => (x : Int))).foldl (fun r n => r.push (UInt8.ofNat n.toNat)) s = ⟨s.data ++ (ns.map UInt8.ofNat).toArray⟩ := by
  induction ns generalizing s with
  | nil => simp
  | cons x ns ih =>
    simp only [List.map_cons, List.foldl_cons, ih]
    simp [ByteArray.push]
theorem run_str (w : World) (ao : Option Addr) (l : List Nat) (cap : Nat) (h : Row w ao l cap) : (convert 32 9 (.slice ao l.length cap)).run Try.prog w = .ok (.string (strOf l)) w := by
  rw [run_convert_bytes_string w 32 9 5 ao l.length cap Try.underlying32 Try.underlying5 Try.underlying9]
  obtain ⟨h1, h2, h3, h4, h5⟩ := h
  cases ao with
  | none =>
    have := h4 rfl
    have hl : l = [] := List.eq_nil_of_length_eq_zero (by omega)
    subst hl
    simp [Conv.bytesToString, strOf]
    rfl
  | some a =>
    have hload : (loadCells a l.length).run Try.prog w = .ok ((l.map (fun x : Nat => (x : Int))).map (Value.int .u8)).toArray w := by
      have := run_loadCells_list (P := Try.prog) w a (cellsOf l) (by
        intro j u hu
        have hj : j < l.length := by
          have := (List.getElem?_eq_some_iff.1 hu).1
          rwa [cellsOf_length] at this
        obtain ⟨b, off, he, hc⟩ := h5 (fun e => by rw [e] at hj; simp at hj)
        cases he
        rw [cellsOf_get l j hj] at hu
        cases hu
        rw [show (⟨b, off, none⟩ : Addr).add j = ⟨b, off + j, none⟩ from by unfold Addr.add; split <;> simp_all]
        exact hc j hj)
      rw [cellsOf_length] at this
      rw [this]
      simp [cellsOf]
    rw [run_bytesToString w a l.length cap _ hload, str_fold]
    simp [strOf]
theorem strOf_inj (l m : List Nat) (hl : ∀ x ∈ l, x < 256) (hm : ∀ x ∈ m, x < 256) (h : strOf l = strOf m) : l = m := by
  have h2 : l.map UInt8.ofNat = m.map UInt8.ofNat := by
    have := congrArg (fun b : ByteArray => b.data.toList) h
    simpa [strOf] using this
  have h3 : ∀ k : List Nat, (∀ x ∈ k, x < 256) → (k.map UInt8.ofNat).map UInt8.toNat = k := by
    intro k hk
    induction k with
    | nil => rfl
    | cons x k ih =>
      have := hk x (by simp)
      simp only [List.map_cons, ih (fun y hy => hk y (by simp [hy]))]
      congr 1
      simp only [UInt8.toNat_ofNat']
      omega
  rw [← h3 l hl, ← h3 m hm, h2]

theorem run_str' (w : World) (ao : Option Addr) (l : List Nat) (n cap : Nat) (hn : l.length = n) (h : Row w ao l cap) : (convert 32 9 (.slice ao n cap)).run Try.prog w = .ok (.string (strOf l)) w := by
  subst hn; exact run_str w ao l cap h
theorem row_nil (w : World) : Row w none [] 0 := ⟨Nat.le_refl _, Nat.zero_le _, by simp, fun _ => rfl, fun h => absurd rfl h⟩
set_option maxHeartbeats 400000 in
theorem cloneB_any (ao : Option Addr) (l : List Nat) (cap : Nat) (w : World) (hr : Row w ao l cap) (hlen : l.length ≤ 1000000) :
    Calls Try.prog 83 #[.slice ao l.length cap] w fun e w' => ∃ a1 c1, e = .returned (.slice a1 l.length c1) ∧ Row w' a1 l c1 ∧ (∀ a, a1 = some a → w.heap.size ≤ a.block) ∧ Fr (fun _ => False) w w' := by
  have q := fun (w : World) (a : Option Addr) (n c n' c' : Nat) => Lib.run_eql_slice_nil (P := Try.prog) w 32 _ a n c n' c' Try.underlying32
  cases ao with
  | none =>
    have hc := hr.2.2.2.1 rfl
    subst hc
    have hl : l = [] := List.eq_nil_of_length_eq_zero (by have := hr.1; omega)
    subst hl
    simp only [List.length_nil]
    go_enter Try.func83, Try.ntmps83
    go_wp2
    go_ret
    exact ⟨none, 0, rfl, row_nil _, fun a ha => (by cases ha), Fr.refl _ _⟩
  | some a =>
    have f0 := (Fr.refl (fun _ => False) w).alloc (.cells #[] 5)
    have hown : Own (w.alloc (.cells #[] 5)) w.heap.size (.slice (some ⟨w.heap.size, 0, none⟩) 0 0) [] := ⟨World.ownsRow_made w #[] 0 (Nat.le_refl _) (Nat.zero_le _) (by simp), by simp⟩
    have hr1 := f0.row hr (by simp)
    have HR : Hid (Row _ _ _ _) := hr1
    clear hr hr1
    go_enter Try.func83, Try.ntmps83
    go_wp2_with (at_builtin; refine wpList_append_bytes rfl (.tmp 5) (.tmp 6) rfl w.heap.size _ [] rfl hown (some a) l cap rfl HR.out (by simp; omega) (by simp) ?_)
    intro v1 w1 ho1 hg1 _
    have f1 : Fr (fun _ => False) w w1 := f0.grown hg1 (fun k hk => by simp [Value.ownBlock] at hk; omega)
    obtain ⟨a1, c1, hv, hr1, hb1⟩ := ho1.row
    subst hv
    go_wp2
    go_ret
    exact ⟨a1, c1, rfl, hr1, fun a ha => (hb1 a ha).1, f1⟩
end Go.Proofs.Ytmjkipdflhbgdaa
