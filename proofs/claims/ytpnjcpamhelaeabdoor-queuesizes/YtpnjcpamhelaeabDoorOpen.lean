/- The program's Open, and the document's own, at all bytes. -/
import Derived.Test.YtpnjcpamhelaeabDoorSeal
import Derived.Deep.RegionWith
import Derived.Deep.DrawnRows
import Derived.WideShapes
namespace Go.Proofs.YtpnjcpamhelaeabDoor
open Go.RowKit
attribute [local go_sem ↓] Go.wp_at_zero Go.wp_at_succ

theorem toList_loop (bs : ByteArray) (n : Nat) : ∀ (i : Nat) (r : List UInt8), bs.size - i = n → ByteArray.toList.loop bs i r = r.reverse ++ bs.data.toList.drop i := by
  have hs : bs.data.toList.length = bs.size := by simp
  induction n with
  | zero =>
    intro i r hn
    rw [ByteArray.toList.loop.eq_def, if_neg (by omega), List.drop_eq_nil_of_le (by omega)]; simp
  | succ n ih =>
    intro i r hn
    rw [ByteArray.toList.loop.eq_def, if_pos (by omega), ih (i + 1) _ (by omega), List.drop_eq_getElem_cons (show i < bs.data.toList.length by omega)]
    have hg : bs.get! i = bs.data.toList[i]'(by omega) := by
      have h2 : i < bs.data.size := by simp at hs ⊢; omega
      rw [Array.getElem_toList]; exact getElem!_pos bs.data i h2
    simp [hg]
theorem toList_eq (bs : ByteArray) : bs.toList = bs.data.toList := by
  unfold ByteArray.toList; rw [toList_loop bs _ 0 [] rfl]; simp
theorem toList_beq (a b : ByteArray) : (a.toList == b.toList) = decide (a = b) := by
  rw [toList_eq, toList_eq]
  by_cases h : a = b
  · subst h; simp
  · have : ¬ a.data = b.data := fun e => h (Go.WideShapes.bytes_inj (by rw [e]))
    simp [h, this]
theorem run_str' (w : World) (ao : Option Addr) (l : List Nat) (n cap : Nat) (hn : l.length = n) (h : Row w ao l cap) : (convert 30 9 (.slice ao n cap)).run Tryd.prog w = .ok (.string (strOf l)) w := by
  subst hn; exact run_str w ao l cap h
end Go.Proofs.YtpnjcpamhelaeabDoor
