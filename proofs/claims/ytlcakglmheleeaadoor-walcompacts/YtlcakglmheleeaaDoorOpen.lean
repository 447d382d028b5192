/- The program's Open, and the document's own, at all bytes. -/
import Derived.Test.YtlcakglmheleeaaDoorSeal
import Derived.Deep.RegionWith
import Derived.Deep.DrawnRows
import Derived.WideShapes
namespace Go.Proofs.YtlcakglmheleeaaDoor
open Go.RowKit
attribute [local go_sem ↓] Go.wp_at_zero Go.wp_at_succ

theorem toList_loop (bs : ByteArray) (n : Nat) : ∀ (i : Nat) (r : List UInt8), bs.size - i = n → ByteArray.toList.loop bs i r = r.reverse ++ bs.data.toList.drop i := by
  have hs : bs.data.toList.length = bs.size := by simp
  induction n with
  | zero =>
    intro i r hn
    rw [ByteArray.toList.loop.eq_def, if_neg (by omega), List.drop_eq_nil_of_le (by omega)]; simp
  | succ n ih =>
    intro i r hn
    rw [ByteArray.toList.loop.eq_def, if_pos (by omega), ih (i + 1) _ (by omega), List.drop_eq_getElem_cons (show i < bs.data.toList.length by omega)]
    have hg : bs.get! i = bs.data.toList[i]'(by omega) := by
      have h2 : i < bs.data.size := by simp at hs ⊢; omega
      rw [Array.getElem_toList]; exact getElem!_pos bs.data i h2
    simp [hg]
theorem toList_eq (bs : ByteArray) : bs.toList = bs.data.toList := by
  unfold ByteArray.toList; rw [toList_loop bs _ 0 [] rfl]; simp
theorem toList_beq (a b : ByteArray) : (a.toList == b.toList) = decide (a = b) := by
  rw [toList_eq, toList_eq]
  by_cases h : a = b
  · subst h; simp
  · have : ¬ a.data = b.data := fun e => h (Go.WideShapes.bytes_inj (by rw [e]))
    simp [h, this]
theorem run_str' (w : World) (ao : Option Addr) (l : List Nat) (n cap : Nat) (hn : l.length = n) (h : Row w ao l cap) : (convert 23 9 (.slice ao n cap)).run Tryd.prog w = .ok (.string (strOf l)) w := by
  subst hn; exact run_str w ao l cap h
theorem open_short (ao : Option Addr) (l : List Nat) (cap : Nat) (w : World) (hl : l.length < 4) :
    Calls Tryd.prog 48 #[.slice ao l.length cap] w fun e w' => e = .returned (.tuple #[.slice none 0 0, .int .i64 5]) ∧ w' = w := by
  go_enter Tryd.func48, Tryd.ntmps48
  go_wp2
  go_ret2
  exact ⟨rfl, rfl⟩
set_option maxHeartbeats 2000000 in
theorem open_long (b off : Nat) (l : List Nat) (n cap : Nat) (w : World) (ht : Tab w) (hr : Row w (some ⟨b, off, none⟩) l cap) (hn : l.length = n + 4) (hlen : l.length ≤ 140737488355328) :
    Calls Tryd.prog 48 #[.slice (some ⟨b, off, none⟩) (n + 4) cap] w fun e w' => Fr (fun _ => False) w w' ∧
      ((Crc.num (l.drop n) ≠ Crc.sum (l.take n) ∧ e = .returned (.tuple #[.slice none 0 0, .int .i64 4])) ∨
       (Crc.num (l.drop n) = Crc.sum (l.take n) ∧ ∃ a1, e = .returned (.tuple #[.slice a1 n n, .int .i64 0]) ∧ Fresh w w' a1 (l.take n))) := by
  have c1 := hr.1
  have c2 := hr.2.1
  have b1 : ∀ x ∈ l.take n, x < 256 := fun x hx => hr.2.2.1 x (List.mem_of_mem_take hx)
  have hs := Crc.sum_lt _ b1
  have hrt : Row w (some ⟨b, off, none⟩) (l.take n) cap := by
    have := hr.take (n := n) (by omega)
    exact ⟨by simp; omega, c2, b1, fun e => (by cases e), this.2.2.2.2⟩
  have hrd : Row w (some ⟨b, off + n, none⟩) (l.drop n) (cap - n) := hr.drop (by omega) _ (fun _ => by unfold Addr.add; split <;> simp_all)
  have hlt : (l.take n).length = n := by simp; omega
  have hld : (l.drop n).length = 4 := by simp; omega
  have hnum : Hid (∀ W rb, Rd W rb (some ⟨b, off + n, none⟩) (l.drop n) (cap - n) false → _) := fun W rb h => rnum_ok W rb _ (l.drop n) (cap - n) 4 h (by omega) (by omega)
  rw [show (l.drop n).take 4 = l.drop n from List.take_of_length_le (by omega)] at hnum
  have hsum : Hid (∀ W, Tab W → Row W (some ⟨b, off, none⟩) (l.take n) cap → _) := fun W h1 h2 => sum_any (some ⟨b, off, none⟩) (l.take n) cap W h1 h2
  rw [hlt] at hsum
  have hread : Hid (∀ W, Row W (some ⟨b, off + n, none⟩) (l.drop n) (cap - n) → _) := fun W h => read_any W (some ⟨b, off + n, none⟩) (l.drop n) (cap - n) h
  rw [hld] at hread
  have hql : Crc.num (l.drop n) < 4294967296 := by have := Crc.num_lt (l.drop n) (fun x hx => hr.2.2.1 x (List.mem_of_mem_drop hx)); rwa [hld] at this
  have hown : Hid (∀ W, Row W (some ⟨b, off, none⟩) (l.take n) cap → _) := fun W h => own_any (some ⟨b, off, none⟩) (l.take n) cap W h (by omega)
  rw [hlt] at hown
  generalize Crc.num (l.drop n) = q at hnum hql ⊢
  generalize Crc.sum (l.take n) = s at hsum hs ⊢
  have HR : Hid _ := hrt
  have HD : Hid _ := hrd
  unfold maxLen at c2
  have g1 : (0 : Int) ≤ (n : Int) := by omega
  have g2 : (n : Int) ≤ (cap : Int) := by omega
  have g3 : ¬ cap = n := by omega
  have fd := (Fr.refl (fun _ => False) w).drew
  clear hrt hrd hr b1 hlt hld
  by_cases hqs : q = s
  · subst hqs
    have hwr : IntKind.u64.wrap (q : Int) = (q : Int) := wrap_u64_small _ (by omega) (by omega)
    have hb : ((q : Int) != (q : Int)) = false := by simp
    go_enter Tryd.func48, Tryd.ntmps48
    go_wp2_with fail
    go_region_with (first
      | (go_at_call 44; refine (hread.out _ ?_).mono ?_; exact fd.row HD.out (by simp); rintro e w1 ⟨rfl, h1, f1⟩; have f01 := fd.trans f1)
      | (go_at_call 49; refine (hnum.out _ _ h1).mono ?_; rintro e w2 ⟨rfl, a2, h2, f2, _⟩; have f02 : Fr (fun _ => False) w w2 := f01.trans' f2 (fun i hi e => by subst e; simp at hi))
      | (go_at_call 62; refine (hsum.out _ ?_ ?_).mono ?_; (first | exact f02.tab ht (by simp) | exact f01.tab ht (by simp) | exact fd.tab ht (by simp)); (first | exact f02.row HR.out (by simp) | exact f01.row HR.out (by simp) | exact fd.row HR.out (by simp)); rintro e w' ⟨rfl, hw'⟩; subst w'))
    all_goals
      go_wp2_with fail
      refine (hown.out _ (f02.row HR.out (by simp))).mono ?_
      rintro e w3 ⟨a3, rfl, h3, f3⟩
      go_wp2
      go_ret2
      exact ⟨f02.trans f3, .inr ⟨trivial, a3, rfl, h3.later f02.size⟩⟩
  · have hb : ((q : Int) != (s : Int)) = true := by rw [bne_iff_ne]; omega
    have HQ : Hid (¬ q = s) := hqs
    clear hqs
    have hwr : IntKind.u64.wrap (s : Int) = (s : Int) := wrap_u64_small _ (by omega) (by omega)
    go_enter Tryd.func48, Tryd.ntmps48
    go_wp2_with fail
    go_region_with (first
      | (go_at_call 44; refine (hread.out _ ?_).mono ?_; exact fd.row HD.out (by simp); rintro e w1 ⟨rfl, h1, f1⟩; have f01 := fd.trans f1)
      | (go_at_call 49; refine (hnum.out _ _ h1).mono ?_; rintro e w2 ⟨rfl, a2, h2, f2, _⟩; have f02 : Fr (fun _ => False) w w2 := f01.trans' f2 (fun i hi e => by subst e; simp at hi))
      | (go_at_call 62; refine (hsum.out _ ?_ ?_).mono ?_; (first | exact f02.tab ht (by simp) | exact f01.tab ht (by simp) | exact fd.tab ht (by simp)); (first | exact f02.row HR.out (by simp) | exact f01.row HR.out (by simp) | exact fd.row HR.out (by simp)); rintro e w' ⟨rfl, hw'⟩; subst w'))
    all_goals
      go_wp2
      go_ret2
      exact ⟨f02, .inl ⟨HQ.out, rfl⟩⟩
theorem sealed_iff (l : List Nat) (n : Nat) (hn : l.length = n + 4) (hb : ∀ x ∈ l, x < 256) : sealed (l.take n) = l ↔ Crc.num (l.drop n) = Crc.sum (l.take n) := by
  have b1 : ∀ x ∈ l.take n, x < 256 := fun x hx => hb x (List.mem_of_mem_take hx)
  have b2 : ∀ x ∈ l.drop n, x < 256 := fun x hx => hb x (List.mem_of_mem_drop hx)
  have hs := Crc.sum_lt _ b1
  have hnum : Crc.num (Crc.le 4 (Crc.sum (l.take n))) = Crc.sum (l.take n) := by rw [Crc.num_le]; exact Nat.mod_eq_of_lt hs
  constructor
  · intro h
    have h2 : l.take n ++ Crc.le 4 (Crc.sum (l.take n)) = l.take n ++ l.drop n := by rw [List.take_append_drop]; exact h
    rw [← List.append_cancel_left h2, hnum]
  · intro h
    unfold sealed
    have : Crc.le 4 (Crc.sum (l.take n)) = l.drop n := Crc.num_inj _ _ (Crc.le_lt _ _) b2 (by rw [Crc.le_length]; simp; omega) (by rw [hnum, h])
    rw [this, List.take_append_drop]
end Go.Proofs.YtlcakglmheleeaaDoor
