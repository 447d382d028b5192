/- The relation told from its other end: what turned makes. -/
import Derived.Test.YtjbkmflbhlnbpaaCode
import Derived.Deep.OwnRows
namespace Go.Proofs.Ytjbkmflbhlnbpaa
open Go.RowKit

namespace Lat
/-- what turned has told of a label behind k of them. -/
def part (up : List Nat) (k b : Nat) : Nat := (List.range k).foldl (fun m a => if rel up a b then m ||| 2 ^ a else m) 0
theorem part_zero (up : List Nat) (b : Nat) : part up 0 b = 0 := rfl
theorem part_succ (up : List Nat) (k b : Nat) : part up (k + 1) b = if rel up k b then part up k b ||| 2 ^ k else part up k b := by
  unfold part
  rw [List.range_succ, List.foldl_append, List.foldl_cons, List.foldl_nil]
theorem part_lt (up : List Nat) (k b : Nat) (hk : k ≤ 64) : part up k b < 18446744073709551616 := by
  have h : part up k b < 2 ^ k := lt_of_bits fun i hi => by
    unfold part at hi
    rw [fold_testBit] at hi
    simp at hi
    exact hi.1
  exact Nat.lt_of_lt_of_le h (by have := Nat.pow_le_pow_right (n := 2) (by decide) hk; simpa using this)
end Lat
theorem Fr.rowIs {S : Nat → Prop} {w w1 : World} {g t n : Nat} {f : Nat → Value} (h : w.rowIs g t n f) (k : Fr S w w1) (hs : ¬ S g) : w1.rowIs g t n f := h.of_block (k.block g h.lt hs)
theorem rowIs_drewN {w : World} {b t n : Nat} {f : Nat → Value} (h : w.rowIs b t n f) (q : Nat) : (w.drewN q).rowIs b t n f := h
theorem At.of_row {k : IntKind} {w : World} {g t : Nat} {l : List Nat} (h : w.rowIs g t l.length (fun i => .int k ((l.getD i 0 : Nat) : Int))) : At k w g 0 l := fun i hi => by rw [Nat.zero_add]; exact h.cell hi

theorem Try.info42 : (Try.prog.info? 42).map (fun i => (i.zero, i.size, i.bytes)) = some (some (.int .u64 0), 1, 8) := by kernel_rfl
theorem or_cast (a b : Nat) (ha : a < 18446744073709551616) (hb : b < 18446744073709551616) : bits .or .u64 (a : Int) (b : Int) = ((a ||| b : Nat) : Int) := u64_or_nat a b ha hb
set_option maxHeartbeats 400000 in
theorem turned_any (b off cap : Nat) (l : List Nat) (w : World) (hl : l.length ≤ 64) (hb : ∀ x ∈ l, x < 18446744073709551616) (hc : At .u64 w b off l) :
    Calls Try.prog 50 #[.slice (some ⟨b, off, none⟩) l.length cap] w fun e w' => e = .returned (.slice (some ⟨w.heap.size, 0, none⟩) l.length l.length) ∧ w'.rowIs w.heap.size 42 l.length (fun i => .int .u64 (((Lat.turn l).getD i 0 : Nat) : Int)) ∧ Fr (fun _ => False) w w' := by
  have hmk := run_make_row' (P := Try.prog) 22 42 (.int .u64 0) 8 Try.underlying22 Try.info42 rfl .i64 .i64 l.length (by omega) (by omega)
  have f0 : Fr (fun _ => False) w (w.alloc (.cells (madeCells #[.int .u64 0] l.length) 42)) := (Fr.refl _ _).alloc _
  have r0 : (w.alloc (.cells (madeCells #[.int .u64 0] l.length) 42)).rowIs w.heap.size 42 l.length (fun j => .int .u64 ((Lat.part l 0 j : Nat) : Int)) := World.rowIs_made w _ _ _
  obtain ⟨g, Hg⟩ : ∃ g, Hid (w.heap.size = g) := ⟨_, rfl⟩
  rw [Hg.out] at r0 ⊢
  go_enter Try.func50, Try.ntmps50
  go_wp2
  rw [Hg.out]
  go_loopw [4, 5, 6, 12, 17, 18, 19] (fun _ _ _ i _ _ _ wr => ∃ k : Nat, k ≤ l.length ∧ i = .int .i64 (k : Int) ∧ wr.rowIs g 42 l.length (fun j => .int .u64 ((Lat.part l k j : Nat) : Int)) ∧ Fr (fun _ => False) w wr) (fun _ _ _ i _ _ _ _ => l.length - (intOf i).toNat)
  case atStart => exact ⟨0, Nat.zero_le _, rfl, r0, f0⟩
  case round =>
    clear hmk f0 r0
    obtain ⟨k, hk, rfl, hr, hf⟩ := hrel
    by_cases hlt : k < l.length
    · obtain ⟨c, hcl, hcell, Hc⟩ := (hc.fr hf (by simp)).one hb k hlt
      obtain ⟨p, hpl, hpow, Hp⟩ : ∃ p : Nat, p < 18446744073709551616 ∧ IntKind.u64.wrap (2 ^ k) = (p : Int) ∧ Hid ((2 : Nat) ^ k = p) := ⟨_, Nat.lt_of_lt_of_le (Nat.pow_lt_pow_right (show 1 < 2 by decide) (show k < 64 by omega)) (by decide), wrap_pow k (by omega), rfl⟩
      go_wp2
      clear hcell
      go_loopw [6, 19] (fun _ i wr => ∃ k2 : Nat, k2 ≤ l.length ∧ i = .int .i64 (k2 : Int) ∧ wr.rowIs g 42 l.length (fun j => .int .u64 (((if j < k2 then Lat.part l (k + 1) j else Lat.part l k j) : Nat) : Int)) ∧ Fr (fun _ => False) w wr) (fun _ i _ => l.length - (intOf i).toNat)
      case atStart => exact ⟨0, Nat.zero_le _, rfl, hr.congr (fun i _ => by simp), hf⟩
      case round =>
        rename_i wr2 _ _
        obtain ⟨k2, hk2, rfl, hr2, hf2⟩ := hrel
        by_cases hlt2 : k2 < l.length
        · have h1 := fun W => has_any c k2 W hcl (by omega)
          cases ht : c.testBit k2 with
          | true =>
            rw [ht] at h1
            have hcell := hr2.cell hlt2
            have hfz := hr2.frozen k2
            obtain ⟨x, hx, Hx⟩ : ∃ x, x < 18446744073709551616 ∧ Hid (Lat.part l k k2 = x) := ⟨_, Lat.part_lt l k k2 (by omega), rfl⟩
            rw [if_neg (by omega), Hx.out] at hcell
            have hor := or_cast x p hx hpl
            have HF : Hid (Lat.part l (k + 1) k2 = x ||| p) := by
              show _ = _
              rw [Lat.part_succ, if_pos (by show (l.getD k 0).testBit k2 = true; rw [← Hc.out]; exact ht), Hx.out, Hp.out]
            obtain ⟨y, Hy⟩ : ∃ y, Hid (x ||| p = y) := ⟨_, rfl⟩
            rw [Hy.out] at hor
            rw [Hy.out] at HF
            clear ht
            go_wp2_with fail
            refine (h1 _).mono ?_
            rintro e w2 ⟨rfl, hw⟩
            subst w2
            go_wp2
            go_region
            go_wp2
            go_roundw
            case rel =>
              refine ⟨k2 + 1, by omega, by go_num, ?_, (hf2.setCell (Or.inr (by rw [Hg.out]; exact Nat.le_refl _)) _).drew⟩
              refine (hr2.set k2 _).congr fun j hj => ?_
              by_cases e : j = k2
              · subst e
                rw [if_pos rfl, if_pos (by omega), HF.out]
              · rw [if_neg e]
                by_cases e2 : j < k2
                · rw [if_pos e2, if_pos (by omega)]
                · rw [if_neg e2, if_neg (by omega)]
            case measure => simp [intOf]; omega
          | false =>
            rw [ht] at h1
            have HF : Hid (Lat.part l (k + 1) k2 = Lat.part l k k2) := by
              show _ = _
              rw [Lat.part_succ, if_neg (by show ¬ (l.getD k 0).testBit k2 = true; rw [← Hc.out, ht]; decide)]
            clear ht
            go_wp2_with fail
            refine (h1 _).mono ?_
            rintro e w2 ⟨rfl, hw⟩
            subst w2
            go_wp2
            go_roundw
            case rel =>
              refine ⟨k2 + 1, by omega, by go_num, hr2.congr fun j hj => ?_, hf2⟩
              by_cases e : j = k2
              · subst e
                rw [if_neg (by omega), if_pos (by omega), HF.out]
              · by_cases e2 : j < k2
                · rw [if_pos e2, if_pos (by omega)]
                · rw [if_neg e2, if_neg (by omega)]
            case measure => simp [intOf]; omega
        · go_wp2
          go_roundw
          case rel => exact ⟨k + 1, by omega, by go_num, hr2.congr (fun j hj => by rw [if_pos (by omega)]), hf2⟩
          case measure => simp [intOf]; omega
    · have hkl : k = l.length := by omega
      have HR : Hid (wr.rowIs g 42 l.length (fun i => .int .u64 (((Lat.turn l).getD i 0 : Nat) : Int))) := hr.congr fun i hi => by rw [Lat.turn_get l i hi, hkl]; rfl
      clear hkl hr
      go_wp2
      go_ret
      exact ⟨rfl, HR.out, hf⟩
end Go.Proofs.Ytjbkmflbhlnbpaa
