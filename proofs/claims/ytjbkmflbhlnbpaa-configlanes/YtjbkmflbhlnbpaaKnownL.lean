/- The known lattices, as they are built. -/
import Derived.Test.YtjbkmflbhlnbpaaNew
namespace Go.Proofs.Ytjbkmflbhlnbpaa
open Go.RowKit

/-- some lattices: two labels, one, three in a chain, a diamond, all subsets of three. -/
def lats (k : Nat) : List Nat := if k % 5 = 0 then [3, 2] else if k % 5 = 1 then [1] else if k % 5 = 2 then [1, 3, 7] else if k % 5 = 3 then [15, 10, 12, 8] else [255, 170, 204, 136, 240, 160, 192, 128]
theorem lats_fine (k : Nat) : 0 < (lats k).length ∧ (lats k).length ≤ 16 ∧ (∀ x ∈ lats k, x < 18446744073709551616) ∧ Lat.ok (lats k) = true := by
  have h : k % 5 = 0 ∨ k % 5 = 1 ∨ k % 5 = 2 ∨ k % 5 = 3 ∨ k % 5 = 4 := by omega
  unfold lats
  rcases h with h | h | h | h | h <;> rw [h] <;> decide +kernel
/-- numbers that the call has laid, and may write over. -/
def Laid (w : World) (g : Nat) (l : List Nat) : Prop := At .u64 w g 0 l ∧ ∀ i, w.frozen? ⟨g, i, none⟩ = false
theorem laid_new (w : World) (l : List Nat) (cs : Array Value) (h : cs.toList = cellsOf .u64 l) : Laid (w.alloc (.cells cs 42)) w.heap.size l := by
  refine ⟨fun i hi => ?_, fun i => (World.rowIs_alloc w cs 42 (fun i => cs.getD i undef) (fun i hi => by simp [hi])).frozen i⟩
  rw [cell_of_row _ w.heap.size (0 + i) _ 42 (0, 0) (heap_alloc_new w _), Nat.zero_add, ← Array.getElem?_toList, h]
  exact cellsOf_get .u64 l i hi
/-- what stands above a in the cube, of the first j. -/
def cubeU (a j : Nat) : Nat := (List.range j).foldl (fun m b => if a &&& b = a then m ||| 2 ^ b else m) 0
theorem cubeU_step (a j : Nat) : cubeU a (j + 1) = if a &&& j = a then cubeU a j ||| 2 ^ j else cubeU a j := by
  unfold cubeU
  rw [List.range_succ, List.foldl_append, List.foldl_cons, List.foldl_nil]
theorem cubeU_lt : ∀ a : Fin 8, ∀ j : Fin 9, cubeU a.val j.val < 256 := by decide +kernel
theorem and8 : ∀ a b : Fin 8, bits .and .i64 (a.val : Int) (b.val : Int) = ((a.val &&& b.val : Nat) : Int) := by decide +kernel
def cubeL (a : Nat) : List Nat := (List.range a).map fun a => cubeU a 8
theorem cubeL_step (a : Nat) : cubeL (a + 1) = cubeL a ++ [cubeU a 8] := by simp [cubeL, List.range_succ]
theorem cubeL_end : cubeL 8 = [255, 170, 204, 136, 240, 160, 192, 128] := by decide +kernel
theorem cubeL_len (a : Nat) : (cubeL a).length = a := by simp [cubeL]

theorem mod_u8 (k r : Nat) (h : k % 5 = r) : (k : Int) % 5 = (r : Int) := by omega
set_option maxHeartbeats 1000000 in
theorem lattices_any (k : Nat) (w : World) (hk : k < 256) :
    Calls Try.prog 37 #[.int .u8 (k : Int)] w fun e w' => ∃ g c, e = .returned (.slice (some ⟨g, 0, none⟩) (lats k).length c) ∧ w.heap.size ≤ g ∧ Laid w' g (lats k) ∧ Fr (fun _ => False) w w' := by
  have h : k % 5 = 0 ∨ k % 5 = 1 ∨ k % 5 = 2 ∨ k % 5 = 3 ∨ k % 5 = 4 := by omega
  rcases h with h | h | h | h | h
  · have hm : (k : Int) % 5 = 0 := by omega
    have hl : lats k = [3, 2] := by unfold lats; rw [h]; rfl
    have hA := laid_new w [3, 2] #[.int .u64 3, .int .u64 2] rfl
    rw [hl]
    clear h hl
    go_enter Try.func37, Try.ntmps37
    go_wp2
    go_ret
    exact ⟨w.heap.size, _, rfl, Nat.le_refl _, hA, (Fr.refl _ _).alloc _⟩
  · have hm : (k : Int) % 5 = 1 := by omega
    have hl : lats k = [1] := by unfold lats; rw [h]; rfl
    have hA := laid_new w [1] #[.int .u64 1] rfl
    rw [hl]
    clear h hl
    go_enter Try.func37, Try.ntmps37
    go_wp2
    go_ret
    exact ⟨w.heap.size, _, rfl, Nat.le_refl _, hA, (Fr.refl _ _).alloc _⟩
  · have hm : (k : Int) % 5 = 2 := by omega
    have hl : lats k = [1, 3, 7] := by unfold lats; rw [h]; rfl
    have hA := laid_new w [1, 3, 7] #[.int .u64 1, .int .u64 3, .int .u64 7] rfl
    rw [hl]
    clear h hl
    go_enter Try.func37, Try.ntmps37
    go_wp2
    go_ret
    exact ⟨w.heap.size, _, rfl, Nat.le_refl _, hA, (Fr.refl _ _).alloc _⟩
  · have hm : (k : Int) % 5 = 3 := by omega
    have hl : lats k = [15, 10, 12, 8] := by unfold lats; rw [h]; rfl
    have hA := laid_new w [15, 10, 12, 8] #[.int .u64 15, .int .u64 10, .int .u64 12, .int .u64 8] rfl
    rw [hl]
    clear h hl
    go_enter Try.func37, Try.ntmps37
    go_wp2
    go_ret
    exact ⟨w.heap.size, _, rfl, Nat.le_refl _, hA, (Fr.refl _ _).alloc _⟩
  · have hm : (k : Int) % 5 = 4 := by omega
    have hl : lats k = cubeL 8 := by rw [cubeL_end]; unfold lats; rw [h]; rfl
    rw [hl, cubeL_len]
    clear h hl
    go_enter Try.func37, Try.ntmps37
    go_wp2
    clear hm
    go_loopw [3, 4, 5, 6] (fun v i _ _ wr => ∃ a : Nat, a ≤ 8 ∧ i = .int .i64 (a : Int) ∧ Own .u64 42 wr w.heap.size v (cubeL a) ∧ Fr (fun _ => False) w wr) (fun _ i _ _ _ => 8 - (intOf i).toNat)
    case atStart => exact ⟨0, Nat.zero_le _, rfl, Own.nil _ _ _ _, Fr.refl _ _⟩
    case round =>
      obtain ⟨a, ha, rfl, ho, hf⟩ := hrel
      by_cases hlt : a < 8
      · go_wp2
        go_loop [5, 6] (fun u i => ∃ j : Nat, j ≤ 8 ∧ i = .int .i64 (j : Int) ∧ u = .int .u64 ((cubeU a j : Nat) : Int)) (fun _ i => 8 - (intOf i).toNat)
        case atStart => exact ⟨0, Nat.zero_le _, rfl, rfl⟩
        case round =>
          obtain ⟨j, hj, rfl, rfl⟩ := hrel
          have hst := cubeU_step a j
          obtain ⟨x, hx, Hx⟩ : ∃ x, x < 256 ∧ Hid (cubeU a j = x) := ⟨_, cubeU_lt ⟨a, hlt⟩ ⟨j, by omega⟩, rfl⟩
          rw [Hx.out] at hst ⊢
          by_cases hltj : j < 8
          · have hand := and8 ⟨a, hlt⟩ ⟨j, hltj⟩
            simp only at hand
            obtain ⟨p, hpl, hpow, Hp⟩ : ∃ p : Nat, p < 256 ∧ IntKind.u64.wrap (2 ^ j) = (p : Int) ∧ Hid ((2 : Nat) ^ j = p) := ⟨_, Nat.lt_of_lt_of_le (Nat.pow_lt_pow_right (show 1 < 2 by decide) hltj) (by decide), wrap_pow j (by omega), rfl⟩
            have hor := or_cast x p (by omega) (by omega)
            rw [Hp.out] at hst
            by_cases hs : a &&& j = a
            · rw [if_pos hs] at hst
              rw [hs] at hand
              have HS : Hid _ := hst
              clear hst hs
              go_wp2
              go_round
              case rel => exact ⟨j + 1, by omega, by go_num, by rw [HS.out]⟩
              case measure => simp [intOf]; omega
            · rw [if_neg hs] at hst
              have HS : Hid _ := hst
              have hs' : ¬ ((a &&& j : Nat) : Int) = (a : Int) := by omega
              obtain ⟨q, Hq⟩ : ∃ q, Hid (a &&& j = q) := ⟨_, rfl⟩
              rw [Hq.out] at hand hs'
              clear hst hs
              go_wp2
              go_round
              case rel => exact ⟨j + 1, by omega, by go_num, by rw [HS.out]⟩
              case measure => simp [intOf]; omega
          · have hj8 : j = 8 := by omega
            subst hj8
            have hsL := cubeL_step a
            rw [Hx.out] at hsL
            have hln : (cubeL a).length ≤ 8 := by rw [cubeL_len]; omega
            generalize cubeL a = L at *
            have HS : Hid _ := hsL
            obtain ⟨ao, cp, rfl, hrow⟩ := ho.row
            have hsz := hf.size
            have f1 := hf.alloc (.cells #[.int .u64 (x : Int)] 42)
            have ho1 := ho.fr ((Fr.refl (fun _ => False) _).alloc (.cells #[.int .u64 (x : Int)] 42)) (by simp)
            clear hrow hsL hst
            go_wp2_with (refine wpList_append .u64 22 42 kindU rfl _ _ rfl w.heap.size _ L rfl ho1 _ 0 [x] 1 rfl (at_one .u64 _ x 42) (by simp; omega) (by simp; omega) ?_)
            intro v' w' ho2 hg
            go_wp2
            go_roundw
            case rel => exact ⟨a + 1, by omega, by go_num, by rw [HS.out]; exact ho2, f1.own hg (fun j hj => (ho1.lt j hj).1) (fun j hj => .inr hj)⟩
            case measure => simp [intOf]; omega
      · have ha8 : a = 8 := by omega
        subst ha8
        obtain ⟨ao, cp, rfl, hrow⟩ := ho.row
        obtain ⟨g, rfl, hge, hA, hz⟩ := hrow (by decide)
        rw [cubeL_len]
        clear hrow ho
        go_wp2
        go_ret
        exact ⟨g, cp, rfl, hge, ⟨hA, hz⟩, hf⟩
end Go.Proofs.Ytjbkmflbhlnbpaa
