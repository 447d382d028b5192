/- The document's own span of shards. -/
import Derived.Test.YtjbkmflbhlnbpaaCfgP
namespace Go.Proofs.Ytjbkmflbhlnbpaa
open Go.RowKit

theorem spn_succ (a b k : Nat) : spn a b (k + 1) = spn a b k + (if a ≤ k ∧ k ≤ b then 2 ^ k else 0) := rfl
set_option maxRecDepth 100000 in
set_option maxHeartbeats 2000000 in
theorem refspan_any (w : World) (cl : List Nat) (ao : Option Addr) (cap : Nat) (hf : FRow w ao cl cap) (hn : cl.length ≤ 7) (up : Value) (nd fr de qu wi be el : Int) (lb : Int) (x y : Nat) (hx : x < 18446744073709551616) (hy : y < 18446744073709551616) :
    Calls Try.prog 28 #[.agg (cfg up nd (.slice ao cl.length cap) fr de qu wi be el), .agg #[.int .i64 lb, .float .f64 x, .float .f64 y]] w fun e w' => e = .returned (.int .u64 ((if Fl.rk y < Fl.rk x then 0 else spn (shard x cl) (shard y cl) 8 : Nat) : Int)) ∧ Fr (fun _ => False) w w' := by
  unfold cfg
  have f0 := ((Fr.refl (fun _ => False) w).alloc (.cells #[up, .int .i64 nd, .slice ao cl.length cap, .int .i64 fr, .int .i64 de, .int .i64 qu, .int .i64 wi, .int .i64 be, .int .i64 el] 25)).alloc (.cells #[.int .i64 lb, .float .f64 x, .float .f64 y] 47)
  obtain ⟨W, HW⟩ : ∃ W, Hid (W = (w.alloc (.cells #[up, .int .i64 nd, .slice ao cl.length cap, .int .i64 fr, .int .i64 de, .int .i64 qu, .int .i64 wi, .int .i64 be, .int .i64 el] 25)).alloc (.cells #[.int .i64 lb, .float .f64 x, .float .f64 y] 47)) := ⟨_, rfl⟩
  have x2 : W.cell? ⟨w.heap.size, 2, none⟩ = some (.slice ao cl.length cap) := by rw [HW.out]; simp
  have y1 : W.cell? ⟨w.heap.size + 1, 1, none⟩ = some (.float .f64 x) := by rw [HW.out]; simp
  have y2 : W.cell? ⟨w.heap.size + 1, 2, none⟩ = some (.float .f64 y) := by rw [HW.out]; simp
  rw [← HW.out] at f0
  have kl := ahead_any y x W hy hx
  have kx := refshard_any ao cl cap x W hx (hf.fr f0)
  have ky := refshard_any ao cl cap y W hy (hf.fr f0)
  have ha := shard_le x cl
  have hb := shard_le y cl
  generalize shard x cl = a at *
  generalize shard y cl = b at *
  have HSP : Hid (∀ k, k < 8 → bits .or .u64 ((spn a b k : Nat) : Int) ((2 ^ k : Nat) : Int) = ((spn a b k + 2 ^ k : Nat) : Int)) := fun k hk => spn_or a (by omega) b (by omega) k hk
  have HST : Hid (spn a b (cl.length + 1) = spn a b 8) := spn_stop a (by omega) b (by omega) cl.length (by omega) (by omega)
  have HLT : Hid (∀ k, k < 9 → spn a b k < 256) := fun k hk => spn_lt a (by omega) b (by omega) k hk
  clear hf
  by_cases hl : Fl.rk y < Fl.rk x
  · rw [decide_eq_true hl] at kl
    rw [if_pos hl]
    clear hl kx ky
    go_enter Try.func28, Try.ntmps28
    go_wp2
    rw [← HW.out]
    go_loop [5, 6] (fun m i => ∃ k : Nat, k ≤ cl.length + 1 ∧ i = .int .i64 (k : Int) ∧ m = .int .u64 0) (fun _ i => cl.length + 1 - (intOf i).toNat)
    case atStart => exact ⟨0, by omega, rfl, rfl⟩
    case round =>
      obtain ⟨k, hk, rfl, rfl⟩ := hrel
      by_cases hlt : k ≤ cl.length
      · go_wp2_with fail
        refine kl.mono ?_
        rintro e w9 ⟨rfl, hw⟩
        subst w9
        go_wp2
        go_round
        case rel => exact ⟨k + 1, by omega, by go_num, rfl⟩
        case measure => simp [intOf]; omega
      · go_wp2
        go_ret
        exact ⟨rfl, f0⟩
  · rw [decide_eq_false hl] at kl
    rw [if_neg hl]
    clear hl
    go_enter Try.func28, Try.ntmps28
    go_wp2
    rw [← HW.out]
    go_loop [5, 6] (fun m i => ∃ k s : Nat, k ≤ cl.length + 1 ∧ i = .int .i64 (k : Int) ∧ m = .int .u64 (s : Int) ∧ Hid (spn a b k = s) ∧ s < 256) (fun _ i => cl.length + 1 - (intOf i).toNat)
    case atStart => exact ⟨0, 0, by omega, rfl, rfl, rfl, by omega⟩
    case round =>
      obtain ⟨k, s, hk, rfl, rfl, Hs, hs⟩ := hrel
      by_cases hlt : k ≤ cl.length
      · have hss := spn_succ a b k
        rw [Hs.out] at hss
        by_cases hc : a ≤ k ∧ k ≤ b
        · obtain ⟨s', Hs'⟩ : ∃ s', Hid (spn a b (k + 1) = s') := ⟨_, rfl⟩
          have hs' : s' < 256 := by rw [← Hs'.out]; exact HLT.out (k + 1) (by omega)
          rw [if_pos hc] at hss
          have hor := HSP.out k (by omega)
          rw [Hs.out] at hor
          rw [← hss, Hs'.out] at hor
          obtain ⟨P, HP⟩ : ∃ P : Nat, Hid ((2 ^ k : Nat) = P) := ⟨_, rfl⟩
          rw [HP.out] at hor
          have hsh : IntKind.u64.wrap ((2 : Int) ^ k) = (P : Int) := by
            have hk7 : k = 0 ∨ k = 1 ∨ k = 2 ∨ k = 3 ∨ k = 4 ∨ k = 5 ∨ k = 6 ∨ k = 7 := by omega
            rw [← HP.out]
            rcases hk7 with rfl | rfl | rfl | rfl | rfl | rfl | rfl | rfl <;> decide
          obtain ⟨c1, c2⟩ := hc
          clear hss
          go_wp2_with fail
          refine kl.mono ?_
          rintro e w9 ⟨rfl, hw⟩
          subst w9
          go_wp2_with fail
          refine kx.mono ?_
          rintro e w9 ⟨rfl, hw⟩
          subst w9
          go_wp2_with fail
          refine ky.mono ?_
          rintro e w9 ⟨rfl, hw⟩
          subst w9
          go_wp2
          go_round
          case rel => exact ⟨k + 1, s', by omega, by go_num, rfl, Hs', hs'⟩
          case measure => simp [intOf]; omega
        · rw [if_neg hc, Nat.add_zero] at hss
          have Hs' : Hid (spn a b (k + 1) = s) := hss
          clear hss
          by_cases c1 : a ≤ k
          · have c2 : ¬ k ≤ b := fun h => hc ⟨c1, h⟩
            clear hc
            go_wp2_with fail
            refine kl.mono ?_
            rintro e w9 ⟨rfl, hw⟩
            subst w9
            go_wp2_with fail
            refine kx.mono ?_
            rintro e w9 ⟨rfl, hw⟩
            subst w9
            go_wp2_with fail
            refine ky.mono ?_
            rintro e w9 ⟨rfl, hw⟩
            subst w9
            go_wp2
            go_round
            case rel => exact ⟨k + 1, s, by omega, by go_num, rfl, Hs', hs⟩
            case measure => simp [intOf]; omega
          · clear hc
            go_wp2_with fail
            refine kl.mono ?_
            rintro e w9 ⟨rfl, hw⟩
            subst w9
            go_wp2_with fail
            refine kx.mono ?_
            rintro e w9 ⟨rfl, hw⟩
            subst w9
            go_wp2
            go_round
            case rel => exact ⟨k + 1, s, by omega, by go_num, rfl, Hs', hs⟩
            case measure => simp [intOf]; omega
      · have hkn : k = cl.length + 1 := by omega
        have hfin : Hid (spn a b 8 = s) := by show _ = _; rw [← HST.out, ← hkn]; exact Hs.out
        clear hkn
        go_wp2
        go_ret
        exact ⟨ret_int (by rw [hfin.out]), f0⟩
end Go.Proofs.Ytjbkmflbhlnbpaa
