/- The statement OctetReads, walked: whatever the bytes and the asks, it answers true and writes nothing that was there. -/
import Derived.Test.YtonhkmcjfggnlaaDoorReadAll
import Derived.Test.YtonhkmcjfggnlaaDoorOpen
import Derived.Deep.QuietTactic
import Derived.BigQuiet
namespace Go.Proofs.YtonhkmcjfggnlaaDoor
open Go.RowKit

theorem rnum_fail (w : World) (rb : Nat) (ao : Option Addr) (l : List Nat) (cap n : Nat) (bad : Bool) (h : Rd w rb ao l cap bad) (hb : bad = true ∨ l.length < n) : Calls Tryd.prog 18 #[.pointer (some ⟨rb, 0, none⟩), .int .i64 (n : Int)] w fun e w' =>
    e = .returned (.int .u64 0) ∧ ∃ a1 c1, Rd w' rb a1 [] c1 true ∧ Fr (fun k => k = rb) w w' := by
  rcases hb with rfl | hb
  · exact rnum_after w rb ao l cap n h
  · refine (rnum_bad w rb ao l cap bad n h (.inr (by omega))).mono ?_
    rintro e w1 ⟨he, h1, h2⟩
    exact ⟨he, none, 0, h1, h2⟩
theorem or_low (y z n j : Nat) (hy : y < 256 ^ (n - (j + 1))) (hn : n ≤ 8) (hj : j + 1 ≤ n) (hz : z < 256) : bits .or .u64 (IntKind.u64.wrap ((y : Int) * 256)) (z : Int) = ((z + 256 * y : Nat) : Int) ∧ z + 256 * y < 256 ^ (n - j) := by
  have h1 : 256 ^ (n - (j + 1)) ≤ 256 ^ 7 := Nat.pow_le_pow_right (by decide) (by omega)
  have h2 : 256 ^ (n - j) = 256 ^ (n - (j + 1)) * 256 := by rw [← Nat.pow_succ]; congr 1; omega
  have h7 : (256 : Nat) ^ 7 = 72057594037927936 := by decide
  have e1 : ((y : Int) * 256) = ((2 ^ 8 * y : Nat) : Int) := by rw [show (2 : Nat) ^ 8 = 256 from rfl]; omega
  refine ⟨?_, by omega⟩
  rw [e1, wrap_u64_small _ (Int.natCast_nonneg _) (by have : 2 ^ 8 * y < 2 ^ 64 := by omega
                                                      exact_mod_cast this), (bits_nat .u64 64 (by decide) wrap_u64_small (2 ^ 8 * y) z (by omega) (by omega)).2, ← Nat.two_pow_add_eq_or_of_lt (show z < 2 ^ 8 from hz) y, Nat.add_comm]
theorem num_drop (m : List Nat) (j : Nat) (h : j < m.length) : Crc.num (m.drop j) = m.getD j 0 + 256 * Crc.num (m.drop (j + 1)) := by
  rw [List.drop_eq_getElem_cons h]
  simp [Crc.num, h]
theorem Fr.drewsN {S : Nat → Prop} {w w1 : World} (h : Fr S w w1) (n : Nat) : Fr S w (w1.drewN n) := ⟨h.os, h.tape, h.output, h.size, h.block⟩
theorem Row.pre {w : World} {ao : Option Addr} {l : List Nat} {cap : Nat} (n : Nat) (h : Row w ao l cap) : Row w ao (l.take n) cap := by
  obtain ⟨h1, h2, h3, h4, h5⟩ := h
  refine ⟨by simp; omega, h2, fun x hx => h3 x (List.mem_of_mem_take hx), h4, fun hl => ?_⟩
  obtain ⟨b, off, rfl, hc⟩ := h5 (fun e => hl (by rw [e]; simp))
  refine ⟨b, off, rfl, fun i hi => ?_⟩
  have hi' : i < n ∧ i < l.length := by simp at hi; omega
  rw [hc i hi'.2, List.getD_eq_getElem?_getD, List.getD_eq_getElem?_getD, List.getElem?_take_of_lt hi'.1]
theorem byte_at {w : World} {ao : Option Addr} {l m : List Nat} {cap at' n j : Nat} (h : Row w ao l cap) (hn : at' + n ≤ l.length) (hj : j < n) (hm : m = (l.drop at').take n) :
    ∃ b off, ao = some ⟨b, off, none⟩ ∧ ∃ z : Nat, z < 256 ∧ w.cell? ⟨b, off + (at' + j), none⟩ = some (.int .u8 (z : Int)) ∧ Hid (z = m.getD j 0) := by
  obtain ⟨b, off, hao, hc⟩ := h.2.2.2.2 (fun e => by rw [e] at hn; simp at hn; omega)
  have hlt : at' + j < l.length := by omega
  refine ⟨b, off, hao, l.getD (at' + j) 0, by rw [List.getD_eq_getElem?_getD, List.getElem?_eq_getElem hlt]; exact h.2.2.1 _ (List.getElem_mem hlt), hc _ hlt, ?_⟩
  show _ = _
  rw [hm, List.getD_eq_getElem?_getD, List.getD_eq_getElem?_getD, List.getElem?_take_of_lt hj, List.getElem?_drop]
set_option maxRecDepth 100000 in
set_option maxHeartbeats 4000000 in
theorem reads_walk (ao a2 : Option Addr) (l q : List Nat) (cap c2 : Nat) (w : World) (ht : Tab w) (hr : Row w ao l cap) (hr2 : Row w a2 q c2) (hl : l.length ≤ 3000) (hq : q.length ≤ 60) :
    Calls Tryd.prog 4 #[.slice ao l.length cap, .slice a2 q.length c2] w fun e w' => e = .returned (.bool true) ∧ Fr (fun _ => False) w w' := by
  go_enter Tryd.func4, Tryd.ntmps4
  go_wp2_with fail
  refine (awake_any w ht).mono ?_
  rintro e w1 ⟨rfl, f1⟩
  go_wp2_with fail
  refine (read_any w1 ao l cap (f1.row hr (by simp))).mono ?_
  rintro e w2 ⟨rfl, h2, f2⟩
  have hrb : w.heap.size ≤ w1.heap.size := f1.size
  have f02 := f1.trans f2
  generalize w1.heap.size = rb at *
  go_wp2
  go_loopw [6, 7, 8] (fun t u i wr => ∃ (at' k : Nat) (bad : Bool) (a1 : Option Addr) (lr : List Nat) (c1 : Nat), t = .int .i64 (at' : Int) ∧ u = .bool bad ∧ i = .int .i64 (k : Int) ∧ k ≤ q.length ∧ at' ≤ l.length ∧ Rd wr rb a1 lr c1 bad ∧ (bad = false → lr = l.drop at') ∧ Fr (fun _ => False) w wr) (fun _ _ i _ => q.length - (intOf i).toNat)
  case atStart => exact ⟨0, 0, false, ao, l, cap, rfl, rfl, rfl, Nat.zero_le _, Nat.zero_le _, h2, fun _ => rfl, f02⟩
  case round =>
    obtain ⟨at', k, bad, a1, lr, c1, rfl, rfl, rfl, hk, hat, hrd, hlr, hf⟩ := hrel
    by_cases hlt : k < q.length
    · have hr2' := hf.row hr2 (by simp)
      obtain ⟨b2, o2, rfl, hc2⟩ := hr2'.2.2.2.2 (fun e => by rw [e] at hlt; simp at hlt)
      obtain ⟨x, hx, hcx⟩ : ∃ x : Nat, x < 256 ∧ wr.cell? ⟨b2, o2 + k, none⟩ = some (.int .u8 (x : Int)) := ⟨q.getD k 0, by rw [List.getD_eq_getElem?_getD, List.getElem?_eq_getElem hlt]; exact hr2'.2.2.1 _ (List.getElem_mem hlt), hc2 k hlt⟩
      obtain ⟨n, en, hn⟩ : ∃ n : Nat, (x : Int) / 4 % 9 = (n : Int) ∧ n ≤ 8 := ⟨x / 4 % 9, by omega, by omega⟩
      have hcase : (x : Int) % 4 = 0 ∨ (x : Int) % 4 = 1 ∨ (x : Int) % 4 = 2 ∨ (x : Int) % 4 = 3 := by omega
      clear hc2 hr2' h2 f02
      cases bad
      · have hlr' := hlr rfl
        subst hlr'
        clear hlr
        rcases hcase with hc | hc | hc | hc
        · by_cases hs : l.length - at' < n
          · have hs' : (l.length : Int) - (at' : Int) < (n : Int) := by omega
            as_aux_lemma =>
              go_wp2_with fail
              refine (rnum_fail wr rb a1 (l.drop at') c1 n false hrd (.inr (by simp; omega))).mono ?_
              rintro e w3 ⟨rfl, a3, c3, h3, f3⟩
              have f03 := Fr.trans' hf f3 (by intro i hi e; omega)
              go_wp2_with fail
              refine (bad_any w3 rb true h3.c1).mono ?_
              rintro e w4 ⟨rfl, hw4⟩
              subst w4
              go_wp2
              go_round
              case rel => exact ⟨at', k + 1, true, _, _, _, by first | rfl | go_num, rfl, by go_num, by omega, by omega, h3, (by simp), f03⟩
              case measure => simp [intOf]; omega
          · obtain ⟨m, hm, hml, Hm⟩ : ∃ m : List Nat, m.length = n ∧ (∀ y ∈ m, y < 256) ∧ Hid (m = (l.drop at').take n) := ⟨(l.drop at').take n, by simp; omega, fun y hy => hr.2.2.1 y (List.mem_of_mem_drop (List.mem_of_mem_take hy)), rfl⟩
            have hs' : ¬ (l.length : Int) - (at' : Int) < (n : Int) := by omega
            go_wp2
            go_loop [10, 11] (fun t i => ∃ j y : Nat, j ≤ n ∧ i = .int .i64 ((j : Int) - 1) ∧ t = .int .u64 (y : Int) ∧ y < 256 ^ (n - j) ∧ Hid (y = Crc.num (m.drop j))) (fun _ i => (intOf i + 1).toNat)
            case atStart => exact ⟨n, 0, Nat.le_refl _, rfl, rfl, by simp, by show 0 = _; rw [← hm, List.drop_length]; rfl⟩
            case round =>
              obtain ⟨j, y, hj, rfl, rfl, hy, Hy⟩ := hrel
              by_cases hj0 : 0 < j
              · obtain ⟨j, rfl⟩ : ∃ j', j = j' + 1 := ⟨j - 1, by omega⟩
                obtain ⟨b, off, hao, z, hz, hcz, Hz⟩ := byte_at (at' := at') (n := n) (j := j) (hf.row hr (by simp)) (by omega) (by omega) Hm.out
                obtain ⟨e1, hlt1⟩ := or_low y z n j hy (by omega) hj hz
                subst hao
                have H1 : Hid _ := hlt1
                clear hy hlt1
                as_aux_lemma =>
                  go_wp2
                  go_round
                  case rel => exact ⟨j, z + 256 * y, by omega, rfl, rfl, H1.out, by show _ = _; rw [num_drop m j (by omega), ← Hz.out, ← Hy.out]⟩
                  case measure => simp [intOf] <;> omega
              · have hj' : j = 0 := by omega
                subst hj'
                have HY : Hid (y = Crc.num ((l.drop at').take n)) := by show _ = _; rw [← Hm.out, Hy.out]; rfl
                as_aux_lemma =>
                  have hN := rnum_ok wr rb a1 (l.drop at') c1 n hrd (by simp; omega) hn
                  rw [← HY.out] at hN
                  clear hy
                  go_wp2_with fail
                  refine hN.mono ?_
                  rintro e w3 ⟨rfl, a3, h3, f3, _⟩
                  have f03 := Fr.trans' hf f3 (by intro i hi e; omega)
                  go_wp2_with fail
                  refine (bad_any w3 rb false h3.c1).mono ?_
                  rintro e w4 ⟨rfl, hw4⟩
                  subst w4
                  go_wp2
                  go_round
                  case rel => exact ⟨at' + n, k + 1, false, _, _, _, by first | rfl | go_num, rfl, by go_num, by omega, by omega, h3, (fun _ => by rw [List.drop_drop]), f03⟩
                  case measure => simp [intOf]; omega
        · by_cases hs : l.length - at' < 4
          · have hs' : (l.length : Int) - (at' : Int) < 4 := by omega
            as_aux_lemma =>
              go_wp2_with fail
              refine (bytes_bad wr rb a1 (l.drop at') c1 false (x : Int) hrd (by omega) (.inl (by simp; omega))).mono ?_
              rintro e w3 ⟨a3, rfl, _, h3, f3⟩
              have f03 := Fr.trans' hf f3 (by intro i hi e; omega)
              go_wp2_with fail
              refine (bad_any w3 rb true h3.c1).mono ?_
              rintro e w4 ⟨rfl, hw4⟩
              subst w4
              go_wp2
              go_round
              case rel => exact ⟨at', k + 1, true, _, _, _, by first | rfl | go_num, rfl, by go_num, by omega, by omega, h3, (by simp), f03⟩
              case measure => simp [intOf]; omega
          · obtain ⟨m, hm, hml, Hm⟩ : ∃ m : List Nat, m.length = 4 ∧ (∀ y ∈ m, y < 256) ∧ Hid (m = (l.drop at').take 4) := ⟨(l.drop at').take 4, by simp; omega, fun y hy => hr.2.2.1 y (List.mem_of_mem_drop (List.mem_of_mem_take hy)), rfl⟩
            have hs' : ¬ (l.length : Int) - (at' : Int) < 4 := by omega
            go_wp2
            go_loop [10, 11] (fun t i => ∃ j y : Nat, j ≤ 4 ∧ i = .int .i64 ((j : Int) - 1) ∧ t = .int .u64 (y : Int) ∧ y < 256 ^ (4 - j) ∧ Hid (y = Crc.num (m.drop j))) (fun _ i => (intOf i + 1).toNat)
            case atStart => exact ⟨4, 0, Nat.le_refl _, rfl, rfl, by simp, by show 0 = _; rw [← hm, List.drop_length]; rfl⟩
            case round =>
              obtain ⟨j, y, hj, rfl, rfl, hy, Hy⟩ := hrel
              by_cases hj0 : 0 < j
              · obtain ⟨j, rfl⟩ : ∃ j', j = j' + 1 := ⟨j - 1, by omega⟩
                obtain ⟨b, off, hao, z, hz, hcz, Hz⟩ := byte_at (at' := at') (n := 4) (j := j) (hf.row hr (by simp)) (by omega) (by omega) Hm.out
                obtain ⟨e1, hlt1⟩ := or_low y z 4 j hy (by omega) hj hz
                subst hao
                have H1 : Hid _ := hlt1
                clear hy hlt1
                as_aux_lemma =>
                  go_wp2
                  go_round
                  case rel => exact ⟨j, z + 256 * y, by omega, rfl, rfl, H1.out, by show _ = _; rw [num_drop m j (by omega), ← Hz.out, ← Hy.out]⟩
                  case measure => simp [intOf] <;> omega
              · have hj' : j = 0 := by omega
                subst hj'
                have HY : Hid (y = Crc.num ((l.drop at').take 4)) := by show _ = _; rw [← Hm.out, Hy.out]; rfl
                as_aux_lemma =>
                  have hy1 : y < 4294967296 := by simpa using hy
                  clear hy
                  by_cases hyx : y ≤ x
                  · have hyi : ¬ (x : Int) < (y : Int) := by omega
                    by_cases hyl : y ≤ l.length - at' - 4
                    · have hF := bytes_ok wr rb a1 (l.drop at') c1 x hrd (by omega) (by simp; omega) (by rw [← HY.out]; exact hyx) (by rw [← HY.out]; simp; omega)
                      rw [← HY.out] at hF
                      have hyj : ¬ (l.length : Int) - ((at' : Int) + 4) < (y : Int) := by omega
                      go_wp2_with fail
                      refine hF.mono ?_
                      rintro e w3 ⟨a3, a4, c4, rfl, h5, h3, f3, _⟩
                      have f03 := Fr.trans' hf f3 (by intro i hi e; omega)
                      obtain ⟨b, off, hao, _⟩ := hr.2.2.2.2 (fun e => by rw [e] at hs; simp at hs)
                      subst hao
                      have hr1 := hr.1
                      have hr3 := hr.2.1
                      have htl : (((l.drop at').drop 4).take y).length = y := by simp; omega
                      have s1 : ∀ n, (convert 23 9 (.slice a3 y y)).run Tryd.prog (w3.drewN n) = .ok (.string (strOf (((l.drop at').drop 4).take y))) (w3.drewN n) := fun n => run_str' (w3.drewN n) a3 (((l.drop at').drop 4).take y) y y htl (by have := ((Fr.refl (fun _ => False) w3).drewsN n).row h5.1 (by simp); rwa [htl] at this)
                      unfold maxLen at hr3
                      by_cases hcap : cap = at' + 4
                      · have hy0 : y = 0 := by omega
                        subst hy0
                        subst hcap
                        have s2 : ∀ n, (convert 23 9 (.slice (some ⟨b, off, none⟩) 0 0)).run Tryd.prog (w3.drewN n) = .ok (.string (strOf (((l.drop at').drop 4).take 0))) (w3.drewN n) := fun n => run_str' (w3.drewN n) (some ⟨b, off, none⟩) (((l.drop at').drop 4).take 0) 0 0 htl ⟨by simp, Nat.zero_le _, by simp, fun _ => rfl, fun h => absurd rfl h⟩
                        generalize ((l.drop at').drop 4).take 0 = t at *
                        clear h5 htl hF
                        go_wp2_with fail
                        go_quiet (fail)
                        go_wp2_with fail
                        have h6 := h3.fr ((Fr.refl (fun _ => False) w3).drewsN nq) (by simp) (by simp)
                        have f06 := f03.drewsN nq
                        refine (bad_any (w3.drewN nq) rb false h6.c1).mono ?_
                        rintro e w4 ⟨rfl, hw4⟩
                        subst w4
                        go_wp2
                        go_round
                        case rel => exact ⟨at' + 4, k + 1, false, _, _, _, by first | rfl | go_num, rfl, by go_num, by omega, by omega, h6, (fun _ => by simp only [List.drop_drop, Nat.add_comm, Nat.add_left_comm]), f06⟩
                        case measure => simp [intOf]; omega
                      · have hrow : Row w (some ⟨b, off + (at' + 4), none⟩) (((l.drop at').drop 4).take y) (cap - (at' + 4)) := by
                          rw [List.drop_drop]
                          exact Row.pre y (hr.drop (n := at' + 4) (by omega) _ (fun _ => by unfold Addr.add; split <;> simp_all))
                        have s2 : ∀ n, (convert 23 9 (.slice (some ⟨b, off + (at' + 4), none⟩) y (cap - (at' + 4)))).run Tryd.prog (w3.drewN n) = .ok (.string (strOf (((l.drop at').drop 4).take y))) (w3.drewN n) := fun n => run_str' (w3.drewN n) (some ⟨b, off + (at' + 4), none⟩) (((l.drop at').drop 4).take y) y (cap - (at' + 4)) htl ((f03.drewsN n).row hrow (by simp))
                        generalize ((l.drop at').drop 4).take y = t at *
                        clear h5 htl hF hrow
                        go_wp2_with fail
                        go_quiet (fail)
                        go_wp2_with fail
                        have h6 := h3.fr ((Fr.refl (fun _ => False) w3).drewsN nq) (by simp) (by simp)
                        have f06 := f03.drewsN nq
                        refine (bad_any (w3.drewN nq) rb false h6.c1).mono ?_
                        rintro e w4 ⟨rfl, hw4⟩
                        subst w4
                        go_wp2
                        go_round
                        case rel => exact ⟨at' + 4 + y, k + 1, false, _, _, _, by first | rfl | go_num, rfl, by go_num, by omega, by omega, h6, (fun _ => by simp only [List.drop_drop, Nat.add_comm, Nat.add_left_comm]), f06⟩
                        case measure => simp [intOf]; omega
                    · have hF := bytes_long wr rb a1 (l.drop at') c1 x hrd (by omega) (by simp; omega) (by rw [← HY.out]; exact hyx) (by rw [← HY.out]; simp; omega)
                      have hyj : (l.length : Int) - ((at' : Int) + 4) < (y : Int) := by omega
                      go_wp2_with fail
                      refine hF.mono ?_
                      rintro e w3 ⟨a3, rfl, _, h3, f3⟩
                      have f03 := Fr.trans' hf f3 (by intro i hi e; omega)
                      go_wp2_with fail
                      refine (bad_any w3 rb true h3.c1).mono ?_
                      rintro e w4 ⟨rfl, hw4⟩
                      subst w4
                      go_wp2
                      go_round
                      case rel => exact ⟨at' + 4, k + 1, true, _, _, _, by first | rfl | go_num, rfl, by go_num, by omega, by omega, h3, (by simp), f03⟩
                      case measure => simp [intOf]; omega
                  · have hF := bytes_bad wr rb a1 (l.drop at') c1 false (x : Int) hrd (by omega) (.inr ⟨rfl, by simp; omega, .inr (by rw [← HY.out]; omega)⟩)
                    have hyi : (x : Int) < (y : Int) := by omega
                    go_wp2_with fail
                    refine hF.mono ?_
                    rintro e w3 ⟨a3, rfl, _, h3, f3⟩
                    have f03 := Fr.trans' hf f3 (by intro i hi e; omega)
                    go_wp2_with fail
                    refine (bad_any w3 rb true h3.c1).mono ?_
                    rintro e w4 ⟨rfl, hw4⟩
                    subst w4
                    go_wp2
                    go_round
                    case rel => exact ⟨at' + 4, k + 1, true, _, _, _, by first | rfl | go_num, rfl, by go_num, by omega, by omega, h3, (by simp), f03⟩
                    case measure => simp [intOf]; omega
        · by_cases hs : l.length - at' < 1
          · have hs' : (l.length : Int) - (at' : Int) < 1 := by omega
            as_aux_lemma =>
              go_wp2_with fail
              refine (flag_short wr rb a1 (l.drop at') c1 false hrd (by simp; omega)).mono ?_
              rintro e w3 ⟨rfl, h3, f3⟩
              have f03 := Fr.trans' hf f3 (by intro i hi e; omega)
              go_wp2_with fail
              refine (bad_any w3 rb true h3.c1).mono ?_
              rintro e w4 ⟨rfl, hw4⟩
              subst w4
              go_wp2
              go_round
              case rel => exact ⟨at', k + 1, true, _, _, _, by first | rfl | go_num, rfl, by go_num, by omega, by omega, h3, (by simp), f03⟩
              case measure => simp [intOf]; omega
          · obtain ⟨m, hm, hml, Hm⟩ : ∃ m : List Nat, m.length = 1 ∧ (∀ y ∈ m, y < 256) ∧ Hid (m = (l.drop at').take 1) := ⟨(l.drop at').take 1, by simp; omega, fun y hy => hr.2.2.1 y (List.mem_of_mem_drop (List.mem_of_mem_take hy)), rfl⟩
            have hs' : ¬ (l.length : Int) - (at' : Int) < 1 := by omega
            go_wp2
            go_loop [10, 11] (fun t i => ∃ j y : Nat, j ≤ 1 ∧ i = .int .i64 ((j : Int) - 1) ∧ t = .int .u64 (y : Int) ∧ y < 256 ^ (1 - j) ∧ Hid (y = Crc.num (m.drop j))) (fun _ i => (intOf i + 1).toNat)
            case atStart => exact ⟨1, 0, Nat.le_refl _, rfl, rfl, by simp, by show 0 = _; rw [← hm, List.drop_length]; rfl⟩
            case round =>
              obtain ⟨j, y, hj, rfl, rfl, hy, Hy⟩ := hrel
              by_cases hj0 : 0 < j
              · obtain ⟨j, rfl⟩ : ∃ j', j = j' + 1 := ⟨j - 1, by omega⟩
                obtain ⟨b, off, hao, z, hz, hcz, Hz⟩ := byte_at (at' := at') (n := 1) (j := j) (hf.row hr (by simp)) (by omega) (by omega) Hm.out
                obtain ⟨e1, hlt1⟩ := or_low y z 1 j hy (by omega) hj hz
                subst hao
                have H1 : Hid _ := hlt1
                clear hy hlt1
                as_aux_lemma =>
                  go_wp2
                  go_round
                  case rel => exact ⟨j, z + 256 * y, by omega, rfl, rfl, H1.out, by show _ = _; rw [num_drop m j (by omega), ← Hz.out, ← Hy.out]⟩
                  case measure => simp [intOf] <;> omega
              · have hj' : j = 0 := by omega
                subst hj'
                have HY : Hid (y = Crc.num ((l.drop at').take 1)) := by show _ = _; rw [← Hm.out, Hy.out]; rfl
                as_aux_lemma =>
                  have hy1 : y < 256 := by simpa using hy
                  by_cases hyx : y ≤ 1
                  · have hF := flag_ok wr rb a1 (l.drop at') c1 hrd (by simp; omega) (by rw [← HY.out]; exact hyx)
                    rw [← HY.out] at hF
                    have hyi : ¬ (1 : Int) < (y : Int) := by omega
                    clear hy
                    rcases (show y = 0 ∨ y = 1 by omega) with rfl | rfl
                    all_goals
                      go_wp2_with fail
                      refine hF.mono ?_
                      rintro e w3 ⟨rfl, a3, h3, f3, _⟩
                      have f03 := Fr.trans' hf f3 (by intro i hi e; omega)
                      go_wp2_with fail
                      refine (bad_any w3 rb false h3.c1).mono ?_
                      rintro e w4 ⟨rfl, hw4⟩
                      subst w4
                      go_wp2
                      go_round
                      case rel => exact ⟨at' + 1, k + 1, false, _, _, _, by first | rfl | go_num, rfl, by go_num, by omega, by omega, h3, (fun _ => by rw [List.drop_drop]), f03⟩
                      case measure => simp [intOf]; omega
                  · have hF := flag_much wr rb a1 (l.drop at') c1 hrd (by simp; omega) (by rw [← HY.out]; omega)
                    have hyi : (1 : Int) < (y : Int) := by omega
                    clear hy
                    go_wp2_with fail
                    refine hF.mono ?_
                    rintro e w3 ⟨rfl, h3, f3⟩
                    have f03 := Fr.trans' hf f3 (by intro i hi e; omega)
                    go_wp2_with fail
                    refine (bad_any w3 rb true h3.c1).mono ?_
                    rintro e w4 ⟨rfl, hw4⟩
                    subst w4
                    go_wp2
                    go_round
                    case rel => exact ⟨at' + 1, k + 1, true, _, _, _, by first | rfl | go_num, rfl, by go_num, by omega, by omega, h3, (by simp), f03⟩
                    case measure => simp [intOf]; omega
        · by_cases hs : l.length - at' < 4
          · have hs' : (l.length : Int) - (at' : Int) < 4 := by omega
            as_aux_lemma =>
              go_wp2_with fail
              refine (count_short wr rb a1 (l.drop at') c1 false _ (by omega) hrd (by simp; omega)).mono ?_
              rintro e w3 ⟨rfl, h3, f3⟩
              have f03 := Fr.trans' hf f3 (by intro i hi e; omega)
              go_wp2_with fail
              refine (bad_any w3 rb true h3.c1).mono ?_
              rintro e w4 ⟨rfl, hw4⟩
              subst w4
              go_wp2
              go_round
              case rel => exact ⟨at', k + 1, true, _, _, _, by first | rfl | go_num, rfl, by go_num, by omega, by omega, h3, (by simp), f03⟩
              case measure => simp [intOf]; omega
          · obtain ⟨m, hm, hml, Hm⟩ : ∃ m : List Nat, m.length = 4 ∧ (∀ y ∈ m, y < 256) ∧ Hid (m = (l.drop at').take 4) := ⟨(l.drop at').take 4, by simp; omega, fun y hy => hr.2.2.1 y (List.mem_of_mem_drop (List.mem_of_mem_take hy)), rfl⟩
            have hs' : ¬ (l.length : Int) - (at' : Int) < 4 := by omega
            go_wp2
            go_loop [10, 11] (fun t i => ∃ j y : Nat, j ≤ 4 ∧ i = .int .i64 ((j : Int) - 1) ∧ t = .int .u64 (y : Int) ∧ y < 256 ^ (4 - j) ∧ Hid (y = Crc.num (m.drop j))) (fun _ i => (intOf i + 1).toNat)
            case atStart => exact ⟨4, 0, Nat.le_refl _, rfl, rfl, by simp, by show 0 = _; rw [← hm, List.drop_length]; rfl⟩
            case round =>
              obtain ⟨j, y, hj, rfl, rfl, hy, Hy⟩ := hrel
              by_cases hj0 : 0 < j
              · obtain ⟨j, rfl⟩ : ∃ j', j = j' + 1 := ⟨j - 1, by omega⟩
                obtain ⟨b, off, hao, z, hz, hcz, Hz⟩ := byte_at (at' := at') (n := 4) (j := j) (hf.row hr (by simp)) (by omega) (by omega) Hm.out
                obtain ⟨e1, hlt1⟩ := or_low y z 4 j hy (by omega) hj hz
                subst hao
                have H1 : Hid _ := hlt1
                clear hy hlt1
                as_aux_lemma =>
                  go_wp2
                  go_round
                  case rel => exact ⟨j, z + 256 * y, by omega, rfl, rfl, H1.out, by show _ = _; rw [num_drop m j (by omega), ← Hz.out, ← Hy.out]⟩
                  case measure => simp [intOf] <;> omega
              · have hj' : j = 0 := by omega
                subst hj'
                have HY : Hid (y = Crc.num ((l.drop at').take 4)) := by show _ = _; rw [← Hm.out, Hy.out]; rfl
                as_aux_lemma =>
                  have hy1 : y < 4294967296 := by simpa using hy
                  by_cases hyx : y ≤ x * 3
                  · have hF := count_ok wr rb a1 (l.drop at') c1 (x * 3) hrd (by simp; omega) (by omega) (by rw [← HY.out]; exact hyx)
                    rw [← HY.out, show ((x * 3 : Nat) : Int) = (x : Int) * 3 by omega] at hF
                    have hyi : ¬ (x : Int) * 3 < (y : Int) := by omega
                    clear hy
                    go_wp2_with fail
                    refine hF.mono ?_
                    rintro e w3 ⟨rfl, a3, h3, f3, _⟩
                    have f03 := Fr.trans' hf f3 (by intro i hi e; omega)
                    go_wp2_with fail
                    refine (bad_any w3 rb false h3.c1).mono ?_
                    rintro e w4 ⟨rfl, hw4⟩
                    subst w4
                    go_wp2
                    go_round
                    case rel => exact ⟨at' + 4, k + 1, false, _, _, _, by first | rfl | go_num, rfl, by go_num, by omega, by omega, h3, (fun _ => by rw [List.drop_drop]), f03⟩
                    case measure => simp [intOf]; omega
                  · have hF := count_much wr rb a1 (l.drop at') c1 ((x : Int) * 3) hrd (by simp; omega) (by omega) (.inr (by rw [← HY.out]; omega))
                    have hyi : (x : Int) * 3 < (y : Int) := by omega
                    clear hy
                    go_wp2_with fail
                    refine hF.mono ?_
                    rintro e w3 ⟨rfl, h3, f3⟩
                    have f03 := Fr.trans' hf f3 (by intro i hi e; omega)
                    go_wp2_with fail
                    refine (bad_any w3 rb true h3.c1).mono ?_
                    rintro e w4 ⟨rfl, hw4⟩
                    subst w4
                    go_wp2
                    go_round
                    case rel => exact ⟨at' + 4, k + 1, true, _, _, _, by first | rfl | go_num, rfl, by go_num, by omega, by omega, h3, (by simp), f03⟩
                    case measure => simp [intOf]; omega
      · have hnone := hrd.none rfl
        subst hnone
        clear hlr
        rcases hcase with hc | hc | hc | hc
        · as_aux_lemma =>
            go_wp2_with fail
            refine (rnum_fail wr rb a1 ([]) c1 n true hrd (.inl rfl)).mono ?_
            rintro e w3 ⟨rfl, a3, c3, h3, f3⟩
            have f03 := Fr.trans' hf f3 (by intro i hi e; omega)
            go_wp2_with fail
            refine (bad_any w3 rb true h3.c1).mono ?_
            rintro e w4 ⟨rfl, hw4⟩
            subst w4
            go_wp2
            go_round
            case rel => exact ⟨at', k + 1, true, _, _, _, by first | rfl | go_num, rfl, by go_num, by omega, by omega, h3, (by simp), f03⟩
            case measure => simp [intOf]; omega
        · as_aux_lemma =>
            go_wp2_with fail
            refine (bytes_bad wr rb a1 ([]) c1 true (x : Int) hrd (by omega) (.inl (by simp))).mono ?_
            rintro e w3 ⟨a3, rfl, _, h3, f3⟩
            have f03 := Fr.trans' hf f3 (by intro i hi e; omega)
            go_wp2_with fail
            refine (bad_any w3 rb true h3.c1).mono ?_
            rintro e w4 ⟨rfl, hw4⟩
            subst w4
            go_wp2
            go_round
            case rel => exact ⟨at', k + 1, true, _, _, _, by first | rfl | go_num, rfl, by go_num, by omega, by omega, h3, (by simp), f03⟩
            case measure => simp [intOf]; omega
        · as_aux_lemma =>
            go_wp2_with fail
            refine (flag_short wr rb a1 ([]) c1 true hrd (by simp)).mono ?_
            rintro e w3 ⟨rfl, h3, f3⟩
            have f03 := Fr.trans' hf f3 (by intro i hi e; omega)
            go_wp2_with fail
            refine (bad_any w3 rb true h3.c1).mono ?_
            rintro e w4 ⟨rfl, hw4⟩
            subst w4
            go_wp2
            go_round
            case rel => exact ⟨at', k + 1, true, _, _, _, by first | rfl | go_num, rfl, by go_num, by omega, by omega, h3, (by simp), f03⟩
            case measure => simp [intOf]; omega
        · as_aux_lemma =>
            go_wp2_with fail
            refine (count_short wr rb a1 ([]) c1 true _ (by omega) hrd (by simp)).mono ?_
            rintro e w3 ⟨rfl, h3, f3⟩
            have f03 := Fr.trans' hf f3 (by intro i hi e; omega)
            go_wp2_with fail
            refine (bad_any w3 rb true h3.c1).mono ?_
            rintro e w4 ⟨rfl, hw4⟩
            subst w4
            go_wp2
            go_round
            case rel => exact ⟨at', k + 1, true, _, _, _, by first | rfl | go_num, rfl, by go_num, by omega, by omega, h3, (by simp), f03⟩
            case measure => simp [intOf]; omega
    · have hke : ¬ (k : Int) < (q.length : Int) := by omega
      cases bad
      · have hlr' := hlr rfl
        subst hlr'
        obtain ⟨m, hm, hsub⟩ : ∃ m : Nat, (l.drop at').length = m ∧ (l.length : Int) - (at' : Int) = (m : Int) := ⟨_, rfl, by simp; omega⟩
        have hL := left_any wr rb _ a1 _ c1 hrd.c0 rfl
        have hE := end_any wr rb a1 _ c1 false hrd
        rw [hm] at hL hE
        have hm0 : ((m : Int) == 0) = true ∨ ((m : Int) == 0) = false := by cases ((m : Int) == 0) <;> simp
        rcases hm0 with hm0 | hm0
        all_goals as_aux_lemma =>
          rw [hm0] at hE
          go_wp2_with fail
          refine hL.mono ?_
          rintro e w3 ⟨rfl, hw3⟩
          subst w3
          go_wp2_with fail
          refine hE.mono ?_
          rintro e w3 ⟨rfl, hw3⟩
          subst w3
          go_wp2
          go_ret
          exact ⟨rfl, hf⟩
      · have hnone := hrd.none rfl
        subst hnone
        go_wp2_with fail
        refine (left_any wr rb _ a1 _ c1 hrd.c0 rfl).mono ?_
        rintro e w3 ⟨rfl, hw3⟩
        subst w3
        go_wp2_with fail
        refine (end_any wr rb a1 [] c1 true hrd).mono ?_
        rintro e w3 ⟨rfl, hw3⟩
        subst w3
        go_wp2
        go_ret
        exact ⟨rfl, hf⟩
end Go.Proofs.YtonhkmcjfggnlaaDoor
