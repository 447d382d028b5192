/- The statement ConfigRules, walked. -/
import Derived.Test.YtjbkmflbhlnbpaaRule
import Derived.Deep.Cut
import Derived.Deep.CutRange
namespace Go.Proofs.Ytjbkmflbhlnbpaa
open Go.RowKit

/-- a plan of a small config. -/
theorem plan_small (g c : Nat) (L cl : List Nat) (nd : Nat) (cv : Value) (w : World) (hF : 0 < L.length ∧ L.length ≤ 16 ∧ (∀ x ∈ L, x < 18446744073709551616) ∧ Lat.ok L = true) (hnd : 1 ≤ nd ∧ nd ≤ 7) (hA : At .u64 w g 0 L) (hc : CutsAt w cv cl) (hcl : cl.length ≤ 1) :
    Calls Try.prog 10 #[.agg #[.slice (some ⟨g, 0, none⟩) L.length c, .int .i64 (nd : Int), cv, .int .i64 128, .int .i64 512, .int .i64 1048576, .int .i64 8, .int .i64 2, .int .i64 4]] w fun e w' => ∃ p cv', e = madeAt p ∧ PlanAt w' p L (nd : Int) cv' ∧ Fr (fun _ => False) w w' := by
  obtain ⟨h1, h2, h3, h4⟩ := hF
  rcases hc with ⟨_, rfl⟩ | ⟨hl, g2, c2, rfl, hF2⟩
  · exact (cnew_none g 0 c L (nd : Int) 128 512 1048576 8 2 4 w (by omega) (by omega) (by omega) (by omega) (by omega) (by omega) (by omega) (by omega) h2 h1 h3 hA h4).mono fun e w' ⟨p, he, hP, _, hf⟩ => ⟨p, _, he, hP, hf⟩
  · exact (cnew_ok g 0 c g2 0 c2 L cl (nd : Int) 128 512 1048576 8 2 4 w (by omega) (by omega) hl (fun W => rising_short _ _ _ W hcl) (by omega) (by omega) (by omega) (by omega) (by omega) (by omega) (by omega) h2 h1 h3 hA h4 hF2).mono fun e w' ⟨p, g, c, he, hP, _, _, hf⟩ => ⟨p, _, he, hP, hf⟩
set_option maxHeartbeats 4000000 in
theorem rules_of (k nd : Nat) (L cl : List Nat) (hF : 0 < L.length ∧ L.length ≤ 16 ∧ (∀ x ∈ L, x < 18446744073709551616) ∧ Lat.ok L = true) (hnd : 1 ≤ nd ∧ nd ≤ 7) (hcl : cl.length ≤ 1)
    (hS : ∀ w, Calls Try.prog 12 #[.int .u8 (k : Int)] w fun e w' => ∃ g c cv, e = .returned (.agg (cfg (.slice (some ⟨g, 0, none⟩) L.length c) (nd : Int) cv 128 512 1048576 8 2 4)) ∧ w.heap.size ≤ g ∧ Laid w' g L ∧ CutsAt w' cv cl ∧ Fr (fun _ => False) w w')
    (id fr tt : Int) (lo hi : Nat) (au qu : Int) (hlo : lo < 18446744073709551616) (hhi : hi < 18446744073709551616) (w : World) :
    Calls Try.prog 7 #[.int .u8 (k : Int), .agg #[.int .u64 id, .int .i64 fr, .int .i64 tt, .float .f64 lo, .float .f64 hi, .int .u64 au, .int .i64 qu]] w fun e w' => e = .returned (.bool true) ∧ Fr (fun _ => False) w w' := by
  have r0 : (w.alloc (.cells #[.int .u64 id, .int .i64 fr, .int .i64 tt, .float .f64 lo, .float .f64 hi, .int .u64 au, .int .i64 qu] 54)).rowIs w.heap.size 54 7 (fun i => (#[.int .u64 id, .int .i64 fr, .int .i64 tt, .float .f64 lo, .float .f64 hi, .int .u64 au, .int .i64 qu] : Array Value).getD i undef) := rowIs_lay w #[.int .u64 id, .int .i64 fr, .int .i64 tt, .float .f64 lo, .float .f64 hi, .int .u64 au, .int .i64 qu] 54
  have f0 : Fr (fun _ => False) w (w.alloc (.cells #[.int .u64 id, .int .i64 fr, .int .i64 tt, .float .f64 lo, .float .f64 hi, .int .u64 au, .int .i64 qu] 54)) := (Fr.refl _ _).alloc _
  have HS : Hid (∀ w, Calls _ _ _ _ _) := hS
  clear hS
  go_enter Try.func7, Try.ntmps7
  go_wp2_with fail
  refine (HS.out _).mono ?_
  rintro e w1 ⟨g, c, cv, rfl, _, hA, hC, f1⟩
  obtain ⟨ao, n, cap, rfl⟩ : ∃ ao n cap, cv = .slice ao n cap := by
    rcases hC with ⟨_, rfl⟩ | ⟨_, g2, c2, rfl, _⟩
    · exact ⟨_, _, _, rfl⟩
    · exact ⟨_, _, _, rfl⟩
  unfold cfg
  have r1 := f1.rowIs r0 (by simp)
  have q1 : (w1.alloc (.cells #[.slice (some ⟨g, 0, none⟩) L.length c, .int .i64 (nd : Int), .slice ao n cap, .int .i64 128, .int .i64 512, .int .i64 1048576, .int .i64 8, .int .i64 2, .int .i64 4] 25)).rowIs w1.heap.size 25 9 (fun i => (#[.slice (some ⟨g, 0, none⟩) L.length c, .int .i64 (nd : Int), .slice ao n cap, .int .i64 128, .int .i64 512, .int .i64 1048576, .int .i64 8, .int .i64 2, .int .i64 4] : Array Value).getD i undef) := rowIs_lay w1 #[.slice (some ⟨g, 0, none⟩) L.length c, .int .i64 (nd : Int), .slice ao n cap, .int .i64 128, .int .i64 512, .int .i64 1048576, .int .i64 8, .int .i64 2, .int .i64 4] 25
  have f2 : Fr (fun _ => False) w1 (w1.alloc (.cells #[.slice (some ⟨g, 0, none⟩) L.length c, .int .i64 (nd : Int), .slice ao n cap, .int .i64 128, .int .i64 512, .int .i64 1048576, .int .i64 8, .int .i64 2, .int .i64 4] 25)) := (Fr.refl _ _).alloc _
  have hC2 : CutsAt (w1.alloc (.cells #[.slice (some ⟨g, 0, none⟩) L.length c, .int .i64 (nd : Int), .slice ao n cap, .int .i64 128, .int .i64 512, .int .i64 1048576, .int .i64 8, .int .i64 2, .int .i64 4] 25)) (.slice ao n cap) cl := by
    rcases hC with h | ⟨h, g2, c2, e, hF2⟩
    · exact .inl h
    · exact .inr ⟨h, g2, c2, e, hF2.fr f2 (by simp)⟩
  have k1 := plan_small g c L cl nd (.slice ao n cap) _ hF hnd (hA.1.fr f2 (by simp)) hC2 hcl
  unfold madeAt at k1
  have HK : Hid (Calls _ _ _ _ _) := k1
  have HR : Hid (World.rowIs _ _ _ _ _) := f2.rowIs r1 (by simp)
  have HQ : Hid (World.rowIs _ _ _ _ _) := q1
  have HF : Hid (Fr (fun _ => False) w (w1.alloc (.cells #[.slice (some ⟨g, 0, none⟩) L.length c, .int .i64 (nd : Int), .slice ao n cap, .int .i64 128, .int .i64 512, .int .i64 1048576, .int .i64 8, .int .i64 2, .int .i64 4] 25))) := (f0.trans f1).trans f2
  clear k1 q1 r0 r1 hA hC hC2 f0 f1 f2 HS
  go_upto_region 2 with fail
  go_wp2_with fail
  refine HK.out.mono ?_
  rintro e w3 ⟨p, cv', rfl, hP, f3⟩
  clear HK
  have r3 := f3.rowIs HR.out (by simp)
  have q3 := f3.rowIs HQ.out (by simp)
  have b0 : w3.cell? ⟨w1.heap.size, 0, none⟩ = some (.slice (some ⟨g, 0, none⟩) L.length c) := q3.cell (i := 0) (by omega)
  have c1 : w3.cell? ⟨w.heap.size, 1, none⟩ = some (.int .i64 fr) := r3.cell (i := 1) (by omega)
  have c2 : w3.cell? ⟨w.heap.size, 2, none⟩ = some (.int .i64 tt) := r3.cell (i := 2) (by omega)
  have c3 : w3.cell? ⟨w.heap.size, 3, none⟩ = some (.float .f64 lo) := r3.cell (i := 3) (by omega)
  have c4 : w3.cell? ⟨w.heap.size, 4, none⟩ = some (.float .f64 hi) := r3.cell (i := 4) (by omega)
  have c6 : w3.cell? ⟨w.heap.size, 6, none⟩ = some (.int .i64 qu) := r3.cell (i := 6) (by omega)
  have HR3 : Hid (World.rowIs _ _ _ _ _) := r3
  have HP : Hid (PlanAt _ _ _ _ _) := hP
  have HF3 : Hid (Fr (fun _ => False) w w3) := HF.out.trans f3
  have ka := fun W => ahead_any hi lo W hhi hlo
  have HA : Hid (∀ W, Calls _ _ _ _ _) := ka
  have hL16 := hF.2.1
  clear r3 q3 hP f3 HR HQ HF ka hF
  go_upto_region 4 with fail
  go_cut [9] from 10 (fun s wz => s = .bool (ruleB L.length fr tt lo hi qu) ∧ wz = w3)
  case first =>
    by_cases h1 : 0 ≤ fr
    · by_cases h2 : fr < L.length
      · by_cases h3 : 0 ≤ tt
        · by_cases h4 : tt < L.length
          · by_cases h5 : fr = tt
            · subst h5
              go_wp2_with fail
              go_meet
              exact ⟨by rw [show ruleB L.length fr fr lo hi qu = false by unfold ruleB; simp], rfl⟩
            · have h5' : (fr != tt) = true := by simpa using h5
              have hR : ruleB L.length fr tt lo hi qu = (!decide (Fl.rk hi < Fl.rk lo) && (decide (0 ≤ qu) && decide (qu ≤ 65536))) := by
                unfold ruleB
                rw [decide_eq_true h1, decide_eq_true h2, decide_eq_true h3, decide_eq_true h4, h5']
                rfl
              have ha := HA.out w3
              obtain ⟨b4, Hb4⟩ : ∃ b, Hid (decide (Fl.rk hi < Fl.rk lo) = b) := ⟨_, rfl⟩
              rw [Hb4.out] at ha hR
              have HRR : Hid _ := hR
              clear hR
              go_wp2_with fail
              refine ha.mono ?_
              rintro e w9 ⟨rfl, hw⟩
              subst w9
              go_wp2_with fail
              all_goals
                go_meet
                refine ⟨?_, rfl⟩
                rw [HRR.out]
                cases b4 <;> simp_all <;> (intros; omega)
          · 
            go_wp2_with fail
            go_meet
            exact ⟨by rw [show ruleB L.length fr tt lo hi qu = false by unfold ruleB; simp; omega], rfl⟩
        · 
          go_wp2_with fail
          go_meet
          exact ⟨by rw [show ruleB L.length fr tt lo hi qu = false by unfold ruleB; simp; omega], rfl⟩
      · 
        go_wp2_with fail
        go_meet
        exact ⟨by rw [show ruleB L.length fr tt lo hi qu = false by unfold ruleB; simp; omega], rfl⟩
    · 
      go_wp2_with fail
      go_meet
      exact ⟨by rw [show ruleB L.length fr tt lo hi qu = false by unfold ruleB; simp; omega], rfl⟩
  case rest =>
    obtain ⟨rfl, rfl⟩ := hcut
    generalize hgen : ruleB L.length fr tt lo hi qu = rb at *
    have Hgen : Hid _ := hgen
    clear c1 c2 c3 c4 c6 b0 hgen
    go_wp2_with fail
    refine (awake_any _).mono ?_
    rintro e w4 ⟨rfl, f4⟩
    have r4 := f4.rowIs HR3.out (by simp)
    have d0 : w4.cell? ⟨w.heap.size, 0, none⟩ = some (.int .u64 id) := r4.cell (i := 0) (by omega)
    have d1 : w4.cell? ⟨w.heap.size, 1, none⟩ = some (.int .i64 fr) := r4.cell (i := 1) (by omega)
    have d2 : w4.cell? ⟨w.heap.size, 2, none⟩ = some (.int .i64 tt) := r4.cell (i := 2) (by omega)
    have d3 : w4.cell? ⟨w.heap.size, 3, none⟩ = some (.float .f64 lo) := r4.cell (i := 3) (by omega)
    have d4 : w4.cell? ⟨w.heap.size, 4, none⟩ = some (.float .f64 hi) := r4.cell (i := 4) (by omega)
    have d5 : w4.cell? ⟨w.heap.size, 5, none⟩ = some (.int .u64 au) := r4.cell (i := 5) (by omega)
    have d6 : w4.cell? ⟨w.heap.size, 6, none⟩ = some (.int .i64 qu) := r4.cell (i := 6) (by omega)
    have kr := rule_any w4 p L (nd : Int) cv' (HP.out.fr f4) id fr tt lo hi au qu hlo hhi
    rw [Hgen.out] at kr
    have HKR : Hid (Calls _ _ _ _ _) := kr
    clear r4 kr
    go_wp2_with fail
    refine HKR.out.mono ?_
    rintro e w5 ⟨rfl, f5⟩
    go_wp2
    go_ret
    exact ⟨ret_bool (by simp), (HF3.out.trans f4).trans f5⟩
end Go.Proofs.Ytjbkmflbhlnbpaa
