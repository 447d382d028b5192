/- The law's awake. -/
import Derived.Test.YtmjkipdflhbgdaaMvG
namespace Go.Proofs.Ytmjkipdflhbgdaa
open Go.RowKit
theorem row_a (w : World) (d : Nat) (h : w.cell? ⟨d, 0, none⟩ = some (.int .u8 97)) : Row w (some ⟨d, 0, none⟩) [97] 1 :=
  ⟨by simp, by unfold maxLen; omega, by simp, by simp, fun _ => ⟨d, 0, rfl, fun i hi => by
    have : i = 0 := by simpa using hi
    subst this; simpa using h⟩⟩
set_option maxRecDepth 100000 in
set_option maxHeartbeats 4000000 in
theorem awake_yes (w : World) : Calls Try.prog 10 #[] w fun e w' => e = .returned (.bool true) ∧ Fr (fun _ => False) w w' := by
  go_enter Try.func10, Try.ntmps10
  go_wp2_with fail
  refine (new_w w).mono ?_
  rintro e w1 ⟨rfl, hc1, hz1, f1⟩
  obtain ⟨sb, Hsb⟩ : ∃ sb, Hid (w.heap.size = sb) := ⟨_, rfl⟩
  rw [Hsb.out] at hc1 hz1 ⊢
  have kc := Lib.run_convert_bytes_const (P := Try.prog) w1 32 5 #[.int .u8 97] 1 1 Try.underlying32 Try.underlying5
  have hsz : sb < w1.heap.size := World.block_lt_of_cell? _ _ hc1
  obtain ⟨W2, HW2⟩ : ∃ W2, Hid (w1.alloc (.cells #[.int .u8 97] 5 (1, 2)) = W2) := ⟨_, rfl⟩
  have F2 : Hid (Fr (fun _ => False) w1 W2) := (show Fr _ _ _ by rw [← HW2.out]; exact (Fr.refl (fun _ => False) w1).alloc _)
  have HF2 : Hid (Fr (fun _ => False) w W2) := f1.trans F2.out
  have HR2 : Hid (Row W2 (some ⟨w1.heap.size, 0, none⟩) [97] 1) := row_a W2 _ (by rw [← HW2.out]; exact (World.cell?_alloc_mark w1 #[.int .u8 97] 5 (1, 2) 0).trans rfl)
  have HSB : Hid (sb < w1.heap.size ∧ sb < W2.heap.size ∧ w.heap.size = sb) := ⟨hsz, Nat.lt_of_lt_of_le hsz F2.out.size, Hsb.out⟩
  have KP : Hid (Calls Try.prog 24 #[.pointer (some ⟨sb, 0, none⟩), .float .f64 4607182418800017408, .agg #[.int .u64 2, .int .u64 0, .bool false, .slice (some ⟨w1.heap.size, 0, none⟩) 1 1]] W2 _) := put_first 4607182418800017408 sb 2 0 false (some ⟨w1.heap.size, 0, none⟩) [97] 1 (by decide) (by decide) W2 (F2.out.cell hc1 (by simp)) ((F2.out.frozenEq (a := ⟨sb, 0, none⟩) hsz (by simp)).trans hz1) HR2.out (fun _ a ha e => by cases ha; simp at e; omega)
  clear hc1 hz1 f1 hsz
  go_wp2_with fail
  rw [HW2.out]
  clear kc
  refine KP.out.mono ?_
  rintro e w3 ⟨rfl, ⟨cb, cc, lv, a1, l1, c1, hc3, h23, ho3, hcb, hlcb, hr3, hl3, hne3⟩, f3⟩
  obtain rfl : l1 = [97] := by first | exact hl3 rfl | exact hl3 trivial
  obtain ⟨ga, gc, hlv, _⟩ := ho3.form
  have hlv' : lv = .slice ga 1 gc := hlv
  subst hlv'
  have HF3 : Hid (Fr (fun _ => False) w w3) := HF2.out.trans' f3 (fun i hi e => by have := HSB.out; omega)
  have HNE : Hid (∀ a, a1 = some a → a.block ≠ cb ∧ (Value.slice ga 1 gc).ownBlock ≠ some a.block) := fun a ha => ⟨(hne3 (by simp) a ha).2.1, (hne3 (by simp) a ha).2.2⟩
  have HLV : Hid (∀ k, (Value.slice ga 1 gc).ownBlock = some k → W2.heap.size ≤ k) := fun k hk => (ho3.lt k hk).1
  have HR3 : Hid (Row w3 a1 [97] c1) := hr3
  have HCB : Hid (W2.heap.size ≤ cb) := hcb
  have HQ3 : Hid (sb < w3.heap.size) := Nat.lt_of_lt_of_le HSB.out.2.1 f3.size
  have KM : Hid (Calls Try.prog 24 #[.pointer (some ⟨sb, 0, none⟩), .float .f64 4607182418800017408, .agg #[.int .u64 3, .int .u64 0, .bool true, .slice none 0 0]] w3 _) := put_more 4607182418800017408 sb cb cc W2.heap.size 3 0 true ⟨2, 0, false, a1, 1, c1⟩ (show 2 < 3 by decide) rfl ga gc none [] 0 (by decide) (by decide) w3 hc3 h23 ho3 f3.size (row_nil _) (by have := HSB.out; omega) hlcb (fun e => by have := HLV.out _ e; have := HSB.out; omega)
  clear hc3 h23 ho3 hcb hlcb hr3 hl3 hne3 f3 hlv KP
  go_wp2_with fail
  refine KM.out.mono ?_
  rintro e w4 ⟨rfl, ⟨la, lc, a2, l2, c2, hc4, h24, ho4⟩, f4⟩
  have HF4 : Hid (Fr (fun _ => False) w w4) := HF3.out.trans' f4 (fun i hi e => by
    rcases e with e | e
    · have := HCB.out; have := HSB.out; omega
    · have := HLV.out _ e; have := HSB.out; omega)
  have HR4 : Hid (Row w4 a1 [97] c1) := f4.row HR3.out (fun _ a ha e => by
    rcases e with e | e
    · exact (HNE.out a ha).1 e
    · exact (HNE.out a ha).2 e)
  obtain ⟨g, hg, hg4, c44, c46⟩ := own_two ho4
  subst hg
  have HC4 : Hid (w4.cell? ⟨sb, 0, none⟩ = some (.slice (some ⟨cb, 0, none⟩) 1 cc)) := hc4
  have H24 : Hid (C2 w4 cb (.int .u64 ((Fl.rk 4607182418800017408 : Nat) : Int)) (.slice (some ⟨g, 0, none⟩) 2 lc)) := h24
  have HG4 : Hid (w4.cell? ⟨g, 4, none⟩ = some (.int .u64 ((3 : Nat) : Int)) ∧ w4.cell? ⟨g, 6, none⟩ = some (.bool true)) := ⟨c44, c46⟩
  have KG : Hid (Calls Try.prog 13 #[.pointer (some ⟨sb, 0, none⟩), .float .f64 4607182418800017408, .int .u64 2] w4 fun e w' => ∃ a1 c1, e = .returned (.agg #[.bool true, .slice a1 1 c1]) ∧ Row w' a1 [97] c1 ∧ (∀ a, a1 = some a → w4.heap.size ≤ a.block) ∧ Fr (fun _ => False) w4 w') := get_2 4607182418800017408 sb cb cc g lc 2 3 0 a1 [97] c1 (by decide) (by decide) 2 w4 hc4 h24 (by decide) (by decide) hg4 c44 HR4.out
  clear hc4 h24 ho4 f4 hg4 c44 c46 KM
  go_wp2_with fail
  refine KG.out.mono ?_
  rintro e w5 ⟨a5, c5, rfl, hr5, _, f5⟩
  have HF5 : Hid (Fr (fun _ => False) w4 w5) := f5
  have s5 : (convert 32 9 (.slice a5 1 c5)).run Try.prog w5 = .ok (.string ⟨#[97]⟩) w5 := run_str' w5 a5 [97] 1 c5 rfl hr5
  have qf : ∀ w : World, (Instr.field 34 (.agg #[.bool true, .slice a5 1 c5]) 1).run Try.prog w = .ok (.slice a5 1 c5) w := fun w => by kernel_rfl
  have KD : Hid (Calls Try.prog 13 #[.pointer (some ⟨sb, 0, none⟩), .float .f64 4607182418800017408, .int .u64 3] w5 _) := get_del 4607182418800017408 sb cb cc g lc 3 (by decide) 3 w5 (f5.cell HC4.out (by simp)) (H24.out.fr f5 (by simp)) (by decide) (f5.cell HG4.out.1 (by simp)) (f5.cell HG4.out.2 (by simp))
  clear hr5 f5 KG
  go_wp2_with fail
  refine KD.out.mono ?_
  rintro e w6 ⟨rfl, f6⟩
  have HF6 : Hid (Fr (fun _ => False) w4 w6) := HF5.out.trans f6
  have qg : ∀ w : World, (Instr.field 34 (.agg #[.bool false, .slice none 0 0]) 0).run Try.prog w = .ok (.bool false) w := fun w => by kernel_rfl
  clear f6 s5 qf
  go_wp2_with fail
  refine (size_2 sb cb cc (Fl.rk 4607182418800017408) lc (some ⟨g, 0, none⟩) w6 (HF6.out.cell HC4.out (by simp)) (H24.out.fr HF6.out (by simp))).mono ?_
  rintro e w7 ⟨rfl, f7⟩
  have HF7 : Hid (Fr (fun _ => False) w w7) := (HF4.out.trans HF6.out).trans f7
  clear f7 qg
  go_wp2
  go_ret
  exact ⟨rfl, HF7.out⟩
end Go.Proofs.Ytmjkipdflhbgdaa
