/- The statement OctetBursts, walked: whatever the bytes, the place and the pattern, it answers true and writes nothing that was there. -/
import Derived.Test.YtonhkmcjfggnlaaDoorOpensWalk
import Derived.Test.YtonhkmcjfggnlaaDoorBurst
import Derived.RegionTactic
import Derived.Deep.QuietTactic
import Derived.BigQuiet
namespace Go.Proofs.YtonhkmcjfggnlaaDoor
open Go.RowKit

theorem Fr.drewN {S : Nat → Prop} {w w1 : World} (h : Fr S w w1) (n : Nat) : Fr S w (w1.drewN n) := ⟨h.os, h.tape, h.output, h.size, h.block⟩
set_option maxHeartbeats 2000000 in
theorem bursts_walk (ao : Option Addr) (l : List Nat) (cap : Nat) (a p : Nat) (w : World) (ht : Tab w) (hr : Row w ao l cap) (ha : a < 65536) (hp : p < 4294967296) :
    Calls Tryd.prog 7 #[.slice ao l.length cap, .int .u16 (a : Int), .int .u32 (p : Int)] w fun e w' => e = .returned (.bool true) ∧ Fr (fun _ => False) w w' := by
  by_cases hbig : p = 0 ∨ 3000 < l.length
  · have hcase : p = 0 ∨ (¬ p = 0 ∧ 3000 < l.length) := by omega
    clear hbig
    rcases hcase with rfl | ⟨h1, h2⟩
    case' inr =>
      have hp0 : ((p : Int) == 0) = false := by simp; omega
      clear h1
    all_goals
      go_enter Tryd.func7, Tryd.ntmps7
      go_wp2_with fail
      refine (awake_any w ht).mono ?_
      rintro e w1 ⟨rfl, f1⟩
      go_wp2_with fail
      refine (awake_any w1 (f1.tab ht (by simp))).mono ?_
      rintro e w2 ⟨rfl, f2⟩
      go_wp2
      go_ret
      exact ⟨rfl, f1.trans f2⟩
  · have hp0 : ((p : Int) == 0) = false := by simp; omega
    have hlen : l.length ≤ 3000 := by omega
    obtain ⟨k, ek, hk⟩ : ∃ k : Nat, (a : Int) % (8 * ((l.length : Int) + 4)) = (k : Int) ∧ k < 8 * (l.length + 4) := ⟨a % (8 * (l.length + 4)), by push_cast; rfl, Nat.mod_lt _ (by omega)⟩
    have hsl := sealed_length l
    go_enter Tryd.func7, Tryd.ntmps7
    go_wp2_with fail
    refine (awake_any w ht).mono ?_
    rintro e w1 ⟨rfl, f1⟩
    go_wp2_with fail
    refine (seal_any ao l cap w1 (f1.tab ht (by simp)) (f1.row hr (by simp)) (by omega)).mono ?_
    rintro e w2 ⟨a2, rfl, h2, f2⟩
    obtain ⟨⟨r1, r2, r3, r4, r5⟩, h2b⟩ := h2
    obtain ⟨g, off, rfl, hcells⟩ := r5 (fun e => by rw [e] at hsl; simp at hsl)
    obtain ⟨b1, b2, b3, b4, cur, hcur⟩ := h2b _ rfl
    simp only at b1 b2 b3 hcur
    subst b3
    have hfz : ∀ i, w2.frozen? ⟨g, i, none⟩ = false := fun i => by simp [World.frozen?, hcur]
    simp only [Nat.zero_add] at hcells
    clear h2b hcur b4 r1 r2 r4 r5
    have Hbig : Hid _ := hbig
    clear hbig
    have Hek : Hid _ := ek
    clear ek
    go_wp2
    rw [Hek.out]
    clear Hek
    go_loopw [9] (fun i wr => ∃ (j : Nat) (t : List Nat), j ≤ 32 ∧ i = .int .i64 (j : Int) ∧ t.length = l.length + 4 ∧ (∀ x ∈ t, x < 256) ∧ (∀ i, i < t.length → wr.cell? ⟨g, i, none⟩ = some (.int .u8 ((t.getD i 0 : Nat) : Int))) ∧ (∀ i, wr.frozen? ⟨g, i, none⟩ = false) ∧ Hid (Crc.num t = Crc.num (sealed l) ^^^ 2 ^ k * (p % 2 ^ j)) ∧ Fr (fun x => x = g) w2 wr) (fun i _ => 32 - (intOf i).toNat)
    case atStart => exact ⟨0, sealed l, Nat.zero_le _, rfl, hsl, r3, hcells, hfz, by show _ = _; simp [Nat.mod_one], Fr.refl _ _⟩
    case round =>
      obtain ⟨j, t, hj, rfl, htl, htb, htc, htf, Hn, hf⟩ := hrel
      clear hcells hfz r3
      by_cases hin : j < 32 ∧ k + j < 8 * (l.length + 4)
      · obtain ⟨i1, i2⟩ := hin
        obtain ⟨q, eq, hq, Hq⟩ : ∃ q : Nat, bits .and .u32 ((p : Int) / 2 ^ j) 1 = (q : Int) ∧ q < 2 ∧ Hid (q = p / 2 ^ j % 2) := ⟨_, bit_u32 p j hp, by omega, rfl⟩
        have hq01 : q = 0 ∨ q = 1 := by omega
        rcases hq01 with rfl | rfl
        · go_wp2
          go_roundw
          case rel => exact ⟨j + 1, t, by omega, by go_num, htl, htb, htc, htf, still_step _ _ _ _ _ Hn.out Hq.out.symm, hf⟩
          case measure => simp [intOf]; omega
        · obtain ⟨d, ed, hd, Hd⟩ : ∃ d : Nat, ((k : Int) + (j : Int)) / 8 = (d : Int) ∧ d < l.length + 4 ∧ Hid (d = (k + j) / 8) := ⟨(k + j) / 8, by omega, by omega, rfl⟩
          obtain ⟨m, em, hm, Hm⟩ : ∃ m : Nat, ((k : Int) + (j : Int)) % 8 = (m : Int) ∧ m < 8 ∧ Hid (m = (k + j) % 8) := ⟨(k + j) % 8, by omega, by omega, rfl⟩
          obtain ⟨x, hx, hcell, Hx⟩ : ∃ x : Nat, x < 256 ∧ wr.cell? ⟨g, d, none⟩ = some (.int .u8 (x : Int)) ∧ Hid (x = t.getD d 0) :=
            ⟨t.getD d 0, by rw [List.getD_eq_getElem?_getD, List.getElem?_eq_getElem (by omega)]; exact htb _ (List.getElem_mem _), htc d (by omega), rfl⟩
          have hfd := htf d
          have HC : Hid _ := htc
          clear htc
          go_wp2
          go_region
          go_wp2
          go_roundw
          case rel =>
            rw [xor_u8 x m hx hm]
            refine ⟨j + 1, t.set d (x ^^^ 2 ^ m), by omega, by go_num, by rw [List.length_set]; exact htl, ?_, set_cells HC.out (by omega), fun i => by simpa using htf i, ?_, (hf.setCell (Or.inl rfl) _).drew⟩
            · intro y hy
              rcases List.mem_or_eq_of_mem_set hy with h | h
              · exact htb y h
              · rw [h]; exact xor_byte x m hx hm
            · show _ = _
              rw [Hx.out, num_set t d m (by omega) hm htb, show 8 * d + m = k + j by have := Hd.out; have := Hm.out; omega]
              exact turn_step _ _ _ _ _ Hn.out Hq.out.symm
          case measure => simp [intOf]; omega
      · have hrow : Row wr (some ⟨g, 0, none⟩) t (l.length + 4) := ⟨by omega, by unfold maxLen; omega, htb, fun e => (by cases e), fun _ => ⟨g, 0, rfl, fun i hi => by rw [Nat.zero_add]; exact htc i hi⟩⟩
        have f02 : Fr (fun _ => False) w wr := (f1.trans f2).trans' hf (fun i hi e => by have := f1.size; omega)
        have hp32 : p % 2 ^ j < 4294967296 := Nat.lt_of_le_of_lt (Nat.mod_le _ _) hp
        have hbb := hr.2.2.1
        have hok := (sealed_iff (sealed l) l.length hsl (sealed_lt l hbb)).1 (by simp [sealed])
        have hburst : SumOK t → t = sealed l := fun h => by
          unfold SumOK at h
          rw [htl, Nat.add_sub_cancel] at h
          exact Crc.burst (sealed l) t l.length k (p % 2 ^ j) hsl (by omega) (sealed_lt l hbb) htb hok (by omega) hp32 Hn.out h
        have hq1 : ¬ j < 32 ∨ (j < 32 ∧ ¬ (k : Int) + (j : Int) < 8 * ((l.length : Int) + 4)) := by omega
        clear hin htc htf hbb
        by_cases hts : SumOK t
        · have he := hburst hts
          subst he
          have hopen := open_yes (some ⟨g, 0, none⟩) (sealed l) (l.length + 4) wr (f02.tab ht (by simp)) hrow (by omega) (by omega) hts
          rw [hsl, Nat.add_sub_cancel] at hopen
          have HR : Hid _ := hrow
          have HN : Hid _ := hsl
          clear hburst hok Hn hf hp32 htb hrow hts htl hsl
          rcases hq1 with hq1 | ⟨hq1, hq2⟩
          all_goals
            go_wp2_with fail
            refine hopen.mono ?_
            rintro e w3 ⟨f3, a3, rfl, h3⟩
            have f03 := f02.trans f3
            have fd := f03.drew
            have s0 := run_str' w3.drew (some ⟨g, 0, none⟩) (sealed l) (l.length + 4) (l.length + 4) HN.out ((f3.drew).row HR.out (by simp))
            clear h3
            go_wp2_with fail
            go_region_with (first
              | (go_at_call 27; refine (seal_any ao l cap _ ?_ ?_ ?_).mono ?_; exact fd.tab ht (by simp); exact fd.row hr (by simp); omega; rintro e w4 ⟨a4, rfl, h4, f4⟩; have f04 := fd.trans f4; have s1 := run_str' w4 a4 (sealed l) _ _ (sealed_length l) h4.1; rw [HN.out] at s1; have s2 := run_str' w4 (some ⟨g, 0, none⟩) (sealed l) (l.length + 4) (l.length + 4) HN.out ((f3.drew.trans f4).row HR.out (by simp)); clear h4))
            all_goals
              go_wp2
              go_ret
              exact ⟨rfl, f04⟩
        · have hopen := open_no (some ⟨g, 0, none⟩) t (l.length + 4) wr (f02.tab ht (by simp)) hrow (by omega) (by omega) hts
          rw [htl] at hopen
          clear hburst hok Hn hf hp32 htb hrow hts htl
          rcases hq1 with hq1 | ⟨hq1, hq2⟩
          all_goals
            go_wp2_with fail
            refine hopen.mono ?_
            rintro e w3 ⟨f3, rfl⟩
            have f03 := f02.trans f3
            go_wp2_with fail
            go_quiet (fail)
            go_wp2
            go_ret
            exact ⟨rfl, f03.drewN _⟩
end Go.Proofs.YtonhkmcjfggnlaaDoor
