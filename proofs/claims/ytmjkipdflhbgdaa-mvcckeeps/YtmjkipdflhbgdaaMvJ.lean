/- What was handed in, or told, may be written over; a nil store has nothing: the law's body. -/
import Derived.Test.YtmjkipdflhbgdaaMvI
namespace Go.Proofs.Ytmjkipdflhbgdaa
open Go.RowKit
/-- a store of one version at one number: where it stands. -/
def St (w : World) (base top sb r e0 : Nat) (l : List Nat) : Prop := ∃ cb cc g gc a1 c1, sb < base ∧ (base ≤ cb ∧ cb < top) ∧ (base ≤ g ∧ g < top) ∧ (l ≠ [] → ∀ a : Addr, a1 = some a → base ≤ a.block ∧ a.block < top) ∧
  w.cell? ⟨sb, 0, none⟩ = some (.slice (some ⟨cb, 0, none⟩) 1 cc) ∧ C2 w cb (.int .u64 (r : Int)) (.slice (some ⟨g, 0, none⟩) 1 gc) ∧ C4 w g (.int .u64 (e0 : Int)) (.int .u64 ((0 : Nat) : Int)) (.bool false) (.slice a1 l.length c1) ∧ Row w a1 l c1
theorem St.fr {w w1 : World} {base top sb r e0 : Nat} {l : List Nat} {S : Nat → Prop} (h : St w base top sb r e0 l) (f : Fr S w w1) (h0 : ¬ S sb) (h1 : ∀ k, base ≤ k → k < top → ¬ S k) : St w1 base top sb r e0 l := by
  obtain ⟨cb, cc, g, gc, a1, c1, hs, hcb, hg, ha, k0, k1, k2, k3⟩ := h
  exact ⟨cb, cc, g, gc, a1, c1, hs, hcb, hg, ha, f.cell k0 h0, k1.fr f (h1 cb hcb.1 hcb.2), k2.fr f (h1 g hg.1 hg.2), f.row k3 (fun hl a e => h1 _ (ha hl a e).1 (ha hl a e).2)⟩
theorem St.get {w : World} {base top sb x e0 : Nat} {l : List Nat} (h : St w base top sb (Fl.rk x) e0 l) (hx : x < 18446744073709551616) (hl : l.length ≤ 1000) :
    Calls Try.prog 13 #[.pointer (some ⟨sb, 0, none⟩), .float .f64 x, .int .u64 (e0 : Int)] w fun e w' => ∃ a1 c1, e = .returned (.agg #[.bool true, .slice a1 l.length c1]) ∧ (∃ b, w.heap.size ≤ b ∧ Own w' b (.slice a1 l.length c1) l) ∧ Fr (fun _ => False) w w' := by
  obtain ⟨cb, cc, g, gc, a1, c1, hs, hcb, hg, ha, k0, k1, k2, k3⟩ := h
  exact get_own x sb cb cc g gc e0 0 a1 l c1 hx hl e0 w k0 k1 (Nat.le_refl _) k2 k3
set_option maxRecDepth 100000 in
set_option maxHeartbeats 8000000 in
theorem keeps_walk (ao : Option Addr) (l : List Nat) (cap x e0 : Nat) (hx : x < 18446744073709551616) (w : World) (hv : Row w ao l cap) :
    Calls Try.prog 8 #[.slice ao l.length cap, .float .f64 x, .int .u64 (e0 : Int)] w fun e w' => e = .returned (.bool true) ∧ Fr (fun _ => False) w w' := by
  have hl1 : l.length ≤ 9223372036854775807 := by have := hv.1; have := hv.2.1; unfold maxLen at this; omega
  by_cases hp : 100 < l.length
  · clear hv
    go_enter Try.func8, Try.ntmps8
    go_wp2_with fail
    refine (awake_yes w).mono ?_
    rintro e w1 ⟨rfl, f1⟩
    go_wp2_with fail
    refine (awake_yes w1).mono ?_
    rintro e w2 ⟨rfl, f2⟩
    go_wp2
    go_ret
    exact ⟨rfl, f1.trans f2⟩
  have hl : l.length ≤ 1000 := by omega
  have HRW : Hid (Row w ao l cap) := hv
  obtain ⟨t, Ht⟩ : ∃ t, Hid (strOf l = t) := ⟨_, rfl⟩
  clear hv
  go_enter Try.func8, Try.ntmps8
  go_wp2_with fail
  refine (awake_yes w).mono ?_
  rintro e w1 ⟨rfl, f1⟩
  have F1 : Hid (Fr (fun _ => False) w w1) := f1
  clear f1
  go_wp2_with (refine wpList_append_bytes rfl _ _ rfl w.heap.size _ [] rfl (Own.nil _ _) ao l cap rfl (F1.out.row HRW.out (by simp)) (by simp; omega) F1.out.size ?_)
  intro va w2 oa ga ka
  have HF2 : Hid (Fr (fun _ => False) w w2) := F1.out.grown ga (fun k e => by simp [Value.ownBlock] at e)
  have oa' : Own w2 w.heap.size va l := oa
  obtain ⟨aa, ca, hva, hwa⟩ := oa'.wipe
  subst hva
  obtain ⟨_, _, hva, hr2, hb2⟩ := oa'.row
  cases hva
  have HR2 : Hid (Row w2 aa l ca) := hr2
  obtain ⟨qb, HQ⟩ : ∃ qb, Hid (l ≠ [] → aa = some ⟨qb, 0, none⟩ ∧ w.heap.size ≤ qb ∧ qb < w2.heap.size ∧ Wipe w2 qb l.length) := by
    by_cases h : l = []
    · exact ⟨0, fun hne => absurd h hne⟩
    · obtain ⟨g, hg, hw⟩ := hwa h
      exact ⟨g, fun _ => ⟨hg, (hb2 _ hg).1, (hb2 _ hg).2.1, hw⟩⟩
  clear oa oa' ga ka hwa hr2 hb2
  go_wp2_with fail
  refine (new_w w2).mono ?_
  rintro e w3 ⟨rfl, hc3, hz3, f3⟩
  obtain ⟨sb, Hsb⟩ : ∃ sb, Hid (w2.heap.size = sb) := ⟨_, rfl⟩
  rw [Hsb.out] at hc3 hz3 ⊢
  have HF3 : Hid (Fr (fun _ => False) w w3) := HF2.out.trans f3
  have HSB : Hid (sb < w3.heap.size ∧ w.heap.size ≤ sb ∧ w2.heap.size = sb) := ⟨World.block_lt_of_cell? _ _ hc3, by have := HF2.out.size; have := Hsb.out; omega, Hsb.out⟩
  have HQ3 : Hid (l ≠ [] → Wipe w3 qb l.length) := fun hne => (HQ.out hne).2.2.2.fr f3 (HQ.out hne).2.2.1 (by simp)
  have KP : Hid (Calls Try.prog 24 #[.pointer (some ⟨sb, 0, none⟩), .float .f64 x, .agg #[.int .u64 (e0 : Int), .int .u64 0, .bool false, .slice aa l.length ca]] w3 _) := put_first x sb e0 0 false aa l ca hx hl w3 hc3 hz3 (f3.row HR2.out (by simp)) (fun hne a ha e => by
    have h := HQ.out hne
    rw [h.1] at ha
    cases ha
    have := h.2.2.1
    have := HSB.out
    simp at e
    omega)
  clear hc3 hz3 f3
  go_wp2_with fail
  refine KP.out.mono ?_
  rintro e w4 ⟨rfl, ⟨cb, cc, lv, a1, l1, c1, hc4, h24, ho4, hcb, hlcb, hr4, hl4, hne4⟩, f4⟩
  have hl1e : l1 = l := by first | exact hl4 rfl | exact hl4 trivial
  subst hl1e
  obtain ⟨ga, gc, hlv, _⟩ := ho4.form
  have hlv' : lv = .slice ga 1 gc := hlv
  subst hlv'
  obtain ⟨g, hg, hg4⟩ := own_one ho4
  subst hg
  have hgb := (ho4.lt g rfl).1
  have HST4 : Hid (St w4 w3.heap.size w4.heap.size sb (Fl.rk x) e0 l1) := ⟨cb, cc, g, gc, a1, c1, HSB.out.1, ⟨hcb, h24.lt⟩, ⟨hgb, hg4.lt⟩, fun hne a ha => ⟨(hne4 hne a ha).1, row_blk hr4 hne a ha⟩, hc4, h24, hg4, hr4⟩
  have HF4 : Hid (Fr (fun _ => False) w w4) := HF3.out.trans' f4 (fun i hi e => by have := HSB.out; omega)
  have HQ4 : Hid (l1 ≠ [] → Wipe w4 qb l1.length) := fun hne => (HQ3.out hne).fr f4 (by have := (HQ.out hne).2.2.1; have := HSB.out; omega) (by have := (HQ.out hne).2.2.1; have := HSB.out; omega)
  have HZ : Hid (w3.heap.size ≤ w4.heap.size) := f4.size
  clear hc4 h24 ho4 hcb hlcb hr4 hl4 hne4 f4 hlv hgb hg4 KP HQ3
  go_wp2
  go_loopw [9] (fun i wr => ∃ k : Nat, k ≤ l1.length ∧ i = .int .i64 (k : Int) ∧ Fr (fun j => l1 ≠ [] ∧ j = qb) w4 wr ∧ (l1 ≠ [] → Wipe wr qb l1.length)) (fun i _ => l1.length - (intOf i).toNat)
  case atStart => exact ⟨0, Nat.zero_le _, rfl, Fr.refl _ _, HQ4.out⟩
  case round =>
    obtain ⟨k, hk, rfl, hfr, hwp⟩ := hrel
    by_cases hlt : k < l1.length
    · have hne : l1 ≠ [] := fun e => by rw [e] at hlt; simp at hlt
      obtain ⟨haq, _, _, _⟩ := HQ.out hne
      subst haq
      have hw := hwp hne
      obtain ⟨xv, hxv⟩ := hw.1 k hlt
      have hz := hw.2 k
      have HW : Hid (Wipe wr qb l1.length) := hw
      have HFR : Hid (Fr (fun j => l1 ≠ [] ∧ j = qb) w4 wr) := hfr
      have HNE : Hid (l1 ≠ []) := hne
      have z1 : (0 : Int) ≤ (k : Int) := by omega
      have z2 : (k : Int) < (l1.length : Int) := by omega
      clear hw hfr hwp hne
      go_wp2
      go_roundw
      case rel => exact ⟨k + 1, by omega, by go_num, HFR.out.setCell (p := ⟨qb, _, none⟩) (Or.inl ⟨HNE.out, rfl⟩) _, fun _ => HW.out.set _ _⟩
      case measure => simp [intOf]; omega
    · rename World => w5
      have HF5 : Hid (Fr (fun _ => False) w w5) := HF4.out.trans' hfr (fun i hi e => by have := (HQ.out e.1).2.1; have := e.2; omega)
      have HST5 : Hid (St w5 w3.heap.size w4.heap.size sb (Fl.rk x) e0 l1) := HST4.out.fr hfr (fun e => by have := (HQ.out e.1).2.2.1; have := HSB.out; have := e.2; omega) (fun k h1 h2 e => by have := (HQ.out e.1).2.2.1; have := HSB.out; have := e.2; omega)
      have HS5 : Hid (w4.heap.size ≤ w5.heap.size) := hfr.size
      have hlt' : ¬ (k : Int) < (l1.length : Int) := by omega
      have KG : Hid (Calls _ _ _ _ _) := HST5.out.get hx hl
      clear hfr hwp HST4 HQ4
      go_wp2_with fail
      refine KG.out.mono ?_
      rintro e w6 ⟨a6, c6, rfl, ⟨b6, hb6, ho6⟩, f6⟩
      have HF6 : Hid (Fr (fun _ => False) w w6) := HF5.out.trans f6
      have HST6 : Hid (St w6 w3.heap.size w4.heap.size sb (Fl.rk x) e0 l1) := HST5.out.fr f6 (by simp) (by simp)
      obtain ⟨_, _, hv6, hr6, hb6'⟩ := ho6.row
      cases hv6
      obtain ⟨_, _, hv6, hw6⟩ := ho6.wipe
      cases hv6
      obtain ⟨gb, HG⟩ : ∃ gb, Hid (l1 ≠ [] → a6 = some ⟨gb, 0, none⟩ ∧ w5.heap.size ≤ gb ∧ gb < w6.heap.size ∧ Wipe w6 gb l1.length) := by
        by_cases h : l1 = []
        · exact ⟨0, fun hne => absurd h hne⟩
        · obtain ⟨g6, hg6, hw⟩ := hw6 h
          exact ⟨g6, fun _ => ⟨hg6, Nat.le_trans hb6 (hb6' _ hg6).1, (hb6' _ hg6).2.1, hw⟩⟩
      have A6 : Hid (Fr (fun _ => False) w6 (w6.alloc (.cells #[.bool true, .slice a6 l1.length c6] 34))) := (Fr.refl (fun _ => False) w6).alloc _
      have HB6 : Hid (C2 (w6.alloc (.cells #[.bool true, .slice a6 l1.length c6] 34)) w6.heap.size (.bool true) (.slice a6 l1.length c6)) := C2.new _ _ _ _
      have s6 := run_str (w6.alloc (.cells #[.bool true, .slice a6 l1.length c6] 34)) a6 l1 c6 (A6.out.row hr6 (by simp))
      have s7 := run_str (w6.alloc (.cells #[.bool true, .slice a6 l1.length c6] 34)) ao l1 cap ((HF6.out.trans A6.out).row HRW.out (by simp))
      rw [Ht.out] at s6 s7
      obtain ⟨bx, Hbx⟩ : ∃ bx, Hid (w6.heap.size = bx) := ⟨_, rfl⟩
      obtain ⟨w7, Hw7⟩ : ∃ w7, Hid (w6.alloc (.cells #[.bool true, .slice a6 l1.length c6] 34) = w7) := ⟨_, rfl⟩
      clear hb6 ho6 f6 hr6 hb6' hw6 KG HST5
      go_wp2
      rw [Hw7.out, Hbx.out]
      rw [Hw7.out] at A6 HB6
      rw [Hbx.out] at HB6
      clear s6 s7
      have HST7 : Hid (St w7 w3.heap.size w4.heap.size sb (Fl.rk x) e0 l1) := HST6.out.fr A6.out (by simp) (by simp)
      have HF7 : Hid (Fr (fun _ => False) w w7) := HF6.out.trans A6.out
      have HW7 : Hid (l1 ≠ [] → Wipe w7 gb l1.length) := fun hne => (HG.out hne).2.2.2.fr A6.out (HG.out hne).2.2.1 (by simp)
      go_loopw [11] (fun i wr => ∃ k : Nat, k ≤ l1.length ∧ i = .int .i64 (k : Int) ∧ Fr (fun j => l1 ≠ [] ∧ j = gb) w7 wr ∧ (l1 ≠ [] → Wipe wr gb l1.length)) (fun i _ => l1.length - (intOf i).toNat)
      case atStart => exact ⟨0, Nat.zero_le _, rfl, Fr.refl _ _, HW7.out⟩
      case round =>
        obtain ⟨k2, hk2, rfl, hfr, hwp⟩ := hrel
        obtain ⟨m0, m1, _⟩ := HB6.out.fr hfr (fun e => by have := (HG.out e.1).2.2.1; have := Hbx.out; have := e.2; omega)
        by_cases hlt2 : k2 < l1.length
        · have hne : l1 ≠ [] := fun e => by rw [e] at hlt2; simp at hlt2
          obtain ⟨haq, _, _, _⟩ := HG.out hne
          subst haq
          have hw := hwp hne
          obtain ⟨xv, hxv⟩ := hw.1 k2 hlt2
          have hz := hw.2 k2
          have HW : Hid (Wipe wr gb l1.length) := hw
          have HFR : Hid (Fr (fun j => l1 ≠ [] ∧ j = gb) w7 wr) := hfr
          have HNE : Hid (l1 ≠ []) := hne
          have z1 : (0 : Int) ≤ (k2 : Int) := by omega
          have z2 : (k2 : Int) < (l1.length : Int) := by omega
          clear hw hfr hwp hne
          go_wp2
          go_roundw
          case rel => exact ⟨k2 + 1, by omega, by go_num, HFR.out.setCell (p := ⟨gb, _, none⟩) (Or.inl ⟨HNE.out, rfl⟩) _, fun _ => HW.out.set _ _⟩
          case measure => simp [intOf]; omega
        · rename World => w8
          have HF8 : Hid (Fr (fun _ => False) w w8) := HF7.out.trans' hfr (fun i hi e => by have := (HG.out e.1).2.1; have := HF5.out.size; have := e.2; omega)
          have HST8 : Hid (St w8 w3.heap.size w4.heap.size sb (Fl.rk x) e0 l1) := HST7.out.fr hfr (fun e => by have := (HG.out e.1).2.1; have := HS5.out; have := HSB.out; have := HZ.out; have := e.2; omega) (fun k h1 h2 e => by have := (HG.out e.1).2.1; have := HS5.out; have := e.2; omega)
          have hlt2' : ¬ (k2 : Int) < (l1.length : Int) := by omega
          have KZ : Hid (Calls Try.prog 24 #[.pointer none, .float .f64 x, .agg #[.int .u64 0, .int .u64 0, .bool false, .slice none 0 0]] w8 _) := put_nil x 0 0 false none 0 0 w8
          clear hfr hwp HST7 HW7
          go_wp2_with fail
          refine KZ.out.mono ?_
          rintro e w9 ⟨rfl, f9⟩
          have HF9 : Hid (Fr (fun _ => False) w w9) := HF8.out.trans f9
          have KG9 : Hid (Calls _ _ _ w9.drew _) := (HST8.out.fr f9.drew (by simp) (by simp)).get hx hl
          clear f9 m0 m1 KZ
          go_wp2_with fail
          refine (trim_nil e0 _).mono ?_
          rintro e w10 ⟨rfl, hw10⟩
          subst hw10
          go_wp2_with fail
          refine wp_region_held_drew (S := (fun W : World => Row W ao l1 cap)) (by kernel_rfl) (HF9.out.drew.row HRW.out (by simp)) (fun hHeld => ?_)
          refine wpAnyH_take (i := 0) (oi := _) (v := ?_) (by rw [List.getElem?_toArray]; rfl) (by kernel_rfl) (by kernel_rfl) (by kernel_rfl) (fun _ _ _ h => by exact h) (Or.inl ⟨by rfl, ?_⟩) (by assumption) ?_
          rotate_left
          · (intro w hSw; (try dsimp only at hSw); go_simp; (try with_reducible rfl))
          try simp only [Act.put, List.setIfInBounds_toArray, List.set_cons_zero, List.set_cons_succ]
          refine wpAnyH_take (i := 1) (oi := _) (v := ?_) (by rw [List.getElem?_toArray]; rfl) (by kernel_rfl) (by kernel_rfl) (by kernel_rfl) (fun _ _ _ h => by exact h) (Or.inl ⟨by rfl, ?_⟩) (by assumption) ?_
          rotate_left
          · (intro w hSw; (try dsimp only at hSw); go_simp; (try with_reducible rfl))
          try simp only [Act.put, List.setIfInBounds_toArray, List.set_cons_zero, List.set_cons_succ]
          refine wpAnyH_take (i := 2) (oi := _) (v := ?_) (by rw [List.getElem?_toArray]; rfl) (by kernel_rfl) (by kernel_rfl) (by kernel_rfl) (fun _ _ _ h => by exact h) (Or.inl ⟨by rfl, ?_⟩) (by assumption) ?_
          rotate_left
          · (intro w hSw; (try dsimp only at hSw); go_simp; (try with_reducible rfl))
          try simp only [Act.put, List.setIfInBounds_toArray, List.set_cons_zero, List.set_cons_succ]
          refine wpAnyH_take (i := 6) (oi := _) (v := ?_) (by rw [List.getElem?_toArray]; rfl) (by kernel_rfl) (by kernel_rfl) (by kernel_rfl) (fun _ _ _ h => by exact h) (Or.inl ⟨by rfl, ?_⟩) (by assumption) ?_
          rotate_left
          · (intro w hSw; (try dsimp only at hSw); go_simp; (try with_reducible rfl))
          try simp only [Act.put, List.setIfInBounds_toArray, List.set_cons_zero, List.set_cons_succ]
          refine wpAnyH_take (i := 7) (oi := _) (v := ?_) (by rw [List.getElem?_toArray]; rfl) (by kernel_rfl) (by kernel_rfl) (by kernel_rfl) (fun _ _ _ h => by exact h) (Or.inl ⟨by rfl, ?_⟩) (by assumption) ?_
          rotate_left
          · (intro w hSw; (try dsimp only at hSw); have hs := run_str w ao l1 cap hSw; rw [Ht.out] at hs; go_simp; (try with_reducible rfl))
          try simp only [Act.put, List.setIfInBounds_toArray, List.set_cons_zero, List.set_cons_succ]
          refine wpAnyH_ready (rs := [3]) (by kernel_rfl) (by simp) ?_
          refine AllReadyH.cons (o := _) (by rw [List.getElem?_toArray]; rfl) (fun K hK => ?_) ?_
          · go_simp
            go_wp2_with (go_at_call 13; refine KG9.out.mono ?_; rintro e wa ⟨a9, c9, rfl, ⟨b9, _, ho9⟩, fa⟩)
            have HFa : Hid (Fr (fun _ => False) w wa) := HF9.out.drew.trans fa
            have HRa : Hid (Row wa ao l1 cap) := HFa.out.row HRW.out (by simp)
            have qf : ∀ w : World, (Instr.field 34 (.agg #[.bool true, .slice a9 l1.length c9]) 1).run Try.prog w = .ok (.slice a9 l1.length c9) w := fun w => by kernel_rfl
            obtain ⟨_, _, hv9, hr9, _⟩ := ho9.row
            cases hv9
            have s9 := run_str wa a9 l1 c9 hr9
            rw [Ht.out] at s9
            clear fa ho9 hr9
            refine hK.out _ _ HRa.out (fun hHeld => ?_)
            clear hK K
            try simp only [Act.put, List.setIfInBounds_toArray, List.set_cons_zero, List.set_cons_succ]
            refine wpAnyH_take (i := 4) (oi := _) (v := ?_) (by rw [List.getElem?_toArray]; rfl) (by kernel_rfl) (by kernel_rfl) (by kernel_rfl) (fun _ _ _ h => by exact h) (Or.inl ⟨by rfl, ?_⟩) (by assumption) ?_
            rotate_left
            · (intro w hSw; (try dsimp only at hSw); go_simp; (try with_reducible rfl))
            try simp only [Act.put, List.setIfInBounds_toArray, List.set_cons_zero, List.set_cons_succ]
            refine wpAnyH_ready (rs := [5]) (by kernel_rfl) (by simp) ?_
            refine AllReadyH.cons (o := _) (by rw [List.getElem?_toArray]; rfl) (fun K hK => ?_) ?_
            · go_simp
              clear s9
              refine hK.out _ _ HRa.out (fun hHeld => ?_)
              clear hK K
              try simp only [Act.put, List.setIfInBounds_toArray, List.set_cons_zero, List.set_cons_succ]
              refine wpAnyH_take (i := 8) (oi := _) (v := ?_) (by rw [List.getElem?_toArray]; rfl) (by kernel_rfl) (by kernel_rfl) (by kernel_rfl) (fun _ _ _ h => by exact h) (Or.inl ⟨by rfl, ?_⟩) (by assumption) ?_
              rotate_left
              · (intro w hSw; (try dsimp only at hSw); go_simp; (try with_reducible rfl))
              try simp only [Act.put, List.setIfInBounds_toArray, List.set_cons_zero, List.set_cons_succ]
              refine wpAnyH_take (i := 9) (oi := _) (v := ?_) (by rw [List.getElem?_toArray]; rfl) (by kernel_rfl) (by kernel_rfl) (by kernel_rfl) (fun _ _ _ h => by exact h) (Or.inl ⟨by rfl, ?_⟩) (by assumption) ?_
              rotate_left
              · (intro w hSw; (try dsimp only at hSw); go_simp; (try with_reducible rfl))
              try simp only [Act.put, List.setIfInBounds_toArray, List.set_cons_zero, List.set_cons_succ]
              refine wpAnyH_take (i := 10) (oi := _) (v := ?_) (by rw [List.getElem?_toArray]; rfl) (by kernel_rfl) (by kernel_rfl) (by kernel_rfl) (fun _ _ _ h => by exact h) (Or.inl ⟨by rfl, ?_⟩) (by assumption) ?_
              rotate_left
              · (intro w hSw; (try dsimp only at hSw); go_simp; (try with_reducible rfl))
              try simp only [Act.put, List.setIfInBounds_toArray, List.set_cons_zero, List.set_cons_succ]
              refine wpAnyH_take (i := 11) (oi := _) (v := ?_) (by rw [List.getElem?_toArray]; rfl) (by kernel_rfl) (by kernel_rfl) (by kernel_rfl) (fun _ _ _ h => by exact h) (Or.inl ⟨by rfl, ?_⟩) (by assumption) ?_
              rotate_left
              · (intro w hSw; (try dsimp only at hSw); go_simp; (try with_reducible rfl))
              try simp only [Act.put, List.setIfInBounds_toArray, List.set_cons_zero, List.set_cons_succ]
              refine wpAnyH_take (i := 12) (oi := _) (v := ?_) (by rw [List.getElem?_toArray]; rfl) (by kernel_rfl) (by kernel_rfl) (by kernel_rfl) (fun _ _ _ h => by exact h) (Or.inl ⟨by rfl, ?_⟩) (by assumption) ?_
              rotate_left
              · (intro w hSw; (try dsimp only at hSw); go_simp; (try with_reducible rfl))
              try simp only [Act.put, List.setIfInBounds_toArray, List.set_cons_zero, List.set_cons_succ]
              refine wpAnyH_ready (rs := [13]) (by kernel_rfl) (by simp) ?_
              refine AllReadyH.cons (o := _) (by rw [List.getElem?_toArray]; rfl) (fun K hK => ?_) ?_
              · go_simp
                go_wp2_with (go_at_call 13; refine (get_nil x e0 _).mono ?_; rintro e wb ⟨rfl, fb⟩)
                have HFb : Hid (Fr (fun _ => False) w wb) := HFa.out.trans fb
                have HRb : Hid (Row wb ao l1 cap) := fb.row HRa.out (by simp)
                have qg : ∀ w : World, (Instr.field 34 (.agg #[.bool false, .slice none 0 0]) 0).run Try.prog w = .ok (.bool false) w := fun w => by kernel_rfl
                clear fb
                refine hK.out _ _ HRb.out (fun hHeld => ?_)
                clear hK K
                try simp only [Act.put, List.setIfInBounds_toArray, List.set_cons_zero, List.set_cons_succ]
                refine wpAnyH_take (i := 14) (oi := _) (v := ?_) (by rw [List.getElem?_toArray]; rfl) (by kernel_rfl) (by kernel_rfl) (by kernel_rfl) (fun _ _ _ h => by exact h) (Or.inl ⟨by rfl, ?_⟩) (by assumption) ?_
                rotate_left
                · (intro w hSw; (try dsimp only at hSw); go_simp; (try with_reducible rfl))
                try simp only [Act.put, List.setIfInBounds_toArray, List.set_cons_zero, List.set_cons_succ]
                refine wpAnyH_take (i := 15) (oi := _) (v := ?_) (by rw [List.getElem?_toArray]; rfl) (by kernel_rfl) (by kernel_rfl) (by kernel_rfl) (fun _ _ _ h => by exact h) (Or.inl ⟨by rfl, ?_⟩) (by assumption) ?_
                rotate_left
                · (intro w hSw; (try dsimp only at hSw); go_simp; (try with_reducible rfl))
                try simp only [Act.put, List.setIfInBounds_toArray, List.set_cons_zero, List.set_cons_succ]
                refine wpAnyH_take (i := 16) (oi := _) (v := ?_) (by rw [List.getElem?_toArray]; rfl) (by kernel_rfl) (by kernel_rfl) (by kernel_rfl) (fun _ _ _ h => by exact h) (Or.inl ⟨by rfl, ?_⟩) (by assumption) ?_
                rotate_left
                · (intro w hSw; (try dsimp only at hSw); go_simp; (try with_reducible rfl))
                try simp only [Act.put, List.setIfInBounds_toArray, List.set_cons_zero, List.set_cons_succ]
                refine wpAnyH_take (i := 17) (oi := _) (v := ?_) (by rw [List.getElem?_toArray]; rfl) (by kernel_rfl) (by kernel_rfl) (by kernel_rfl) (fun _ _ _ h => by exact h) (Or.inl ⟨by rfl, ?_⟩) (by assumption) ?_
                rotate_left
                · (intro w hSw; (try dsimp only at hSw); go_simp; (try with_reducible rfl))
                try simp only [Act.put, List.setIfInBounds_toArray, List.set_cons_zero, List.set_cons_succ]
                refine wpAnyH_take (i := 18) (oi := _) (v := ?_) (by rw [List.getElem?_toArray]; rfl) (by kernel_rfl) (by kernel_rfl) (by kernel_rfl) (fun _ _ _ h => by exact h) (Or.inl ⟨by rfl, ?_⟩) (by assumption) ?_
                rotate_left
                · (intro w hSw; (try dsimp only at hSw); go_simp; (try with_reducible rfl))
                try simp only [Act.put, List.setIfInBounds_toArray, List.set_cons_zero, List.set_cons_succ]
                refine wpAnyH_take (i := 19) (oi := _) (v := ?_) (by rw [List.getElem?_toArray]; rfl) (by kernel_rfl) (by kernel_rfl) (by kernel_rfl) (fun _ _ _ h => by exact h) (Or.inl ⟨by rfl, ?_⟩) (by assumption) ?_
                rotate_left
                · (intro w hSw; (try dsimp only at hSw); go_simp; (try with_reducible rfl))
                try simp only [Act.put, List.setIfInBounds_toArray, List.set_cons_zero, List.set_cons_succ]
                refine wpAnyH_take (i := 20) (oi := _) (v := ?_) (by rw [List.getElem?_toArray]; rfl) (by kernel_rfl) (by kernel_rfl) (by kernel_rfl) (fun _ _ _ h => by exact h) (Or.inl ⟨by rfl, ?_⟩) (by assumption) ?_
                rotate_left
                · (intro w hSw; (try dsimp only at hSw); go_simp; (try with_reducible rfl))
                try simp only [Act.put, List.setIfInBounds_toArray, List.set_cons_zero, List.set_cons_succ]
                refine wpAnyH_take (i := 21) (oi := _) (v := ?_) (by rw [List.getElem?_toArray]; rfl) (by kernel_rfl) (by kernel_rfl) (by kernel_rfl) (fun _ _ _ h => by exact h) (Or.inl ⟨by rfl, ?_⟩) (by assumption) ?_
                rotate_left
                · (intro w hSw; (try dsimp only at hSw); go_simp; (try with_reducible rfl))
                try simp only [Act.put, List.setIfInBounds_toArray, List.set_cons_zero, List.set_cons_succ]
                refine wpAnyH_take (i := 24) (oi := _) (v := ?_) (by rw [List.getElem?_toArray]; rfl) (by kernel_rfl) (by kernel_rfl) (by kernel_rfl) (fun _ _ _ h => by exact h) (Or.inl ⟨by rfl, ?_⟩) (by assumption) ?_
                rotate_left
                · (intro w hSw; (try dsimp only at hSw); go_simp; (try with_reducible rfl))
                try simp only [Act.put, List.setIfInBounds_toArray, List.set_cons_zero, List.set_cons_succ]
                refine wpAnyH_take (i := 25) (oi := _) (v := ?_) (by rw [List.getElem?_toArray]; rfl) (by kernel_rfl) (by kernel_rfl) (by kernel_rfl) (fun _ _ _ h => by exact h) (Or.inl ⟨by rfl, ?_⟩) (by assumption) ?_
                rotate_left
                · (intro w hSw; (try dsimp only at hSw); go_simp; (try with_reducible rfl))
                try simp only [Act.put, List.setIfInBounds_toArray, List.set_cons_zero, List.set_cons_succ]
                refine wpAnyH_take (i := 29) (oi := _) (v := ?_) (by rw [List.getElem?_toArray]; rfl) (by kernel_rfl) (by kernel_rfl) (by kernel_rfl) (fun _ _ _ h => by exact h) (Or.inl ⟨by rfl, ?_⟩) (by assumption) ?_
                rotate_left
                · (intro w hSw; (try dsimp only at hSw); go_simp; (try with_reducible rfl))
                try simp only [Act.put, List.setIfInBounds_toArray, List.set_cons_zero, List.set_cons_succ]
                refine wpAnyH_take (i := 32) (oi := _) (v := ?_) (by rw [List.getElem?_toArray]; rfl) (by kernel_rfl) (by kernel_rfl) (by kernel_rfl) (fun _ _ _ h => by exact h) (Or.inl ⟨by rfl, ?_⟩) (by assumption) ?_
                rotate_left
                · (intro w hSw; (try dsimp only at hSw); go_simp; (try with_reducible rfl))
                try simp only [Act.put, List.setIfInBounds_toArray, List.set_cons_zero, List.set_cons_succ]
                refine wpAnyH_ready (rs := [22]) (by kernel_rfl) (by simp) ?_
                refine AllReadyH.cons (o := _) (by rw [List.getElem?_toArray]; rfl) (fun K hK => ?_) ?_
                · go_simp
                  go_wp2_with (go_at_call 16; refine (scan_nil x x e0 _).mono ?_; rintro e wc ⟨rfl, hwc⟩; subst hwc)
                  refine hK.out _ _ HRb.out (fun hHeld => ?_)
                  clear hK K
                  try simp only [Act.put, List.setIfInBounds_toArray, List.set_cons_zero, List.set_cons_succ]
                  refine wpAnyH_take (i := 23) (oi := _) (v := ?_) (by rw [List.getElem?_toArray]; rfl) (by kernel_rfl) (by kernel_rfl) (by kernel_rfl) (fun _ _ _ h => by exact h) (Or.inl ⟨by rfl, ?_⟩) (by assumption) ?_
                  rotate_left
                  · (intro w hSw; (try dsimp only at hSw); go_simp; (try with_reducible rfl))
                  try simp only [Act.put, List.setIfInBounds_toArray, List.set_cons_zero, List.set_cons_succ]
                  refine wpAnyH_ready (rs := [26]) (by kernel_rfl) (by simp) ?_
                  refine AllReadyH.cons (o := _) (by rw [List.getElem?_toArray]; rfl) (fun K hK => ?_) ?_
                  · go_simp
                    go_wp2_with (go_at_call 27; refine (versions_nil x _).mono ?_; rintro e wd ⟨rfl, hwd⟩; subst hwd)
                    refine hK.out _ _ HRb.out (fun hHeld => ?_)
                    clear hK K
                    try simp only [Act.put, List.setIfInBounds_toArray, List.set_cons_zero, List.set_cons_succ]
                    refine wpAnyH_take (i := 27) (oi := _) (v := ?_) (by rw [List.getElem?_toArray]; rfl) (by kernel_rfl) (by kernel_rfl) (by kernel_rfl) (fun _ _ _ h => by exact h) (Or.inl ⟨by rfl, ?_⟩) (by assumption) ?_
                    rotate_left
                    · (intro w hSw; (try dsimp only at hSw); go_simp; (try with_reducible rfl))
                    try simp only [Act.put, List.setIfInBounds_toArray, List.set_cons_zero, List.set_cons_succ]
                    refine wpAnyH_take (i := 28) (oi := _) (v := ?_) (by rw [List.getElem?_toArray]; rfl) (by kernel_rfl) (by kernel_rfl) (by kernel_rfl) (fun _ _ _ h => by exact h) (Or.inl ⟨by rfl, ?_⟩) (by assumption) ?_
                    rotate_left
                    · (intro w hSw; (try dsimp only at hSw); go_simp; (try with_reducible rfl))
                    try simp only [Act.put, List.setIfInBounds_toArray, List.set_cons_zero, List.set_cons_succ]
                    refine wpAnyH_ready (rs := [30]) (by kernel_rfl) (by simp) ?_
                    refine AllReadyH.cons (o := _) (by rw [List.getElem?_toArray]; rfl) (fun K hK => ?_) ?_
                    · go_simp
                      go_wp2_with (go_at_call 28; refine (len_nil _).mono ?_; rintro e we ⟨rfl, hwe⟩; subst hwe)
                      refine hK.out _ _ HRb.out (fun hHeld => ?_)
                      clear hK K
                      try simp only [Act.put, List.setIfInBounds_toArray, List.set_cons_zero, List.set_cons_succ]
                      refine wpAnyH_take (i := 31) (oi := _) (v := ?_) (by rw [List.getElem?_toArray]; rfl) (by kernel_rfl) (by kernel_rfl) (by kernel_rfl) (fun _ _ _ h => by exact h) (Or.inl ⟨by rfl, ?_⟩) (by assumption) ?_
                      rotate_left
                      · (intro w hSw; (try dsimp only at hSw); go_simp; (try with_reducible rfl))
                      try simp only [Act.put, List.setIfInBounds_toArray, List.set_cons_zero, List.set_cons_succ]
                      refine wpAnyH_ready (rs := [33]) (by kernel_rfl) (by simp) ?_
                      refine AllReadyH.cons (o := _) (by rw [List.getElem?_toArray]; rfl) (fun K hK => ?_) ?_
                      · go_simp
                        go_wp2_with (go_at_call 29; refine (size_nil _).mono ?_; rintro e wf ⟨rfl, hwf⟩; subst hwf)
                        refine hK.out _ _ HRb.out (fun hHeld => ?_)
                        clear hK K
                        try simp only [Act.put, List.setIfInBounds_toArray, List.set_cons_zero, List.set_cons_succ]
                        refine wpAnyH_take (i := 34) (oi := _) (v := ?_) (by rw [List.getElem?_toArray]; rfl) (by kernel_rfl) (by kernel_rfl) (by kernel_rfl) (fun _ _ _ h => by exact h) (Or.inl ⟨by rfl, ?_⟩) (by assumption) ?_
                        rotate_left
                        · (intro w hSw; (try dsimp only at hSw); go_simp; (try with_reducible rfl))
                        try simp only [Act.put, List.setIfInBounds_toArray, List.set_cons_zero, List.set_cons_succ]
                        refine wpAnyH_take (i := 35) (oi := _) (v := ?_) (by rw [List.getElem?_toArray]; rfl) (by kernel_rfl) (by kernel_rfl) (by kernel_rfl) (fun _ _ _ h => by exact h) (Or.inl ⟨by rfl, ?_⟩) (by assumption) ?_
                        rotate_left
                        · (intro w hSw; (try dsimp only at hSw); go_simp; (try with_reducible rfl))
                        try simp only [Act.put, List.setIfInBounds_toArray, List.set_cons_zero, List.set_cons_succ]
                        refine wpAnyH_take (i := 36) (oi := _) (v := ?_) (by rw [List.getElem?_toArray]; rfl) (by kernel_rfl) (by kernel_rfl) (by kernel_rfl) (fun _ _ _ h => by exact h) (Or.inl ⟨by rfl, ?_⟩) (by assumption) ?_
                        rotate_left
                        · (intro w hSw; (try dsimp only at hSw); go_simp; (try with_reducible rfl))
                        try simp only [Act.put, List.setIfInBounds_toArray, List.set_cons_zero, List.set_cons_succ]
                        refine wpAnyH_take (i := 37) (oi := _) (v := ?_) (by rw [List.getElem?_toArray]; rfl) (by kernel_rfl) (by kernel_rfl) (by kernel_rfl) (fun _ _ _ h => by exact h) (Or.inl ⟨by rfl, ?_⟩) (by assumption) ?_
                        rotate_left
                        · (intro w hSw; (try dsimp only at hSw); go_simp; (try with_reducible rfl))
                        try simp only [Act.put, List.setIfInBounds_toArray, List.set_cons_zero, List.set_cons_succ]
                        refine wpAnyH_done (by kernel_rfl) ?_ _
                        go_wp2
                        go_ret
                        exact ⟨rfl, HFb.out⟩
                      exact AllReadyH.nil
                    exact AllReadyH.nil
                  exact AllReadyH.nil
                exact AllReadyH.nil
              exact AllReadyH.nil
            exact AllReadyH.nil
          exact AllReadyH.nil
end Go.Proofs.Ytmjkipdflhbgdaa
