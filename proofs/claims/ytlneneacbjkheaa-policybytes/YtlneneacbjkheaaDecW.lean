/- A book of its bytes. -/
import Derived.Test.YtlneneacbjkheaaDecP
namespace Go.Proofs.Ytlneneacbjkheaa
open Go.RowKit
attribute [local go_sem] run_store_float
def decR : Option (List Gr × Rs) → Option (List Gr)
  | none => none
  | some (gs, s) => if endV s then some gs else none
theorem decB_eq (l : List Nat) : decB l = decR (decL (cntV ⟨l, false⟩ l.length) (cntS ⟨l, false⟩ l.length) []) := rfl
set_option maxRecDepth 100000 in
set_option maxHeartbeats 4000000 in
theorem dec_any (ao : Option Addr) (l : List Nat) (cap : Nat) (w : World) (hr : Row w ao l cap) (hlen : l.length ≤ 100000) :
    Calls Try.prog 20 #[.slice ao l.length cap] w fun e w' => Fr (fun _ => False) w w' ∧ ((∃ gs b v, decB l = some gs ∧ e = .returned (.tuple #[.pointer (some ⟨b, 0, none⟩), .int .i64 0]) ∧ Bk w' b b gs v ∧ w.heap.size ≤ b ∧ gs.length ≤ l.length ∧ ∀ x ∈ gs, x.In) ∨ (decB l = none ∧ e = .returned (.tuple #[.pointer none, .int .i64 5]))) := by
  have HRB : Hid (l ≠ [] → ∀ a, ao = some a → a.block < w.heap.size) := fun hl a ha => by
    obtain ⟨b, off, he, hc⟩ := hr.2.2.2.2 hl
    rw [he] at ha; cases ha
    exact World.block_lt_of_cell? _ _ (hc 0 (by cases l; exact absurd rfl hl; simp))
  have KR : Hid (Calls _ _ _ _ _) := read_any w ao l cap hr
  have hl1 := hr.1
  have hl2 := hr.2.1
  unfold maxLen at hl2
  clear hr
  go_enter Try.func20, Try.ntmps20
  go_wp2_with fail
  refine KR.out.mono ?_
  rintro e w1 ⟨rfl, hrd, f1⟩
  have HX1 : Hid (Rx w1 w.heap.size w.heap.size ⟨l, false⟩) := ⟨ao, cap, hrd, HRB.out⟩
  have HF1 : Hid (Fr (fun _ => False) w w1) := f1
  clear hrd f1 KR
  go_wp2_with fail
  refine (new_any w1 w1.heap.size (Nat.le_refl _)).mono ?_
  rintro e w2 ⟨rfl, hb2, f2⟩
  have HX2 : Hid (Rx w2 w.heap.size w.heap.size ⟨l, false⟩) := HX1.out.fr f2 (by simp) (by simp)
  have HF2 : Hid (Fr (fun _ => False) w w2) := HF1.out.trans f2
  have HB2 : Hid (Bk w2 w1.heap.size w1.heap.size [] (.slice none 0 0)) := hb2
  have HRL : Hid (w.heap.size < w1.heap.size) := HX1.out.lt
  clear hb2 f2 HX1 HF1
  obtain ⟨rb, Hrb⟩ : ∃ rb, Hid (w.heap.size = rb) := ⟨_, rfl⟩
  obtain ⟨bb, Hbb⟩ : ∃ bb, Hid (w1.heap.size = bb) := ⟨_, rfl⟩
  rw [Hrb.out] at HX2 HRL ⊢
  rw [Hbb.out] at HB2 HRL ⊢
  go_wp2_with fail
  refine (left_x HX2.out).mono ?_
  rintro e w3 ⟨rfl, hw3⟩
  subst w3
  have KC : Hid (Calls _ _ _ _ _) := count_x l.length HX2.out (by omega)
  go_wp2_with fail
  refine KC.out.mono ?_
  rintro e w3 ⟨cnt, t, rfl, Hc, Ht, hcl, hx3, f3⟩
  have HX3 : Hid (Rx w3 rb rb t) := hx3
  have HF3 : Hid (Fr (fun _ => False) w w3) := HF2.out.trans' f3 (fun i hi e => by have := Hrb.out; omega)
  have HB3 : Hid (Bk w3 bb bb [] (.slice none 0 0)) := HB2.out.fr f3 (fun e => by have := HRL.out; omega) (by simp [Value.ownBlock])
  obtain ⟨D, HD⟩ : ∃ D, Hid (decL cnt t [] = D) := ⟨_, rfl⟩
  have HDB : Hid (decB l = decR D) := by
    show _ = _
    rw [decB_eq, ← HD.out, Hc.out, Ht.out]
  clear hx3 f3 KC HX2 HF2 HB2
  have hc0 : (0 : Int) ≤ (cnt : Int) := by omega
  have hc1 : (cnt : Int) ≤ 100000 := by omega
  go_wp2_with fail
  go_loopw [16] (fun iv wr => ∃ (k : Nat) (s : Rs) (gs : List Gr) (v : Value), k ≤ cnt ∧ iv = .int .i64 (k : Int) ∧ gs.length ≤ k ∧ Hid (Rx wr rb rb s) ∧ Hid (Bk wr bb bb gs v) ∧ Hid (∀ x ∈ gs, x.In) ∧ Hid (decL (cnt - k) s gs = D) ∧ Hid (Fr (fun _ => False) w wr)) (fun iv _ => cnt - (intOf iv).toNat)
  case atStart => exact ⟨0, t, [], _, by omega, rfl, by simp, HX3.out, HB3.out, (show ∀ x ∈ ([] : List Gr), x.In by simp), HD.out, HF3.out⟩
  case round =>
    obtain ⟨k, s, gs, v, hk, rfl, hgl, HX, HB, HI, HDk, HF⟩ := hrel
    by_cases hlt : k < cnt
    · have k1 : (k : Int) < cnt := by omega
      have KA : Hid (Calls _ _ _ _ _) := readrule_x HX.out (by have := Hrb.out; have := HF.out.size; omega)
      go_wp2_with fail
      refine KA.out.mono ?_
      rintro e w4 ⟨x, t4, rfl, Hx, Ht4, hxo, hx4, f4⟩
      have HXR : Hid (Rx w4 rb rb t4) := hx4
      have F4 : Hid (Fr (fun k => k = rb) wr w4) := f4
      have HXO : Hid x.Ok := hxo
      clear hxo hx4 f4 KA
      have KB : Hid (Calls _ _ _ _ _) := rnum_x 8 HXR.out (by omega)
      go_wp2_with fail
      refine KB.out.mono ?_
      rintro e w5 ⟨ef, t5, rfl, Hef, Ht5, hef, hx5, f5⟩
      have HX5 : Hid (Rx w5 rb rb t5) := hx5
      have F5 : Hid (Fr (fun k => k = rb) wr w5) := F4.out.trans f5
      clear hx5 f5 KB
      have KC : Hid (Calls _ _ _ _ _) := rnum_x 8 HX5.out (by omega)
      go_wp2_with fail
      refine KC.out.mono ?_
      rintro e w6 ⟨eu, t6, rfl, Heu, Ht6, heu, hx6, f6⟩
      have HX6 : Hid (Rx w6 rb rb t6) := hx6
      have F6 : Hid (Fr (fun k => k = rb) wr w6) := F5.out.trans f6
      have HG : Hid ((⟨x, ef, eu⟩ : Gr) = grV s) := by
        show _ = _
        unfold grV
        rw [Hef.out, Heu.out, Ht5.out, Ht4.out, Hx.out]
      have HGS : Hid (t6 = grS s) := by
        show _ = _
        unfold grS
        rw [Ht6.out, Ht5.out, Ht4.out]
      have HGI : Hid (⟨x, ef, eu⟩ : Gr).In := by
        show (⟨x, ef, eu⟩ : Gr).In
        rw [HG.out]; exact (gr_in s HX.out.byte).1
      have h64 : ef < 18446744073709551616 := hef
      have u64 : eu < 18446744073709551616 := heu
      clear hx6 f6 KC Hef Heu Hx Ht4 Ht5 Ht6 hef heu F4 F5 HXR HX5
      have HB6 : Hid (Bk w6 bb bb gs v) := HB.out.fr F6.out (fun e => by have := HRL.out; omega) (fun k hk e => by have := (HB.out.own.lt k hk).1; have := HRL.out; omega)
      obtain ⟨W, HW⟩ : ∃ W, Hid (W = w6.alloc (.cells #[.int .u64 (x.id : Int), .int .i64 x.fr, .int .i64 x.tt, .float .f64 x.lo, .float .f64 x.hi, .int .u64 (x.au : Int), .int .i64 x.qu, .int .u64 (ef : Int), .int .u64 (eu : Int)] 67)) := ⟨_, rfl⟩
      have fW : Fr (fun _ => False) w6 W := by rw [HW.out]; exact (Fr.refl _ _).alloc _
      have g0 : W.cell? ⟨w6.heap.size, 0, none⟩ = some (.int .u64 (x.id : Int)) := by rw [HW.out]; simp
      have g1 : W.cell? ⟨w6.heap.size, 1, none⟩ = some (.int .i64 x.fr) := by rw [HW.out]; simp
      have g2 : W.cell? ⟨w6.heap.size, 2, none⟩ = some (.int .i64 x.tt) := by rw [HW.out]; simp
      have g3 : W.cell? ⟨w6.heap.size, 3, none⟩ = some (.float .f64 x.lo) := by rw [HW.out]; simp
      have g4 : W.cell? ⟨w6.heap.size, 4, none⟩ = some (.float .f64 x.hi) := by rw [HW.out]; simp
      have g5 : W.cell? ⟨w6.heap.size, 5, none⟩ = some (.int .u64 (x.au : Int)) := by rw [HW.out]; simp
      have g6 : W.cell? ⟨w6.heap.size, 6, none⟩ = some (.int .i64 x.qu) := by rw [HW.out]; simp
      have g7 : W.cell? ⟨w6.heap.size, 7, none⟩ = some (.int .u64 (ef : Int)) := by rw [HW.out]; simp
      have g8 : W.cell? ⟨w6.heap.size, 8, none⟩ = some (.int .u64 (eu : Int)) := by rw [HW.out]; simp
      have HBW : Hid (Bk W bb bb gs v) := HB6.out.fr fW (by simp) (by simp)
      have HXW : Hid (Rx W rb rb t6) := HX6.out.fr fW (by simp) (by simp)
      have FW : Hid (Fr (fun k => k = rb) wr W) := F6.out.trans (fW.mono (fun _ _ h => h.elim))
      have HGB : Hid (w6.heap.size < W.heap.size) := by show _ < _; rw [HW.out]; simp
      obtain ⟨ln, lok, hL⟩ := lastAt_ex gs (fun y => decide (y.r.id = x.id) && y.open)
      have KL : Hid (Calls _ _ _ _ _) := last_open HBW.out x.id (by omega) ln lok hL
      have HAN : Hid (gs.any (hit (grV s).r.id) = lok) := by
        show _ = _
        rw [← HG.out]; exact any_hit gs x.id ln lok hL
      clear hL fW
      go_wp2_with fail
      rw [← HW.out]
      obtain ⟨gb, Hgb⟩ : ∃ gb, Hid (w6.heap.size = gb) := ⟨_, rfl⟩
      rw [Hgb.out] at g0 g1 g2 g3 g4 g5 g6 g7 g8 HGB ⊢
      go_wp2_with fail
      refine KL.out.mono ?_
      rintro e w7 ⟨rfl, f7⟩
      have HB7 : Hid (Bk w7 bb bb gs v) := HBW.out.fr f7 (by simp) (by simp)
      have HX7 : Hid (Rx w7 rb rb t6) := HXW.out.fr f7 (by simp) (by simp)
      have F7 : Hid (Fr (fun k => k = rb) wr w7) := FW.out.trans (f7.mono (fun _ _ h => h.elim))
      have HDN : Hid (t6.bad = true ∨ lok = true → decB l = none) := by
        intro hor
        rw [HDB.out, ← HDk.out, show cnt - k = (cnt - k - 1) + 1 by omega]
        unfold decL
        rw [if_pos ?_]
        · rfl
        · rw [← HGS.out, HAN.out]
          rcases hor with h | h <;> simp [h]
      have HDY : Hid (t6.bad = false → lok = false → decL (cnt - (k + 1)) t6 (gs ++ [(⟨x, ef, eu⟩ : Gr)]) = D) := by
        intro hb ho
        rw [← HDk.out, show cnt - k = (cnt - (k + 1)) + 1 by omega]
        conv => rhs; unfold decL
        rw [if_neg ?_, ← HGS.out, ← HG.out]
        rw [← HGS.out, HAN.out, hb, ho]; simp
      have KBD : Hid (Calls _ _ _ _ _) := bad_x HX7.out
      have HFN : Hid (Fr (fun _ => False) w w7) := HF.out.trans' F7.out (fun i hi e => by have := Hrb.out; omega)
      obtain ⟨bd, Hbd⟩ : ∃ bd, Hid (t6.bad = bd) := ⟨_, rfl⟩
      rw [Hbd.out] at HDN HDY KBD
      have GC : Hid (gb < w7.heap.size) := Nat.lt_of_lt_of_le HGB.out f7.size
      replace g0 := f7.cell g0 (by simp)
      replace g1 := f7.cell g1 (by simp)
      replace g2 := f7.cell g2 (by simp)
      replace g3 := f7.cell g3 (by simp)
      replace g4 := f7.cell g4 (by simp)
      replace g5 := f7.cell g5 (by simp)
      replace g6 := f7.cell g6 (by simp)
      replace g7 := f7.cell g7 (by simp)
      replace g8 := f7.cell g8 (by simp)
      clear f7 KL HX6 HB6 HBW HXW FW F6 HAN HG HGS HX HB
      cases bd with
      | true =>
        go_wp2_with fail
        refine KBD.out.mono ?_
        rintro e w8 ⟨rfl, hw8⟩
        subst w8
        have HN : Hid (decB l = none) := HDN.out (by simp)
        go_wp2
        go_ret2
        exact ⟨HFN.out, .inr ⟨HN.out, rfl⟩⟩
      | false =>
        cases lok with
        | true =>
          go_wp2_with fail
          refine KBD.out.mono ?_
          rintro e w8 ⟨rfl, hw8⟩
          subst w8
          have HN : Hid (decB l = none) := HDN.out (by simp)
          go_wp2
          go_ret2
          exact ⟨HFN.out, .inr ⟨HN.out, rfl⟩⟩
        | false =>
          go_wp2_with fail
          refine KBD.out.mono ?_
          rintro e w8 ⟨rfl, hw8⟩
          subst w8
          have HY := HDY.out (by simp) (by simp)
          have HYD : Hid (_ = D) := HY
          have c0 := HB7.out.c0
          have z0 := HB7.out.z0
          clear HY HDY HDN KBD
          have fA := ((Fr.refl (fun _ => False) w7).drew).alloc (.cells #[.int .u64 (x.id : Int), .int .i64 x.fr, .int .i64 x.tt, .float .f64 x.lo, .float .f64 x.hi, .int .u64 (x.au : Int), .int .i64 x.qu, .int .u64 (ef : Int), .int .u64 (eu : Int)] 67)
          obtain ⟨v2, w2', hrun, ho2, hg2, hat2⟩ := run_append_f (P := Try.prog) (α := Gr) (w7.drew.alloc (.cells #[.int .u64 (x.id : Int), .int .i64 x.fr, .int .i64 x.tt, .float .f64 x.lo, .float .f64 x.hi, .int .u64 (x.au : Int), .int .i64 x.qu, .int .u64 (ef : Int), .int .u64 (eu : Int)] 67)) 62 62 67 Try.underlying62 _ 72 Try.info67 rfl (by decide) bb v gs (HB7.out.own.fr fA (by simp)) ⟨w7.heap.size, 0, none⟩ [(⟨x, ef, eu⟩ : Gr)] 1 (one_f w7.drew (⟨x, ef, eu⟩ : Gr) 67 _ rfl) (by have := HB7.out.base; have := HB7.out.lt; simp; omega) (by simp; omega)
          obtain ⟨a2, c2, hv2, _⟩ := ho2.form
          obtain ⟨m2, Hm2⟩ : ∃ m2, Hid ((gs ++ [(⟨x, ef, eu⟩ : Gr)]).length = m2) := ⟨_, rfl⟩
          rw [Hm2.out] at hv2
          subst hv2
          have HRUN : Hid (_ = Result.ok _ w2') := hrun
          have fA' : Fr (fun _ => False) w7 (w7.drew.alloc (.cells #[.int .u64 (x.id : Int), .int .i64 x.fr, .int .i64 x.tt, .float .f64 x.lo, .float .f64 x.hi, .int .u64 (x.au : Int), .int .i64 x.qu, .int .u64 (ef : Int), .int .u64 (eu : Int)] 67)) := fA
          have f2 : Fr (fun k => v.ownBlock = some k) w7 w2' := (fA'.mono (fun _ _ h => h.elim)).grown hg2 (fun k hk => .inl hk)
          have hvb : ¬ v.ownBlock = some bb := HB7.out.apart
          have e0 : w2'.cell? ⟨bb, 0, none⟩ = some v := f2.cell c0 hvb
          have ez : w2'.frozen? ⟨bb, 0, none⟩ = false := (f2.frozenEq (a := ⟨bb, 0, none⟩) HB7.out.lt hvb).trans z0
          have hvn : ∀ k, (Value.slice a2 m2 c2).ownBlock = some k → v.ownBlock = some k ∨ w7.heap.size ≤ k := fun k hk => by
            rcases hat2 with e | e
            · left; rw [← e]; exact hk
            · right
              rw [e] at hk
              have := Option.some.inj hk
              simp at *
              omega
          have HRES : Hid (∀ W, W = w2'.setCell ⟨bb, 0, none⟩ (.slice a2 m2 c2) → Bk W bb bb (gs ++ [⟨x, ef, eu⟩]) (.slice a2 m2 c2) ∧ Rx W rb rb t6 ∧ Fr (fun _ => False) w W) := by
            rintro W rfl
            have fs := (Fr.refl (fun k => k = bb) w2').setCell (p := ⟨bb, 0, none⟩) (Or.inl rfl) (.slice a2 m2 c2)
            have hap : (Value.slice a2 m2 c2).ownBlock ≠ some bb := fun e => by
              rcases hvn bb e with h1 | h1
              · exact hvb h1
              · have := HB7.out.lt; omega
            have fall : Fr (fun k => v.ownBlock = some k ∨ k = bb) w7 (w2'.setCell ⟨bb, 0, none⟩ (.slice a2 m2 c2)) := (f2.mono (fun _ _ h => .inl h)).trans (fs.mono (fun _ _ h => .inr h))
            have hge : ∀ k, (v.ownBlock = some k ∨ k = bb) → bb ≤ k := fun k hk => by
              rcases hk with h | h
              · exact (HB7.out.own.lt k h).1
              · omega
            refine ⟨⟨World.cell?_setCell_same _ _ _ e0, by simpa using ez, ho2.fr fs (fun k hk e => hap (by rw [hk, e])), hap, Nat.le_refl _, fun y hy => ?_⟩, HX7.out.fr fall (fun e => by have := hge rb e; have := HRL.out; omega) (fun k hk e => by have := hge k e; have := HRL.out; omega), HFN.out.trans' fall (fun i hi e => by have := hge i e; have := HRL.out; have := Hrb.out; omega)⟩
            rcases List.mem_append.1 hy with h1 | h1
            · exact HB7.out.ok y h1
            · simp at h1
              subst h1
              exact ⟨HXO.out, h64, u64⟩
          have a0 : (w7.alloc (.cells #[.int .u64 (x.id : Int), .int .i64 x.fr, .int .i64 x.tt, .float .f64 x.lo, .float .f64 x.hi, .int .u64 (x.au : Int), .int .i64 x.qu, .int .u64 (ef : Int), .int .u64 (eu : Int)] 67)).cell? ⟨bb, 0, none⟩ = some v := ((Fr.refl (fun _ => False) w7).alloc _).cell c0 (by simp)
          clear hrun ho2 hg2 hat2 f2 fA fA' hvn hvb
          go_wp2_with fail
          go_region_law (refine step_append_eq rfl (.tmp 42) (.tmp 44) 62 rfl HRUN.out rfl rfl ?_)
          all_goals
            go_wp2
            go_roundw
            case rel =>
              obtain ⟨h1, h2, h3⟩ := HRES.out _ rfl
              refine ⟨k + 1, t6, gs ++ [(⟨x, ef, eu⟩ : Gr)], .slice a2 m2 c2, by omega, by go_num, by simp; omega, h2, h1, ?_, HYD.out, h3⟩
              show ∀ y ∈ gs ++ [(⟨x, ef, eu⟩ : Gr)], y.In
              intro y hy
              rcases List.mem_append.1 hy with h | h
              · exact HI.out y h
              · simp at h
                subst h
                exact HGI.out
            case measure => simp [intOf]; omega
    · obtain rfl : k = cnt := by omega
      have hd : some (gs, s) = D := by have := HDk.out; rw [Nat.sub_self] at this; exact this
      have HE : Hid (decB l = if endV s then some gs else none) := by show _ = _; rw [HDB.out, ← hd]; rfl
      clear hd
      have HLE : Hid (gs.length ≤ l.length) := by show _ ≤ _; omega
      have HWB : Hid (w.heap.size ≤ bb) := by show _ ≤ _; have := Hrb.out; have := HRL.out; omega
      have KE : Hid (Calls _ _ _ _ _) := end_x HX.out
      obtain ⟨q, Hq⟩ : ∃ q, Hid (endV s = q) := ⟨_, rfl⟩
      rw [Hq.out] at KE HE
      cases q with
      | true =>
        go_wp2_with fail
        refine KE.out.mono ?_
        rintro e w4 ⟨rfl, hw4⟩
        subst w4
        go_wp2
        go_ret2
        exact ⟨HF.out, .inl ⟨gs, bb, v, HE.out, rfl, HB.out, HWB.out, HLE.out, HI.out⟩⟩
      | false =>
        go_wp2_with fail
        refine KE.out.mono ?_
        rintro e w4 ⟨rfl, hw4⟩
        subst w4
        go_wp2
        go_ret2
        exact ⟨HF.out, .inr ⟨HE.out, rfl⟩⟩
end Go.Proofs.Ytlneneacbjkheaa
