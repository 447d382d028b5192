/- The statement PolicyOne, walked. -/
import Derived.Test.YtlneneacbjkheaaAwake
import Derived.Test.YtlneneacbjkheaaFrame
namespace Go.Proofs.Ytlneneacbjkheaa
open Go.RowKit
attribute [local go_sem] run_store_float
set_option maxHeartbeats 1000000 in
theorem same_refl (x : Rl) (hx : x.Ok) (w : World) : Calls Try.prog 19 #[.agg #[.int .u64 (x.id : Int), .int .i64 x.fr, .int .i64 x.tt, .float .f64 x.lo, .float .f64 x.hi, .int .u64 (x.au : Int), .int .i64 x.qu], .agg #[.int .u64 (x.id : Int), .int .i64 x.fr, .int .i64 x.tt, .float .f64 x.lo, .float .f64 x.hi, .int .u64 (x.au : Int), .int .i64 x.qu]] w fun e w' => e = .returned (.bool true) ∧ Fr (fun _ => False) w w' := by
  have F0 : Hid (Fr (fun _ => False) w _) := ((Fr.refl (fun _ => False) w).alloc (.cells #[.int .u64 (x.id : Int), .int .i64 x.fr, .int .i64 x.tt, .float .f64 x.lo, .float .f64 x.hi, .int .u64 (x.au : Int), .int .i64 x.qu] 34)).alloc (.cells #[.int .u64 (x.id : Int), .int .i64 x.fr, .int .i64 x.tt, .float .f64 x.lo, .float .f64 x.hi, .int .u64 (x.au : Int), .int .i64 x.qu] 34)
  have h1 : Says 31 x.lo x.lo (decide (Fl.rk x.lo = Fl.rk x.lo)) := refsame_any x.lo x.lo hx.lo hx.lo
  have h2 : Says 31 x.hi x.hi (decide (Fl.rk x.hi = Fl.rk x.hi)) := refsame_any x.hi x.hi hx.hi hx.hi
  rw [decide_eq_true rfl] at h1 h2
  have H1 : Hid (∀ W, Calls _ _ _ W _) := h1
  have H2 : Hid (∀ W, Calls _ _ _ W _) := h2
  clear h1 h2 hx
  go_enter Try.func19, Try.ntmps19
  go_wp2_with fail
  refine (H1.out _).mono ?_
  rintro e w1 ⟨rfl, hw⟩
  subst w1
  go_wp2_with fail
  refine (H2.out _).mono ?_
  rintro e w1 ⟨rfl, hw⟩
  subst w1
  go_wp2
  go_ret
  exact ⟨rfl, F0.out⟩
theorem last_snoc (gs : List Gr) (x : Gr) (q : Gr → Bool) (h : q x = true) : LastAt (gs ++ [x]) q gs.length true := by
  refine .inl ⟨rfl, by simp, ?_, fun j h1 h2 => by simp at h2; omega⟩
  have : gr (gs ++ [x]) gs.length = x := by simp [gr, List.getD_eq_getElem?_getD]
  rw [this]; exact h
theorem RowF.rl {w : World} {rs : List Rl} {ao : Option Addr} {cap : Nat} (h : RowF w ao rs cap) (k : Nat) (hk : k < rs.length) : ∃ g off, ao = some ⟨g, off, none⟩ ∧ g < w.heap.size ∧ ∃ x, Hid (x = rs.getD k Enc.dflt) ∧ w.cell? ⟨g, off + k * 7, none⟩ = some (.int .u64 (x.id : Int)) ∧ w.cell? ⟨g, off + k * 7 + 1, none⟩ = some (.int .i64 x.fr) ∧ w.cell? ⟨g, off + k * 7 + 2, none⟩ = some (.int .i64 x.tt) ∧ w.cell? ⟨g, off + k * 7 + 3, none⟩ = some (.float .f64 x.lo) ∧ w.cell? ⟨g, off + k * 7 + 4, none⟩ = some (.float .f64 x.hi) ∧ w.cell? ⟨g, off + k * 7 + 5, none⟩ = some (.int .u64 (x.au : Int)) ∧ w.cell? ⟨g, off + k * 7 + 6, none⟩ = some (.int .i64 x.qu) := by
  obtain ⟨g, off, he, hc⟩ := h.2.2.2 (fun e => by rw [e] at hk; simp at hk)
  have hc' : ∀ f, f < 7 → w.cell? ⟨g, off + (k * 7 + f), none⟩ = (Rl.cells (rs.getD k Enc.dflt))[f]? := fun f hf => hc k hk f hf
  exact ⟨g, off, he, World.block_lt_of_cell? _ _ (hc' 0 (by omega)), rs.getD k Enc.dflt, rfl, hc' 0 (by omega), hc' 1 (by omega), hc' 2 (by omega), hc' 3 (by omega), hc' 4 (by omega), hc' 5 (by omega), hc' 6 (by omega)⟩
set_option maxRecDepth 100000 in
set_option maxHeartbeats 4000000 in
theorem one_walk (ra : Option Addr) (rs : List Rl) (rc : Nat) (ea : Option Addr) (es : List Nat) (ec : Nat) (w : World) (hr : RowF w ra rs rc) (hok : ∀ x ∈ rs, x.Ok) (he : Row w ea es ec) : Calls Try.prog 5 #[.slice ra rs.length rc, .slice ea es.length ec] w fun e w' => e = .returned (.bool true) ∧ Fr (fun _ => False) w w' := by
  have HR : Hid (RowF w ra rs rc) := hr
  have HOK : Hid (∀ x ∈ rs, x.Ok) := hok
  have HE : Hid (Row w ea es ec) := he
  have hl3 := hr.lens
  have hel := he.1
  have hec := he.2.1
  unfold maxLen at hec
  clear hr hok he
  by_cases hlong : 12 < rs.length
  · go_enter Try.func5, Try.ntmps5
    go_wp2_with fail
    refine (awake_any w).mono ?_
    rintro e w1 ⟨rfl, f1⟩
    go_wp2_with fail
    refine (awake_any w1).mono ?_
    rintro e w2 ⟨rfl, f2⟩
    go_wp2
    go_ret
    exact ⟨rfl, f1.trans f2⟩
  · go_enter Try.func5, Try.ntmps5
    go_wp2_with fail
    refine (awake_any w).mono ?_
    rintro e w1 ⟨rfl, f1⟩
    go_wp2_with fail
    refine (new_any w1 w1.heap.size (Nat.le_refl _)).mono ?_
    rintro e w2 ⟨rfl, hb2, f2⟩
    obtain ⟨bb, Hbb⟩ : ∃ bb, Hid (w1.heap.size = bb) := ⟨_, rfl⟩
    rw [Hbb.out] at hb2 ⊢
    have HB2 : Hid (Bk w2 bb bb [] (.slice none 0 0)) := hb2
    have HBW : Hid (w.heap.size ≤ bb) := by show _ ≤ _; rw [← Hbb.out]; exact f1.size
    have F2 : Hid (Fr (fun _ => False) w w2) := f1.trans f2
    clear f1 f2 hb2
    go_wp2
    go_loopw [6, 7] (fun ev iv wr => ∃ (k n : Nat) (gs : List Gr) (v : Value), k ≤ rs.length ∧ iv = .int .i64 (k : Int) ∧ ev = .int .u64 (n : Int) ∧ n ≤ 1 + 2 * k ∧ gs.length = k ∧ Hid (Bk wr bb bb gs v) ∧ Fr (fun _ => False) w wr) (fun _ iv _ => rs.length - (intOf iv).toNat)
    case atStart => exact ⟨0, 1, [], _, Nat.zero_le _, rfl, rfl, by omega, rfl, HB2.out, F2.out⟩
    case round =>
      obtain ⟨k, n, gs, v, hk, rfl, rfl, hn, hgl, HB, hfr⟩ := hrel
      have HF : Hid (Fr (fun _ => False) w wr) := hfr
      have HGL : Hid (gs.length = k) := hgl
      clear hfr hgl
      by_cases hlt : k < rs.length
      · obtain ⟨g, off, ha, hg0, x, HX, x0, x1, x2, x3, x4, x5, x6⟩ := (HR.out.fr HF.out (by simp)).rl k hlt
        subst ha
        have HG : Hid (g < w.heap.size) := by
          obtain ⟨g', off', ha', hg', _⟩ := HR.out.rl k hlt
          cases ha'
          exact hg'
        have HXO : Hid x.Ok := HOK.out x (by rw [HX.out, List.getD_eq_getElem?_getD, List.getElem?_eq_getElem hlt]; exact List.getElem_mem _)
        have j1 : (0 : Int) ≤ (k : Int) := by omega
        have j2 : (k : Int) < (rs.length : Int) := by omega
        have hcase : x.fr < 0 ∨ (0 ≤ x.fr ∧ 255 < x.fr) ∨ (0 ≤ x.fr ∧ x.fr ≤ 255 ∧ x.tt < 0) ∨ (0 ≤ x.fr ∧ x.fr ≤ 255 ∧ 0 ≤ x.tt ∧ 255 < x.tt) ∨ (0 ≤ x.fr ∧ x.fr ≤ 255 ∧ 0 ≤ x.tt ∧ x.tt ≤ 255 ∧ x.qu < 0) ∨ (0 ≤ x.fr ∧ x.fr ≤ 255 ∧ 0 ≤ x.tt ∧ x.tt ≤ 255 ∧ 0 ≤ x.qu ∧ 65536 < x.qu) ∨ (0 ≤ x.fr ∧ x.fr ≤ 255 ∧ 0 ≤ x.tt ∧ x.tt ≤ 255 ∧ 0 ≤ x.qu ∧ x.qu ≤ 65536) := by omega
        by_cases hes : k < es.length
        · obtain ⟨eb, eoff, rfl, hcc⟩ := (HF.out.row HE.out (by simp)).2.2.2.2 (fun e => by rw [e] at hes; simp at hes)
          have hy := hcc k hes
          have hy256 : es.getD k 0 < 256 := HE.out.2.2.1 _ (by rw [List.getD_eq_getElem?_getD, List.getElem?_eq_getElem hes]; exact List.getElem_mem _)
          obtain ⟨y, Hy⟩ : ∃ y, Hid (es.getD k 0 = y) := ⟨_, rfl⟩
          rw [Hy.out] at hy hy256
          have j3 : (k : Int) < (es.length : Int) := by omega
          obtain ⟨n2, hn2, hn3⟩ : ∃ n2 : Nat, (n : Int) + (y : Int) % 3 = (n2 : Int) ∧ n2 ≤ n + 2 := ⟨n + y % 3, by omega, by omega⟩
          clear hcc hes
          rcases hcase with a1 | ⟨a1, a2⟩ | ⟨a1, a2, a3⟩ | ⟨a1, a2, a3, a4⟩ | ⟨a1, a2, a3, a4, a5⟩ | ⟨a1, a2, a3, a4, a5, a6⟩ | ⟨a1, a2, a3, a4, a5, a6⟩
          rotate_left 6
          · obtain ⟨ln, lok, hL⟩ := lastAt_ex gs (fun y => decide (y.r.id = x.id) && y.open)
            have KG : Hid (Calls _ _ _ _ _) := grant_any HB.out x HXO.out n2 (by omega) (by have := HGL.out; omega) ln lok hL
            clear hL
            go_wp2_with fail
            refine KG.out.mono ?_
            rintro e w3 ⟨rfl, ⟨v3, hb3, hv3⟩, f3⟩
            have hvw : Hid (∀ j, v.ownBlock = some j → bb ≤ j) := fun j hj => (HB.out.own.lt j hj).1
            have F3 : Hid (Fr (fun _ => False) w w3) := HF.out.trans' f3 (fun i hi e => by
              rcases e with e | e
              · have := hvw.out i e; have := HBW.out; omega
              · have := HBW.out; omega)
            obtain ⟨gs3, Hgs3⟩ : ∃ gs3, Hid (gs3 = endG gs ln lok n2 ++ [(⟨x, n2, 0⟩ : Gr)]) := ⟨_, rfl⟩
            have HB3 : Hid (Bk w3 bb bb gs3 v3) := by show Bk _ _ _ _ _; rw [Hgs3.out]; exact hb3
            have hg3 : gs3.length = k + 1 := by rw [Hgs3.out, List.length_append, endG_length, HGL.out]; rfl
            have HL3 : Hid (LastAt gs3 (fun y => decide (y.r.id = x.id) && y.within n2) k true ∧ (⟨x, n2, 0⟩ : Gr) = gr gs3 k) := by
              have hke : k = (endG gs ln lok n2).length := by rw [endG_length, HGL.out]
              rw [Hgs3.out, hke]
              exact ⟨last_snoc _ _ _ (by simp [Gr.within]), by simp [gr, List.getD_eq_getElem?_getD]⟩
            have KA : Hid (Calls _ _ _ _ _) := at_yes HB3.out x.id n2 (by omega) k HL3.out.1 ⟨x, n2, 0⟩ HL3.out.2
            have fx : Fr (fun k => v.ownBlock = some k ∨ k = bb) wr w3 := f3
            have hgn : ¬ (v.ownBlock = some g ∨ g = bb) := fun e => by
              rcases e with e | e
              · have := hvw.out g e; have := HBW.out; have := HG.out; omega
              · have := HBW.out; have := HG.out; omega
            replace x0 := fx.cell x0 hgn
            replace x1 := fx.cell x1 hgn
            replace x2 := fx.cell x2 hgn
            replace x3 := fx.cell x3 hgn
            replace x4 := fx.cell x4 hgn
            replace x5 := fx.cell x5 hgn
            replace x6 := fx.cell x6 hgn
            clear fx hgn f3 hb3 KG hv3
            go_wp2_with fail
            refine KA.out.mono ?_
            rintro e w4 ⟨rfl, f4⟩
            have F4 : Hid (Fr (fun _ => False) w3 (w4.alloc (.cells #[.int .u64 (x.id : Int), .int .i64 x.fr, .int .i64 x.tt, .float .f64 x.lo, .float .f64 x.hi, .int .u64 (x.au : Int), .int .i64 x.qu] 34))) := f4.alloc _
            have b0 : (w4.alloc (.cells #[.int .u64 (x.id : Int), .int .i64 x.fr, .int .i64 x.tt, .float .f64 x.lo, .float .f64 x.hi, .int .u64 (x.au : Int), .int .i64 x.qu] 34)).cell? ⟨w4.heap.size, 0, none⟩ = some (.int .u64 (x.id : Int)) := by simp
            have b1 : (w4.alloc (.cells #[.int .u64 (x.id : Int), .int .i64 x.fr, .int .i64 x.tt, .float .f64 x.lo, .float .f64 x.hi, .int .u64 (x.au : Int), .int .i64 x.qu] 34)).cell? ⟨w4.heap.size, 1, none⟩ = some (.int .i64 x.fr) := by simp
            have b2 : (w4.alloc (.cells #[.int .u64 (x.id : Int), .int .i64 x.fr, .int .i64 x.tt, .float .f64 x.lo, .float .f64 x.hi, .int .u64 (x.au : Int), .int .i64 x.qu] 34)).cell? ⟨w4.heap.size, 2, none⟩ = some (.int .i64 x.tt) := by simp
            have b3 : (w4.alloc (.cells #[.int .u64 (x.id : Int), .int .i64 x.fr, .int .i64 x.tt, .float .f64 x.lo, .float .f64 x.hi, .int .u64 (x.au : Int), .int .i64 x.qu] 34)).cell? ⟨w4.heap.size, 3, none⟩ = some (.float .f64 x.lo) := by simp
            have b4 : (w4.alloc (.cells #[.int .u64 (x.id : Int), .int .i64 x.fr, .int .i64 x.tt, .float .f64 x.lo, .float .f64 x.hi, .int .u64 (x.au : Int), .int .i64 x.qu] 34)).cell? ⟨w4.heap.size, 4, none⟩ = some (.float .f64 x.hi) := by simp
            have b5 : (w4.alloc (.cells #[.int .u64 (x.id : Int), .int .i64 x.fr, .int .i64 x.tt, .float .f64 x.lo, .float .f64 x.hi, .int .u64 (x.au : Int), .int .i64 x.qu] 34)).cell? ⟨w4.heap.size, 5, none⟩ = some (.int .u64 (x.au : Int)) := by simp
            have b6 : (w4.alloc (.cells #[.int .u64 (x.id : Int), .int .i64 x.fr, .int .i64 x.tt, .float .f64 x.lo, .float .f64 x.hi, .int .u64 (x.au : Int), .int .i64 x.qu] 34)).cell? ⟨w4.heap.size, 6, none⟩ = some (.int .i64 x.qu) := by simp
            replace x0 := F4.out.cell x0 (by simp)
            replace x1 := F4.out.cell x1 (by simp)
            replace x2 := F4.out.cell x2 (by simp)
            replace x3 := F4.out.cell x3 (by simp)
            replace x4 := F4.out.cell x4 (by simp)
            replace x5 := F4.out.cell x5 (by simp)
            replace x6 := F4.out.cell x6 (by simp)
            have HB4 : Hid (Bk (w4.alloc (.cells #[.int .u64 (x.id : Int), .int .i64 x.fr, .int .i64 x.tt, .float .f64 x.lo, .float .f64 x.hi, .int .u64 (x.au : Int), .int .i64 x.qu] 34)) bb bb gs3 v3) := HB3.out.fr F4.out (by simp) (by simp)
            have F5 : Hid (Fr (fun _ => False) w (w4.alloc (.cells #[.int .u64 (x.id : Int), .int .i64 x.fr, .int .i64 x.tt, .float .f64 x.lo, .float .f64 x.hi, .int .u64 (x.au : Int), .int .i64 x.qu] 34))) := F3.out.trans F4.out
            obtain ⟨hb5, Hhb5⟩ : ∃ q, Hid (w4.heap.size = q) := ⟨_, rfl⟩
            obtain ⟨W5, HW5⟩ : ∃ q, Hid ((w4.alloc (.cells #[.int .u64 (x.id : Int), .int .i64 x.fr, .int .i64 x.tt, .float .f64 x.lo, .float .f64 x.hi, .int .u64 (x.au : Int), .int .i64 x.qu] 34)) = q) := ⟨_, rfl⟩
            rw [Hhb5.out, HW5.out] at b0 b1 b2 b3 b4 b5 b6
            rw [HW5.out] at x0 x1 x2 x3 x4 x5 x6 HB4 F5
            clear F4 F3 HB3 KA f4 a1 a2 a3 a4 a5 a6
            go_wp2_with fail
            rw [HW5.out, Hhb5.out]
            have HSR : Hid (∀ W, Calls _ _ _ W _) := same_refl x HXO.out
            go_region_held3 (fun W => W.cell? ⟨g, off + k * 7, none⟩ = some (.int .u64 (x.id : Int)) ∧ W.cell? ⟨g, off + k * 7 + 1, none⟩ = some (.int .i64 x.fr) ∧ W.cell? ⟨g, off + k * 7 + 2, none⟩ = some (.int .i64 x.tt) ∧ W.cell? ⟨g, off + k * 7 + 3, none⟩ = some (.float .f64 x.lo) ∧ W.cell? ⟨g, off + k * 7 + 4, none⟩ = some (.float .f64 x.hi) ∧ W.cell? ⟨g, off + k * 7 + 5, none⟩ = some (.int .u64 (x.au : Int)) ∧ W.cell? ⟨g, off + k * 7 + 6, none⟩ = some (.int .i64 x.qu) ∧ W.cell? ⟨hb5, 0, none⟩ = some (.int .u64 (x.id : Int)) ∧ W.cell? ⟨hb5, 1, none⟩ = some (.int .i64 x.fr) ∧ W.cell? ⟨hb5, 2, none⟩ = some (.int .i64 x.tt) ∧ W.cell? ⟨hb5, 3, none⟩ = some (.float .f64 x.lo) ∧ W.cell? ⟨hb5, 4, none⟩ = some (.float .f64 x.hi) ∧ W.cell? ⟨hb5, 5, none⟩ = some (.int .u64 (x.au : Int)) ∧ W.cell? ⟨hb5, 6, none⟩ = some (.int .i64 x.qu)) (first | exact ⟨x0, x1, x2, x3, x4, x5, x6, b0, b1, b2, b3, b4, b5, b6⟩ | (go_split_ands; exact ⟨f6.cell x0 (by simp), f6.cell x1 (by simp), f6.cell x2 (by simp), f6.cell x3 (by simp), f6.cell x4 (by simp), f6.cell x5 (by simp), f6.cell x6 (by simp), f6.cell b0 (by simp), f6.cell b1 (by simp), f6.cell b2 (by simp), f6.cell b3 (by simp), f6.cell b4 (by simp), f6.cell b5 (by simp), f6.cell b6 (by simp)⟩)) (first | (go_at_call 19; refine (HSR.out _).mono ?_; rintro e w6 ⟨rfl, f6⟩))
            all_goals
              go_wp2
              go_roundw
              case rel => exact ⟨k + 1, n2, gs3, v3, by omega, by go_num, rfl, by omega, hg3, HB4.out.fr ((Fr.refl _ _).drew.trans f6) (by simp) (by simp), F5.out.trans ((Fr.refl _ _).drew.trans f6)⟩
              case measure => simp [intOf]; omega
          all_goals
            go_wp2
            go_ret
            exact ⟨rfl, HF.out⟩
        · have j3 : ¬ (k : Int) < (es.length : Int) := by omega
          clear hes
          rcases hcase with a1 | ⟨a1, a2⟩ | ⟨a1, a2, a3⟩ | ⟨a1, a2, a3, a4⟩ | ⟨a1, a2, a3, a4, a5⟩ | ⟨a1, a2, a3, a4, a5, a6⟩ | ⟨a1, a2, a3, a4, a5, a6⟩
          rotate_left 6
          · obtain ⟨ln, lok, hL⟩ := lastAt_ex gs (fun y => decide (y.r.id = x.id) && y.open)
            have KG : Hid (Calls _ _ _ _ _) := grant_any HB.out x HXO.out n (by omega) (by have := HGL.out; omega) ln lok hL
            clear hL
            go_wp2_with fail
            refine KG.out.mono ?_
            rintro e w3 ⟨rfl, ⟨v3, hb3, hv3⟩, f3⟩
            have hvw : Hid (∀ j, v.ownBlock = some j → bb ≤ j) := fun j hj => (HB.out.own.lt j hj).1
            have F3 : Hid (Fr (fun _ => False) w w3) := HF.out.trans' f3 (fun i hi e => by
              rcases e with e | e
              · have := hvw.out i e; have := HBW.out; omega
              · have := HBW.out; omega)
            obtain ⟨gs3, Hgs3⟩ : ∃ gs3, Hid (gs3 = endG gs ln lok n ++ [(⟨x, n, 0⟩ : Gr)]) := ⟨_, rfl⟩
            have HB3 : Hid (Bk w3 bb bb gs3 v3) := by show Bk _ _ _ _ _; rw [Hgs3.out]; exact hb3
            have hg3 : gs3.length = k + 1 := by rw [Hgs3.out, List.length_append, endG_length, HGL.out]; rfl
            have HL3 : Hid (LastAt gs3 (fun y => decide (y.r.id = x.id) && y.within n) k true ∧ (⟨x, n, 0⟩ : Gr) = gr gs3 k) := by
              have hke : k = (endG gs ln lok n).length := by rw [endG_length, HGL.out]
              rw [Hgs3.out, hke]
              exact ⟨last_snoc _ _ _ (by simp [Gr.within]), by simp [gr, List.getD_eq_getElem?_getD]⟩
            have KA : Hid (Calls _ _ _ _ _) := at_yes HB3.out x.id n (by omega) k HL3.out.1 ⟨x, n, 0⟩ HL3.out.2
            have fx : Fr (fun k => v.ownBlock = some k ∨ k = bb) wr w3 := f3
            have hgn : ¬ (v.ownBlock = some g ∨ g = bb) := fun e => by
              rcases e with e | e
              · have := hvw.out g e; have := HBW.out; have := HG.out; omega
              · have := HBW.out; have := HG.out; omega
            replace x0 := fx.cell x0 hgn
            replace x1 := fx.cell x1 hgn
            replace x2 := fx.cell x2 hgn
            replace x3 := fx.cell x3 hgn
            replace x4 := fx.cell x4 hgn
            replace x5 := fx.cell x5 hgn
            replace x6 := fx.cell x6 hgn
            clear fx hgn f3 hb3 KG hv3
            go_wp2_with fail
            refine KA.out.mono ?_
            rintro e w4 ⟨rfl, f4⟩
            have F4 : Hid (Fr (fun _ => False) w3 (w4.alloc (.cells #[.int .u64 (x.id : Int), .int .i64 x.fr, .int .i64 x.tt, .float .f64 x.lo, .float .f64 x.hi, .int .u64 (x.au : Int), .int .i64 x.qu] 34))) := f4.alloc _
            have b0 : (w4.alloc (.cells #[.int .u64 (x.id : Int), .int .i64 x.fr, .int .i64 x.tt, .float .f64 x.lo, .float .f64 x.hi, .int .u64 (x.au : Int), .int .i64 x.qu] 34)).cell? ⟨w4.heap.size, 0, none⟩ = some (.int .u64 (x.id : Int)) := by simp
            have b1 : (w4.alloc (.cells #[.int .u64 (x.id : Int), .int .i64 x.fr, .int .i64 x.tt, .float .f64 x.lo, .float .f64 x.hi, .int .u64 (x.au : Int), .int .i64 x.qu] 34)).cell? ⟨w4.heap.size, 1, none⟩ = some (.int .i64 x.fr) := by simp
            have b2 : (w4.alloc (.cells #[.int .u64 (x.id : Int), .int .i64 x.fr, .int .i64 x.tt, .float .f64 x.lo, .float .f64 x.hi, .int .u64 (x.au : Int), .int .i64 x.qu] 34)).cell? ⟨w4.heap.size, 2, none⟩ = some (.int .i64 x.tt) := by simp
            have b3 : (w4.alloc (.cells #[.int .u64 (x.id : Int), .int .i64 x.fr, .int .i64 x.tt, .float .f64 x.lo, .float .f64 x.hi, .int .u64 (x.au : Int), .int .i64 x.qu] 34)).cell? ⟨w4.heap.size, 3, none⟩ = some (.float .f64 x.lo) := by simp
            have b4 : (w4.alloc (.cells #[.int .u64 (x.id : Int), .int .i64 x.fr, .int .i64 x.tt, .float .f64 x.lo, .float .f64 x.hi, .int .u64 (x.au : Int), .int .i64 x.qu] 34)).cell? ⟨w4.heap.size, 4, none⟩ = some (.float .f64 x.hi) := by simp
            have b5 : (w4.alloc (.cells #[.int .u64 (x.id : Int), .int .i64 x.fr, .int .i64 x.tt, .float .f64 x.lo, .float .f64 x.hi, .int .u64 (x.au : Int), .int .i64 x.qu] 34)).cell? ⟨w4.heap.size, 5, none⟩ = some (.int .u64 (x.au : Int)) := by simp
            have b6 : (w4.alloc (.cells #[.int .u64 (x.id : Int), .int .i64 x.fr, .int .i64 x.tt, .float .f64 x.lo, .float .f64 x.hi, .int .u64 (x.au : Int), .int .i64 x.qu] 34)).cell? ⟨w4.heap.size, 6, none⟩ = some (.int .i64 x.qu) := by simp
            replace x0 := F4.out.cell x0 (by simp)
            replace x1 := F4.out.cell x1 (by simp)
            replace x2 := F4.out.cell x2 (by simp)
            replace x3 := F4.out.cell x3 (by simp)
            replace x4 := F4.out.cell x4 (by simp)
            replace x5 := F4.out.cell x5 (by simp)
            replace x6 := F4.out.cell x6 (by simp)
            have HB4 : Hid (Bk (w4.alloc (.cells #[.int .u64 (x.id : Int), .int .i64 x.fr, .int .i64 x.tt, .float .f64 x.lo, .float .f64 x.hi, .int .u64 (x.au : Int), .int .i64 x.qu] 34)) bb bb gs3 v3) := HB3.out.fr F4.out (by simp) (by simp)
            have F5 : Hid (Fr (fun _ => False) w (w4.alloc (.cells #[.int .u64 (x.id : Int), .int .i64 x.fr, .int .i64 x.tt, .float .f64 x.lo, .float .f64 x.hi, .int .u64 (x.au : Int), .int .i64 x.qu] 34))) := F3.out.trans F4.out
            obtain ⟨hb5, Hhb5⟩ : ∃ q, Hid (w4.heap.size = q) := ⟨_, rfl⟩
            obtain ⟨W5, HW5⟩ : ∃ q, Hid ((w4.alloc (.cells #[.int .u64 (x.id : Int), .int .i64 x.fr, .int .i64 x.tt, .float .f64 x.lo, .float .f64 x.hi, .int .u64 (x.au : Int), .int .i64 x.qu] 34)) = q) := ⟨_, rfl⟩
            rw [Hhb5.out, HW5.out] at b0 b1 b2 b3 b4 b5 b6
            rw [HW5.out] at x0 x1 x2 x3 x4 x5 x6 HB4 F5
            clear F4 F3 HB3 KA f4 a1 a2 a3 a4 a5 a6
            go_wp2_with fail
            rw [HW5.out, Hhb5.out]
            have HSR : Hid (∀ W, Calls _ _ _ W _) := same_refl x HXO.out
            go_region_held3 (fun W => W.cell? ⟨g, off + k * 7, none⟩ = some (.int .u64 (x.id : Int)) ∧ W.cell? ⟨g, off + k * 7 + 1, none⟩ = some (.int .i64 x.fr) ∧ W.cell? ⟨g, off + k * 7 + 2, none⟩ = some (.int .i64 x.tt) ∧ W.cell? ⟨g, off + k * 7 + 3, none⟩ = some (.float .f64 x.lo) ∧ W.cell? ⟨g, off + k * 7 + 4, none⟩ = some (.float .f64 x.hi) ∧ W.cell? ⟨g, off + k * 7 + 5, none⟩ = some (.int .u64 (x.au : Int)) ∧ W.cell? ⟨g, off + k * 7 + 6, none⟩ = some (.int .i64 x.qu) ∧ W.cell? ⟨hb5, 0, none⟩ = some (.int .u64 (x.id : Int)) ∧ W.cell? ⟨hb5, 1, none⟩ = some (.int .i64 x.fr) ∧ W.cell? ⟨hb5, 2, none⟩ = some (.int .i64 x.tt) ∧ W.cell? ⟨hb5, 3, none⟩ = some (.float .f64 x.lo) ∧ W.cell? ⟨hb5, 4, none⟩ = some (.float .f64 x.hi) ∧ W.cell? ⟨hb5, 5, none⟩ = some (.int .u64 (x.au : Int)) ∧ W.cell? ⟨hb5, 6, none⟩ = some (.int .i64 x.qu)) (first | exact ⟨x0, x1, x2, x3, x4, x5, x6, b0, b1, b2, b3, b4, b5, b6⟩ | (go_split_ands; exact ⟨f6.cell x0 (by simp), f6.cell x1 (by simp), f6.cell x2 (by simp), f6.cell x3 (by simp), f6.cell x4 (by simp), f6.cell x5 (by simp), f6.cell x6 (by simp), f6.cell b0 (by simp), f6.cell b1 (by simp), f6.cell b2 (by simp), f6.cell b3 (by simp), f6.cell b4 (by simp), f6.cell b5 (by simp), f6.cell b6 (by simp)⟩)) (first | (go_at_call 19; refine (HSR.out _).mono ?_; rintro e w6 ⟨rfl, f6⟩))
            all_goals
              go_wp2
              go_roundw
              case rel => exact ⟨k + 1, n, gs3, v3, by omega, by go_num, rfl, by omega, hg3, HB4.out.fr ((Fr.refl _ _).drew.trans f6) (by simp) (by simp), F5.out.trans ((Fr.refl _ _).drew.trans f6)⟩
              case measure => simp [intOf]; omega
          all_goals
            go_wp2
            go_ret
            exact ⟨rfl, HF.out⟩
      · have hk' : k = rs.length := by omega
        subst hk'
        have hlt' : ¬ (rs.length : Int) < (rs.length : Int) := by omega
        go_wp2
        go_ret
        exact ⟨rfl, HF.out⟩
end Go.Proofs.Ytlneneacbjkheaa
