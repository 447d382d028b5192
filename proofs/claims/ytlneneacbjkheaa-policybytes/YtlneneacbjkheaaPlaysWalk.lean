/- The statement PolicyPlays, walked. -/
import Derived.Test.YtlneneacbjkheaaOneOpen
namespace Go.Proofs.Ytlneneacbjkheaa
open Go.RowKit
attribute [local go_sem] run_store_float
theorem row_blk {w : World} {ao : Option Addr} {l : List Nat} {cap : Nat} (h : Row w ao l cap) (hl : l ≠ []) : ∀ a, ao = some a → a.block < w.heap.size := by
  intro a ha
  obtain ⟨b, off, he, hc⟩ := h.2.2.2.2 hl
  rw [he] at ha
  cases ha
  exact World.block_lt_of_cell? _ _ (hc 0 (by cases l; exact absurd rfl hl; simp))
/-- the law's book, its list, and what keeps them apart. -/
structure St (w wr : World) (bb tb : Nat) (gs : List Gr) (v : Value) (ma : Option Addr) (mc : Nat) : Prop where
  b : Bk wr bb bb gs v
  m : OwnF wr w.heap.size 40 (.slice ma gs.length mc) gs
  one : OneOpen gs
  mb : ∀ j, (Value.slice ma gs.length mc).ownBlock = some j → j ≠ bb ∧ v.ownBlock ≠ some j ∧ j ≠ tb
  vb : ∀ j, v.ownBlock = some j → j ≠ tb
  ne : bb ≠ tb
theorem St.fr {T : Nat → Prop} {w wr w2 : World} {bb tb : Nat} {gs : List Gr} {v : Value} {ma : Option Addr} {mc : Nat} (h : St w wr bb tb gs v ma mc) (f : Fr T wr w2) (hT : ∀ k, k < wr.heap.size → T k → k = tb) : St w w2 bb tb gs v ma mc :=
  ⟨h.b.fr f (fun e => h.ne (hT _ h.b.lt e)) (fun k hk e => h.vb k hk (hT k (h.b.own.lt k hk).2 e)), h.m.fr f (fun k hk e => (h.mb k hk).2.2 (hT k (h.m.lt k hk).2 e)), h.one, h.mb, h.vb, h.ne⟩
theorem St.row {w wr : World} {bb tb : Nat} {gs : List Gr} {v : Value} {ma : Option Addr} {mc : Nat} (h : St w wr bb tb gs v ma mc) : RowF wr ma gs mc := by
  obtain ⟨ao, cap, hv, hr, _⟩ := h.m.row
  cases hv
  exact hr
theorem St.lens {w wr : World} {bb tb : Nat} {gs : List Gr} {v : Value} {ma : Option Addr} {mc : Nat} (h : St w wr bb tb gs v ma mc) : gs.length ≤ 9223372036854775807 ∧ mc ≤ 9223372036854775807 ∧ gs.length ≤ mc := h.row.lens
set_option maxRecDepth 100000 in
set_option maxHeartbeats 8000000 in
theorem plays_rise (ao : Option Addr) (l : List Nat) (cap : Nat) (w : World) (hr : Row w ao l cap) (hlong : ¬ 400 < l.length) : Calls Try.prog 3 #[.slice ao l.length cap, .bool true] w fun e w' => e = .returned (.bool true) ∧ Fr (fun _ => False) w w' := by
  have HR : Hid (Row w ao l cap) := hr
  have hl1 := hr.1
  have hl2 := hr.2.1
  unfold maxLen at hl2
  clear hr
  go_enter Try.func3, Try.ntmps3
  go_wp2_with fail
  refine (awake_any w).mono ?_
  rintro e w1 ⟨rfl, f1⟩
  have F1 : Hid (Fr (fun _ => False) w w1) := f1
  have FA : Hid (Fr (fun _ => False) w1 (w1.alloc (.cells #[.slice ao l.length cap, .int .i64 0] 26))) := (Fr.refl _ _).alloc _
  have HT1 : Hid (Tp (w1.alloc (.cells #[.slice ao l.length cap, .int .i64 0] 26)) w1.heap.size ao l cap 0) := by
    refine ⟨by simp, by simp, by simp, FA.out.row (F1.out.row HR.out (by simp)) (by simp), Nat.zero_le _, fun hl a ha e => ?_⟩
    have := row_blk HR.out hl a ha
    have := F1.out.size
    omega
  clear f1
  go_wp2_with fail
  refine (new_any _ _ (Nat.le_refl _)).mono ?_
  rintro e w2 ⟨rfl, hb2, f2⟩
  obtain ⟨tb, Htb⟩ : ∃ tb, Hid (w1.heap.size = tb) := ⟨_, rfl⟩
  have hs2 : (w1.alloc (.cells #[.slice ao l.length cap, .int .i64 0] 26)).heap.size = tb + 1 := by rw [← Htb.out]; simp
  rw [hs2] at hb2 ⊢
  rw [Htb.out] at HT1 ⊢
  have HW : Hid (w.heap.size ≤ tb) := by show _ ≤ _; rw [← Htb.out]; exact F1.out.size
  have HT2 : Hid (Tp w2 tb ao l cap 0) := HT1.out.fr f2 (by simp) (by simp)
  have HS2 : Hid (St w w2 (tb + 1) tb [] (.slice none 0 0) none 0) := ⟨hb2, OwnF.nil _ _ _, oneOpen_nil, fun j hj => (by simp [Value.ownBlock] at hj), fun j hj => (by simp [Value.ownBlock] at hj), by omega⟩
  have F2 : Hid (Fr (fun _ => False) w w2) := (F1.out.trans FA.out).trans f2
  obtain ⟨bb, Hbb⟩ : ∃ bb, Hid (tb + 1 = bb) := ⟨_, rfl⟩
  rw [Hbb.out] at HS2 ⊢
  clear hb2 f2 hs2 HT1 FA
  go_wp2
  go_loopw [7, 8, 9] (fun mv ev iv wr => ∃ (k n : Nat) (gs : List Gr) (v : Value) (ma : Option Addr) (mc j : Nat), k ≤ 20 ∧ iv = .int .i64 (k : Int) ∧ ev = .int .u64 (n : Int) ∧ mv = .slice ma gs.length mc ∧ n ≤ 7 + k ∧ gs.length ≤ k ∧ Hid (St w wr bb tb gs v ma mc) ∧ Hid (Tp wr tb ao l cap j) ∧ Fr (fun _ => False) w wr) (fun _ _ iv _ => 20 - (intOf iv).toNat)
  case atStart => exact ⟨0, 1, [], _, none, 0, 0, by omega, rfl, rfl, rfl, by omega, by simp, HS2.out, HT2.out, F2.out⟩
  case round =>
    obtain ⟨k, n, gs, v, ma, mc, j, hk, rfl, rfl, rfl, hn, hgl, HS, HT, hfr⟩ := hrel
    have HF : Hid (Fr (fun _ => False) w wr) := hfr
    have hml := HS.out.lens
    clear hfr
    by_cases hlt : k < 20
    · have k1 : (k : Int) < 20 := by omega
      have HTW : Hid (l ≠ [] → ∀ a, ao = some a → a.block < w.heap.size) := row_blk HR.out
      have K1 : Hid (Calls _ _ _ _ _) := next_any HT.out 2 (by omega) (by omega)
      go_wp2_with fail
      refine K1.out.mono ?_
      rintro e w3 ⟨r1, rfl, hr1, ⟨j3, ht3⟩, f3⟩
      have HT3 : Hid (Tp w3 tb ao l cap j3) := ht3
      have HS3 : Hid (St w w3 bb tb gs v ma mc) := HS.out.fr f3 (fun k _ e => e)
      have HF3 : Hid (Fr (fun _ => False) w w3) := HF.out.trans' f3 (fun i hi e => by have := HW.out; omega)
      have p1 : (0 : Int) ≤ (r1 : Int) := by omega
      have p2 : (r1 : Int) < 2 := by omega
      obtain ⟨n2, hn2, hn3⟩ : ∃ n2 : Nat, (n : Int) + (r1 : Int) = (n2 : Int) ∧ n2 ≤ 7 + (k + 1) := ⟨n + r1, by omega, by omega⟩
      have K2 : Hid (Calls _ _ _ _ _) := ofrule_any HT3.out (fun hl a ha => Nat.lt_of_lt_of_le (HTW.out hl a ha) HF3.out.size)
      clear ht3 f3 K1
      go_wp2_with fail
      refine K2.out.mono ?_
      rintro e w4 ⟨x, rfl, hx, ⟨j4, ht4⟩, f4⟩
      have HX : Hid x.Ok := hx
      have G4 : Hid (Fr (fun k => k = tb) w3 (w4.alloc (.cells #[.int .u64 (x.id : Int), .int .i64 x.fr, .int .i64 x.tt, .float .f64 x.lo, .float .f64 x.hi, .int .u64 (x.au : Int), .int .i64 x.qu] 34))) := f4.alloc _
      have HS4 : Hid (St w (w4.alloc (.cells #[.int .u64 (x.id : Int), .int .i64 x.fr, .int .i64 x.tt, .float .f64 x.lo, .float .f64 x.hi, .int .u64 (x.au : Int), .int .i64 x.qu] 34)) bb tb gs v ma mc) := HS3.out.fr G4.out (fun k _ e => e)
      have HF4 : Hid (Fr (fun _ => False) w (w4.alloc (.cells #[.int .u64 (x.id : Int), .int .i64 x.fr, .int .i64 x.tt, .float .f64 x.lo, .float .f64 x.hi, .int .u64 (x.au : Int), .int .i64 x.qu] 34))) := HF3.out.trans' G4.out (fun i hi e => by have := HW.out; omega)
      have HT4 : Hid (Tp (w4.alloc (.cells #[.int .u64 (x.id : Int), .int .i64 x.fr, .int .i64 x.tt, .float .f64 x.lo, .float .f64 x.hi, .int .u64 (x.au : Int), .int .i64 x.qu] 34)) tb ao l cap j4) := ht4.fr ((Fr.refl (fun _ => False) _).alloc _) (by simp) (by simp)
      have HBX : Hid (Bx (w4.alloc (.cells #[.int .u64 (x.id : Int), .int .i64 x.fr, .int .i64 x.tt, .float .f64 x.lo, .float .f64 x.hi, .int .u64 (x.au : Int), .int .i64 x.qu] 34)) w4.heap.size x) := Bx.new w4 x
      have HTX : Hid (tb < w4.heap.size) := ht4.lt
      obtain ⟨xb, Hxb⟩ : ∃ xb, Hid (w4.heap.size = xb) := ⟨_, rfl⟩
      have K3 : Hid (Calls _ _ _ _ _) := next_any HT4.out 3 (by omega) (by omega)
      rw [Hxb.out] at HBX HTX
      clear hx ht4 f4 K2 G4
      go_wp2_with fail
      rw [Hxb.out]
      refine K3.out.mono ?_
      rintro e w5 ⟨r3, rfl, hr3, ⟨j5, ht5⟩, f5⟩
      have HS5 : Hid (St w w5 bb tb gs v ma mc) := HS4.out.fr f5 (fun k _ e => e)
      have HT5 : Hid (Tp w5 tb ao l cap j5) := ht5
      have HF5 : Hid (Fr (fun _ => False) w w5) := HF4.out.trans' f5 (fun i hi e => by have := HW.out; omega)
      have HB5 : Hid (Bx w5 xb x) := HBX.out.fr f5 (by have := HTX.out; omega)
      have c50 := HB5.out.c0
      have K4 : Hid (Calls _ _ _ _ _) := refrev_any ma gs mc x.id n2 w5 HS5.out.row (by omega)
      obtain ⟨ln, lok, hL⟩ := lastAt_ex gs (fun y => decide (y.r.id = x.id) && y.open)
      obtain ⟨hE, hE2⟩ := end_rev n2 HS5.out.one hL
      obtain ⟨g2, Hg2⟩ : ∃ g2, Hid (gs.map (revX x.id (max n2 1)) = g2) := ⟨_, rfl⟩
      have HL : Hid (LastAt gs (fun y => decide (y.r.id = x.id) && y.open) ln lok) := hL
      have HE : Hid (endG gs ln lok n2 = g2) := hE.trans Hg2.out
      have HGL : Hid (g2.length = gs.length) := by show _ = _; rw [← Hg2.out, List.length_map]
      rw [Hg2.out, ← hE2] at K4
      clear ht5 f5 K3 hL hE hE2
      by_cases hz : r3 = 0
      · have hz' : ((r3 : Int) == 0) = true := by simp [hz]
        clear hz
        go_wp2_with fail
        refine K4.out.mono ?_
        rintro e w6 ⟨v6, rfl, ho6, f6⟩
        obtain ⟨a6, c6, hv6, hr6, _⟩ := ho6.row
        subst hv6
        have HO6 : Hid (OwnF w6 w5.heap.size 40 (.slice a6 g2.length c6) g2) := ho6
        have HS6 : Hid (St w w6 bb tb gs v ma mc) := HS5.out.fr f6 (fun k _ e => e.elim)
        have HF6 : Hid (Fr (fun _ => False) w w6) := HF5.out.trans f6
        have HT6 : Hid (Tp w6 tb ao l cap j5) := HT5.out.fr f6 (by simp) (by simp)
        have c60 := f6.cell c50 (by simp)
        have K5 : Hid (Calls _ _ _ _ _) := revoke_any HS6.out.b x.id n2 (by omega) (by omega) ln lok HL.out
        rw [HE.out] at K5
        clear ho6 hr6 f6 K4 c50
        go_wp2_with fail
        refine K5.out.mono ?_
        rintro e w7 ⟨rfl, hb7, f7⟩
        have HV : Hid (∀ j, v.ownBlock = some j → bb ≤ j ∧ j < w5.heap.size) := fun j hj => HS5.out.b.own.lt j hj
        have HO7 : Hid (OwnF w7 w5.heap.size 40 (.slice a6 g2.length c6) g2) := HO6.out.fr f7 (fun k hk e => by have := (HO6.out.lt k hk).1; have := (HV.out k e).2; omega)
        have HBL : Hid (bb < w5.heap.size ∧ tb < w5.heap.size) := ⟨HS5.out.b.lt, HT5.out.lt⟩
        have HS7 : Hid (St w w7 bb tb g2 v a6 c6) := ⟨hb7, HO7.out.rebase HF5.out.size, by rw [← Hg2.out]; exact oneOpen_rev HS5.out.one (by omega), fun j hj => by
          have h1 := (HO7.out.lt j hj).1
          have h2 := HBL.out
          exact ⟨by omega, fun e => by have := (HV.out j e).2; omega, by omega⟩, HS5.out.vb, HS5.out.ne⟩
        have HF7 : Hid (Fr (fun _ => False) w w7) := HF6.out.trans' f7 (fun i hi e => by have := (HV.out i e).1; have := HW.out; have := Hbb.out; omega)
        have HT7 : Hid (Tp w7 tb ao l cap j5) := HT6.out.fr f7 (fun e => HS5.out.vb tb e rfl) (fun hl a ha e => by have := HTW.out hl a ha; have := (HV.out _ e).1; have := HW.out; have := Hbb.out; omega)
        have K6 : Hid (Calls _ _ _ _ _) := told_any HS7.out.b a6 c6 HS7.out.row (by have := HGL.out; omega)
        have hbo : (lok != lok) = false := by simp
        clear hb7 f7 K5 c60
        go_wp2_with fail
        refine K6.out.mono ?_
        rintro e w8 ⟨rfl, f8⟩
        have HS8 : Hid (St w w8 bb tb g2 v a6 c6) := HS7.out.fr f8 (fun k _ e => e.elim)
        have HT8 : Hid (Tp w8 tb ao l cap j5) := HT7.out.fr f8 (by simp) (by simp)
        have HF8 : Hid (Fr (fun _ => False) w w8) := HF7.out.trans f8
        clear f8 K6
        go_wp2
        go_roundw
        case rel => exact ⟨k + 1, n2, g2, v, a6, c6, j5, by omega, by go_num, rfl, rfl, by omega, by have := HGL.out; omega, HS8.out, HT8.out, HF8.out⟩
        case measure => simp [intOf]; omega
      · have hz' : ((r3 : Int) == 0) = false := by simp; omega
        clear hz
        go_wp2_with fail
        refine K4.out.mono ?_
        rintro e w6 ⟨v6, rfl, ho6, f6⟩
        obtain ⟨a6, c6, hv6, _, _⟩ := ho6.row
        subst hv6
        have h6l := ho6.form
        obtain ⟨_, _, he6, hf6⟩ := h6l
        cases he6
        have HO6 : Hid (OwnF w6 w5.heap.size 40 (.slice a6 g2.length c6) g2) := ho6
        have HS6 : Hid (St w w6 bb tb gs v ma mc) := HS5.out.fr f6 (fun k _ e => e.elim)
        have HF6 : Hid (Fr (fun _ => False) w w6) := HF5.out.trans f6
        have HT6 : Hid (Tp w6 tb ao l cap j5) := HT5.out.fr f6 (by simp) (by simp)
        have HB6 : Hid (Bx w6 xb x) := HB5.out.fr f6 (by simp)
        have HZ6 : Hid (w5.heap.size ≤ w6.heap.size) := f6.size
        obtain ⟨d0, d1, d2, d3, d4, d5, d6, _⟩ := HB6.out
        have FL : Hid (Fr (fun _ => False) w6 (w6.alloc (.cells #[.int .u64 (x.id : Int), .int .i64 x.fr, .int .i64 x.tt, .float .f64 x.lo, .float .f64 x.hi, .int .u64 (x.au : Int), .int .i64 x.qu, .int .u64 (n2 : Int), .int .u64 0] 40))) := (Fr.refl _ _).alloc _
        have HOA : Hid (OwnF (w6.alloc (.cells #[.int .u64 (x.id : Int), .int .i64 x.fr, .int .i64 x.tt, .float .f64 x.lo, .float .f64 x.hi, .int .u64 (x.au : Int), .int .i64 x.qu, .int .u64 (n2 : Int), .int .u64 0] 40)) w5.heap.size 40 (.slice a6 g2.length c6) g2) := HO6.out.fr FL.out (by simp)
        have HONE : Hid (∀ j u, (flat [(⟨x, n2, 0⟩ : Gr)])[j]? = some u → (w6.alloc (.cells #[.int .u64 (x.id : Int), .int .i64 x.fr, .int .i64 x.tt, .float .f64 x.lo, .float .f64 x.hi, .int .u64 (x.au : Int), .int .i64 x.qu, .int .u64 (n2 : Int), .int .u64 0] 40)).cell? ((⟨w6.heap.size, 0, none⟩ : Addr).add j) = some u) := one_f w6 (⟨x, n2, 0⟩ : Gr) 40 _ rfl
        have HBS : Hid (w5.heap.size ≤ (w6.alloc (.cells #[.int .u64 (x.id : Int), .int .i64 x.fr, .int .i64 x.tt, .float .f64 x.lo, .float .f64 x.hi, .int .u64 (x.au : Int), .int .i64 x.qu, .int .u64 (n2 : Int), .int .u64 0] 40)).heap.size) := Nat.le_trans HZ6.out FL.out.size
        clear ho6 f6 K4 c50
        go_wp2_with (at_builtin; refine wpList_append_f (α := Gr) rfl (.tmp 67) (.tmp 71) 29 40 rfl Try.underlying29 _ 72 Try.info40 rfl (by decide) w5.heap.size _ _ rfl HOA.out ⟨w6.heap.size, 0, none⟩ [(⟨x, n2, 0⟩ : Gr)] 1 rfl HONE.out HBS.out (by have := HGL.out; simp; omega) ?_)
        intro v7 w7 ho7 hg7 hat7
        have HGL7 : Hid ((g2 ++ [(⟨x, n2, 0⟩ : Gr)]).length = gs.length + 1) := by show _ = _; rw [List.length_append, HGL.out]; rfl
        obtain ⟨g7, Hg7⟩ : ∃ g7, Hid (g2 ++ [(⟨x, n2, 0⟩ : Gr)] = g7) := ⟨_, rfl⟩
        rw [Hg7.out] at ho7 HGL7
        obtain ⟨a7, c7, hv7, _, _⟩ := ho7.row
        subst hv7
        have HO7 : Hid (OwnF w7 w5.heap.size 40 (.slice a7 g7.length c7) g7) := ho7
        have HG6 : Hid (Fr (fun k => w5.heap.size ≤ k) w6 w7) := (FL.out.mono (fun _ _ h => h.elim)).grown hg7 (fun k hk => .inl ((HO6.out.lt k hk).1))
        have h7l : g7.length ≤ 9223372036854775807 ∧ c7 ≤ 9223372036854775807 ∧ g7.length ≤ c7 := by
          obtain ⟨_, _, he, h⟩ := ho7.form
          cases he
          exact h
        have HBL : Hid (bb < w5.heap.size ∧ tb < w5.heap.size ∧ xb < w5.heap.size) := ⟨HS5.out.b.lt, HT5.out.lt, HB5.out.lt⟩
        have HV : Hid (∀ j, v.ownBlock = some j → bb ≤ j ∧ j < w5.heap.size) := fun j hj => HS5.out.b.own.lt j hj
        have HF7 : Hid (Fr (fun _ => False) w w7) := HF6.out.trans' HG6.out (fun i hi e => by have := HF5.out.size; omega)
        have HT7 : Hid (Tp w7 tb ao l cap j5) := HT6.out.fr HG6.out (by have := HBL.out; omega) (fun hl a ha e => by have := HTW.out hl a ha; have := HF5.out.size; omega)
        have HBK7 : Hid (Bk w7 bb bb gs v) := HS6.out.b.fr HG6.out (by have := HBL.out; omega) (fun k hk e => by have := (HV.out k hk).2; omega)
        have HB7 : Hid (Bx w7 xb x) := HB6.out.fr HG6.out (by have := HBL.out; omega)
        have K5 : Hid (Calls _ _ _ _ _) := grant_any HBK7.out x HX.out n2 (by omega) (by omega) ln lok HL.out
        rw [HE.out, Hg7.out] at K5
        obtain ⟨q0, q1, q2, q3, q4, q5, q6, _⟩ := HB7.out
        clear ho7 hg7 hat7 d0 d1 d2 d3 d4 d5 d6 HOA HONE HBS FL
        go_wp2_with fail
        refine K5.out.mono ?_
        rintro e w8 ⟨rfl, ⟨v8, hb8, hv8⟩, f8⟩
        have hsep : ∀ k, (Value.slice a7 g7.length c7).ownBlock = some k → ¬ (v.ownBlock = some k ∨ k = bb) := fun k hk e => by
          have h1 := (HO7.out.lt k hk).1
          rcases e with e | e
          · have := (HV.out k e).2; omega
          · have := HBL.out; omega
        have HO8 : Hid (OwnF w8 w5.heap.size 40 (.slice a7 g7.length c7) g7) := HO7.out.fr f8 hsep
        have HS8 : Hid (St w w8 bb tb g7 v8 a7 c7) := ⟨hb8, HO8.out.rebase HF5.out.size, by rw [← Hg7.out, ← Hg2.out]; exact oneOpen_snoc HS5.out.one (by omega), fun j hj => by
          have h1 := HO7.out.lt j hj
          have h2 := HBL.out
          refine ⟨by omega, fun e => ?_, by omega⟩
          rcases hv8 j e with h | h
          · have := (HV.out j h).2; omega
          · omega, fun j hj e => by
          rcases hv8 j hj with h | h
          · exact HS5.out.vb j h e
          · have := HT7.out.lt; omega, HS5.out.ne⟩
        have HF8 : Hid (Fr (fun _ => False) w w8) := HF7.out.trans' f8 (fun i hi e => by
          have := HW.out
          have := Hbb.out
          rcases e with e | e
          · have := (HV.out i e).1; omega
          · omega)
        have HT8 : Hid (Tp w8 tb ao l cap j5) := HT7.out.fr f8 (fun e => by
          rcases e with e | e
          · exact HS5.out.vb tb e rfl
          · exact HS5.out.ne e.symm) (fun hl a ha e => by
          have := HTW.out hl a ha
          have := HW.out
          have := Hbb.out
          rcases e with e | e
          · have := (HV.out _ e).1; omega
          · omega)
        have K6 : Hid (Calls _ _ _ _ _) := told_any HS8.out.b a7 c7 HS8.out.row (by have := HGL7.out; omega)
        clear hb8 hv8 f8 K5 q0 q1 q2 q3 q4 q5 q6 hsep
        go_wp2_with fail
        refine K6.out.mono ?_
        rintro e w9 ⟨rfl, f9⟩
        have HS9 : Hid (St w w9 bb tb g7 v8 a7 c7) := HS8.out.fr f9 (fun k _ e => e.elim)
        have HT9 : Hid (Tp w9 tb ao l cap j5) := HT8.out.fr f9 (by simp) (by simp)
        have HF9 : Hid (Fr (fun _ => False) w w9) := HF8.out.trans f9
        clear f9 K6
        go_wp2
        go_roundw
        case rel => exact ⟨k + 1, n2, g7, v8, a7, c7, j5, by omega, by go_num, rfl, rfl, by omega, by have := HGL7.out; omega, HS9.out, HT9.out, HF9.out⟩
        case measure => simp [intOf]; omega
    · obtain rfl : k = 20 := by omega
      go_wp2
      go_ret
      exact ⟨rfl, HF.out⟩
set_option maxRecDepth 100000 in
set_option maxHeartbeats 8000000 in
theorem plays_any (ao : Option Addr) (l : List Nat) (cap : Nat) (w : World) (hr : Row w ao l cap) (hlong : ¬ 400 < l.length) : Calls Try.prog 3 #[.slice ao l.length cap, .bool false] w fun e w' => e = .returned (.bool true) ∧ Fr (fun _ => False) w w' := by
  have HR : Hid (Row w ao l cap) := hr
  have hl1 := hr.1
  have hl2 := hr.2.1
  unfold maxLen at hl2
  clear hr
  go_enter Try.func3, Try.ntmps3
  go_wp2_with fail
  refine (awake_any w).mono ?_
  rintro e w1 ⟨rfl, f1⟩
  have F1 : Hid (Fr (fun _ => False) w w1) := f1
  have FA : Hid (Fr (fun _ => False) w1 (w1.alloc (.cells #[.slice ao l.length cap, .int .i64 0] 26))) := (Fr.refl _ _).alloc _
  have HT1 : Hid (Tp (w1.alloc (.cells #[.slice ao l.length cap, .int .i64 0] 26)) w1.heap.size ao l cap 0) := by
    refine ⟨by simp, by simp, by simp, FA.out.row (F1.out.row HR.out (by simp)) (by simp), Nat.zero_le _, fun hl a ha e => ?_⟩
    have := row_blk HR.out hl a ha
    have := F1.out.size
    omega
  clear f1
  go_wp2_with fail
  refine (new_any _ _ (Nat.le_refl _)).mono ?_
  rintro e w2 ⟨rfl, hb2, f2⟩
  obtain ⟨tb, Htb⟩ : ∃ tb, Hid (w1.heap.size = tb) := ⟨_, rfl⟩
  have hs2 : (w1.alloc (.cells #[.slice ao l.length cap, .int .i64 0] 26)).heap.size = tb + 1 := by rw [← Htb.out]; simp
  rw [hs2] at hb2 ⊢
  rw [Htb.out] at HT1 ⊢
  have HW : Hid (w.heap.size ≤ tb) := by show _ ≤ _; rw [← Htb.out]; exact F1.out.size
  have HT2 : Hid (Tp w2 tb ao l cap 0) := HT1.out.fr f2 (by simp) (by simp)
  have HS2 : Hid (St w w2 (tb + 1) tb [] (.slice none 0 0) none 0) := ⟨hb2, OwnF.nil _ _ _, oneOpen_nil, fun j hj => (by simp [Value.ownBlock] at hj), fun j hj => (by simp [Value.ownBlock] at hj), by omega⟩
  have F2 : Hid (Fr (fun _ => False) w w2) := (F1.out.trans FA.out).trans f2
  obtain ⟨bb, Hbb⟩ : ∃ bb, Hid (tb + 1 = bb) := ⟨_, rfl⟩
  rw [Hbb.out] at HS2 ⊢
  clear hb2 f2 hs2 HT1 FA
  go_wp2
  go_loopw [7, 8, 9] (fun mv ev iv wr => ∃ (k n : Nat) (gs : List Gr) (v : Value) (ma : Option Addr) (mc j : Nat), k ≤ 20 ∧ iv = .int .i64 (k : Int) ∧ ev = .int .u64 (n : Int) ∧ mv = .slice ma gs.length mc ∧ n ≤ 7 + k ∧ gs.length ≤ k ∧ Hid (St w wr bb tb gs v ma mc) ∧ Hid (Tp wr tb ao l cap j) ∧ Fr (fun _ => False) w wr) (fun _ _ iv _ => 20 - (intOf iv).toNat)
  case atStart => exact ⟨0, 1, [], _, none, 0, 0, by omega, rfl, rfl, rfl, by omega, by simp, HS2.out, HT2.out, F2.out⟩
  case round =>
    obtain ⟨k, n, gs, v, ma, mc, j, hk, rfl, rfl, rfl, hn, hgl, HS, HT, hfr⟩ := hrel
    have HF : Hid (Fr (fun _ => False) w wr) := hfr
    have hml := HS.out.lens
    clear hfr
    by_cases hlt : k < 20
    · have k1 : (k : Int) < 20 := by omega
      have HTW : Hid (l ≠ [] → ∀ a, ao = some a → a.block < w.heap.size) := row_blk HR.out
      have K1 : Hid (Calls _ _ _ _ _) := next_any HT.out 7 (by omega) (by omega)
      go_wp2_with fail
      refine K1.out.mono ?_
      rintro e w3 ⟨r1, rfl, hr1, ⟨j3, ht3⟩, f3⟩
      have HT3 : Hid (Tp w3 tb ao l cap j3) := ht3
      have HS3 : Hid (St w w3 bb tb gs v ma mc) := HS.out.fr f3 (fun k _ e => e)
      have HF3 : Hid (Fr (fun _ => False) w w3) := HF.out.trans' f3 (fun i hi e => by have := HW.out; omega)
      have p1 : (0 : Int) ≤ (r1 : Int) := by omega
      have p2 : (r1 : Int) < 7 := by omega
      obtain ⟨n2, hn2, hn3⟩ : ∃ n2 : Nat, n2 = r1 ∧ n2 ≤ 7 + (k + 1) := ⟨r1, rfl, by omega⟩
      subst hn2
      have K2 : Hid (Calls _ _ _ _ _) := ofrule_any HT3.out (fun hl a ha => Nat.lt_of_lt_of_le (HTW.out hl a ha) HF3.out.size)
      clear ht3 f3 K1
      go_wp2_with fail
      refine K2.out.mono ?_
      rintro e w4 ⟨x, rfl, hx, ⟨j4, ht4⟩, f4⟩
      have HX : Hid x.Ok := hx
      have G4 : Hid (Fr (fun k => k = tb) w3 (w4.alloc (.cells #[.int .u64 (x.id : Int), .int .i64 x.fr, .int .i64 x.tt, .float .f64 x.lo, .float .f64 x.hi, .int .u64 (x.au : Int), .int .i64 x.qu] 34))) := f4.alloc _
      have HS4 : Hid (St w (w4.alloc (.cells #[.int .u64 (x.id : Int), .int .i64 x.fr, .int .i64 x.tt, .float .f64 x.lo, .float .f64 x.hi, .int .u64 (x.au : Int), .int .i64 x.qu] 34)) bb tb gs v ma mc) := HS3.out.fr G4.out (fun k _ e => e)
      have HF4 : Hid (Fr (fun _ => False) w (w4.alloc (.cells #[.int .u64 (x.id : Int), .int .i64 x.fr, .int .i64 x.tt, .float .f64 x.lo, .float .f64 x.hi, .int .u64 (x.au : Int), .int .i64 x.qu] 34))) := HF3.out.trans' G4.out (fun i hi e => by have := HW.out; omega)
      have HT4 : Hid (Tp (w4.alloc (.cells #[.int .u64 (x.id : Int), .int .i64 x.fr, .int .i64 x.tt, .float .f64 x.lo, .float .f64 x.hi, .int .u64 (x.au : Int), .int .i64 x.qu] 34)) tb ao l cap j4) := ht4.fr ((Fr.refl (fun _ => False) _).alloc _) (by simp) (by simp)
      have HBX : Hid (Bx (w4.alloc (.cells #[.int .u64 (x.id : Int), .int .i64 x.fr, .int .i64 x.tt, .float .f64 x.lo, .float .f64 x.hi, .int .u64 (x.au : Int), .int .i64 x.qu] 34)) w4.heap.size x) := Bx.new w4 x
      have HTX : Hid (tb < w4.heap.size) := ht4.lt
      obtain ⟨xb, Hxb⟩ : ∃ xb, Hid (w4.heap.size = xb) := ⟨_, rfl⟩
      have K3 : Hid (Calls _ _ _ _ _) := next_any HT4.out 3 (by omega) (by omega)
      rw [Hxb.out] at HBX HTX
      clear hx ht4 f4 K2 G4
      go_wp2_with fail
      rw [Hxb.out]
      refine K3.out.mono ?_
      rintro e w5 ⟨r3, rfl, hr3, ⟨j5, ht5⟩, f5⟩
      have HS5 : Hid (St w w5 bb tb gs v ma mc) := HS4.out.fr f5 (fun k _ e => e)
      have HT5 : Hid (Tp w5 tb ao l cap j5) := ht5
      have HF5 : Hid (Fr (fun _ => False) w w5) := HF4.out.trans' f5 (fun i hi e => by have := HW.out; omega)
      have HB5 : Hid (Bx w5 xb x) := HBX.out.fr f5 (by have := HTX.out; omega)
      have c50 := HB5.out.c0
      have K4 : Hid (Calls _ _ _ _ _) := refrev_any ma gs mc x.id n2 w5 HS5.out.row (by omega)
      obtain ⟨ln, lok, hL⟩ := lastAt_ex gs (fun y => decide (y.r.id = x.id) && y.open)
      obtain ⟨hE, hE2⟩ := end_rev n2 HS5.out.one hL
      obtain ⟨g2, Hg2⟩ : ∃ g2, Hid (gs.map (revX x.id (max n2 1)) = g2) := ⟨_, rfl⟩
      have HL : Hid (LastAt gs (fun y => decide (y.r.id = x.id) && y.open) ln lok) := hL
      have HE : Hid (endG gs ln lok n2 = g2) := hE.trans Hg2.out
      have HGL : Hid (g2.length = gs.length) := by show _ = _; rw [← Hg2.out, List.length_map]
      rw [Hg2.out, ← hE2] at K4
      clear ht5 f5 K3 hL hE hE2
      by_cases hz : r3 = 0
      · have hz' : ((r3 : Int) == 0) = true := by simp [hz]
        clear hz
        go_wp2_with fail
        refine K4.out.mono ?_
        rintro e w6 ⟨v6, rfl, ho6, f6⟩
        obtain ⟨a6, c6, hv6, hr6, _⟩ := ho6.row
        subst hv6
        have HO6 : Hid (OwnF w6 w5.heap.size 40 (.slice a6 g2.length c6) g2) := ho6
        have HS6 : Hid (St w w6 bb tb gs v ma mc) := HS5.out.fr f6 (fun k _ e => e.elim)
        have HF6 : Hid (Fr (fun _ => False) w w6) := HF5.out.trans f6
        have HT6 : Hid (Tp w6 tb ao l cap j5) := HT5.out.fr f6 (by simp) (by simp)
        have c60 := f6.cell c50 (by simp)
        have K5 : Hid (Calls _ _ _ _ _) := revoke_any HS6.out.b x.id n2 (by omega) (by omega) ln lok HL.out
        rw [HE.out] at K5
        clear ho6 hr6 f6 K4 c50
        go_wp2_with fail
        refine K5.out.mono ?_
        rintro e w7 ⟨rfl, hb7, f7⟩
        have HV : Hid (∀ j, v.ownBlock = some j → bb ≤ j ∧ j < w5.heap.size) := fun j hj => HS5.out.b.own.lt j hj
        have HO7 : Hid (OwnF w7 w5.heap.size 40 (.slice a6 g2.length c6) g2) := HO6.out.fr f7 (fun k hk e => by have := (HO6.out.lt k hk).1; have := (HV.out k e).2; omega)
        have HBL : Hid (bb < w5.heap.size ∧ tb < w5.heap.size) := ⟨HS5.out.b.lt, HT5.out.lt⟩
        have HS7 : Hid (St w w7 bb tb g2 v a6 c6) := ⟨hb7, HO7.out.rebase HF5.out.size, by rw [← Hg2.out]; exact oneOpen_rev HS5.out.one (by omega), fun j hj => by
          have h1 := (HO7.out.lt j hj).1
          have h2 := HBL.out
          exact ⟨by omega, fun e => by have := (HV.out j e).2; omega, by omega⟩, HS5.out.vb, HS5.out.ne⟩
        have HF7 : Hid (Fr (fun _ => False) w w7) := HF6.out.trans' f7 (fun i hi e => by have := (HV.out i e).1; have := HW.out; have := Hbb.out; omega)
        have HT7 : Hid (Tp w7 tb ao l cap j5) := HT6.out.fr f7 (fun e => HS5.out.vb tb e rfl) (fun hl a ha e => by have := HTW.out hl a ha; have := (HV.out _ e).1; have := HW.out; have := Hbb.out; omega)
        have K6 : Hid (Calls _ _ _ _ _) := told_any HS7.out.b a6 c6 HS7.out.row (by have := HGL.out; omega)
        have hbo : (lok != lok) = false := by simp
        clear hb7 f7 K5 c60
        go_wp2_with fail
        refine K6.out.mono ?_
        rintro e w8 ⟨rfl, f8⟩
        have HS8 : Hid (St w w8 bb tb g2 v a6 c6) := HS7.out.fr f8 (fun k _ e => e.elim)
        have HT8 : Hid (Tp w8 tb ao l cap j5) := HT7.out.fr f8 (by simp) (by simp)
        have HF8 : Hid (Fr (fun _ => False) w w8) := HF7.out.trans f8
        clear f8 K6
        go_wp2
        go_roundw
        case rel => exact ⟨k + 1, n2, g2, v, a6, c6, j5, by omega, by go_num, rfl, rfl, by omega, by have := HGL.out; omega, HS8.out, HT8.out, HF8.out⟩
        case measure => simp [intOf]; omega
      · have hz' : ((r3 : Int) == 0) = false := by simp; omega
        clear hz
        go_wp2_with fail
        refine K4.out.mono ?_
        rintro e w6 ⟨v6, rfl, ho6, f6⟩
        obtain ⟨a6, c6, hv6, _, _⟩ := ho6.row
        subst hv6
        have h6l := ho6.form
        obtain ⟨_, _, he6, hf6⟩ := h6l
        cases he6
        have HO6 : Hid (OwnF w6 w5.heap.size 40 (.slice a6 g2.length c6) g2) := ho6
        have HS6 : Hid (St w w6 bb tb gs v ma mc) := HS5.out.fr f6 (fun k _ e => e.elim)
        have HF6 : Hid (Fr (fun _ => False) w w6) := HF5.out.trans f6
        have HT6 : Hid (Tp w6 tb ao l cap j5) := HT5.out.fr f6 (by simp) (by simp)
        have HB6 : Hid (Bx w6 xb x) := HB5.out.fr f6 (by simp)
        have HZ6 : Hid (w5.heap.size ≤ w6.heap.size) := f6.size
        obtain ⟨d0, d1, d2, d3, d4, d5, d6, _⟩ := HB6.out
        have FL : Hid (Fr (fun _ => False) w6 (w6.alloc (.cells #[.int .u64 (x.id : Int), .int .i64 x.fr, .int .i64 x.tt, .float .f64 x.lo, .float .f64 x.hi, .int .u64 (x.au : Int), .int .i64 x.qu, .int .u64 (n2 : Int), .int .u64 0] 40))) := (Fr.refl _ _).alloc _
        have HOA : Hid (OwnF (w6.alloc (.cells #[.int .u64 (x.id : Int), .int .i64 x.fr, .int .i64 x.tt, .float .f64 x.lo, .float .f64 x.hi, .int .u64 (x.au : Int), .int .i64 x.qu, .int .u64 (n2 : Int), .int .u64 0] 40)) w5.heap.size 40 (.slice a6 g2.length c6) g2) := HO6.out.fr FL.out (by simp)
        have HONE : Hid (∀ j u, (flat [(⟨x, n2, 0⟩ : Gr)])[j]? = some u → (w6.alloc (.cells #[.int .u64 (x.id : Int), .int .i64 x.fr, .int .i64 x.tt, .float .f64 x.lo, .float .f64 x.hi, .int .u64 (x.au : Int), .int .i64 x.qu, .int .u64 (n2 : Int), .int .u64 0] 40)).cell? ((⟨w6.heap.size, 0, none⟩ : Addr).add j) = some u) := one_f w6 (⟨x, n2, 0⟩ : Gr) 40 _ rfl
        have HBS : Hid (w5.heap.size ≤ (w6.alloc (.cells #[.int .u64 (x.id : Int), .int .i64 x.fr, .int .i64 x.tt, .float .f64 x.lo, .float .f64 x.hi, .int .u64 (x.au : Int), .int .i64 x.qu, .int .u64 (n2 : Int), .int .u64 0] 40)).heap.size) := Nat.le_trans HZ6.out FL.out.size
        clear ho6 f6 K4 c50
        go_wp2_with (at_builtin; refine wpList_append_f (α := Gr) rfl (.tmp 67) (.tmp 71) 29 40 rfl Try.underlying29 _ 72 Try.info40 rfl (by decide) w5.heap.size _ _ rfl HOA.out ⟨w6.heap.size, 0, none⟩ [(⟨x, n2, 0⟩ : Gr)] 1 rfl HONE.out HBS.out (by have := HGL.out; simp; omega) ?_)
        intro v7 w7 ho7 hg7 hat7
        have HGL7 : Hid ((g2 ++ [(⟨x, n2, 0⟩ : Gr)]).length = gs.length + 1) := by show _ = _; rw [List.length_append, HGL.out]; rfl
        obtain ⟨g7, Hg7⟩ : ∃ g7, Hid (g2 ++ [(⟨x, n2, 0⟩ : Gr)] = g7) := ⟨_, rfl⟩
        rw [Hg7.out] at ho7 HGL7
        obtain ⟨a7, c7, hv7, _, _⟩ := ho7.row
        subst hv7
        have HO7 : Hid (OwnF w7 w5.heap.size 40 (.slice a7 g7.length c7) g7) := ho7
        have HG6 : Hid (Fr (fun k => w5.heap.size ≤ k) w6 w7) := (FL.out.mono (fun _ _ h => h.elim)).grown hg7 (fun k hk => .inl ((HO6.out.lt k hk).1))
        have h7l : g7.length ≤ 9223372036854775807 ∧ c7 ≤ 9223372036854775807 ∧ g7.length ≤ c7 := by
          obtain ⟨_, _, he, h⟩ := ho7.form
          cases he
          exact h
        have HBL : Hid (bb < w5.heap.size ∧ tb < w5.heap.size ∧ xb < w5.heap.size) := ⟨HS5.out.b.lt, HT5.out.lt, HB5.out.lt⟩
        have HV : Hid (∀ j, v.ownBlock = some j → bb ≤ j ∧ j < w5.heap.size) := fun j hj => HS5.out.b.own.lt j hj
        have HF7 : Hid (Fr (fun _ => False) w w7) := HF6.out.trans' HG6.out (fun i hi e => by have := HF5.out.size; omega)
        have HT7 : Hid (Tp w7 tb ao l cap j5) := HT6.out.fr HG6.out (by have := HBL.out; omega) (fun hl a ha e => by have := HTW.out hl a ha; have := HF5.out.size; omega)
        have HBK7 : Hid (Bk w7 bb bb gs v) := HS6.out.b.fr HG6.out (by have := HBL.out; omega) (fun k hk e => by have := (HV.out k hk).2; omega)
        have HB7 : Hid (Bx w7 xb x) := HB6.out.fr HG6.out (by have := HBL.out; omega)
        have K5 : Hid (Calls _ _ _ _ _) := grant_any HBK7.out x HX.out n2 (by omega) (by omega) ln lok HL.out
        rw [HE.out, Hg7.out] at K5
        obtain ⟨q0, q1, q2, q3, q4, q5, q6, _⟩ := HB7.out
        clear ho7 hg7 hat7 d0 d1 d2 d3 d4 d5 d6 HOA HONE HBS FL
        go_wp2_with fail
        refine K5.out.mono ?_
        rintro e w8 ⟨rfl, ⟨v8, hb8, hv8⟩, f8⟩
        have hsep : ∀ k, (Value.slice a7 g7.length c7).ownBlock = some k → ¬ (v.ownBlock = some k ∨ k = bb) := fun k hk e => by
          have h1 := (HO7.out.lt k hk).1
          rcases e with e | e
          · have := (HV.out k e).2; omega
          · have := HBL.out; omega
        have HO8 : Hid (OwnF w8 w5.heap.size 40 (.slice a7 g7.length c7) g7) := HO7.out.fr f8 hsep
        have HS8 : Hid (St w w8 bb tb g7 v8 a7 c7) := ⟨hb8, HO8.out.rebase HF5.out.size, by rw [← Hg7.out, ← Hg2.out]; exact oneOpen_snoc HS5.out.one (by omega), fun j hj => by
          have h1 := HO7.out.lt j hj
          have h2 := HBL.out
          refine ⟨by omega, fun e => ?_, by omega⟩
          rcases hv8 j e with h | h
          · have := (HV.out j h).2; omega
          · omega, fun j hj e => by
          rcases hv8 j hj with h | h
          · exact HS5.out.vb j h e
          · have := HT7.out.lt; omega, HS5.out.ne⟩
        have HF8 : Hid (Fr (fun _ => False) w w8) := HF7.out.trans' f8 (fun i hi e => by
          have := HW.out
          have := Hbb.out
          rcases e with e | e
          · have := (HV.out i e).1; omega
          · omega)
        have HT8 : Hid (Tp w8 tb ao l cap j5) := HT7.out.fr f8 (fun e => by
          rcases e with e | e
          · exact HS5.out.vb tb e rfl
          · exact HS5.out.ne e.symm) (fun hl a ha e => by
          have := HTW.out hl a ha
          have := HW.out
          have := Hbb.out
          rcases e with e | e
          · have := (HV.out _ e).1; omega
          · omega)
        have K6 : Hid (Calls _ _ _ _ _) := told_any HS8.out.b a7 c7 HS8.out.row (by have := HGL7.out; omega)
        clear hb8 hv8 f8 K5 q0 q1 q2 q3 q4 q5 q6 hsep
        go_wp2_with fail
        refine K6.out.mono ?_
        rintro e w9 ⟨rfl, f9⟩
        have HS9 : Hid (St w w9 bb tb g7 v8 a7 c7) := HS8.out.fr f9 (fun k _ e => e.elim)
        have HT9 : Hid (Tp w9 tb ao l cap j5) := HT8.out.fr f9 (by simp) (by simp)
        have HF9 : Hid (Fr (fun _ => False) w w9) := HF8.out.trans f9
        clear f9 K6
        go_wp2
        go_roundw
        case rel => exact ⟨k + 1, n2, g7, v8, a7, c7, j5, by omega, by go_num, rfl, rfl, by omega, by have := HGL7.out; omega, HS9.out, HT9.out, HF9.out⟩
        case measure => simp [intOf]; omega
    · obtain rfl : k = 20 := by omega
      go_wp2
      go_ret
      exact ⟨rfl, HF.out⟩
set_option maxHeartbeats 400000 in
theorem plays_walk (ao : Option Addr) (l : List Nat) (cap : Nat) (rs : Bool) (w : World) (hr : Row w ao l cap) : Calls Try.prog 3 #[.slice ao l.length cap, .bool rs] w fun e w' => e = .returned (.bool true) ∧ Fr (fun _ => False) w w' := by
  by_cases hlong : 400 < l.length
  · have hl1 := hr.1
    have hl2 := hr.2.1
    unfold maxLen at hl2
    clear hr
    go_enter Try.func3, Try.ntmps3
    go_wp2_with fail
    refine (awake_any w).mono ?_
    rintro e w1 ⟨rfl, f1⟩
    go_wp2_with fail
    refine (awake_any w1).mono ?_
    rintro e w2 ⟨rfl, f2⟩
    go_wp2
    go_ret
    exact ⟨rfl, f1.trans f2⟩
  · cases rs with
    | true => exact plays_rise ao l cap w hr hlong
    | false => exact plays_any ao l cap w hr hlong
end Go.Proofs.Ytlneneacbjkheaa
