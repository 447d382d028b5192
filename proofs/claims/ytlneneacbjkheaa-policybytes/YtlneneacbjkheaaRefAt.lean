/- The document's list of rules: which one holds. -/
import Derived.Test.YtlneneacbjkheaaRefRev
namespace Go.Proofs.Ytlneneacbjkheaa
open Go.RowKit
attribute [local go_sem] run_store_float
/-- the rule that is told: the one that was found, or none. -/
def tell (gs : List Gr) (n : Nat) (ok : Bool) : Rl := if ok then (gr gs n).r else ⟨0, 0, 0, 0, 0, 0, 0⟩
/-- a rule in a box. -/
structure Bx (w : World) (c : Nat) (x : Rl) : Prop where
  c0 : w.cell? ⟨c, 0, none⟩ = some (.int .u64 (x.id : Int))
  c1 : w.cell? ⟨c, 1, none⟩ = some (.int .i64 x.fr)
  c2 : w.cell? ⟨c, 2, none⟩ = some (.int .i64 x.tt)
  c3 : w.cell? ⟨c, 3, none⟩ = some (.float .f64 x.lo)
  c4 : w.cell? ⟨c, 4, none⟩ = some (.float .f64 x.hi)
  c5 : w.cell? ⟨c, 5, none⟩ = some (.int .u64 (x.au : Int))
  c6 : w.cell? ⟨c, 6, none⟩ = some (.int .i64 x.qu)
  z : ∀ i, w.frozen? ⟨c, i, none⟩ = false
theorem Bx.lt {w : World} {c : Nat} {x : Rl} (h : Bx w c x) : c < w.heap.size := World.block_lt_of_cell? _ _ h.c0
theorem Bx.fr {S : Nat → Prop} {w w1 : World} {c : Nat} {x : Rl} (h : Bx w c x) (f : Fr S w w1) (hs : ¬ S c) : Bx w1 c x :=
  ⟨f.cell h.c0 hs, f.cell h.c1 hs, f.cell h.c2 hs, f.cell h.c3 hs, f.cell h.c4 hs, f.cell h.c5 hs, f.cell h.c6 hs, fun i => (f.frozenEq (a := ⟨c, i, none⟩) h.lt hs).trans (h.z i)⟩
theorem Bx.new (w : World) (x : Rl) : Bx (w.alloc (.cells #[.int .u64 (x.id : Int), .int .i64 x.fr, .int .i64 x.tt, .float .f64 x.lo, .float .f64 x.hi, .int .u64 (x.au : Int), .int .i64 x.qu] 34)) w.heap.size x := by
  refine ⟨?_, ?_, ?_, ?_, ?_, ?_, ?_, fun i => ?_⟩ <;> simp
/-- seven cells of a box written over. -/
theorem Bx.put {w : World} {c : Nat} {x : Rl} (h : Bx w c x) (y : Rl) :
    Bx (((((((w.setCell ⟨c, 0, none⟩ (.int .u64 (y.id : Int))).setCell ⟨c, 1, none⟩ (.int .i64 y.fr)).setCell ⟨c, 2, none⟩ (.int .i64 y.tt)).setCell ⟨c, 3, none⟩ (.float .f64 y.lo)).setCell ⟨c, 4, none⟩ (.float .f64 y.hi)).setCell ⟨c, 5, none⟩ (.int .u64 (y.au : Int))).setCell ⟨c, 6, none⟩ (.int .i64 y.qu)) c y ∧ Fr (fun k => k = c) w (((((((w.setCell ⟨c, 0, none⟩ (.int .u64 (y.id : Int))).setCell ⟨c, 1, none⟩ (.int .i64 y.fr)).setCell ⟨c, 2, none⟩ (.int .i64 y.tt)).setCell ⟨c, 3, none⟩ (.float .f64 y.lo)).setCell ⟨c, 4, none⟩ (.float .f64 y.hi)).setCell ⟨c, 5, none⟩ (.int .u64 (y.au : Int))).setCell ⟨c, 6, none⟩ (.int .i64 y.qu)) := by
  obtain ⟨⟨e0, e1, e2, e3, e4, e5, e6⟩, fs⟩ := seven w c (.int .u64 (y.id : Int)) (.int .i64 y.fr) (.int .i64 y.tt) (.float .f64 y.lo) (.float .f64 y.hi) (.int .u64 (y.au : Int)) (.int .i64 y.qu) (fun i hi => by
    match i, hi with
    | 0, _ => rw [h.c0]; rfl
    | 1, _ => rw [h.c1]; rfl
    | 2, _ => rw [h.c2]; rfl
    | 3, _ => rw [h.c3]; rfl
    | 4, _ => rw [h.c4]; rfl
    | 5, _ => rw [h.c5]; rfl
    | 6, _ => rw [h.c6]; rfl)
  exact ⟨⟨e0, e1, e2, e3, e4, e5, e6, fun i => by simpa using h.z i⟩, fs⟩
theorem last_take_none (gs : List Gr) (q : Gr → Bool) : LastAt (gs.take 0) q 0 false := .inr ⟨rfl, rfl, fun j hj => by simp at hj⟩
theorem gr_take {gs : List Gr} {k j : Nat} (h : j < k) : gr (gs.take k) j = gr gs j := by
  simp [gr, List.getD_eq_getElem?_getD, h]
theorem last_take_yes {gs : List Gr} {q : Gr → Bool} {k : Nat} (hk : k < gs.length) (h : q (gr gs k) = true) : LastAt (gs.take (k + 1)) q k true := by
  refine .inl ⟨rfl, by simp; omega, by rw [gr_take (by omega)]; exact h, fun j h1 h2 => by simp at h2; omega⟩
theorem last_take_no {gs : List Gr} {q : Gr → Bool} {k n : Nat} {ok : Bool} (hk : k < gs.length) (h : q (gr gs k) = false) (hl : LastAt (gs.take k) q n ok) : LastAt (gs.take (k + 1)) q n ok := by
  have key : ∀ j, j < (gs.take (k + 1)).length → j ≠ k → j < (gs.take k).length ∧ gr (gs.take (k + 1)) j = gr (gs.take k) j := fun j hj hne => by
    have h1 : j < k := by simp at hj; omega
    exact ⟨by simp; omega, by rw [gr_take (by omega), gr_take h1]⟩
  rcases hl with ⟨rfl, h1, h2, h3⟩ | ⟨rfl, rfl, h3⟩
  · have hn : n < k := by simp at h1; omega
    refine .inl ⟨rfl, by simp; omega, by rw [gr_take (by omega)]; rw [gr_take hn] at h2; exact h2, fun j h4 h5 => ?_⟩
    by_cases hj : j = k
    · subst hj; rw [gr_take (by omega)]; exact h
    · obtain ⟨h6, h7⟩ := key j h5 hj
      rw [h7]; exact h3 j h4 h6
  · refine .inr ⟨rfl, rfl, fun j h5 => ?_⟩
    by_cases hj : j = k
    · subst hj; rw [gr_take (by omega)]; exact h
    · obtain ⟨h6, h7⟩ := key j h5 hj
      rw [h7]; exact h3 j h6
set_option maxRecDepth 100000 in
set_option maxHeartbeats 4000000 in
theorem refat_any (ao : Option Addr) (gs : List Gr) (cap : Nat) (id ep : Nat) (w : World) (hr : RowF w ao gs cap) (n : Nat) (ok : Bool) (hL : LastAt gs (fun y => decide (y.r.id = id) && y.within ep) n ok) :
    Calls Try.prog 25 #[.slice ao gs.length cap, .int .u64 (id : Int), .int .u64 (ep : Int)] w fun e w' => e = .returned (.tuple #[.agg #[.int .u64 ((tell gs n ok).id : Int), .int .i64 (tell gs n ok).fr, .int .i64 (tell gs n ok).tt, .float .f64 (tell gs n ok).lo, .float .f64 (tell gs n ok).hi, .int .u64 ((tell gs n ok).au : Int), .int .i64 (tell gs n ok).qu], .bool ok]) ∧ Fr (fun _ => False) w w' := by
  have HR : Hid (RowF w ao gs cap) := hr
  have hl3 := hr.lens
  have HL : Hid (LastAt gs (fun y => decide (y.r.id = id) && y.within ep) n ok) := hL
  obtain ⟨W0, HW0⟩ : ∃ W0, Hid (W0 = (w.alloc (.cells #[.int .u64 0, .int .i64 0, .int .i64 0, .float .f64 0, .float .f64 0, .int .u64 0, .int .i64 0] 34)).alloc (.cells #[.int .u64 0, .int .i64 0, .int .i64 0, .float .f64 0, .float .f64 0, .int .u64 0, .int .i64 0] 34)) := ⟨_, rfl⟩
  have HB6 : Hid (Bx W0 w.heap.size ⟨0, 0, 0, 0, 0, 0, 0⟩) := by
    show Bx _ _ _
    rw [HW0.out]
    exact (Bx.new w ⟨0, 0, 0, 0, 0, 0, 0⟩).fr ((Fr.refl (fun _ => False) _).alloc _) (by simp)
  have HB8 : Hid (Bx W0 (w.heap.size + 1) ⟨0, 0, 0, 0, 0, 0, 0⟩) := by
    show Bx _ _ _
    rw [HW0.out]
    have := Bx.new (w.alloc (.cells #[.int .u64 0, .int .i64 0, .int .i64 0, .float .f64 0, .float .f64 0, .int .u64 0, .int .i64 0] 34)) ⟨0, 0, 0, 0, 0, 0, 0⟩
    simpa using this
  have HF0 : Hid (Fr (fun _ => False) w W0) := by
    show Fr _ _ _
    rw [HW0.out]
    exact ((Fr.refl _ _).alloc _).alloc _
  obtain ⟨rb, Hrb⟩ : ∃ rb, Hid (w.heap.size + 1 = rb) := ⟨_, rfl⟩
  clear hr hL
  go_enter Try.func25, Try.ntmps25
  go_wp2
  rw [← HW0.out, Hrb.out]
  rw [Hrb.out] at HB8
  go_loopw [9, 10] (fun sv iv wr => ∃ (k m : Nat) (o : Bool), k ≤ gs.length ∧ iv = .int .i64 (k : Int) ∧ sv = .bool o ∧ Hid (LastAt (gs.take k) (fun y => decide (y.r.id = id) && y.within ep) m o) ∧ Hid (Bx wr rb (tell gs m o)) ∧ Fr (fun k => k = rb) W0 wr) (fun _ iv _ => gs.length - (intOf iv).toNat)
  case atStart => exact ⟨0, 0, false, Nat.zero_le _, rfl, rfl, last_take_none _ _, HB8.out, Fr.refl _ _⟩
  case round =>
    obtain ⟨k, m, o, hk, rfl, rfl, HLk, HB, hfr⟩ := hrel
    have HF : Hid (Fr (fun k => k = rb) W0 wr) := hfr
    have HFW : Hid (Fr (fun _ => False) w wr) := HF0.out.trans' hfr (fun i hi e => by have := Hrb.out; omega)
    clear hfr
    by_cases hlt : k < gs.length
    · obtain ⟨g, off, ha, x, HX, x0, x1, x2, x3, x4, x5, x6, x7, x8⟩ := (HR.out.fr HFW.out (by simp)).gr k hlt
      subst ha
      have j1 : (0 : Int) ≤ (k : Int) := by omega
      have j2 : (k : Int) < (gs.length : Int) := by omega
      have HNO : Hid ((decide (x.r.id = id) && x.within ep) = false → LastAt (gs.take (k + 1)) (fun y => decide (y.r.id = id) && y.within ep) m o) := fun h => last_take_no hlt (by rw [HX.out] at h; exact h) HLk.out
      have HYES : Hid ((decide (x.r.id = id) && x.within ep) = true → LastAt (gs.take (k + 1)) (fun y => decide (y.r.id = id) && y.within ep) k true) := fun h => last_take_yes hlt (by rw [HX.out] at h; exact h)
      by_cases hi : x.r.id = id
      case neg =>
        have hb1 : ((x.r.id : Int) == (id : Int)) = false := by simp; omega
        have HV : Hid ((decide (x.r.id = id) && x.within ep) = false) := by show _ = _; simp [hi]
        clear hi
        go_wp2
        go_roundw
        case rel => exact ⟨k + 1, m, o, by omega, by go_num, rfl, HNO.out HV.out, HB.out, HF.out⟩
        case measure => simp [intOf]; omega
      have hb1 : ((x.r.id : Int) == (id : Int)) = true := by simp [hi]
      have HI : Hid (x.r.id = id) := hi
      clear hi
      by_cases hf : x.f ≤ ep
      case neg =>
        have hb2 : decide ((x.f : Int) ≤ (ep : Int)) = false := by simp; omega
        have HV : Hid ((decide (x.r.id = id) && x.within ep) = false) := by show _ = _; simp [HI.out, Gr.within, hf]
        go_wp2
        go_roundw
        case rel => exact ⟨k + 1, m, o, by omega, by go_num, rfl, HNO.out HV.out, HB.out, HF.out⟩
        case measure => simp [intOf]; omega
      have HFF : Hid (x.f ≤ ep) := hf
      have hf2 : (x.f : Int) ≤ (ep : Int) := by omega
      have hyes : (decide (x.r.id = id) && x.within ep) = true → Bx wr rb (tell gs m o) → (∀ W, W = (((((((wr.setCell ⟨rb, 0, none⟩ (.int .u64 (x.r.id : Int))).setCell ⟨rb, 1, none⟩ (.int .i64 x.r.fr)).setCell ⟨rb, 2, none⟩ (.int .i64 x.r.tt)).setCell ⟨rb, 3, none⟩ (.float .f64 x.r.lo)).setCell ⟨rb, 4, none⟩ (.float .f64 x.r.hi)).setCell ⟨rb, 5, none⟩ (.int .u64 (x.r.au : Int))).setCell ⟨rb, 6, none⟩ (.int .i64 x.r.qu)) → Hid (LastAt (gs.take (k + 1)) (fun y => decide (y.r.id = id) && y.within ep) k true) ∧ Hid (Bx W rb (tell gs k true)) ∧ Fr (fun k => k = rb) W0 W) := by
        rintro h1 h2 W rfl
        obtain ⟨h3, h4⟩ := h2.put x.r
        have ht : tell gs k true = x.r := by rw [HX.out]; rfl
        exact ⟨HYES.out h1, by show Bx _ _ _; rw [ht]; exact h3, HF.out.trans h4⟩
      have HY : Hid _ := hyes
      have d0 := HB.out.c0
      have d1 := HB.out.c1
      have d2 := HB.out.c2
      have d3 := HB.out.c3
      have d4 := HB.out.c4
      have d5 := HB.out.c5
      have d6 := HB.out.c6
      have dz := HB.out.z
      clear hf hyes
      by_cases hu : x.u = 0
      · have hb3 : ((x.u : Int) == 0) = true := by simp [hu]
        have HV : Hid ((decide (x.r.id = id) && x.within ep) = true) := by show _ = _; simp [HI.out, Gr.within, hu, HFF.out]
        clear hu
        go_wp2
        go_roundw
        case rel =>
          obtain ⟨h1, h2, h3⟩ := HY.out HV.out HB.out _ rfl
          exact ⟨k + 1, k, true, by omega, by go_num, rfl, h1, h2, h3⟩
        case measure => simp [intOf]; omega
      · have hb3 : ((x.u : Int) == 0) = false := by simp; omega
        by_cases hlt2 : ep < x.u
        · have hb4 : (ep : Int) < (x.u : Int) := by omega
          have HV : Hid ((decide (x.r.id = id) && x.within ep) = true) := by show _ = _; simp [HI.out, Gr.within, hlt2, HFF.out]
          clear hu hlt2
          go_wp2
          go_roundw
          case rel =>
            obtain ⟨h1, h2, h3⟩ := HY.out HV.out HB.out _ rfl
            exact ⟨k + 1, k, true, by omega, by go_num, rfl, h1, h2, h3⟩
          case measure => simp [intOf]; omega
        · have hb4 : ¬ (ep : Int) < (x.u : Int) := by omega
          have hb5 : (x.u : Int) ≤ (ep : Int) := by omega
          have HV : Hid ((decide (x.r.id = id) && x.within ep) = false) := by show _ = _; simp [HI.out, Gr.within, hlt2, HFF.out]; omega
          clear hu hlt2 d0 d1 d2 d3 d4 d5 d6 dz
          go_wp2
          go_roundw
          case rel => exact ⟨k + 1, m, o, by omega, by go_num, rfl, HNO.out HV.out, HB.out, HF.out⟩
          case measure => simp [intOf]; omega
    · have hk' : k = gs.length := by omega
      subst hk'
      have j2 : ¬ (gs.length : Int) < (gs.length : Int) := by omega
      have hl := HLk.out
      rw [List.take_length] at hl
      obtain ⟨rfl, rfl⟩ := lastAt_uniq hl HL.out
      have HB6r : Hid (Bx wr w.heap.size ⟨0, 0, 0, 0, 0, 0, 0⟩) := HB6.out.fr HF.out (by have := Hrb.out; omega)
      obtain ⟨d0, d1, d2, d3, d4, d5, d6, dz⟩ := HB.out
      obtain ⟨b0, b1, b2, b3, b4, b5, b6, bz⟩ := HB6r.out
      have HP : Hid _ := HB6r.out.put (tell gs m o)
      have hres : ∀ W, Bx W w.heap.size (tell gs m o) → (results Try.f25 #[.slice ao gs.length cap]).run Try.prog W = (results Try.f25 #[.slice ao gs.length cap]).run Try.prog W := fun _ _ => rfl
      clear hl HLk HB HB6r hres
      go_wp2
      obtain ⟨⟨e0, e1, e2, e3, e4, e5, e6, _⟩, fs⟩ := HP.out
      refine bodyPost_ret (v := .tuple #[.agg #[.int .u64 ((tell gs m o).id : Int), .int .i64 (tell gs m o).fr, .int .i64 (tell gs m o).tt, .float .f64 (tell gs m o).lo, .float .f64 (tell gs m o).hi, .int .u64 ((tell gs m o).au : Int), .int .i64 (tell gs m o).qu], .bool o]) ?_ rfl ⟨rfl, HFW.out.trans' fs (fun i hi e => by omega)⟩
      generalize (((((((wr.setCell ⟨w.heap.size, 0, none⟩ (.int .u64 ((tell gs m o).id : Int))).setCell ⟨w.heap.size, 1, none⟩ (.int .i64 (tell gs m o).fr)).setCell ⟨w.heap.size, 2, none⟩ (.int .i64 (tell gs m o).tt)).setCell ⟨w.heap.size, 3, none⟩ (.float .f64 (tell gs m o).lo)).setCell ⟨w.heap.size, 4, none⟩ (.float .f64 (tell gs m o).hi)).setCell ⟨w.heap.size, 5, none⟩ (.int .u64 ((tell gs m o).au : Int))).setCell ⟨w.heap.size, 6, none⟩ (.int .i64 (tell gs m o).qu)) = W at *
      simp [results, Try.results25, go_sem, *]
end Go.Proofs.Ytlneneacbjkheaa
