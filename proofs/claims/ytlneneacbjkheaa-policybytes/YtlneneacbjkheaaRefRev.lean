/- The document's list of rules: a rule is revoked. -/
import Derived.Test.YtlneneacbjkheaaTape
namespace Go.Proofs.Ytlneneacbjkheaa
open Go.RowKit
attribute [local go_sem] run_store_float
theorem Try.info40 : (Try.prog.info? 40).map (fun i => (i.zero, i.size, i.bytes)) = some (some (.agg #[.int .u64 0, .int .i64 0, .int .i64 0, .float .f64 0, .float .f64 0, .int .u64 0, .int .i64 0, .int .u64 0, .int .u64 0]), Enc.sz Gr, 72) := by kernel_rfl
def hit (id : Nat) (x : Gr) : Bool := decide (x.r.id = id) && decide (x.u = 0)
/-- a line of the document's, behind an end. -/
def revX (id em : Nat) (x : Gr) : Gr := if hit id x then { x with u := em } else x
theorem take_snoc {gs : List Gr} {k : Nat} (hk : k < gs.length) : gs.take (k + 1) = gs.take k ++ [gr gs k] := by
  rw [List.take_succ_eq_append_getElem hk]
  congr 1
  simp [gr, List.getD_eq_getElem?_getD, hk]
theorem any_snoc {gs : List Gr} {k : Nat} (hk : k < gs.length) (p : Gr → Bool) : (gs.take (k + 1)).any p = ((gs.take k).any p || p (gr gs k)) := by
  rw [take_snoc hk, List.any_append]; simp
theorem map_snoc {gs : List Gr} {k : Nat} (hk : k < gs.length) (f : Gr → Gr) : (gs.take (k + 1)).map f = (gs.take k).map f ++ [f (gr gs k)] := by
  rw [take_snoc hk, List.map_append]; simp
/-- one more line behind what was made, in a new world: what the append is asked, and what it leaves. -/
theorem snoc_own {w wr : World} {vo : Value} {l : List Gr} (h : OwnF wr w.heap.size 40 vo l) (f : Fr (fun _ => False) w wr) (y : Gr) :
    OwnF ((wr.alloc (.cells #[.int .u64 (y.r.id : Int), .int .i64 y.r.fr, .int .i64 y.r.tt, .float .f64 y.r.lo, .float .f64 y.r.hi, .int .u64 (y.r.au : Int), .int .i64 y.r.qu, .int .u64 (y.f : Int), .int .u64 (y.u : Int)] 40)).alloc (.cells #[.int .u64 (y.r.id : Int), .int .i64 y.r.fr, .int .i64 y.r.tt, .float .f64 y.r.lo, .float .f64 y.r.hi, .int .u64 (y.r.au : Int), .int .i64 y.r.qu, .int .u64 (y.f : Int), .int .u64 (y.u : Int)] 40)) w.heap.size 40 vo l ∧ (∀ j u, (flat [y])[j]? = some u → ((wr.alloc (.cells #[.int .u64 (y.r.id : Int), .int .i64 y.r.fr, .int .i64 y.r.tt, .float .f64 y.r.lo, .float .f64 y.r.hi, .int .u64 (y.r.au : Int), .int .i64 y.r.qu, .int .u64 (y.f : Int), .int .u64 (y.u : Int)] 40)).alloc (.cells #[.int .u64 (y.r.id : Int), .int .i64 y.r.fr, .int .i64 y.r.tt, .float .f64 y.r.lo, .float .f64 y.r.hi, .int .u64 (y.r.au : Int), .int .i64 y.r.qu, .int .u64 (y.f : Int), .int .u64 (y.u : Int)] 40)).cell? ((⟨wr.heap.size + 1, 0, none⟩ : Addr).add j) = some u) ∧ w.heap.size ≤ ((wr.alloc (.cells #[.int .u64 (y.r.id : Int), .int .i64 y.r.fr, .int .i64 y.r.tt, .float .f64 y.r.lo, .float .f64 y.r.hi, .int .u64 (y.r.au : Int), .int .i64 y.r.qu, .int .u64 (y.f : Int), .int .u64 (y.u : Int)] 40)).alloc (.cells #[.int .u64 (y.r.id : Int), .int .i64 y.r.fr, .int .i64 y.r.tt, .float .f64 y.r.lo, .float .f64 y.r.hi, .int .u64 (y.r.au : Int), .int .i64 y.r.qu, .int .u64 (y.f : Int), .int .u64 (y.u : Int)] 40)).heap.size ∧ (∀ k, vo.ownBlock = some k → w.heap.size ≤ k) := by
  refine ⟨h.fr (((Fr.refl (fun _ => False) wr).alloc _).alloc _) (by simp), ?_, ?_, fun k hk => (h.lt k hk).1⟩
  · have := one_f (wr.alloc (.cells #[.int .u64 (y.r.id : Int), .int .i64 y.r.fr, .int .i64 y.r.tt, .float .f64 y.r.lo, .float .f64 y.r.hi, .int .u64 (y.r.au : Int), .int .i64 y.r.qu, .int .u64 (y.f : Int), .int .u64 (y.u : Int)] 40)) y 40 #[.int .u64 (y.r.id : Int), .int .i64 y.r.fr, .int .i64 y.r.tt, .float .f64 y.r.lo, .float .f64 y.r.hi, .int .u64 (y.r.au : Int), .int .i64 y.r.qu, .int .u64 (y.f : Int), .int .u64 (y.u : Int)] rfl
    simpa using this
  · have := f.size
    simp; omega
set_option maxRecDepth 100000 in
set_option maxHeartbeats 4000000 in
theorem refrev_pos (ao : Option Addr) (gs : List Gr) (cap : Nat) (id : Nat) (em : Nat) (he0 : ¬ em = 0) (w : World) (hr : RowF w ao gs cap) (hlen : gs.length ≤ 100000) :
    Calls Try.prog 12 #[.slice ao gs.length cap, .int .u64 (id : Int), .int .u64 (em : Int)] w fun e w' => ∃ v', e = .returned (.tuple #[v', .bool (gs.any (hit id))]) ∧ OwnF w' w.heap.size 40 v' (gs.map (revX id em)) ∧ Fr (fun _ => False) w w' := by
  have HR : Hid (RowF w ao gs cap) := hr
  have hl3 := hr.lens
  clear hr
  have h0' : ((em : Int) == 0) = false := by simp; omega
  clear he0
  go_enter Try.func12, Try.ntmps12
  go_wp2
  go_loopw [8, 9, 10] (fun ov sv iv wr => ∃ (k : Nat) (va : Option Addr) (vc : Nat), k ≤ gs.length ∧ iv = .int .i64 (k : Int) ∧ ov = .slice va k vc ∧ sv = .bool ((gs.take k).any (hit id)) ∧ Hid (OwnF wr w.heap.size 40 (.slice va k vc) ((gs.take k).map (revX id em))) ∧ Fr (fun _ => False) w wr) (fun _ _ iv _ => gs.length - (intOf iv).toNat)
  case atStart => exact ⟨0, none, 0, Nat.zero_le _, rfl, rfl, rfl, OwnF.nil _ _ _, Fr.refl _ _⟩
  case round =>
    obtain ⟨k, va, vc, hk, rfl, rfl, rfl, HO, hfr⟩ := hrel
    have HF : Hid (Fr (fun _ => False) w wr) := hfr
    have hvl : k ≤ 9223372036854775807 ∧ vc ≤ 9223372036854775807 ∧ k ≤ vc := by
      obtain ⟨_, _, he, h⟩ := HO.out.form
      rw [List.length_map, List.length_take, Nat.min_eq_left hk] at he h
      cases he
      exact h
    clear hfr
    by_cases hlt : k < gs.length
    · obtain ⟨g, off, ha, x, HX, x0, x1, x2, x3, x4, x5, x6, x7, x8⟩ := (HR.out.fr HF.out (by simp)).gr k hlt
      subst ha
      have j1 : (0 : Int) ≤ (k : Int) := by omega
      have j2 : (k : Int) < (gs.length : Int) := by omega
      have HSN : Hid ((gs.take (k + 1)).map (revX id em) = (gs.take k).map (revX id em) ++ [revX id em x] ∧ (gs.take (k + 1)).any (hit id) = ((gs.take k).any (hit id) || hit id x)) := by
        rw [HX.out]
        exact ⟨map_snoc hlt _, any_snoc hlt _⟩
      obtain ⟨sb, Hsb⟩ : ∃ sb, Hid ((gs.take k).any (hit id) = sb) := ⟨_, rfl⟩
      obtain ⟨pre, Hpre⟩ : ∃ pre, Hid ((gs.take k).map (revX id em) = pre) := ⟨_, rfl⟩
      have HPL : Hid (pre.length = k) := by show _ = _; rw [← Hpre.out, List.length_map, List.length_take, Nat.min_eq_left hk]
      rw [Hpre.out] at HO HSN
      rw [Hsb.out]
      by_cases hh : x.r.id = id ∧ x.u = 0
      · have hb1 : ((x.r.id : Int) == (id : Int)) = true := by simp [hh.1]
        have hb2 : ((x.u : Int) == 0) = true := by simp [hh.2]
        have HH : Hid (hit id x = true) := by show _ = _; simp [hit, hh.1, hh.2]
        have HY : Hid (revX id em x = { x with u := em }) := by show _ = _; unfold revX; rw [HH.out]; rfl
        clear hh
        have HSO : Hid _ := snoc_own HO.out HF.out ({ x with u := em } : Gr)
        have hown : OwnF _ w.heap.size 40 (.slice va k vc) _ := HSO.out.1
        have HOW : Hid _ := hown
        clear hown
        go_wp2_with (at_builtin; refine wpList_append_f (α := Gr) rfl (.tmp 36) (.tmp 38) 29 40 rfl Try.underlying29 _ 72 Try.info40 rfl (by decide) w.heap.size _ _ rfl HOW.out ⟨wr.heap.size + 1, 0, none⟩ [({ x with u := em } : Gr)] 1 rfl HSO.out.2.1 HSO.out.2.2.1 (by rw [HPL.out]; simp; omega) ?_)
        intro v1 w1 ho1 hg1 hat1
        have F1 : Hid (Fr (fun _ => False) w w1) := ((HF.out.alloc _).alloc _).grown hg1 (fun j hj => .inr (HSO.out.2.2.2 j hj))
        have hlen1 : (pre ++ [({ x with u := em } : Gr)]).length = k + 1 := by rw [List.length_append, HPL.out]; rfl
        obtain ⟨a1, c1, hv1, _⟩ := ho1.form
        rw [hlen1] at hv1
        subst hv1
        have HO1 : Hid (OwnF w1 w.heap.size 40 (.slice a1 (k + 1) c1) ((gs.take (k + 1)).map (revX id em))) := by
          show OwnF _ _ _ _ _
          rw [HSN.out.1, HY.out]
          exact ho1
        have HSB : Hid ((gs.take (k + 1)).any (hit id) = true) := by
          show _ = _
          rw [HSN.out.2, Hsb.out]
          rw [HH.out, Bool.or_true]
        clear ho1 hg1 hat1 hlen1 HSO HOW HPL
        go_wp2
        go_roundw
        case rel => exact ⟨k + 1, a1, c1, by omega, by go_num, rfl, by rw [HSB.out], HO1.out, F1.out⟩
        case measure => simp [intOf]; omega
      · have HH : Hid (hit id x = false) := by
          show _ = _
          cases hc : hit id x with
          | false => rfl
          | true => simp [hit] at hc; exact absurd hc hh
        have HY : Hid (revX id em x = x) := by show _ = _; unfold revX; rw [HH.out]; rfl
        by_cases hi : x.r.id = id
        · have hb1 : ((x.r.id : Int) == (id : Int)) = true := by simp [hi]
          have hb2 : ((x.u : Int) == 0) = false := by
            have : ¬ x.u = 0 := fun e => hh ⟨hi, e⟩
            simp; omega
          clear hh hi
          have HSO : Hid _ := snoc_own HO.out HF.out x
          have hown : OwnF _ w.heap.size 40 (.slice va k vc) _ := HSO.out.1
          have HOW : Hid _ := hown
          clear hown
          go_wp2_with (at_builtin; refine wpList_append_f (α := Gr) rfl (.tmp 36) (.tmp 38) 29 40 rfl Try.underlying29 _ 72 Try.info40 rfl (by decide) w.heap.size _ _ rfl HOW.out ⟨wr.heap.size + 1, 0, none⟩ [x] 1 rfl HSO.out.2.1 HSO.out.2.2.1 (by rw [HPL.out]; simp; omega) ?_)
          intro v1 w1 ho1 hg1 hat1
          have F1 : Hid (Fr (fun _ => False) w w1) := ((HF.out.alloc _).alloc _).grown hg1 (fun j hj => .inr (HSO.out.2.2.2 j hj))
          have hlen1 : (pre ++ [x]).length = k + 1 := by rw [List.length_append, HPL.out]; rfl
          obtain ⟨a1, c1, hv1, _⟩ := ho1.form
          rw [hlen1] at hv1
          subst hv1
          have HO1 : Hid (OwnF w1 w.heap.size 40 (.slice a1 (k + 1) c1) ((gs.take (k + 1)).map (revX id em))) := by
            show OwnF _ _ _ _ _
            rw [HSN.out.1, HY.out]
            exact ho1
          have HSB : Hid ((gs.take (k + 1)).any (hit id) = sb) := by
            show _ = _
            rw [HSN.out.2, Hsb.out]
            rw [HH.out, Bool.or_false]
          clear ho1 hg1 hat1 hlen1 HSO HOW HPL
          go_wp2
          go_roundw
          case rel => exact ⟨k + 1, a1, c1, by omega, by go_num, rfl, by rw [HSB.out], HO1.out, F1.out⟩
          case measure => simp [intOf]; omega
        · have hb1 : ((x.r.id : Int) == (id : Int)) = false := by simp; omega
          clear hh hi
          have HSO : Hid _ := snoc_own HO.out HF.out x
          have hown : OwnF _ w.heap.size 40 (.slice va k vc) _ := HSO.out.1
          have HOW : Hid _ := hown
          clear hown
          go_wp2_with (at_builtin; refine wpList_append_f (α := Gr) rfl (.tmp 36) (.tmp 38) 29 40 rfl Try.underlying29 _ 72 Try.info40 rfl (by decide) w.heap.size _ _ rfl HOW.out ⟨wr.heap.size + 1, 0, none⟩ [x] 1 rfl HSO.out.2.1 HSO.out.2.2.1 (by rw [HPL.out]; simp; omega) ?_)
          intro v1 w1 ho1 hg1 hat1
          have F1 : Hid (Fr (fun _ => False) w w1) := ((HF.out.alloc _).alloc _).grown hg1 (fun j hj => .inr (HSO.out.2.2.2 j hj))
          have hlen1 : (pre ++ [x]).length = k + 1 := by rw [List.length_append, HPL.out]; rfl
          obtain ⟨a1, c1, hv1, _⟩ := ho1.form
          rw [hlen1] at hv1
          subst hv1
          have HO1 : Hid (OwnF w1 w.heap.size 40 (.slice a1 (k + 1) c1) ((gs.take (k + 1)).map (revX id em))) := by
            show OwnF _ _ _ _ _
            rw [HSN.out.1, HY.out]
            exact ho1
          have HSB : Hid ((gs.take (k + 1)).any (hit id) = sb) := by
            show _ = _
            rw [HSN.out.2, Hsb.out]
            rw [HH.out, Bool.or_false]
          clear ho1 hg1 hat1 hlen1 HSO HOW HPL
          go_wp2
          go_roundw
          case rel => exact ⟨k + 1, a1, c1, by omega, by go_num, rfl, by rw [HSB.out], HO1.out, F1.out⟩
          case measure => simp [intOf]; omega
    · have hk' : k = gs.length := by omega
      subst hk'
      have j2 : ¬ (gs.length : Int) < (gs.length : Int) := by omega
      have HT : Hid (gs.take gs.length = gs) := List.take_length
      rw [HT.out] at HO ⊢
      go_wp2
      go_ret2
      exact ⟨_, rfl, HO.out, HF.out⟩
set_option maxRecDepth 100000 in
set_option maxHeartbeats 4000000 in
theorem refrev_0 (ao : Option Addr) (gs : List Gr) (cap : Nat) (id : Nat) (w : World) (hr : RowF w ao gs cap) (hlen : gs.length ≤ 100000) :
    Calls Try.prog 12 #[.slice ao gs.length cap, .int .u64 (id : Int), .int .u64 0] w fun e w' => ∃ v', e = .returned (.tuple #[v', .bool (gs.any (hit id))]) ∧ OwnF w' w.heap.size 40 v' (gs.map (revX id 1)) ∧ Fr (fun _ => False) w w' := by
  have HR : Hid (RowF w ao gs cap) := hr
  have hl3 := hr.lens
  clear hr
  go_enter Try.func12, Try.ntmps12
  go_wp2
  go_loopw [8, 9, 10] (fun ov sv iv wr => ∃ (k : Nat) (va : Option Addr) (vc : Nat), k ≤ gs.length ∧ iv = .int .i64 (k : Int) ∧ ov = .slice va k vc ∧ sv = .bool ((gs.take k).any (hit id)) ∧ Hid (OwnF wr w.heap.size 40 (.slice va k vc) ((gs.take k).map (revX id 1))) ∧ Fr (fun _ => False) w wr) (fun _ _ iv _ => gs.length - (intOf iv).toNat)
  case atStart => exact ⟨0, none, 0, Nat.zero_le _, rfl, rfl, rfl, OwnF.nil _ _ _, Fr.refl _ _⟩
  case round =>
    obtain ⟨k, va, vc, hk, rfl, rfl, rfl, HO, hfr⟩ := hrel
    have HF : Hid (Fr (fun _ => False) w wr) := hfr
    have hvl : k ≤ 9223372036854775807 ∧ vc ≤ 9223372036854775807 ∧ k ≤ vc := by
      obtain ⟨_, _, he, h⟩ := HO.out.form
      rw [List.length_map, List.length_take, Nat.min_eq_left hk] at he h
      cases he
      exact h
    clear hfr
    by_cases hlt : k < gs.length
    · obtain ⟨g, off, ha, x, HX, x0, x1, x2, x3, x4, x5, x6, x7, x8⟩ := (HR.out.fr HF.out (by simp)).gr k hlt
      subst ha
      have j1 : (0 : Int) ≤ (k : Int) := by omega
      have j2 : (k : Int) < (gs.length : Int) := by omega
      have HSN : Hid ((gs.take (k + 1)).map (revX id 1) = (gs.take k).map (revX id 1) ++ [revX id 1 x] ∧ (gs.take (k + 1)).any (hit id) = ((gs.take k).any (hit id) || hit id x)) := by
        rw [HX.out]
        exact ⟨map_snoc hlt _, any_snoc hlt _⟩
      obtain ⟨sb, Hsb⟩ : ∃ sb, Hid ((gs.take k).any (hit id) = sb) := ⟨_, rfl⟩
      obtain ⟨pre, Hpre⟩ : ∃ pre, Hid ((gs.take k).map (revX id 1) = pre) := ⟨_, rfl⟩
      have HPL : Hid (pre.length = k) := by show _ = _; rw [← Hpre.out, List.length_map, List.length_take, Nat.min_eq_left hk]
      rw [Hpre.out] at HO HSN
      rw [Hsb.out]
      by_cases hh : x.r.id = id ∧ x.u = 0
      · have hb1 : ((x.r.id : Int) == (id : Int)) = true := by simp [hh.1]
        have hb2 : ((x.u : Int) == 0) = true := by simp [hh.2]
        have HH : Hid (hit id x = true) := by show _ = _; simp [hit, hh.1, hh.2]
        have HY : Hid (revX id 1 x = { x with u := 1 }) := by show _ = _; unfold revX; rw [HH.out]; rfl
        clear hh
        have HSO : Hid _ := snoc_own HO.out HF.out ({ x with u := 1 } : Gr)
        have hown : OwnF _ w.heap.size 40 (.slice va k vc) _ := HSO.out.1
        have HOW : Hid _ := hown
        clear hown
        go_wp2_with (at_builtin; refine wpList_append_f (α := Gr) rfl (.tmp 36) (.tmp 38) 29 40 rfl Try.underlying29 _ 72 Try.info40 rfl (by decide) w.heap.size _ _ rfl HOW.out ⟨wr.heap.size + 1, 0, none⟩ [({ x with u := 1 } : Gr)] 1 rfl HSO.out.2.1 HSO.out.2.2.1 (by rw [HPL.out]; simp; omega) ?_)
        intro v1 w1 ho1 hg1 hat1
        have F1 : Hid (Fr (fun _ => False) w w1) := ((HF.out.alloc _).alloc _).grown hg1 (fun j hj => .inr (HSO.out.2.2.2 j hj))
        have hlen1 : (pre ++ [({ x with u := 1 } : Gr)]).length = k + 1 := by rw [List.length_append, HPL.out]; rfl
        obtain ⟨a1, c1, hv1, _⟩ := ho1.form
        rw [hlen1] at hv1
        subst hv1
        have HO1 : Hid (OwnF w1 w.heap.size 40 (.slice a1 (k + 1) c1) ((gs.take (k + 1)).map (revX id 1))) := by
          show OwnF _ _ _ _ _
          rw [HSN.out.1, HY.out]
          exact ho1
        have HSB : Hid ((gs.take (k + 1)).any (hit id) = true) := by
          show _ = _
          rw [HSN.out.2, Hsb.out]
          rw [HH.out, Bool.or_true]
        clear ho1 hg1 hat1 hlen1 HSO HOW HPL
        go_wp2
        go_roundw
        case rel => exact ⟨k + 1, a1, c1, by omega, by go_num, rfl, by rw [HSB.out], HO1.out, F1.out⟩
        case measure => simp [intOf]; omega
      · have HH : Hid (hit id x = false) := by
          show _ = _
          cases hc : hit id x with
          | false => rfl
          | true => simp [hit] at hc; exact absurd hc hh
        have HY : Hid (revX id 1 x = x) := by show _ = _; unfold revX; rw [HH.out]; rfl
        by_cases hi : x.r.id = id
        · have hb1 : ((x.r.id : Int) == (id : Int)) = true := by simp [hi]
          have hb2 : ((x.u : Int) == 0) = false := by
            have : ¬ x.u = 0 := fun e => hh ⟨hi, e⟩
            simp; omega
          clear hh hi
          have HSO : Hid _ := snoc_own HO.out HF.out x
          have hown : OwnF _ w.heap.size 40 (.slice va k vc) _ := HSO.out.1
          have HOW : Hid _ := hown
          clear hown
          go_wp2_with (at_builtin; refine wpList_append_f (α := Gr) rfl (.tmp 36) (.tmp 38) 29 40 rfl Try.underlying29 _ 72 Try.info40 rfl (by decide) w.heap.size _ _ rfl HOW.out ⟨wr.heap.size + 1, 0, none⟩ [x] 1 rfl HSO.out.2.1 HSO.out.2.2.1 (by rw [HPL.out]; simp; omega) ?_)
          intro v1 w1 ho1 hg1 hat1
          have F1 : Hid (Fr (fun _ => False) w w1) := ((HF.out.alloc _).alloc _).grown hg1 (fun j hj => .inr (HSO.out.2.2.2 j hj))
          have hlen1 : (pre ++ [x]).length = k + 1 := by rw [List.length_append, HPL.out]; rfl
          obtain ⟨a1, c1, hv1, _⟩ := ho1.form
          rw [hlen1] at hv1
          subst hv1
          have HO1 : Hid (OwnF w1 w.heap.size 40 (.slice a1 (k + 1) c1) ((gs.take (k + 1)).map (revX id 1))) := by
            show OwnF _ _ _ _ _
            rw [HSN.out.1, HY.out]
            exact ho1
          have HSB : Hid ((gs.take (k + 1)).any (hit id) = sb) := by
            show _ = _
            rw [HSN.out.2, Hsb.out]
            rw [HH.out, Bool.or_false]
          clear ho1 hg1 hat1 hlen1 HSO HOW HPL
          go_wp2
          go_roundw
          case rel => exact ⟨k + 1, a1, c1, by omega, by go_num, rfl, by rw [HSB.out], HO1.out, F1.out⟩
          case measure => simp [intOf]; omega
        · have hb1 : ((x.r.id : Int) == (id : Int)) = false := by simp; omega
          clear hh hi
          have HSO : Hid _ := snoc_own HO.out HF.out x
          have hown : OwnF _ w.heap.size 40 (.slice va k vc) _ := HSO.out.1
          have HOW : Hid _ := hown
          clear hown
          go_wp2_with (at_builtin; refine wpList_append_f (α := Gr) rfl (.tmp 36) (.tmp 38) 29 40 rfl Try.underlying29 _ 72 Try.info40 rfl (by decide) w.heap.size _ _ rfl HOW.out ⟨wr.heap.size + 1, 0, none⟩ [x] 1 rfl HSO.out.2.1 HSO.out.2.2.1 (by rw [HPL.out]; simp; omega) ?_)
          intro v1 w1 ho1 hg1 hat1
          have F1 : Hid (Fr (fun _ => False) w w1) := ((HF.out.alloc _).alloc _).grown hg1 (fun j hj => .inr (HSO.out.2.2.2 j hj))
          have hlen1 : (pre ++ [x]).length = k + 1 := by rw [List.length_append, HPL.out]; rfl
          obtain ⟨a1, c1, hv1, _⟩ := ho1.form
          rw [hlen1] at hv1
          subst hv1
          have HO1 : Hid (OwnF w1 w.heap.size 40 (.slice a1 (k + 1) c1) ((gs.take (k + 1)).map (revX id 1))) := by
            show OwnF _ _ _ _ _
            rw [HSN.out.1, HY.out]
            exact ho1
          have HSB : Hid ((gs.take (k + 1)).any (hit id) = sb) := by
            show _ = _
            rw [HSN.out.2, Hsb.out]
            rw [HH.out, Bool.or_false]
          clear ho1 hg1 hat1 hlen1 HSO HOW HPL
          go_wp2
          go_roundw
          case rel => exact ⟨k + 1, a1, c1, by omega, by go_num, rfl, by rw [HSB.out], HO1.out, F1.out⟩
          case measure => simp [intOf]; omega
    · have hk' : k = gs.length := by omega
      subst hk'
      have j2 : ¬ (gs.length : Int) < (gs.length : Int) := by omega
      have HT : Hid (gs.take gs.length = gs) := List.take_length
      rw [HT.out] at HO ⊢
      go_wp2
      go_ret2
      exact ⟨_, rfl, HO.out, HF.out⟩
theorem refrev_any (ao : Option Addr) (gs : List Gr) (cap : Nat) (id ep : Nat) (w : World) (hr : RowF w ao gs cap) (hlen : gs.length ≤ 100000) :
    Calls Try.prog 12 #[.slice ao gs.length cap, .int .u64 (id : Int), .int .u64 (ep : Int)] w fun e w' => ∃ v', e = .returned (.tuple #[v', .bool (gs.any (hit id))]) ∧ OwnF w' w.heap.size 40 v' (gs.map (revX id (max ep 1))) ∧ Fr (fun _ => False) w w' := by
  by_cases h0 : ep = 0
  · subst h0
    exact refrev_0 ao gs cap id w hr hlen
  · rw [show max ep 1 = ep by omega]
    exact refrev_pos ao gs cap id ep h0 w hr hlen
end Go.Proofs.Ytlneneacbjkheaa
