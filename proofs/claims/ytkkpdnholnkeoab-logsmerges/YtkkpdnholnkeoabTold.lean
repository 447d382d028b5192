/- Who votes, by what is told up to an index. -/
import Derived.Test.YtkkpdnholnkeoabBack
namespace Go.Proofs.Ytkkpdnholnkeoab
open Go.RowKit Go.Shelf
attribute [local go_sem] Oper.semAt_some

/-- does an entry tell who votes, up to an index? -/
def hit (upTo : Nat) (x : En) : Bool := decide (x.k = 1) && decide (x.i ≤ upTo)
def hitAt (es : List En) (upTo : Nat) (k : Fin es.length) : Bool := hit upTo es[k.val]
/-- who votes, and by which entry. -/
def vtold (base voters : Nat) (es : List En) (upTo : Nat) : Nat × Nat :=
  match es.reverse.find? (hit upTo) with
  | some x => (mask x.d, x.i)
  | none => (voters, base)
theorem dn_map (es : List En) : (dn es.length 0).map (fun k => es[k.val]) = es.reverse := by
  unfold dn
  rw [List.drop_zero, List.map_reverse]
  congr 1
  apply List.ext_getElem
  · simp
  · intro i h1 h2; simp
theorem dn_prefix (L m : Nat) : dn L m <+: dn L 0 := by
  unfold dn
  rw [List.drop_zero]
  exact List.reverse_prefix.2 (List.drop_suffix m _)
theorem vtold_none (base voters : Nat) (es : List En) (upTo : Nat) (h : ∀ k ∈ dn es.length 0, hitAt es upTo k = false) : vtold base voters es upTo = (voters, base) := by
  unfold vtold
  rw [← dn_map, List.find?_map, List.find?_eq_none.2 (fun k hk => by have := h k hk; simpa [hitAt] using this)]
  rfl
theorem vtold_some (base voters : Nat) (es : List En) (upTo m : Nat) (pre : List (Fin es.length)) (k : Fin es.length) (e : pre ++ [k] = dn es.length m) (h : ∀ j ∈ pre, hitAt es upTo j = false) (hk : hitAt es upTo k = true) : vtold base voters es upTo = (mask es[k.val].d, es[k.val].i) := by
  obtain ⟨r, hr⟩ := dn_prefix es.length m
  unfold vtold
  rw [← dn_map, List.find?_map, ← hr, ← e, List.find?_append, List.find?_append, List.find?_eq_none.2 (fun j hj => by have := h j hj; simpa [hitAt] using this)]
  have : hit upTo es[k.val] = true := hk
  simp [this]
/-- an entry's box. -/
def Box36 (W : World) (B : Nat) (x : En) : Prop := W.heap[B]? = some (.cells #[.int .u64 (x.i : Int), .int .u64 (x.t : Int), .int .u8 (x.k : Int), .slice x.a x.d.length x.c] 36 (0, 0))
theorem Box36.cells {W : World} {B : Nat} {x : En} (h : Box36 W B x) : W.cell? ⟨B, 0, none⟩ = some (.int .u64 (x.i : Int)) ∧ W.cell? ⟨B, 2, none⟩ = some (.int .u8 (x.k : Int)) ∧ W.cell? ⟨B, 3, none⟩ = some (.slice x.a x.d.length x.c) := by
  refine ⟨?_, ?_, ?_⟩ <;> simp [World.cell?, show W.heap[B]? = _ from h]
theorem Box36.kept {W W' : World} {B : Nat} {x : En} {row : Option Nat} (h : Box36 W B x) (hg : W.grownBy W' row) (hr : ∀ r, row = some r → ∃ o : Obj, W.heap[r]? = some o ∧ o.isCells = false) : Box36 W' B x :=
  (hg.block B (Array.getElem?_eq_some_iff.1 h).1 (fun e => by obtain ⟨o, ho, hc⟩ := hr B e.symm; rw [show W.heap[B]? = _ from h] at ho; cases ho; cases hc)).trans h
theorem Below.toFr {n₀ : Nat} {w w1 : World} (hb : Below n₀ w w1) : Fr (fun k => n₀ ≤ k) w w1 := ⟨hb.os, hb.tape, hb.output, hb.size, fun k _ hs => hb.block k (by omega)⟩
/-- a row that is read lies below. -/
theorem Row.below {w w1 : World} {ao : Option Addr} {l : List Nat} {cap : Nat} (hr : Row w ao l cap) (hb : Below w.heap.size w w1) : Row w1 ao l cap :=
  (Below.toFr hb).row hr (fun hl a ha e => by have := row_blk hr hl a ha; omega)
theorem Below.toFr0 {w w1 : World} (hb : Below w.heap.size w w1) : Fr (fun _ => False) w w1 := ⟨hb.os, hb.tape, hb.output, hb.size, fun k hk _ => hb.block k hk⟩
section
variable {w w1 : World} {gb : Nat} {D : Nat → Prop} {base term voters : Nat} {es : List En} {v : Value}
set_option maxRecDepth 100000 in
set_option maxHeartbeats 4000000 in
theorem told_any (h : Lg w gb D base term voters es v) (upTo : Nat) :
    Calls Try.prog 38 #[.pointer (some ⟨gb, 0, none⟩), .int .u64 (upTo : Int)] w fun e w' => e = .returned (.tuple #[.int .u64 ((vtold base voters es upTo).1 : Int), .int .u64 ((vtold base voters es upTo).2 : Int)]) ∧ Fr (fun _ => False) w w' := by
  obtain ⟨ao, cap, hv, hrow, hao⟩ := h.own.row
  subst hv
  have hlt := h.lt
  have c3 : (((w.alloc (.cells #[.int .u64 (upTo : Int)] 24)).alloc (.cells #[.int .u64 0] 24)).alloc (.cells #[.int .u64 0] 24)).cell? ⟨gb, 3, none⟩ = some (.slice ao es.length cap) := ((((Fr.refl (fun _ => False) w).alloc _).alloc _).alloc _).cell h.c3 (by simp)
  have HL : Hid (Lg w gb D base term voters es (.slice ao es.length cap)) := h
  have hRl : ∀ k, (Value.slice ao es.length cap).ownBlock = some k → k < w.heap.size := h.own.lt
  have HE : Hid (∀ x ∈ es, EG w (fun k => D k ∧ (Value.slice ao es.length cap).ownBlock ≠ some k) x) := h.own.each
  obtain ⟨p1, p2, Hp⟩ : ∃ p1 p2, Hid (vtold base voters es upTo = (p1, p2)) := ⟨_, _, rfl⟩
  rw [Hp.out]
  refine (callsIn_wide (n := 6)).1 ?_
  refine callsIn_of_wp_marks Try.func38 rfl trivial ?_ rfl
  simp only [Try.ntmps38, List.size_toArray, List.length_cons, List.length_nil, Nat.reduceAdd, Nat.reduceSub, Array.replicate_succ, Array.replicate_zero, List.push_toArray, List.append_toArray, List.nil_append, List.cons_append]
  gi_wp2_with (refine ⟨trivial, ?_⟩; gi_at_call 41; refine (back_in Fence.wide _ trivial rfl _ _ _ _).mono ?_; rintro e w' ⟨rfl, rfl⟩)
  have b0 := (((Boxed.new w 24 (.int .u64 (upTo : Int))).alloc (.cells #[.int .u64 0] 24)).alloc (.cells #[.int .u64 0] 24)).alloc (.cells #[.slice ao es.length cap] 28)
  have b1 := ((Boxed.new (w.alloc (.cells #[.int .u64 (upTo : Int)] 24)) 24 (.int .u64 0)).alloc (.cells #[.int .u64 0] 24)).alloc (.cells #[.slice ao es.length cap] 28)
  have b2 := (Boxed.new ((w.alloc (.cells #[.int .u64 (upTo : Int)] 24)).alloc (.cells #[.int .u64 0] 24)) 24 (.int .u64 0)).alloc (.cells #[.slice ao es.length cap] 28)
  have b3 := Boxed.new (((w.alloc (.cells #[.int .u64 (upTo : Int)] 24)).alloc (.cells #[.int .u64 0] 24)).alloc (.cells #[.int .u64 0] 24)) 28 (.slice ao es.length cap)
  simp only [World.size_alloc] at b1 b2 b3
  have hB0 : Below w.heap.size w ((((w.alloc (.cells #[.int .u64 (upTo : Int)] 24)).alloc (.cells #[.int .u64 0] 24)).alloc (.cells #[.int .u64 0] 24)).alloc (.cells #[.slice ao es.length cap] 28)) := (((((Below.refl _ w).alloc (Nat.le_refl _) _).alloc (by simp) _).alloc (by simp; omega) _).alloc (by simp; omega) _)
  have hrow0 := hrow.fr (((((Fr.refl (fun _ => False) w).alloc (.cells #[.int .u64 (upTo : Int)] 24)).alloc (.cells #[.int .u64 0] 24)).alloc (.cells #[.int .u64 0] 24)).alloc (.cells #[.slice ao es.length cap] 28)) (by simp) (by simp)
  have hsz : ((((w.alloc (.cells #[.int .u64 (upTo : Int)] 24)).alloc (.cells #[.int .u64 0] 24)).alloc (.cells #[.int .u64 0] 24)).alloc (.cells #[.slice ao es.length cap] 28)).heap.size = w.heap.size + 4 := by simp
  obtain ⟨W0, hW0⟩ : ∃ W0, (((w.alloc (.cells #[.int .u64 (upTo : Int)] 24)).alloc (.cells #[.int .u64 0] 24)).alloc (.cells #[.int .u64 0] 24)).alloc (.cells #[.slice ao es.length cap] 28) = W0 := ⟨_, rfl⟩
  rw [hW0] at b0 b1 b2 b3 hB0 hsz hrow0 ⊢
  have hrow1 : ERow W0 (fun k => k < W0.heap.size) (fun k => k < W0.heap.size) ao es cap := by
    refine ⟨hrow0.1, hrow0.2.1, hrow0.2.2.1, fun x hx => (hrow0.2.2.2.1 x hx).mono (fun k hk _ => hk), fun hne => ?_⟩
    obtain ⟨b, off, he, hb, hc⟩ := hrow0.2.2.2.2 hne
    exact ⟨b, off, he, by have := hRl b hb; show b < _; omega, hc⟩
  have HB0 : Hid (Below w.heap.size w W0) := hB0
  have hs1 : w.heap.size + 4 ≤ W0.heap.size := by omega
  have hmix : Try.prog.follows .mixedOrders = true := by kernel_rfl
  clear hW0 c3 hrow hrow0 hao h hB0 hsz
  refine wpIn_rangeFunc_ownH rfl (by omega) (gf := 42) (lb := #[.pointer (some ⟨w.heap.size + 1 + 1 + 1, 0, none⟩)]) rfl trivial (enters_of Try.func42 (by kernel_rfl) rfl)
    (back_stops Fence.wide _ trivial rfl (by omega) (w.heap.size + 1 + 1 + 1) ao es cap _ _ W0 (by omega) b3.cell hrow1 (fun _ h => h) (fun _ h => h)) belowK_t (belowK_b (Nat.le_refl _)) (Below.refl _ _) (fun _ => rfl)
    (fun pre W => (∀ k ∈ pre, hitAt es upTo k = false) ∧ Below W0.heap.size W0 W)
    (fun c pre W => (∃ pre' k, (c = .ret ∧ pre = pre' ++ [k] ∧ (∀ j ∈ pre', hitAt es upTo j = false) ∧ hitAt es upTo k = true) ∧ Boxed W (w.heap.size + 1) 24 (.int .u64 ((mask es[k.val].d : Nat) : Int)) ∧ Boxed W (w.heap.size + 1 + 1) 24 (.int .u64 ((es[k.val].i : Nat) : Int))) ∧ Below w.heap.size w W)
    (OwnFrom.and (ownFrom_pure _ _) (ownFrom_below (Nat.le_refl _) (Nat.le_refl _)))
    (fun c => OwnFrom.and (fun s X Y row hs hg hr => by
      obtain ⟨pre', k, h1, h2, h3⟩ := hs
      exact ⟨pre', k, h1, boxed_own _ 24 (fun (_ : Unit) => Value.int .u64 ((mask es[k.val].d : Nat) : Int)) () X Y row h2 hg (fun r e => (hr r e).2), boxed_own _ 24 (fun (_ : Unit) => Value.int .u64 ((es[k.val].i : Nat) : Int)) () X Y row h3 hg (fun r e => (hr r e).2)⟩) (ownFrom_below (Nat.le_refl _) (by omega)))
    ⟨by simp, Below.refl _ _⟩
    (fun x a' W => ∃ Bx, w.heap.size + 1 + 1 + 1 < Bx ∧ Box36 W Bx es[x.val] ∧ a' = { tmps := #[.pointer (some ⟨gb, 0, none⟩), .int .u64 (upTo : Int), undef, .pointer (some ⟨w.heap.size, 0, none⟩), .pointer (some ⟨w.heap.size + 1, 0, none⟩), .pointer (some ⟨w.heap.size + 1 + 1, 0, none⟩), undef, .pointer (some ⟨Bx, 0, none⟩), .pointer (some ⟨gb, 0, none⟩), .bool false, .pointer (some ⟨gb, 0, none⟩), .pointer (some ⟨gb, 0, none⟩), .pointer (some ⟨gb, 3, none⟩), .slice ao es.length cap, .func (.func 42) #[] #[.pointer (some ⟨w.heap.size + 1 + 1 + 1, 0, none⟩)], .int .i64 ((x.val : Nat) : Int), .agg #[.int .u64 ((es[x.val].i : Nat) : Int), .int .u64 ((es[x.val].t : Nat) : Int), .int .u8 ((es[x.val].k : Nat) : Int), .slice es[x.val].a es[x.val].d.length es[x.val].c], undef, undef, undef, undef, undef, undef, undef, undef, undef, undef, undef, undef, undef, undef, undef, undef, undef, undef, undef, undef, undef, undef], defers := [] })
    (fun x a' _ X Y row hs hg hr => by obtain ⟨Bx, e1, e2, e3⟩ := hs; exact ⟨Bx, e1, e2.kept hg (fun r e => (hr r e).2), e3⟩)
    ?assign ?body ?done ?stop
  case assign =>
    rintro l pre x W K ⟨hp, hB1⟩ hK
    simp only [encB]
    gi_wp2
    exact hK _ _ ((KeepsOthers.alloc _ _).from _) ((Below.refl _ W).alloc hB1.size _) ⟨hp, hB1.alloc hB1.size _⟩ ⟨W.heap.size, by have := hB1.size; omega, World.alloc_heap_new W _, rfl⟩
  case body =>
    rintro l pre x a' W hl _ ⟨hp, hB1⟩ ⟨Bx, hBx, bx, rfl⟩ hlen
    obtain ⟨d0, d2, d3⟩ := bx.cells
    have hm := hB1.size
    have i0 : Boxed W w.heap.size 24 (.int .u64 (upTo : Int)) := (hB1.block _ (by omega)).trans b0
    have i1 : Boxed W (w.heap.size + 1) 24 (.int .u64 0) := (hB1.block _ (by omega)).trans b1
    have i2 : Boxed W (w.heap.size + 1 + 1) 24 (.int .u64 0) := (hB1.block _ (by omega)).trans b2
    have e0 := i0.cell
    have e1 := i1.cell
    have e2 := i2.cell
    have z1 := i1.frozen
    have z2 := i2.frozen
    have hx := HE.out es[x.val] (List.getElem_mem _)
    have hxr := Row.below hx.row (HB0.out.trans (hB1.mono (by omega)))
    have hxi := hx.i
    have hxk := hx.k
    obtain ⟨y, Hy⟩ : ∃ y, Hid (es[x.val] = y) := ⟨es[x.val], Eq.refl es[x.val]⟩
    have HH : Hid (hitAt es upTo x = hit upTo y) := by show _ = _; unfold hitAt; rw [Hy.out]
    rw [Hy.out] at d0 d2 d3 hxr hxi hxk ⊢
    have HI1 : Hid (Boxed W (w.heap.size + 1) 24 (.int .u64 0)) := i1
    have HI2 : Hid (Boxed W (w.heap.size + 1 + 1) 24 (.int .u64 0)) := i2
    have HBW : Hid (Below w.heap.size w W) := HB0.out.trans (hB1.mono (by omega))
    clear hx bx i0 i1 i2
    by_cases hk1 : y.k = 1
    · have hk1' : (y.k : Int) = 1 := by omega
      by_cases hiu : y.i ≤ upTo
      · have hiu' : (y.i : Int) ≤ (upTo : Int) := by omega
        gi_wp2
        gi_region_with_o (refine ⟨trivial, ?_⟩; gi_at_call 23; refine (CallsIn.inRound l (callsIn_wide.2 (mask_any y.a y.d y.c _ (by exact hxr)))).mono ?_; rintro e w' ⟨rfl, rfl⟩)
        all_goals gi_wp2
        all_goals
          refine ⟨(((KeepsOthers.setCell _ _ _).trans (KeepsOthers.setCell _ _ _)).trans (KeepsOthers.drew _)).from _, ⟨pre, x, ⟨rfl, rfl, hp, by rw [HH.out]; simp [hit, hk1, hiu]⟩, ?_, ?_⟩, ?_⟩
          · rw [Hy.out]; exact Boxed.other (Boxed.set _ HI1.out) (by omega) _
          · rw [Hy.out]; exact Boxed.set _ (Boxed.other HI2.out (by omega) _)
          · exact ((HBW.out.setCell (p := ⟨w.heap.size + 1, 0, none⟩) (by simp) _).setCell (p := ⟨w.heap.size + 1 + 1, 0, none⟩) (by simp; omega) _).drew
      · have hiu' : ¬ (y.i : Int) ≤ (upTo : Int) := by omega
        gi_wp2
        exact ⟨KeepsFrom.refl _ _, Below.refl _ _, fun k hk => by rcases List.mem_append.1 hk with h | h; exact hp k h; simp at h; subst h; rw [HH.out]; simp [hit, hiu], hB1⟩
    · have hk1' : ¬ (y.k : Int) = 1 := by omega
      gi_wp2
      exact ⟨KeepsFrom.refl _ _, Below.refl _ _, fun k hk => by rcases List.mem_append.1 hk with h | h; exact hp k h; simp at h; subst h; rw [HH.out]; simp [hit, hk1], hB1⟩
  case done =>
    rintro D0 ys W hD rfl ⟨hne, hB1⟩ hK
    have hm := hB1.size
    have i1 : Boxed W (w.heap.size + 1) 24 (.int .u64 0) := (hB1.block _ (by omega)).trans b1
    have i2 : Boxed W (w.heap.size + 1 + 1) 24 (.int .u64 0) := (hB1.block _ (by omega)).trans b2
    have hBw : Below w.heap.size w W := HB0.out.trans (hB1.mono (by omega))
    have e1 := i1.cell
    have e2 := i2.cell
    have z1 := i1.frozen
    have z2 := i2.frozen
    have g0 : W.cell? ⟨gb, 0, none⟩ = _ := (hBw.cell (p := ⟨gb, 0, none⟩) hlt).trans HL.out.c0
    have g2 : W.cell? ⟨gb, 2, none⟩ = _ := (hBw.cell (p := ⟨gb, 2, none⟩) hlt).trans HL.out.c2
    have hne' := vtold_none base voters es upTo hne
    have HNE : Hid (p1 = voters ∧ p2 = base) := by have := Hp.out; rw [hne'] at this; cases this; exact ⟨rfl, rfl⟩
    have HI1 : Hid (Boxed W (w.heap.size + 1) 24 (.int .u64 0)) := i1
    have HI2 : Hid (Boxed W (w.heap.size + 1 + 1) 24 (.int .u64 0)) := i2
    have HBW : Hid (Below w.heap.size w W) := hBw
    clear hne hne' hBw i1 i2 hB1
    gi_wp2
    gi_region
    all_goals gi_wp2
    all_goals
      have hK' := ((((KeepsOthers.setCell W ⟨w.heap.size + 1, 0, none⟩ (.int .u64 (voters : Int))).trans (KeepsOthers.setCell _ ⟨w.heap.size + 1 + 1, 0, none⟩ (.int .u64 (base : Int)))).trans (KeepsOthers.drew _)).same D0 _ hK rfl)
      have hb' : Below w.heap.size w ((W.setCell ⟨w.heap.size + 1, 0, none⟩ (.int .u64 (voters : Int))).setCell ⟨w.heap.size + 1 + 1, 0, none⟩ (.int .u64 (base : Int))).drew := ((HBW.out.setCell (p := ⟨w.heap.size + 1, 0, none⟩) (by simp) _).setCell (p := ⟨w.heap.size + 1 + 1, 0, none⟩) (by simp; omega) _).drew
      refine ⟨by simp, .inl ⟨_, _, rfl, run_takeDeferred hK', ?_⟩⟩
      have n1 : Boxed ((W.setCell ⟨w.heap.size + 1, 0, none⟩ (.int .u64 (voters : Int))).setCell ⟨w.heap.size + 1 + 1, 0, none⟩ (.int .u64 (base : Int))).drew (w.heap.size + 1) 24 (.int .u64 (voters : Int)) := Boxed.other (Boxed.set _ HI1.out) (by omega) _
      have n2 : Boxed ((W.setCell ⟨w.heap.size + 1, 0, none⟩ (.int .u64 (voters : Int))).setCell ⟨w.heap.size + 1 + 1, 0, none⟩ (.int .u64 (base : Int))).drew (w.heap.size + 1 + 1) 24 (.int .u64 (base : Int)) := Boxed.set _ (Boxed.other HI2.out (by omega) _)
      have hc5 := cell_kept n1.cell (grownBy_putObj' _ D0 (.deferred none)) (fun r e => by cases e; exact ⟨_, hK', rfl⟩)
      have hc6 := cell_kept n2.cell (grownBy_putObj' _ D0 (.deferred none)) (fun r e => by cases e; exact ⟨_, hK', rfl⟩)
      refine ⟨.tuple #[.int .u64 (voters : Int), .int .u64 (base : Int)], ?_, by rw [HNE.out.1, HNE.out.2], Below.toFr0 (hb'.trans (belowK_b (w := w) (Nat.le_refl _) _ D0 _ _ (by omega) hK' rfl rfl))⟩
      simp [results, Try.f38, go_sem, hc5, hc6]
  case stop =>
    rintro D0 c pre W hD ⟨m, hm⟩ ⟨⟨pre', k, ⟨rfl, hp1, hp2, hp3⟩, i1, i2⟩, hB1⟩ hK
    have hv := vtold_some base voters es upTo m pre' k (by rw [← hp1]; exact hm) hp2 hp3
    have HNE : Hid (p1 = mask es[k.val].d ∧ p2 = es[k.val].i) := by have := Hp.out; rw [hv] at this; cases this; exact ⟨rfl, rfl⟩
    gi_wp2
    refine ⟨by simp, .inl ⟨_, _, rfl, run_takeDeferred hK, ?_⟩⟩
    have hc5 := cell_kept i1.cell (grownBy_putObj' _ D0 (.deferred none)) (fun r e => by cases e; exact ⟨_, hK, rfl⟩)
    have hc6 := cell_kept i2.cell (grownBy_putObj' _ D0 (.deferred none)) (fun r e => by cases e; exact ⟨_, hK, rfl⟩)
    refine ⟨.tuple #[.int .u64 ((mask es[k.val].d : Nat) : Int), .int .u64 ((es[k.val].i : Nat) : Int)], ?_, by rw [HNE.out.1, HNE.out.2], Below.toFr0 (hB1.trans (belowK_b (w := w) (Nat.le_refl _) W D0 _ _ (by omega) hK rfl rfl))⟩
    simp [results, Try.f38, go_sem, hc5, hc6]
end
end Go.Proofs.Ytkkpdnholnkeoab
