/- slices.Backward over entries: its contract. -/
import Derived.RangeFuncNested
import Derived.RangeFuncBound
import Derived.RangeFuncCalls
import Derived.RangeFuncLeaves
import Derived.Shelf.Abstract
import Derived.Shelf.RegionOpen
import Derived.OwnWalkIn
import Derived.TacticsInMore
import Derived.LoopNIn
import Derived.LoopIn
import Derived.Test.YtkkpdnholnkeoabTerm
namespace Go.Proofs.Ytkkpdnholnkeoab
open Go.RowKit Go.Shelf
attribute [local go_sem] Oper.semAt_some

/-- the places from the last one down to m. -/
def dn (L m : Nat) : List (Fin L) := ((List.finRange L).drop m).reverse
theorem dn_all (L : Nat) : dn L L = [] := by simp [dn]
theorem dn_succ (L m : Nat) (h : m < L) : dn L m = dn L (m + 1) ++ [⟨m, h⟩] := by
  unfold dn
  rw [List.drop_eq_getElem_cons (by simpa using h), List.reverse_cons]
  simp
theorem dn_length (L m : Nat) : (dn L m).length = L - m := by simp [dn]
/-- what yield is handed. -/
def encB (es : List En) (x : Fin es.length) : Array Value := #[.int .i64 ((x.val : Nat) : Int), .agg #[.int .u64 ((es[x.val].i : Nat) : Int), .int .u64 ((es[x.val].t : Nat) : Int), .int .u8 ((es[x.val].k : Nat) : Int), .slice es[x.val].a es[x.val].d.length es[x.val].c]]

set_option maxRecDepth 100000 in
set_option maxHeartbeats 1000000 in
theorem back1_in (F : Fence) (n : Nat) (h42 : F.fn 42) (hro : F.round = none) (hn : 1 ≤ n) (l Bs n₀ : Nat) (ao : Option Addr) (es : List En) (cap : Nat) (R D : Nat → Prop) (J Jx : List (Fin es.length) → World → Prop)
    (hY : ∀ pre x W, J pre W → pre.length < es.length → YieldAt F (n - 1) Try.prog l (encB es x) W fun e W' =>
      (e = .returned (.bool true) ∧ J (pre ++ [x]) W' ∧ Below n₀ W W') ∨ (e = .returned (.bool false) ∧ Jx (pre ++ [x]) W'))
    (W : World) (hBs : W.cell? ⟨Bs, 0, none⟩ = some (.slice ao es.length cap)) (hBn : Bs < n₀) (hE : ERow W R D ao es cap) (hR : ∀ k, R k → k < n₀) (h0 : J [] W) :
    CallsIn F n Try.prog 42 #[.func (.yield l) #[] #[], .pointer (some ⟨Bs, 0, none⟩)] W fun e W' => (∃ v, e = .returned v) ∧
      ((∃ ys, ys = dn es.length 0 ∧ J ys W') ∨ (∃ pre, (∃ m, pre = dn es.length m) ∧ Jx pre W')) := by
  have hl := hE.len
  refine callsIn_of_wp Try.func42 rfl h42 ?_ hro
  simp only [Try.ntmps42, List.size_toArray, List.length_cons, List.length_nil, Nat.reduceAdd, Nat.reduceSub, Array.replicate_succ, Array.replicate_zero, List.push_toArray, List.append_toArray, List.nil_append, List.cons_append]
  gi_wp2
  gi_loopw [3] (fun i wr => ∃ m : Nat, m ≤ es.length ∧ i = .int .i64 ((m : Int) - 1) ∧ J (dn es.length m) wr ∧ Below n₀ W wr) (fun i _ => (intOf i + 1).toNat)
  case atStart => exact ⟨es.length, Nat.le_refl _, rfl, by rw [dn_all]; exact h0, Below.refl _ _⟩
  case round =>
    obtain ⟨m, hm, rfl, hJs, hB⟩ := hrel
    cases m with
    | zero =>
      gi_wp2
      go_end0
      exact ⟨⟨_, rfl⟩, .inl ⟨_, rfl, hJs⟩⟩
    | succ q =>
      have hq : q < es.length := by omega
      obtain ⟨b, off, x, rfl, hb, x0, x1, x2, x3, hg, Hx⟩ := hE.at hq
      have hbn := hR b hb
      have hx : es[q] = x := by rw [Hx.out]; simp [List.getD_eq_getElem?_getD, hq]
      obtain ⟨fn, tmps, assign, body, hy, hRd⟩ := hY _ ⟨q, hq⟩ wr hJs (by rw [dn_length]; omega)
      simp only [encB, hx] at hy
      have y0 : wr.cell? ⟨b, off + q * 4, none⟩ = _ := (hB.cell (p := ⟨b, off + q * 4, none⟩) hbn).trans x0
      have y1 : wr.cell? ⟨b, off + q * 4 + 1, none⟩ = _ := (hB.cell (p := ⟨b, off + q * 4 + 1, none⟩) hbn).trans x1
      have y2 : wr.cell? ⟨b, off + q * 4 + 2, none⟩ = _ := (hB.cell (p := ⟨b, off + q * 4 + 2, none⟩) hbn).trans x2
      have y3 : wr.cell? ⟨b, off + q * 4 + 3, none⟩ = _ := (hB.cell (p := ⟨b, off + q * 4 + 3, none⟩) hbn).trans x3
      have yb : wr.cell? ⟨Bs, 0, none⟩ = _ := (hB.cell (p := ⟨Bs, 0, none⟩) hBn).trans hBs
      rw [show (((q + 1 : Nat)) : Int) - 1 = (q : Int) by omega]
      have k1 : (0 : Int) ≤ (q : Int) := by omega
      have k2 : (q : Int) < (es.length : Int) := by omega
      have HE : Hid (ERow W R D (some ⟨b, off, none⟩) es cap) := hE
      have HB : Hid (Below n₀ W wr) := hB
      clear x0 x1 x2 x3 hE hg hB hx
      gi_wp2
      refine hRd.mono ?_
      rintro e W3 (⟨rfl, hJ3, hk3⟩ | ⟨rfl, hJx3⟩)
      · gi_wp2
        go_roundw
        case rel => exact ⟨q, by omega, rfl, by rw [dn_succ _ _ hq]; exact hJ3, HB.out.trans hk3⟩
        case measure => simp [intOf]
      · gi_wp2
        refine bodyPost_ret (results_none rfl _ _ _) rfl ?_
        exact ⟨⟨_, rfl⟩, .inr ⟨_, ⟨q, by rw [dn_succ _ _ hq]⟩, hJx3⟩⟩
set_option maxHeartbeats 1000000 in
theorem back_in (F : Fence) (n : Nat) (h41 : F.fn 41) (hro : F.round = none) (ao : Option Addr) (m cap : Nat) (w : World) :
    CallsIn F n Try.prog 41 #[.slice ao m cap] w fun e w' => e = .returned (.func (.func 42) #[] #[.pointer (some ⟨w.heap.size, 0, none⟩)]) ∧ w' = w.alloc (.cells #[.slice ao m cap] 28) := by
  refine callsIn_of_wp Try.func41 rfl h41 ?_ hro
  simp only [Try.ntmps41, List.size_toArray, List.length_cons, List.length_nil, Nat.reduceAdd, Nat.reduceSub, Array.replicate_succ, Array.replicate_zero, List.push_toArray, List.append_toArray, List.nil_append, List.cons_append]
  gi_wp2
  go_ret
  exact ⟨rfl, rfl⟩
theorem ERow.below {w w1 : World} {R D : Nat → Prop} {ao : Option Addr} {es : List En} {cap n₀ : Nat} (h : ERow w R D ao es cap) (hb : Below n₀ w w1) (hr : ∀ k, R k → k < n₀) (hd : ∀ k, D k → k < n₀) : ERow w1 R D ao es cap := by
  have f : Fr (fun k => n₀ ≤ k) w w1 := ⟨hb.os, hb.tape, hb.output, hb.size, fun k _ hs => hb.block k (by omega)⟩
  exact h.fr f (fun k hk e => by have := hr k hk; omega) (fun k hk e => by have := hd k hk; omega)
theorem back_stops (F : Fence) (n : Nat) (h42 : F.fn 42) (hro : F.round = none) (hn : 1 ≤ n) (Bs : Nat) (ao : Option Addr) (es : List En) (cap : Nat) (R D : Nat → Prop) (w : World)
    (hBn : Bs < w.heap.size) (hBs : w.cell? ⟨Bs, 0, none⟩ = some (.slice ao es.length cap)) (hE : ERow w R D ao es cap) (hR : ∀ k, R k → k < w.heap.size) (hD : ∀ k, D k → k < w.heap.size) :
    SeqStopsK F n Try.prog 42 #[.pointer (some ⟨Bs, 0, none⟩)] (encB es) (Below w.heap.size) (fun ys => ys = dn es.length 0) (fun pre => ∃ m, pre = dn es.length m) es.length w := fun l J Jx W hW _ _ hY h0 =>
  back1_in F n h42 hro hn l Bs w.heap.size ao es cap R D J Jx hY W ((hW.cell (p := ⟨Bs, 0, none⟩) hBn).trans hBs) hBn (hE.below hW hR hD) hR h0
end Go.Proofs.Ytkkpdnholnkeoab
