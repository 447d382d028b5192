/- What every statement's row needs: what is laid are the tables. -/
import Derived.Test.YtkabmjeeficfhaaDoorTie
import Derived.Test.YtkabmjeeficfhaaDoorCards
import Derived.Test.YtkabmjeeficfhaaDoorTextA
import Derived.ProofKit
import Derived.LaidMore
import Derived.Lay
import Derived.OpenShut
import Derived.ShutString
import Derived.ChangeOld
import Derived.Stop.Joined
import Derived.Lib.LaidTab
import Derived.SevenTiedAt
import Derived.Laws.Cover2
namespace Go.Proofs.YtkabmjeeficfhaaDoor
open Go.ChangeShapes Go.WideShapes Go.ChangeAt Go.RowKit

theorem ownK : ownKnob Tryd.prog.godebug = none := by kernel_rfl
theorem laidOut : laidOutB Tryd.prog = true := by kernel_rfl
def laid6 : List (String × DataW Unit) := Rows.numberDrawsRow.laid
theorem gTen : Tryd.prog.globalNamed "internal/strconv.uint64pow10" = some 2 := by kernel_rfl
theorem tTen : (Tryd.prog.globals[2]?).map (·.type) = some 75 := by kernel_rfl
theorem gPow : Tryd.prog.globalNamed "internal/strconv.pow10Tab" = some 3 := by kernel_rfl
theorem tPow : (Tryd.prog.globals[3]?).map (·.type) = some 85 := by kernel_rfl
def tens : List Int := [1, 10, 100, 1000, 10000, 100000, 1000000, 10000000, 100000000, 1000000000, 10000000000, 100000000000, 1000000000000, 10000000000000, 100000000000000, 1000000000000000, 10000000000000000, 100000000000000000, 1000000000000000000, 10000000000000000000]
theorem pow_at : (Go.Pinned.pow10Rows.map fun x => (DataW.agg [.lit (.int .u64 x.1), .lit (.int .u64 x.2)] : DataW Unit))[365]? = some (.agg [.lit (.int .u64 12800000000000000000), .lit (.int .u64 0)]) := by kernel_rfl
set_option maxRecDepth 100000 in
theorem tabs_of_laid {W : World} (h : laidMetH Tryd.prog laid6 W) : Tabs W := by
  rw [MakeChecks.laidMetH_plain _ _ _ (by kernel_rfl)] at h
  obtain ⟨ps, ⟨_, _, _, _, _, _, _, _, _, _, ⟨_, _, _, _, _, _, _, _, _, _, ⟨_, _, _, _, _, _, _, _, _, _, ⟨g3, t3, cs3, f3, p3, q3, hg3, ht3, hv3, hd3, ⟨_, _, _, _, _, _, _, _, _, _, ⟨g5, t5, cs5, f5, p5, q5, hg5, ht5, hv5, hd5, _, _⟩, _⟩, _⟩, _⟩, _⟩, _⟩, _, _⟩ := h
  obtain rfl := Option.some.inj (gTen.symm.trans hg3)
  obtain rfl := Option.some.inj (tTen.symm.trans ht3)
  obtain rfl := Option.some.inj (gPow.symm.trans hg5)
  obtain rfl := Option.some.inj (tPow.symm.trans ht5)
  have hc3 := Lib.cells_of_tab (k := .u64) (zs := tens) Tryd.underlying75 Tryd.underlying31 (by kernel_rfl) (by kernel_rfl) hd3
  have c92 : Tryd.prog.cellsOf 84 = 2 := by kernel_rfl
  have c25 : Tryd.prog.cellsOf 31 = 1 := by kernel_rfl
  obtain ⟨xs, m1, _, hx1, hlen, hn3, hel⟩ := DataW.trod_array Tryd.underlying85 hd5
  have h365 := hel 365 (by decide)
  have hx2 : (xs.map (·.1)) = Go.Pinned.pow10Rows.map fun x => (DataW.agg [.lit (.int .u64 x.1), .lit (.int .u64 x.2)] : DataW Unit) := (DataW.agg.inj (Prod.mk.inj hx1).1).symm
  have hx3 : (xs.map (·.1))[365]? = some (.agg [.lit (.int .u64 12800000000000000000), .lit (.int .u64 0)]) := by rw [hx2]; exact pow_at
  rw [List.getElem?_map] at hx3
  obtain ⟨x, hxe, hxv⟩ := Option.map_eq_some_iff.1 hx3
  rw [hxe, c92] at h365
  obtain ⟨y0, y1, n, hx, hl, hy0, hy1⟩ := trod_struct2 Tryd.underlying84 h365
  obtain ⟨z0, e0, e0', _⟩ := DataW.trod_int Tryd.underlying31 hy0
  obtain ⟨z1, e1, e1', _⟩ := DataW.trod_int Tryd.underlying31 hy1
  rw [hx] at hxv
  simp only [DataW.agg.injEq, List.cons.injEq, and_true] at hxv
  rw [e0', e1'] at hxv
  simp only [DataW.lit.injEq, Lit.int.injEq, true_and] at hxv
  rw [hxv.1, c25] at e0
  rw [hxv.2, c25] at e1
  have v5 := World.var?_cell hg5 hv5
  refine ⟨?_, ?_, ?_⟩
  · rw [v5 730]
    have : (((List.take 2 (List.drop (365 * 2) cs5.toList)).drop 0).take 1)[0]? = some (.int .u64 12800000000000000000) := by rw [e0]; rfl
    simpa using this
  · rw [v5 731]
    have : (((List.take 2 (List.drop (365 * 2) cs5.toList)).drop 1).take 1)[0]? = some (.int .u64 0) := by rw [e1]; rfl
    simpa using this
  · rw [World.var?_cell hg3 hv3 15]
    have : cs3.toList[15]? = some (.int .u64 1000000000000000) := by rw [hc3]; rfl
    simpa using this
theorem f64_lt {b : Nat} (h : (Lit.float .f64 b).wf = true) : b < 18446744073709551616 := by
  simp [Lit.wf] at h; omega
theorem u64_lt {n : Int} (h : (Lit.int .u64 n).wf = true) : ∃ m : Nat, n = (m : Int) ∧ m < 18446744073709551616 := by
  simp [Lit.wf, IntKind.min, IntKind.max, IntKind.signed, IntKind.bits] at h
  exact ⟨n.toNat, by omega, by omega⟩
theorem laid_witness (os : Os) (args : Array Value) : laidMetH Tryd.prog laid6 ((World.laidAll Tryd.prog os laid6).forCall (fun _ _ => 0) ⟨#[], args, []⟩).memory := by
  rw [MakeChecks.laidMetH_plain _ _ _ (by kernel_rfl)]
  exact laidMet_laidAll _ (by kernel_rfl) (by kernel_rfl)
end Go.Proofs.YtkabmjeeficfhaaDoor
