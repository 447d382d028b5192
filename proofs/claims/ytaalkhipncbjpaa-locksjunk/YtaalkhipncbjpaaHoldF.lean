/- How a hold that comes in is opened. -/
import Derived.Test.YtaalkhipncbjpaaLawM
import Derived.Test.YtaalkhipncbjpaaFrame
namespace Go.Proofs.Ytaalkhipncbjpaa
open Go.ChangeShapes Go.WideShapes Go.ChangeAt Go.RowKit
/-- WHAT A WALK IS TOLD OF BYTES THAT CAME IN. -/
theorem row_of_arg {H : Type} {enc : TypeId × Value → H} {W : World} {a0 : Option Addr} {len0 cap0 : Nat} {d : DataW H} {p : List MemPlace} (h : DataW.Trod enc Try.prog W 0 (fun _ => true) true 27 (.slice a0 len0 cap0) d p) :
    ∃ l : List Nat, l.length = len0 ∧ Row W a0 l cap0 := by
  obtain ⟨fuel, hf⟩ := h
  rcases open_ints Try.underlying27 Try.underlying5 (by kernel_rfl) hf with ⟨hcs, _⟩ | ⟨x, l, c, zs, hcs, _, hl, hm, hz, _, hcell, hwz⟩
  · simp [Value.cells] at hcs
    obtain ⟨rfl, rfl, rfl⟩ := hcs
    exact ⟨[], rfl, Nat.le_refl _, Nat.zero_le _, by simp, fun _ => rfl, fun h => absurd rfl h⟩
  · simp [Value.cells] at hcs
    obtain ⟨rfl, rfl, rfl⟩ := hcs
    have hzl : zs.length = cap0 := by simpa using hz
    have hb : ∀ z ∈ zs, 0 ≤ z ∧ z < 256 := fun z hz => by
      have := hwz z hz
      simp [Lit.wf, IntKind.min, IntKind.max, IntKind.signed, IntKind.bits] at this
      omega
    refine ⟨(zs.take len0).map Int.toNat, by simp; omega, by simp; omega, hm, ?_, fun e => (by cases e), fun hne => ?_⟩
    · intro y hy
      obtain ⟨z, hz1, rfl⟩ := List.mem_map.1 hy
      have := hb z (List.mem_of_mem_take hz1)
      omega
    · have hpos : 0 < zs.length := by
        rcases Nat.eq_zero_or_pos zs.length with h0 | h0
        · have : zs = [] := List.eq_nil_of_length_eq_zero h0
          subst this; simp at hne
        · exact h0
      obtain ⟨b, off, spot⟩ := x
      have h0 := hcell 0 hpos
      have hspot : spot = none := by simpa [Addr.add] using World.cell?_spot h0
      subst hspot
      refine ⟨b, off, rfl, fun i hi => ?_⟩
      have hi' : i < zs.length ∧ i < len0 := by simp at hi; omega
      have h1 := hcell i hi'.1
      rw [show (⟨b, off, none⟩ : Addr).add i = ⟨b, off + i, none⟩ from by unfold Addr.add; split <;> simp_all] at h1
      rw [h1]
      have hz0 := hb (zs.getD i 0) (by rw [List.getD_eq_getElem?_getD, List.getElem?_eq_getElem hi'.1]; exact List.getElem_mem _)
      have e : (((zs.take len0).map Int.toNat).getD i 0 : Nat) = (zs.getD i 0).toNat := by
        simp [List.getD_eq_getElem?_getD, hi'.2, hi'.1]
      rw [e]
      congr 2
      omega
theorem trod_f64 {H : Type} {enc : TypeId × Value → H} {P : Program} {t : TypeId} {W : World} {base : Nat} {spare : Nat → Bool} {held : Bool} {fuel : Nat} {v : Value} {x : DataW H × List MemPlace} (ht : P.underlying t = some (.float .f64)) (h : DataW.trod enc P W base spare held fuel t [v] = some x) : ∃ n, v = .float .f64 n ∧ n < 18446744073709551616 := by
  cases fuel with
  | zero => simp [DataW.trod] at h
  | succ n =>
    unfold DataW.trod at h
    rw [ht] at h
    cases v <;> simp at h
    obtain ⟨⟨hk, hw⟩, _⟩ := h
    subst hk
    exact ⟨_, rfl, f64_lt hw⟩
theorem frow_of_arg {H : Type} {enc : TypeId × Value → H} {W : World} {a0 : Option Addr} {len0 cap0 : Nat} {d : DataW H} {p : List MemPlace} (h : DataW.Trod enc Try.prog W 0 (fun _ => true) true 25 (.slice a0 len0 cap0) d p) :
    ∃ l : List Nat, l.length = len0 ∧ FRow W a0 l cap0 ∧ (a0 = none → cap0 = 0) := by
  obtain ⟨fuel, hf⟩ := h
  rcases Deep.open_slice1 Try.underlying25 (by kernel_rfl) hf with ⟨hcs, _⟩ | ⟨a, len, cap, m, n, V, D, Pl, hcs, _, hl, hm, hmm, _, hx⟩
  · simp [Value.cells] at hcs
    obtain ⟨rfl, rfl, rfl⟩ := hcs
    exact ⟨[], rfl, ⟨Nat.le_refl _, Nat.zero_le _, by simp, fun h => absurd rfl h⟩, fun _ => rfl⟩
  · simp [Value.cells] at hcs
    obtain ⟨rfl, rfl, rfl⟩ := hcs
    have hmc : m = cap0 := by simpa using hmm
    subst hmc
    have hall : ∀ i, i < len0 → ∃ c, W.cell? (a.add i) = some (.float .f64 c) ∧ c < 18446744073709551616 := fun i hi => by
      obtain ⟨h1, h2⟩ := hx i (by omega)
      obtain ⟨c, hv, hc⟩ := trod_f64 Try.underlying71 h2
      exact ⟨c, by rw [h1, hv], hc⟩
    obtain ⟨F, hF⟩ := Deep.choose_lt (p := fun i c => W.cell? (a.add i) = some (.float .f64 c) ∧ c < 18446744073709551616) hall
    refine ⟨(List.range len0).map F, by simp, ⟨by simpa using hl, hm, ?_, fun hne => ?_⟩, fun e => by cases e⟩
    · intro y hy
      obtain ⟨i, hi, rfl⟩ := List.mem_map.1 hy
      exact (hF i (by simpa using hi)).2
    · have hpos : 0 < len0 := by
        rcases Nat.eq_zero_or_pos len0 with h0 | h0
        · subst h0; simp at hne
        · exact h0
      obtain ⟨b, off, spot⟩ := a
      have h0 := (hF 0 hpos).1
      have hspot : spot = none := by simpa [Addr.add] using World.cell?_spot h0
      subst hspot
      refine ⟨b, off, rfl, fun i hi => ?_⟩
      have hi' : i < len0 := by simpa using hi
      have h1 := (hF i hi').1
      have hg : ((List.range len0).map F).getD i 0 = F i := by simp [List.getD, hi']
      rw [hg, ← h1]
      by_cases h0 : i = 0
      · subst h0; rfl
      · simp [Addr.add, h0]
theorem slice_one {H : Type} {enc : TypeId × Value → H} {P : Program} {w : World} {base : Nat} {spare : Nat → Bool} {held : Bool} {fuel : Nat} {t e : TypeId} {cs : List Value} {x : DataW H × List MemPlace} (ht : P.underlying t = some (.slice e)) (h : DataW.trod enc P w base spare held fuel t cs = some x) : ∃ a n c, cs = [.slice a n c] := by
  rcases DataW.trod_slice ht h with ⟨h, _⟩ | ⟨a, n, c, _, _, _, _, h, _⟩
  · exact ⟨_, _, _, h⟩
  · exact ⟨_, _, _, h⟩
theorem one_ofL {cs : List Value} {i : Nat} {v : Value} (h : (cs.drop i).take 1 = [v]) : cs[i]? = some v := by
  have := congrArg (fun l => l[0]?) h
  simpa using this
theorem two_of (cs : List Value) (h : cs.length = 2) : ∃ a b, cs = [a, b] := by
  match cs, h with
  | [a, b], _ => exact ⟨a, b, rfl⟩
theorem addr_addH (b off i : Nat) : (⟨b, off, none⟩ : Addr).add i = ⟨b, off + i, none⟩ := by
  unfold Addr.add; split <;> simp_all
set_option maxRecDepth 100000 in
theorem pair_of {H : Type} {enc : TypeId × Value → H} {W : World} {base : Nat} {spare : Nat → Bool} {held : Bool} {fuel : Nat} {cs : List Value} {x : DataW H × List MemPlace} (h : DataW.trod enc Try.prog W base spare held fuel 75 cs = some x) : ∃ y : Nat × Nat, cs = [.float .f64 y.1, .float .f64 y.2] ∧ y.1 < 18446744073709551616 ∧ y.2 < 18446744073709551616 := by
  obtain ⟨xs, m, _, _, hl, hn, hf⟩ := DataW.trod_array Try.underlying75 h
  have t71 : Try.prog.cellsOf 71 = 1 := by kernel_rfl
  have t75 : Try.prog.cellsOf 75 = 2 := by kernel_rfl
  rw [t75] at hl
  obtain ⟨c0, c1, rfl⟩ := two_of cs hl
  have g0 := hf 0 (by omega)
  have g1 := hf 1 (by omega)
  rw [t71, List.getElem?_eq_getElem (show 0 < xs.length by omega)] at g0
  rw [t71, List.getElem?_eq_getElem (show 1 < xs.length by omega)] at g1
  obtain ⟨a, ha, hba⟩ := trod_f64 Try.underlying71 (show DataW.trod enc Try.prog W base spare held m 71 [c0] = _ from g0)
  obtain ⟨b, hb, hbb⟩ := trod_f64 Try.underlying71 (show DataW.trod enc Try.prog W base spare held m 71 [c1] = _ from g1)
  exact ⟨(a, b), by rw [ha, hb], hba, hbb⟩
set_option maxRecDepth 100000 in
theorem grow_of_arg {H : Type} {enc : TypeId × Value → H} {W : World} {a0 : Option Addr} {len0 cap0 : Nat} {d : DataW H} {p : List MemPlace} (h : DataW.Trod enc Try.prog W 0 (fun _ => true) true 26 (.slice a0 len0 cap0) d p) :
    ∃ l : List (Nat × Nat), l.length = len0 ∧ GRow W a0 l cap0 ∧ (a0 = none → cap0 = 0) := by
  obtain ⟨fuel, hf⟩ := h
  rcases Deep.open_slice Try.underlying26 hf with ⟨hcs, _⟩ | ⟨a, len, cap, m, n, Dd, Pl, hcs, _, hl, hm, hmm, _, hx⟩
  · simp [Value.cells] at hcs
    obtain ⟨rfl, rfl, rfl⟩ := hcs
    exact ⟨[], rfl, ⟨Nat.le_refl _, Nat.zero_le _, by simp, fun h => absurd rfl h⟩, fun _ => rfl⟩
  · simp [Value.cells] at hcs
    obtain ⟨rfl, rfl, rfl⟩ := hcs
    have hmc : m = cap0 := by simpa using hmm
    subst hmc
    have t75 : Try.prog.cellsOf 75 = 2 := by kernel_rfl
    rw [t75] at hx
    have hall : ∀ i, i < len0 → ∃ y : Nat × Nat, W.cell? (a.add (i * 2)) = some (.float .f64 y.1) ∧ W.cell? ((a.add (i * 2)).add 1) = some (.float .f64 y.2) ∧ y.1 < 18446744073709551616 ∧ y.2 < 18446744073709551616 := fun i hi => by
      obtain ⟨cs, h1, h2⟩ := hx i (by omega)
      obtain ⟨y, rfl, hb⟩ := pair_of h2
      obtain ⟨_, _, hc⟩ := World.cells?_some h1
      exact ⟨y, hc 0 (by omega), hc 1 (by omega), hb⟩
    obtain ⟨F, hF⟩ := Deep.choose_lt (p := fun i (y : Nat × Nat) => W.cell? (a.add (i * 2)) = some (.float .f64 y.1) ∧ W.cell? ((a.add (i * 2)).add 1) = some (.float .f64 y.2) ∧ y.1 < 18446744073709551616 ∧ y.2 < 18446744073709551616) hall
    refine ⟨(List.range len0).map F, by simp, ⟨by simpa using hl, hm, ?_, fun hne => ?_⟩, fun e => by cases e⟩
    · intro y hy
      obtain ⟨i, hi, rfl⟩ := List.mem_map.1 hy
      exact (hF i (by simpa using hi)).2.2
    · have hpos : 0 < len0 := by
        rcases Nat.eq_zero_or_pos len0 with h0 | h0
        · subst h0; simp at hne
        · exact h0
      obtain ⟨b, off, spot⟩ := a
      have h0 := (hF 0 hpos).1
      have hspot : spot = none := by simpa [Addr.add] using World.cell?_spot h0
      subst hspot
      refine ⟨b, off, rfl, fun i hi => ?_⟩
      have hi' : i < len0 := by simpa using hi
      obtain ⟨h1, h2, _⟩ := hF i hi'
      rw [addr_addH] at h1
      rw [addr_addH, addr_addH] at h2
      have hg : ((List.range len0).map F).getD i (0, 0) = F i := by simp [List.getD, hi']
      rw [hg]
      exact ⟨h1, h2⟩
set_option maxRecDepth 100000 in
/-- a hold that came in. -/
theorem hold_of_arg {H : Type} {enc : TypeId × Value → H} {W : World} {cs : Array Value} {d : DataW H} {p : List MemPlace} (hs : cs.size = 7) (h : DataW.Trod enc Try.prog W 0 (fun _ => true) true 29 (.agg cs) d p) :
    ∃ x : Hd, cs = #[.int .u64 (x.a0 : Int), .int .u64 (x.a1 : Int), .int .u64 (x.a2 : Int), .slice x.ga x.g.length x.gc, .slice x.sa x.s.length x.sc, .slice x.pa x.p.length x.pc, .slice x.da x.dl.length x.dc] ∧ x.ok W := by
  obtain ⟨m, hm⟩ := h
  obtain ⟨xs, f, _, _, hl, hlen, hf⟩ := DataW.trod_struct Try.underlying29 hm
  have t22 : Try.prog.cellsOf 22 = 1 := by kernel_rfl
  have t24 : Try.prog.cellsOf 24 = 2 := by kernel_rfl
  have t25 : Try.prog.cellsOf 25 = 1 := by kernel_rfl
  have t26 : Try.prog.cellsOf 26 = 1 := by kernel_rfl
  have t27 : Try.prog.cellsOf 27 = 1 := by kernel_rfl
  have g0 := hf 0 _ rfl
  change DataW.trod _ _ _ _ _ _ f 24 ((cs.toList.drop 0).take (Try.prog.cellsOf 24)) = _ at g0
  rw [t24] at g0
  have g1 := hf 1 _ rfl
  change DataW.trod _ _ _ _ _ _ f 22 ((cs.toList.drop 2).take (Try.prog.cellsOf 22)) = _ at g1
  rw [t22] at g1
  have g2 := hf 2 _ rfl
  change DataW.trod _ _ _ _ _ _ f 25 ((cs.toList.drop 3).take (Try.prog.cellsOf 25)) = _ at g2
  rw [t25] at g2
  have g3 := hf 3 _ rfl
  change DataW.trod _ _ _ _ _ _ f 26 ((cs.toList.drop 4).take (Try.prog.cellsOf 26)) = _ at g3
  rw [t26] at g3
  have g4 := hf 4 _ rfl
  change DataW.trod _ _ _ _ _ _ f 25 ((cs.toList.drop 5).take (Try.prog.cellsOf 25)) = _ at g4
  rw [t25] at g4
  have g5 := hf 5 _ rfl
  change DataW.trod _ _ _ _ _ _ f 27 ((cs.toList.drop 6).take (Try.prog.cellsOf 27)) = _ at g5
  rw [t27] at g5
  have hx : ∀ i, i < 6 → ∃ x, xs[i]? = some x := fun i hi => ⟨_, List.getElem?_eq_getElem (by simp at hlen; omega)⟩
  obtain ⟨x0, e0⟩ := hx 0 (by omega)
  obtain ⟨x1, e1⟩ := hx 1 (by omega)
  obtain ⟨x2, e2⟩ := hx 2 (by omega)
  obtain ⟨x3, e3⟩ := hx 3 (by omega)
  obtain ⟨x4, e4⟩ := hx 4 (by omega)
  obtain ⟨x5, e5⟩ := hx 5 (by omega)
  rw [e0] at g0
  rw [e1] at g1
  rw [e2] at g2
  rw [e3] at g3
  rw [e4] at g4
  rw [e5] at g5
  obtain ⟨ys, f2, _, _, hl2, hlen2, hf2⟩ := DataW.trod_struct Try.underlying24 g0
  have k0 := hf2 0 _ rfl
  change DataW.trod _ _ _ _ _ _ f2 22 ((((cs.toList.drop 0).take 2).drop 0).take (Try.prog.cellsOf 22)) = _ at k0
  rw [t22] at k0
  have k1 := hf2 1 _ rfl
  change DataW.trod _ _ _ _ _ _ f2 22 ((((cs.toList.drop 0).take 2).drop 1).take (Try.prog.cellsOf 22)) = _ at k1
  rw [t22] at k1
  have hy : ∀ i, i < 2 → ∃ x, ys[i]? = some x := fun i hi => ⟨_, List.getElem?_eq_getElem (by simp at hlen2; omega)⟩
  obtain ⟨y0, d0⟩ := hy 0 (by omega)
  obtain ⟨y1, d1⟩ := hy 1 (by omega)
  rw [d0] at k0
  rw [d1] at k1
  obtain ⟨z0, c0, _, w0⟩ := DataW.trod_int Try.underlying22 k0
  obtain ⟨z1, c1, _, w1⟩ := DataW.trod_int Try.underlying22 k1
  obtain ⟨z2, c2, _, w2⟩ := DataW.trod_int Try.underlying22 g1
  simp [Lit.wf, IntKind.min, IntKind.max, IntKind.signed, IntKind.bits] at w0 w1 w2
  obtain ⟨ga, gn, gc, c3⟩ := slice_one Try.underlying25 g2
  obtain ⟨sa, sn, sc, c4⟩ := slice_one Try.underlying26 g3
  obtain ⟨pa, pn, pc, c5⟩ := slice_one Try.underlying25 g4
  obtain ⟨da, dn, dc, c6⟩ := slice_one Try.underlying27 g5
  rw [c3] at g2
  rw [c4] at g3
  rw [c5] at g4
  rw [c6] at g5
  obtain ⟨g, rfl, hg, _⟩ := frow_of_arg (enc := enc) (d := x2.1) (p := x2.2) ⟨f, g2⟩
  obtain ⟨s, rfl, hs2, _⟩ := grow_of_arg (enc := enc) (d := x3.1) (p := x3.2) ⟨f, g3⟩
  obtain ⟨q, rfl, hp, _⟩ := frow_of_arg (enc := enc) (d := x4.1) (p := x4.2) ⟨f, g4⟩
  obtain ⟨dl, rfl, hd⟩ := row_of_arg (enc := enc) (d := x5.1) (p := x5.2) ⟨f, g5⟩
  obtain ⟨n0, rfl⟩ : ∃ n : Nat, z0 = n := ⟨z0.toNat, by omega⟩
  obtain ⟨n1, rfl⟩ : ∃ n : Nat, z1 = n := ⟨z1.toNat, by omega⟩
  obtain ⟨n2, rfl⟩ : ∃ n : Nat, z2 = n := ⟨z2.toNat, by omega⟩
  refine ⟨⟨n0, n1, n2, ga, g, gc, sa, s, sc, pa, q, pc, da, dl, dc⟩, ?_, hg, hs2, hp, hd⟩
  have b0 : cs.toList[0]? = some (.int .u64 (n0 : Int)) := by have := one_ofL c0; rw [List.getElem?_take, if_pos (by decide), List.drop_zero] at this; exact this
  have b1 : cs.toList[1]? = some (.int .u64 (n1 : Int)) := by have := one_ofL c1; rw [List.getElem?_take, if_pos (by decide), List.drop_zero] at this; exact this
  have b2 := one_ofL c2
  have b3 := one_ofL c3
  have b4 := one_ofL c4
  have b5 := one_ofL c5
  have b6 := one_ofL c6
  rw [Array.getElem?_toList] at b0 b1 b2 b3 b4 b5 b6
  apply Array.ext_getElem?
  intro i
  by_cases h7 : i < 7
  · match i, h7 with
    | 0, _ => exact b0
    | 1, _ => exact b1
    | 2, _ => exact b2
    | 3, _ => exact b3
    | 4, _ => exact b4
    | 5, _ => exact b5
    | 6, _ => exact b6
  · rw [Array.getElem?_eq_none (by omega), Array.getElem?_eq_none (by simp; omega)]
end Go.Proofs.Ytaalkhipncbjpaa
