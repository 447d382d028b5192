/- The program's book: a rule is granted, revoked, told. -/
import Derived.Test.YtlneneacbjkheaaLast
namespace Go.Proofs.Ytlneneacbjkheaa
open Go.RowKit
section
variable {w w1 : World} {b base : Nat} {gs : List Gr} {v : Value}
theorem end_nil (id ep : Nat) (w : World) : Calls Try.prog 24 #[.pointer none, .int .u64 (id : Int), .int .u64 (ep : Int)] w fun e w' => e = .returned (.bool false) ∧ w' = w := by
  go_enter Try.func24, Try.ntmps24
  go_wp2_with fail
  refine (last_open_nil id w).mono ?_
  rintro e w1 ⟨rfl, hw⟩
  subst w1
  go_wp2
  go_ret
  exact ⟨rfl, rfl⟩
/-- the rules behind an end. -/
def endG (gs : List Gr) (n : Nat) (ok : Bool) (ep : Nat) : List Gr := if ok then gs.set n { gr gs n with u := max ep 1 } else gs
theorem endG_length (gs : List Gr) (n : Nat) (ok : Bool) (ep : Nat) : (endG gs n ok ep).length = gs.length := by
  unfold endG; split <;> simp
theorem Gr.set_u (x : Gr) (u : Nat) : Gr.cells { x with u := u } = (Gr.cells x).set 8 (.int .u64 (u : Int)) := rfl
set_option maxRecDepth 100000 in
set_option maxHeartbeats 1000000 in
theorem end_any (h : Bk w b base gs v) (id ep : Nat) (hep : ep < 18446744073709551616) (hlen : gs.length ≤ 1000000) (n : Nat) (ok : Bool) (hL : LastAt gs (fun x => decide (x.r.id = id) && x.open) n ok) :
    Calls Try.prog 24 #[.pointer (some ⟨b, 0, none⟩), .int .u64 (id : Int), .int .u64 (ep : Int)] w fun e w' => e = .returned (.bool ok) ∧ Bk w' b base (endG gs n ok ep) v ∧ Fr (fun k => v.ownBlock = some k) w w' := by
  have K : Hid (Calls _ _ _ _ _) := last_open h id hlen n ok hL
  have HB : Hid (Bk w b base gs v) := h
  have HL : Hid (LastAt gs (fun x => decide (x.r.id = id) && x.open) n ok) := hL
  clear h hL
  cases ok with
  | false =>
    go_enter Try.func24, Try.ntmps24
    go_wp2_with fail
    refine K.out.mono ?_
    rintro e w1 ⟨rfl, f1⟩
    go_wp2
    go_ret
    exact ⟨rfl, HB.out.fr f1 (by simp) (by simp), f1.mono (fun _ _ h => h.elim)⟩
  | true =>
    have hn : n < gs.length := by
      rcases HL.out with ⟨_, h1, _⟩ | ⟨h1, _⟩
      · exact h1
      · cases h1
    go_enter Try.func24, Try.ntmps24
    go_wp2_with fail
    refine K.out.mono ?_
    rintro e w1 ⟨rfl, f1⟩
    have hb1 := HB.out.fr f1 (by simp) (by simp)
    have HB1 : Hid (Bk w1 b base gs v) := hb1
    have HF1 : Hid (Fr (fun _ => False) w w1) := f1
    have c0 := hb1.c0
    obtain ⟨ao, cap, hv, hrow, hao⟩ := hb1.own.row
    subst hv
    obtain ⟨g, off, ha, x, HX, _, _, _, _, _, _, _, _, x8⟩ := hrow.gr n hn
    subst ha
    obtain ⟨ho, _, hob, hz⟩ := hao _ rfl
    obtain rfl : off = 0 := ho
    simp only [Nat.zero_add] at x8
    have z8 : w1.frozen? ⟨g, n * 9 + 8, none⟩ = false := hz _
    have hl3 := hrow.lens
    have j1 : (0 : Int) ≤ (n : Int) := by omega
    have j2 : (n : Int) < (gs.length : Int) := by omega
    have HOB : Hid ((Value.slice (some ⟨g, 0, none⟩) gs.length cap).ownBlock = some g) := hob
    have HO : Hid (OwnF w1 base 67 (.slice (some ⟨g, 0, none⟩) gs.length cap) gs) := hb1.own
    clear hb1 f1 hrow hao hz hob K
    have hres : ∀ u : Nat, u = max ep 1 → ∀ W, W = w1.setCell ⟨g, n * 9 + 8, none⟩ (.int .u64 (u : Int)) → Bk W b base (endG gs n true ep) (.slice (some ⟨g, 0, none⟩) gs.length cap) ∧ Fr (fun k => (Value.slice (some ⟨g, 0, none⟩) gs.length cap).ownBlock = some k) w W := by
      rintro u hu W rfl
      have fs := (Fr.refl (fun k => (Value.slice (some ⟨g, 0, none⟩) gs.length cap).ownBlock = some k) w1).setCell (p := ⟨g, n * 9 + 8, none⟩) (Or.inl rfl) (.int .u64 (u : Int))
      have hne : ¬ (Value.slice (some ⟨g, 0, none⟩) gs.length cap).ownBlock = some b := HB1.out.apart
      refine ⟨⟨fs.cell HB1.out.c0 hne, (fs.frozenEq HB1.out.lt hne).trans HB1.out.z0, ?_, HB1.out.apart, HB1.out.base, ?_⟩, (HF1.out.mono (fun _ _ h => h.elim)).trans fs⟩
      · have := HO.out.set n 8 { gr gs n with u := u } (.int .u64 (u : Int)) hn (by decide) (Gr.set_u _ _)
        unfold endG
        rw [if_pos rfl, ← hu]
        exact this
      · intro y hy
        unfold endG at hy
        rw [if_pos rfl] at hy
        rcases List.mem_or_eq_of_mem_set hy with h1 | h1
        · exact HB1.out.ok y h1
        · subst h1
          have := HB1.out.ok (gr gs n) (by unfold gr; rw [List.getD_eq_getElem?_getD, List.getElem?_eq_getElem hn]; exact List.getElem_mem _)
          exact ⟨this.r, this.f, by show max ep 1 < _; omega⟩
    have HRES : Hid _ := hres
    clear hres
    by_cases h0 : 1 ≤ ep
    · have hm : max ep 1 = ep := by omega
      go_wp2
      go_ret
      have := HRES.out ep (by omega) _ rfl
      exact ⟨rfl, this.1, this.2⟩
    · have he0 : ep = 0 := by omega
      subst he0
      go_wp2
      go_ret
      have := HRES.out 1 (by omega) _ rfl
      exact ⟨rfl, this.1, this.2⟩
theorem revoke_nil (id ep : Nat) (w : World) : Calls Try.prog 13 #[.pointer none, .int .u64 (id : Int), .int .u64 (ep : Int)] w fun e w' => e = .returned (.bool false) ∧ w' = w := by
  go_enter Try.func13, Try.ntmps13
  go_wp2_with fail
  refine (end_nil id ep w).mono ?_
  rintro e w1 ⟨rfl, hw⟩
  subst w1
  go_wp2
  go_ret
  exact ⟨rfl, rfl⟩
set_option maxHeartbeats 400000 in
theorem revoke_any (h : Bk w b base gs v) (id ep : Nat) (hep : ep < 18446744073709551616) (hlen : gs.length ≤ 1000000) (n : Nat) (ok : Bool) (hL : LastAt gs (fun x => decide (x.r.id = id) && x.open) n ok) :
    Calls Try.prog 13 #[.pointer (some ⟨b, 0, none⟩), .int .u64 (id : Int), .int .u64 (ep : Int)] w fun e w' => e = .returned (.bool ok) ∧ Bk w' b base (endG gs n ok ep) v ∧ Fr (fun k => v.ownBlock = some k) w w' := by
  have K : Hid (Calls _ _ _ _ _) := end_any h id ep hep hlen n ok hL
  clear h hL
  go_enter Try.func13, Try.ntmps13
  go_wp2_with fail
  refine K.out.mono ?_
  rintro e w1 ⟨rfl, h1, f1⟩
  go_wp2
  go_ret
  exact ⟨rfl, h1, f1⟩
set_option maxHeartbeats 400000 in
theorem grant_nil (x : Rl) (ep : Int) (w : World) : Calls Try.prog 14 #[.pointer none, .agg #[.int .u64 (x.id : Int), .int .i64 x.fr, .int .i64 x.tt, .float .f64 x.lo, .float .f64 x.hi, .int .u64 (x.au : Int), .int .i64 x.qu], .int .u64 ep] w fun e w' => e = .returned (.tuple #[]) ∧ Fr (fun _ => False) w w' := by
  go_enter Try.func14, Try.ntmps14
  go_wp2
  (try simp only [Exit.inBlock, Exit.then])
  refine bodyPost_ret (results_none rfl _ _ _) rfl ?_
  exact ⟨rfl, (Fr.refl _ _).alloc _⟩
/-- append, as one step of a region that draws, by its run. -/
theorem step_append_eq {P : Program} {ops : Array Oper} {o : Oper} {a : Act} {w w' : World} {K : Act → World → Prop} {Q : Exit → Act → World → Prop} {E : Prop}
    (hg : o.guard = none) (s x : Operand) (t : TypeId) (hop : o.op = Op.call { callee := Callee.builtin Builtin.append, args := #[s, x], argTypes := #[t, t] })
    {vs vx v' : Value} (hrun : (Builtin.append_ #[t, t] o.type #[vs, vx]).run P w = .ok v' w') (hs : a.eval s = vs) (hx : a.eval x = vx)
    (hK : K (a.put o.dst v') w') :
    if Region.wanted o (yielded ops a.tmps) = true then Oper.wp P o a w K Q else E := by
  have hw : Region.wanted o (yielded ops a.tmps) = true := by simp [Region.wanted, hg]
  rw [if_pos hw]
  unfold Oper.wp
  simp [execOp, hop, resolve, invoke, builtin, hs, hx, hrun, Result.andThen]
  exact hK
theorem Try.info67 : (Try.prog.info? 67).map (fun i => (i.zero, i.size, i.bytes)) = some (some (.agg #[.int .u64 0, .int .i64 0, .int .i64 0, .float .f64 0, .float .f64 0, .int .u64 0, .int .i64 0, .int .u64 0, .int .u64 0]), Enc.sz Gr, 72) := by kernel_rfl
set_option maxRecDepth 100000 in
set_option maxHeartbeats 2000000 in
theorem grant_any (h : Bk w b base gs v) (x : Rl) (hx : x.Ok) (ep : Nat) (hep : ep < 18446744073709551616) (hlen : gs.length ≤ 900000) (n : Nat) (ok : Bool) (hL : LastAt gs (fun y => decide (y.r.id = x.id) && y.open) n ok) :
    Calls Try.prog 14 #[.pointer (some ⟨b, 0, none⟩), .agg #[.int .u64 (x.id : Int), .int .i64 x.fr, .int .i64 x.tt, .float .f64 x.lo, .float .f64 x.hi, .int .u64 (x.au : Int), .int .i64 x.qu], .int .u64 (ep : Int)] w fun e w' => e = .returned (.tuple #[]) ∧ (∃ v', Bk w' b base (endG gs n ok ep ++ [⟨x, ep, 0⟩]) v' ∧ ∀ k, v'.ownBlock = some k → v.ownBlock = some k ∨ w.heap.size ≤ k) ∧ Fr (fun k => v.ownBlock = some k ∨ k = b) w w' := by
  have f0 := (Fr.refl (fun _ => False) w).alloc (.cells #[.int .u64 (x.id : Int), .int .i64 x.fr, .int .i64 x.tt, .float .f64 x.lo, .float .f64 x.hi, .int .u64 (x.au : Int), .int .i64 x.qu] 34)
  have K : Hid (Calls _ _ _ _ _) := end_any (h.fr f0 (by simp) (by simp)) x.id ep hep (by omega) n ok hL
  have HF0 : Hid (Fr (fun _ => False) w _) := f0
  have HX : Hid x.Ok := hx
  have HV : Hid (∀ k, v.ownBlock = some k → base ≤ k ∧ k < w.heap.size) := h.own.lt
  have HBL : Hid (b < w.heap.size) := h.lt
  have HXB : Hid (∀ W, Fr (fun k => v.ownBlock = some k) (w.alloc (.cells #[.int .u64 (x.id : Int), .int .i64 x.fr, .int .i64 x.tt, .float .f64 x.lo, .float .f64 x.hi, .int .u64 (x.au : Int), .int .i64 x.qu] 34)) W → W.cell? ⟨w.heap.size, 0, none⟩ = some (.int .u64 (x.id : Int)) ∧ W.cell? ⟨w.heap.size, 1, none⟩ = some (.int .i64 x.fr) ∧ W.cell? ⟨w.heap.size, 2, none⟩ = some (.int .i64 x.tt) ∧ W.cell? ⟨w.heap.size, 3, none⟩ = some (.float .f64 x.lo) ∧ W.cell? ⟨w.heap.size, 4, none⟩ = some (.float .f64 x.hi) ∧ W.cell? ⟨w.heap.size, 5, none⟩ = some (.int .u64 (x.au : Int)) ∧ W.cell? ⟨w.heap.size, 6, none⟩ = some (.int .i64 x.qu)) := fun W f => by
    have hne : ¬ v.ownBlock = some w.heap.size := fun e => by have := HV.out _ e; omega
    exact ⟨f.cell (by simp) hne, f.cell (by simp) hne, f.cell (by simp) hne, f.cell (by simp) hne, f.cell (by simp) hne, f.cell (by simp) hne, f.cell (by simp) hne⟩
  clear h hL hx f0
  go_enter Try.func14, Try.ntmps14
  go_wp2_with fail
  refine K.out.mono ?_
  rintro e w1 ⟨rfl, hb1, f1⟩
  obtain ⟨x0, x1, x2, x3, x4, x5, x6⟩ := HXB.out w1 f1
  obtain ⟨es, Hes⟩ : ∃ es, Hid (es = endG gs n ok ep) := ⟨_, rfl⟩
  have hel : es.length ≤ 900000 := by rw [Hes.out, endG_length]; exact hlen
  have HB1 : Hid (Bk w1 b base es v) := by show Bk _ _ _ _ _; rw [Hes.out]; exact hb1
  have HF1 : Hid (Fr (fun k => v.ownBlock = some k) w w1) := (HF0.out.mono (fun _ _ h => h.elim)).trans f1
  have c0 := hb1.c0
  have z0 := hb1.z0
  clear hb1 f1 K HF0 HXB
  have fA := ((Fr.refl (fun _ => False) w1).drew).alloc (.cells #[.int .u64 (x.id : Int), .int .i64 x.fr, .int .i64 x.tt, .float .f64 x.lo, .float .f64 x.hi, .int .u64 (x.au : Int), .int .i64 x.qu, .int .u64 (ep : Int), .int .u64 0] 67)
  obtain ⟨v2, w2, hrun, ho2, hg2, hat2⟩ := run_append_f (P := Try.prog) (α := Gr) (w1.drew.alloc (.cells #[.int .u64 (x.id : Int), .int .i64 x.fr, .int .i64 x.tt, .float .f64 x.lo, .float .f64 x.hi, .int .u64 (x.au : Int), .int .i64 x.qu, .int .u64 (ep : Int), .int .u64 0] 67)) 62 62 67 Try.underlying62 _ 72 Try.info67 rfl (by decide) base v es (HB1.out.own.fr fA (by simp)) ⟨w1.heap.size, 0, none⟩ [(⟨x, ep, 0⟩ : Gr)] 1 (one_f w1.drew (⟨x, ep, 0⟩ : Gr) 67 _ rfl) (by have := HB1.out.base; have := HB1.out.lt; simp; omega) (by simp; omega)
  obtain ⟨a2, c2, hv2, _⟩ := ho2.form
  obtain ⟨m2, Hm2⟩ : ∃ m2, Hid ((es ++ [(⟨x, ep, 0⟩ : Gr)]).length = m2) := ⟨_, rfl⟩
  rw [Hm2.out] at hv2
  subst hv2
  have HRUN : Hid (_ = Result.ok _ w2) := hrun
  have fA' : Fr (fun _ => False) w1 (w1.drew.alloc (.cells #[.int .u64 (x.id : Int), .int .i64 x.fr, .int .i64 x.tt, .float .f64 x.lo, .float .f64 x.hi, .int .u64 (x.au : Int), .int .i64 x.qu, .int .u64 (ep : Int), .int .u64 0] 67)) := fA
  have f2 : Fr (fun k => v.ownBlock = some k) w1 w2 := (fA'.mono (fun _ _ h => h.elim)).grown hg2 (fun k hk => .inl hk)
  have hvb : ¬ v.ownBlock = some b := HB1.out.apart
  have e0 : w2.cell? ⟨b, 0, none⟩ = some v := f2.cell c0 hvb
  have ez : w2.frozen? ⟨b, 0, none⟩ = false := (f2.frozenEq (a := ⟨b, 0, none⟩) HB1.out.lt hvb).trans z0
  have hvn : ∀ k, (Value.slice a2 m2 c2).ownBlock = some k → v.ownBlock = some k ∨ w.heap.size ≤ k := fun k hk => by
    rcases hat2 with e | e
    · left; rw [← e]; exact hk
    · right
      rw [e] at hk
      have := Option.some.inj hk
      have := HF1.out.size
      simp at *
      omega
  have HRES : Hid (∀ W, W = w2.setCell ⟨b, 0, none⟩ (.slice a2 m2 c2) → (∃ v', Bk W b base (es ++ [⟨x, ep, 0⟩]) v' ∧ ∀ k, v'.ownBlock = some k → v.ownBlock = some k ∨ w.heap.size ≤ k) ∧ Fr (fun k => v.ownBlock = some k ∨ k = b) w W) := by
    rintro W rfl
    have fs := (Fr.refl (fun k => k = b) w2).setCell (p := ⟨b, 0, none⟩) (Or.inl rfl) (.slice a2 m2 c2)
    have hap : (Value.slice a2 m2 c2).ownBlock ≠ some b := fun e => by
      rcases hvn b e with h1 | h1
      · exact hvb h1
      · have := HBL.out; omega
    refine ⟨⟨_, ⟨World.cell?_setCell_same _ _ _ e0, by simpa using ez, ho2.fr fs (fun k hk e => hap (by rw [hk, e])), hap, HB1.out.base, fun y hy => ?_⟩, hvn⟩, ((HF1.out.mono (fun _ _ h => .inl h)).trans (f2.mono (fun _ _ h => .inl h))).trans (fs.mono (fun _ _ h => .inr h))⟩
    rcases List.mem_append.1 hy with h1 | h1
    · exact HB1.out.ok y h1
    · simp at h1
      subst h1
      exact ⟨HX.out, hep, by show (0 : Nat) < _; omega⟩
  have a0 : (w1.alloc (.cells #[.int .u64 (x.id : Int), .int .i64 x.fr, .int .i64 x.tt, .float .f64 x.lo, .float .f64 x.hi, .int .u64 (x.au : Int), .int .i64 x.qu, .int .u64 (ep : Int), .int .u64 0] 67)).cell? ⟨b, 0, none⟩ = some v := ((Fr.refl (fun _ => False) w1).alloc _).cell c0 (by simp)
  clear hrun ho2 hg2 hat2 f2 fA fA' hvn hvb
  go_wp2_with fail
  go_region_law (refine step_append_eq rfl (.tmp 17) (.tmp 21) 62 rfl HRUN.out rfl rfl ?_)
  all_goals
    go_wp2
    refine bodyPost_end (results_none rfl _ _ _) rfl ?_
    exact ⟨rfl, by have := HRES.out _ rfl; rw [Hes.out] at this; exact this⟩
end
end Go.Proofs.Ytlneneacbjkheaa
