/- LogsPuts: an entry laid anew, and one round of the loop. -/
import Derived.Test.YtkkpdnholnkeoabLawB
namespace Go.Proofs.Ytkkpdnholnkeoab
open Go.RowKit

/-- two bytes, laid by themselves. -/
theorem two_row (w : World) (x : Nat) (hx : x < 256) : Row (w.alloc (.cells #[.int .u8 (x : Int), .int .u8 1] 5)) (some ⟨w.heap.size, 0, none⟩) [x, 1] 2 := by
  refine ⟨by simp, by unfold maxLen; simp, by simpa using hx, fun h => (by cases h), fun _ => ⟨w.heap.size, 0, rfl, fun i hi => ?_⟩⟩
  simp at hi
  have : i = 0 ∨ i = 1 := by omega
  rcases this with rfl | rfl <;> simp
theorem lastT_append (term : Nat) (es : List En) (x : En) : lastT term (es ++ [x]) = x.t := lastT_end term es x

/-- an entry that was laid anew: its data, its box. -/
structure NewEnt (wr wx : World) (db xb x z tt kd : Nat) : Prop where
  fr : Fr (fun _ => False) wr wx
  row : Row wx (some ⟨db, 0, none⟩) [x, 1] 2
  box : Box4 wx xb z tt kd (.slice (some ⟨db, 0, none⟩) 2 2)
  hdb : wr.heap.size ≤ db ∧ db < wx.heap.size
  hxb : wr.heap.size ≤ xb
  ne : db ≠ xb
theorem NewEnt.same {wr wx wy : World} {db xb x z tt kd : Nat} (h : NewEnt wr wx db xb x z tt kd) (h1 : wy.heap = wx.heap) (h2 : wy.os = wx.os) (h3 : wy.tape = wx.tape) (h4 : wy.output = wx.output) : NewEnt wr wy db xb x z tt kd := by
  have f : Fr (fun _ => False) wx wy := ⟨h2, h3, h4, by rw [h1]; exact Nat.le_refl _, fun k _ _ => by rw [h1]⟩
  exact ⟨h.fr.trans f, f.row h.row (by simp), h.box.fr f (by simp), ⟨h.hdb.1, by rw [h1]; exact h.hdb.2⟩, h.hxb, h.ne⟩
theorem NewEnt.setAll {wr X : World} {db xb x : Nat} (f : Fr (fun _ => False) wr X) (row : Row X (some ⟨db, 0, none⟩) [x, 1] 2) (b0 : Box4 X xb 0 0 0 (.slice none 0 0)) (h1 : wr.heap.size ≤ db) (h2 : db < X.heap.size) (hxb : wr.heap.size ≤ xb) (ne : db ≠ xb) (z tt kd : Nat) :
    NewEnt wr ((((X.setCell ⟨xb, 0, none⟩ (.int .u64 (z : Int))).setCell ⟨xb, 1, none⟩ (.int .u64 (tt : Int))).setCell ⟨xb, 2, none⟩ (.int .u8 (kd : Int))).setCell ⟨xb, 3, none⟩ (.slice (some ⟨db, 0, none⟩) 2 2)) db xb x z tt kd := by
  have g : Fr (fun k => k = xb) X _ := ((((Fr.refl (fun k => k = xb) X).setCell (p := ⟨xb, 0, none⟩) (Or.inl rfl) (.int .u64 (z : Int))).setCell (p := ⟨xb, 1, none⟩) (Or.inl rfl) (.int .u64 (tt : Int))).setCell (p := ⟨xb, 2, none⟩) (Or.inl rfl) (.int .u8 (kd : Int))).setCell (p := ⟨xb, 3, none⟩) (Or.inl rfl) (.slice (some ⟨db, 0, none⟩) 2 2)
  exact ⟨f.trans' g (fun i hi e => by omega), g.row row (fun _ a ha e => by cases ha; exact ne e), b0.set z tt kd _, ⟨h1, Nat.lt_of_lt_of_le h2 g.size⟩, hxb, ne⟩
abbrev box0 : Obj := .cells #[.int .u64 0, .int .u64 0, .int .u8 0, .slice none 0 0] 36
abbrev dataO (x : Nat) : Obj := .cells #[.int .u8 (x : Int), .int .u8 1] 5
abbrev boxO (z tt kd : Nat) (v : Value) : Obj := .cells #[.int .u64 (z : Int), .int .u64 (tt : Int), .int .u8 (kd : Int), v] 36
theorem box0_new (w : World) : Box4 (w.alloc box0) w.heap.size 0 0 0 (.slice none 0 0) := by constructor <;> simp [box0]
/-- what holds between two rounds: entries, and a log of the same, apart. -/
structure PutRel (w wr : World) (gb sb nb nt n : Nat) (DL DG : Nat → Prop) (ms ys : List En) (v : Value) (av : Option Addr) (cv : Nat) : Prop where
  own : OwnE wr DL (.slice av ms.length cv) ms
  log : Lg wr gb DG nb nt n ys v
  same : ys.map En.p = ms.map En.p
  ix : ∀ q, q < ms.length → (ms.getD q default).i = nb + 1 + q
  dl : ∀ x ∈ ms, x.d.length ≤ 1000000
  bx : Box26 wr sb nb nt n
  fr : Fr (fun _ => False) w wr
  dlo : ∀ k, DL k → w.heap.size ≤ k ∧ k < wr.heap.size ∧ k ≠ gb ∧ k ≠ sb ∧ ¬ DG k
  dgo : ∀ k, DG k → w.heap.size ≤ k ∧ k < wr.heap.size ∧ k ≠ sb
  gbo : w.heap.size ≤ gb ∧ gb ≠ sb

theorem getD_app (ms : List En) (x : En) {q : Nat} (hq : q < ms.length) : (ms ++ [x]).getD q default = ms.getD q default := by simp [List.getD, List.getElem?_append_left hq]
theorem getD_app_end (ms : List En) (x : En) : (ms ++ [x]).getD ms.length default = x := by simp [List.getD]
theorem Lg.grow {w : World} {gb base term voters : Nat} {D E : Nat → Prop} {es : List En} {v : Value} (h : Lg w gb D base term voters es v) (hs : ∀ k, k < w.heap.size → D k → E k) (ha : ¬ E gb) : Lg w gb E base term voters es v :=
  ⟨h.c0, h.c1, h.c2, h.c3, h.z0, h.z1, h.z2, h.z3, h.own.mono hs, ha, h.b0, h.b1, h.b2⟩
/-- one round: what is put, and what stands behind the list then. -/
theorem PutRel.next {w wr wx : World} {gb sb nb nt n db xb x z1 tt kd : Nat} {DL DG : Nat → Prop} {ms ys : List En} {v : Value} {av : Option Addr} {cv : Nat} (h : PutRel w wr gb sb nb nt n DL DG ms ys v av cv) (e : NewEnt wr wx db xb x z1 tt kd) (hz : z1 = nb + ms.length + 1) (htt : tt < 1000) (hkd : kd < 2) (hms : ms.length ≤ 60) (hnb : nb ≤ 6) :
    Calls Try.prog 15 #[.pointer (some ⟨gb, 0, none⟩), .int .u64 (tt : Int), .int .u8 (kd : Int), .slice (some ⟨db, 0, none⟩) 2 2] wx fun r w8 => r = .returned (.int .u64 (z1 : Int)) ∧ Box4 w8 xb z1 tt kd (.slice (some ⟨db, 0, none⟩) 2 2) ∧
      ∀ X, Fr (fun _ => False) w8 X → ∃ a9 c9 w9 DL' DG' ys' v', (Builtin.append_ #[28, 28] 28 #[.slice av ms.length cv, .slice (some ⟨X.heap.size, 0, none⟩) 1 1]).run Try.prog (X.alloc (.cells #[.int .u64 (z1 : Int), .int .u64 (tt : Int), .int .u8 (kd : Int), .slice (some ⟨db, 0, none⟩) 2 2] 36)) = .ok (.slice a9 (ms.length + 1) c9) w9 ∧
        PutRel w w9 gb sb nb nt n DL' DG' (ms ++ [⟨z1, tt, kd, [x, 1], some ⟨db, 0, none⟩, 2⟩]) ys' v' a9 c9 := by
  have hyl : ys.length = ms.length := by simpa using congrArg List.length h.same
  have hgb := h.log.lt
  have hsb := h.bx.lt
  have hwx := e.fr.size
  have hdb := e.hdb
  have hA0 : ¬ (DG gb ∨ wx.heap.size ≤ gb) := fun hk => by
    rcases hk with hk | hk
    · exact h.log.apart hk
    · omega
  have L0 : Lg wx gb (fun k => DG k ∨ wx.heap.size ≤ k) nb nt n ys v := (h.log.fr e.fr (by simp) (by simp)).grow (fun k _ hk => .inl hk) hA0
  have P := put_any L0 (by omega) (by omega) (fun k hk => .inr hk) tt kd (some ⟨db, 0, none⟩) [x, 1] 2 e.row (by simp) (by omega) (by omega)
  refine P.mono ?_
  rintro r w8 ⟨rfl, ⟨v', xe, L8, hxe⟩, f8⟩
  have hS : ∀ k, (k = gb ∨ v.ownBlock = some k) → k = gb ∨ DG k := fun k hk => hk.imp id (h.log.own.blk k)
  have hS8 : ∀ k, k < wr.heap.size → (k = gb ∨ v.ownBlock = some k) → w.heap.size ≤ k := fun k _ hk => by
    rcases hS k hk with rfl | hk
    · exact h.gbo.1
    · exact (h.dgo k hk).1
  have hxb : ¬ (xb = gb ∨ v.ownBlock = some xb) := fun hk => by
    have := e.hxb
    rcases hS _ hk with hk | hk
    · omega
    · have := h.dgo _ hk; omega
  have hdbS : ¬ (db = gb ∨ v.ownBlock = some db) := fun hk => by
    rcases hS _ hk with hk | hk
    · omega
    · have := h.dgo _ hk; omega
  have hsbS : ¬ (sb = gb ∨ v.ownBlock = some sb) := fun hk => by
    rcases hS _ hk with hk | hk
    · exact h.gbo.2 hk.symm
    · exact (h.dgo _ hk).2.2 rfl
  have h8 := f8.size
  refine ⟨by rw [hyl, hz], e.box.fr f8 hxb, fun X fX => ?_⟩
  have hX := fX.size
  have fA : Fr (fun _ => False) w8 (X.alloc (.cells #[.int .u64 (z1 : Int), .int .u64 (tt : Int), .int .u8 (kd : Int), .slice (some ⟨db, 0, none⟩) 2 2] 36)) := fX.alloc _
  have hA := fA.size
  have hA1 : (X.alloc (.cells #[.int .u64 (z1 : Int), .int .u64 (tt : Int), .int .u8 (kd : Int), .slice (some ⟨db, 0, none⟩) 2 2] 36)).heap.size = X.heap.size + 1 := by simp
  have O8 : OwnE w8 DL (.slice av ms.length cv) ms := (h.own.fr e.fr (by simp)).fr f8 (fun k hk hs => by
    rcases hS k hs with hs | hs
    · exact (h.dlo k hk).2.2.1 hs
    · exact (h.dlo k hk).2.2.2.2 hs)
  have OA := (O8.fr fA (by simp)).mono (E := fun k => DL k ∨ k = db ∨ w8.heap.size ≤ k) (fun k _ hk => .inl hk)
  have R8 : Row w8 (some ⟨db, 0, none⟩) [x, 1] 2 := f8.row e.row (fun _ a ha => by cases ha; exact hdbS)
  obtain ⟨v9, w9, hrun, O9, hg9, hv9⟩ := run_append_ents _ 28 (fun k => DL k ∨ k = db ∨ w8.heap.size ≤ k) (.slice av ms.length cv) ms OA ⟨X.heap.size, 0, none⟩ [⟨z1, tt, kd, [x, 1], some ⟨db, 0, none⟩, 2⟩] 1 (one_cells X ⟨z1, tt, kd, [x, 1], some ⟨db, 0, none⟩, 2⟩) (fun q hq => by
    simp at hq
    subst hq
    exact ⟨by show z1 < _; omega, by show tt < _; omega, by show kd < _; omega, fA.row R8 (by simp), fun _ a ha => by
      cases ha
      exact ⟨.inr (.inl rfl), fun hk => by have := h.dlo _ (h.own.blk _ hk); have : db < wr.heap.size := this.2.1; omega⟩⟩) (fun k hk => .inr (.inr (by omega))) (by simp; omega)
  obtain ⟨a9, c9, rfl, _⟩ := O9.form
  have f9 : Fr (fun k => (Value.slice av ms.length cv).ownBlock = some k) w8 w9 := ((fA.mono (fun _ _ hk => hk.elim)).grown hg9 (fun k hk => .inl hk))
  have h9 := f9.size
  have hown : ∀ k, (Value.slice av ms.length cv).ownBlock = some k → DL k := fun k hk => h.own.blk k hk
  refine ⟨a9, c9, w9, fun k => (DL k ∨ k = db ∨ w8.heap.size ≤ k) ∧ k < w9.heap.size, fun k => (DG k ∨ wx.heap.size ≤ k) ∧ k < w8.heap.size, ys ++ [xe], v', ?_, ?_⟩
  · simpa using hrun
  have L8' : Lg w8 gb (fun k => (DG k ∨ wx.heap.size ≤ k) ∧ k < w8.heap.size) nb nt n (ys ++ [xe]) v' := L8.grow (fun k hk hd => ⟨hd, hk⟩) (fun hk => by
    rcases hk.1 with hk | hk
    · exact h.log.apart hk
    · omega)
  refine ⟨?_, ?_, ?_, ?_, ?_, ?_, ?_, ?_, ?_, h.gbo⟩
  · have := O9.mono (E := fun k => (DL k ∨ k = db ∨ w8.heap.size ≤ k) ∧ k < w9.heap.size) (fun k hk hd => ⟨hd, hk⟩)
    simpa using this
  · exact L8'.fr f9 (fun hk => (h.dlo _ (hown _ hk)).2.2.1 rfl) (fun k hk hs => by
      have := h.dlo _ (hown _ hs)
      rcases hk.1 with hk | hk
      · exact this.2.2.2.2 hk
      · omega)
  · rw [List.map_append, List.map_append, h.same]
    congr 1
    show [xe.p] = [(z1, tt, kd, [x, 1])]
    rw [hxe, hyl, hz]
  · intro q hq
    simp at hq
    by_cases hq2 : q < ms.length
    · rw [getD_app _ _ hq2]; exact h.ix q hq2
    · have : q = ms.length := by omega
      subst this
      rw [getD_app_end]
      show z1 = _
      omega
  · intro y hy
    rw [List.mem_append] at hy
    rcases hy with hy | hy
    · exact h.dl y hy
    · simp at hy; subst hy; simp
  · exact ((h.bx.fr e.fr (by simp)).fr f8 hsbS).fr f9 (fun hk => (h.dlo _ (hown _ hk)).2.2.2.1 rfl)
  · refine ((h.fr.trans e.fr).trans' f8 (fun i hi hk => ?_)).trans' f9 (fun i hi hk => ?_)
    · have hw := h.fr.size
      have := hS8 i (by omega) hk
      omega
    · have := h.dlo _ (hown _ hk)
      omega
  · intro k hk
    have hw := h.fr.size
    refine ⟨?_, hk.2, ?_, ?_, ?_⟩
    · rcases hk.1 with hk | hk | hk
      · exact (h.dlo k hk).1
      · omega
      · omega
    · rcases hk.1 with hk | hk | hk
      · exact (h.dlo k hk).2.2.1
      · omega
      · omega
    · rcases hk.1 with hk | hk | hk
      · exact (h.dlo k hk).2.2.2.1
      · omega
      · omega
    · intro hd
      rcases hk.1 with hk | hk | hk
      · rcases hd.1 with hd' | hd'
        · exact (h.dlo k hk).2.2.2.2 hd'
        · have := h.dlo k hk; omega
      · rcases hd.1 with hd' | hd'
        · have := h.dgo k hd'; omega
        · omega
      · omega
  · intro k hk
    have hw := h.fr.size
    refine ⟨?_, by omega, ?_⟩
    · rcases hk.1 with hk | hk
      · exact (h.dgo k hk).1
      · omega
    · rcases hk.1 with hk | hk
      · exact (h.dgo k hk).2.2
      · omega
theorem NewEnt.go {wr wx wy : World} {db xb x z tt kd : Nat} (h : NewEnt wr wx db xb x z tt kd) (f : Fr (fun _ => False) wx wy) : NewEnt wr wy db xb x z tt kd :=
  ⟨h.fr.trans f, f.row h.row (by simp), h.box.fr f (by simp), ⟨h.hdb.1, Nat.lt_of_lt_of_le h.hdb.2 f.size⟩, h.hxb, h.ne⟩
/-- what holds behind a Put. -/
def PutAt (w : World) (gb sb nb nt n : Nat) (ms : List En) (x z1 tt kd db xb : Nat) (av : Option Addr) (cv : Nat) (wy : World) : Prop :=
  Box4 wy xb z1 tt kd (.slice (some ⟨db, 0, none⟩) 2 2) ∧
      ∀ X, Fr (fun _ => False) wy X → ∃ a9 c9 w9 DL' DG' ys' v', (Builtin.append_ #[28, 28] 28 #[.slice av ms.length cv, .slice (some ⟨X.heap.size, 0, none⟩) 1 1]).run Try.prog (X.alloc (.cells #[.int .u64 (z1 : Int), .int .u64 (tt : Int), .int .u8 (kd : Int), .slice (some ⟨db, 0, none⟩) 2 2] 36)) = .ok (.slice a9 (ms.length + 1) c9) w9 ∧
        PutRel w w9 gb sb nb nt n DL' DG' (ms ++ [⟨z1, tt, kd, [x, 1], some ⟨db, 0, none⟩, 2⟩]) ys' v' a9 c9
theorem PutAt.go {w wy wz : World} {gb sb nb nt n : Nat} {ms : List En} {x z1 tt kd db xb : Nat} {av : Option Addr} {cv : Nat} (h : PutAt w gb sb nb nt n ms x z1 tt kd db xb av cv wy) (f : Fr (fun _ => False) wy wz) : PutAt w gb sb nb nt n ms x z1 tt kd db xb av cv wz :=
  ⟨h.1.fr f (by simp), fun X fX => h.2 X (f.trans fX)⟩
end Go.Proofs.Ytkkpdnholnkeoab
