/- The program's book: what each of its calls does. -/
import Derived.Test.YtlneneacbjkheaaFlat
import Derived.Test.YtlneneacbjkheaaWithin
import Derived.Deep.QuietTactic
import Derived.BigQuiet
import Derived.BigRegion
import Derived.Deep.RegionHeld3
import Derived.Deep.RegionLaw
namespace Go.Proofs.Ytlneneacbjkheaa
open Go.RowKit

/-- A RULE. -/
structure Rl where
  id : Nat
  fr : Int
  tt : Int
  lo : Nat
  hi : Nat
  au : Nat
  qu : Int
def Rl.cells (x : Rl) : List Value := [.int .u64 (x.id : Int), .int .i64 x.fr, .int .i64 x.tt, .float .f64 x.lo, .float .f64 x.hi, .int .u64 (x.au : Int), .int .i64 x.qu]
instance : Enc Rl := ⟨Rl.cells, 7, ⟨0, 0, 0, 0, 0, 0, 0⟩, by decide, fun _ => rfl, fun x u hu => by
  simp [Rl.cells] at hu
  rcases hu with rfl | rfl | rfl | rfl | rfl | rfl | rfl <;> rfl⟩
/-- A RULE, AND ITS EPOCHS. -/
structure Gr where
  r : Rl
  f : Nat
  u : Nat
def Gr.cells (x : Gr) : List Value := [.int .u64 (x.r.id : Int), .int .i64 x.r.fr, .int .i64 x.r.tt, .float .f64 x.r.lo, .float .f64 x.r.hi, .int .u64 (x.r.au : Int), .int .i64 x.r.qu, .int .u64 (x.f : Int), .int .u64 (x.u : Int)]
instance : Enc Gr := ⟨Gr.cells, 9, ⟨⟨0, 0, 0, 0, 0, 0, 0⟩, 0, 0⟩, by decide, fun _ => rfl, fun x u hu => by
  simp [Gr.cells] at hu
  rcases hu with rfl | rfl | rfl | rfl | rfl | rfl | rfl | rfl | rfl <;> rfl⟩
abbrev gr (gs : List Gr) (k : Nat) : Gr := gs.getD k Enc.dflt
/-- whole numbers within. -/
structure Rl.Ok (x : Rl) : Prop where
  id : x.id < 18446744073709551616
  lo : x.lo < 18446744073709551616
  hi : x.hi < 18446744073709551616
structure Gr.Ok (x : Gr) : Prop where
  r : x.r.Ok
  f : x.f < 18446744073709551616
  u : x.u < 18446744073709551616

/-- A BOOK at block b. -/
structure Bk (w : World) (b base : Nat) (gs : List Gr) (v : Value) : Prop where
  c0 : w.cell? ⟨b, 0, none⟩ = some v
  z0 : w.frozen? ⟨b, 0, none⟩ = false
  own : OwnF w base 67 v gs
  apart : v.ownBlock ≠ some b
  base : base ≤ b
  ok : ∀ x ∈ gs, x.Ok
section
variable {w w1 : World} {b base : Nat} {gs : List Gr} {v : Value}
theorem Bk.lt (h : Bk w b base gs v) : b < w.heap.size := World.block_lt_of_cell? _ _ h.c0
theorem Bk.fr {T : Nat → Prop} (h : Bk w b base gs v) (f : Fr T w w1) (hb : ¬ T b) (hs : ∀ k, v.ownBlock = some k → ¬ T k) : Bk w1 b base gs v :=
  ⟨f.cell h.c0 hb, (f.frozenEq h.lt hb).trans h.z0, h.own.fr f hs, h.apart, h.base, h.ok⟩
theorem Fr.drewN {S : Nat → Prop} {w w1 : World} (h : Fr S w w1) (n : Nat) : Fr S w (w1.drewN n) := ⟨h.os, h.tape, h.output, h.size, h.block⟩
/-- the cells of a row's k-th. -/
theorem RowF.gr {ao : Option Addr} {cap : Nat} (h : RowF w ao gs cap) (k : Nat) (hk : k < gs.length) : ∃ g off, ao = some ⟨g, off, none⟩ ∧ ∃ x, Hid (x = gr gs k) ∧ w.cell? ⟨g, off + k * 9, none⟩ = some (.int .u64 (x.r.id : Int)) ∧ w.cell? ⟨g, off + k * 9 + 1, none⟩ = some (.int .i64 x.r.fr) ∧ w.cell? ⟨g, off + k * 9 + 2, none⟩ = some (.int .i64 x.r.tt) ∧ w.cell? ⟨g, off + k * 9 + 3, none⟩ = some (.float .f64 x.r.lo) ∧ w.cell? ⟨g, off + k * 9 + 4, none⟩ = some (.float .f64 x.r.hi) ∧ w.cell? ⟨g, off + k * 9 + 5, none⟩ = some (.int .u64 (x.r.au : Int)) ∧ w.cell? ⟨g, off + k * 9 + 6, none⟩ = some (.int .i64 x.r.qu) ∧ w.cell? ⟨g, off + k * 9 + 7, none⟩ = some (.int .u64 (x.f : Int)) ∧ w.cell? ⟨g, off + k * 9 + 8, none⟩ = some (.int .u64 (x.u : Int)) := by
  obtain ⟨g, off, he, hc⟩ := h.2.2.2 (fun e => by rw [e] at hk; simp at hk)
  have hc' : ∀ f, f < 9 → w.cell? ⟨g, off + (k * 9 + f), none⟩ = (Gr.cells (Go.Proofs.Ytlneneacbjkheaa.gr gs k))[f]? := fun f hf => hc k hk f hf
  exact ⟨g, off, he, Go.Proofs.Ytlneneacbjkheaa.gr gs k, rfl, hc' 0 (by omega), hc' 1 (by omega), hc' 2 (by omega), hc' 3 (by omega), hc' 4 (by omega), hc' 5 (by omega), hc' 6 (by omega), hc' 7 (by omega), hc' 8 (by omega)⟩

set_option maxHeartbeats 400000 in
theorem new_any (w : World) (base : Nat) (hb : base ≤ w.heap.size) : Calls Try.prog 9 #[] w fun e w' => e = .returned (.pointer (some ⟨w.heap.size, 0, none⟩)) ∧ Bk w' w.heap.size base [] (.slice none 0 0) ∧ Fr (fun _ => False) w w' := by
  go_enter Try.func9, Try.ntmps9
  go_wp2
  go_ret
  exact ⟨rfl, ⟨by simp, by simp, OwnF.nil _ _ _, by simp [Value.ownBlock], hb, by simp⟩, (Fr.refl _ _).alloc _⟩
set_option maxHeartbeats 400000 in
theorem len_nil (w : World) : Calls Try.prog 22 #[.pointer none] w fun e w' => e = .returned (.int .i64 0) ∧ w' = w := by
  go_enter Try.func22, Try.ntmps22
  go_wp2
  go_ret
  exact ⟨rfl, rfl⟩
set_option maxHeartbeats 400000 in
theorem len_any (h : Bk w b base gs v) : Calls Try.prog 22 #[.pointer (some ⟨b, 0, none⟩)] w fun e w' => e = .returned (.int .i64 (gs.length : Int)) ∧ w' = w := by
  have c0 := h.c0
  obtain ⟨ao, cap, rfl, _⟩ := h.own.form
  clear h
  go_enter Try.func22, Try.ntmps22
  go_wp2
  go_ret
  exact ⟨rfl, rfl⟩
def Gr.open (x : Gr) : Bool := decide (x.u = 0)
def Gr.within (x : Gr) (e : Nat) : Bool := decide (x.f ≤ e) && (decide (x.u = 0) || decide (e < x.u))
set_option maxHeartbeats 400000 in
theorem open_any (x : Gr) (w : World) : Calls Try.prog 37 #[.agg #[.int .u64 (x.r.id : Int), .int .i64 x.r.fr, .int .i64 x.r.tt, .float .f64 x.r.lo, .float .f64 x.r.hi, .int .u64 (x.r.au : Int), .int .i64 x.r.qu, .int .u64 (x.f : Int), .int .u64 (x.u : Int)]] w fun e w' => e = .returned (.bool x.open) ∧ Fr (fun _ => False) w w' := by
  by_cases hu : x.u = 0
  · go_enter Try.func37, Try.ntmps37
    go_wp2
    go_ret
    exact ⟨by simp [Gr.open, hu], (Fr.refl _ _).alloc _⟩
  · go_enter Try.func37, Try.ntmps37
    go_wp2
    go_ret
    exact ⟨by simp [Gr.open, hu], (Fr.refl _ _).alloc _⟩
end
end Go.Proofs.Ytlneneacbjkheaa
