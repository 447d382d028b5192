/- The law's look at a book: it tells what the document's list tells. -/
import Derived.Test.YtlneneacbjkheaaRefAt
import Derived.Test.YtlneneacbjkheaaOneWalk
namespace Go.Proofs.Ytlneneacbjkheaa
open Go.RowKit
attribute [local go_sem] run_store_float
section
variable {w w1 : World} {b base : Nat} {gs : List Gr} {v : Value}
theorem at_any (h : Bk w b base gs v) (id ep : Nat) (hlen : gs.length ≤ 1000000) (n : Nat) (ok : Bool) (hL : LastAt gs (fun y => decide (y.r.id = id) && y.within ep) n ok) :
    Calls Try.prog 18 #[.pointer (some ⟨b, 0, none⟩), .int .u64 (id : Int), .int .u64 (ep : Int)] w fun e w' => e = .returned (.tuple #[.agg #[.int .u64 ((tell gs n ok).id : Int), .int .i64 (tell gs n ok).fr, .int .i64 (tell gs n ok).tt, .float .f64 (tell gs n ok).lo, .float .f64 (tell gs n ok).hi, .int .u64 ((tell gs n ok).au : Int), .int .i64 (tell gs n ok).qu], .bool ok]) ∧ Fr (fun _ => False) w w' := by
  cases ok with
  | true => exact at_yes h id ep hlen n hL (gr gs n) rfl
  | false => exact at_no h id ep hlen n hL
theorem tell_ok (h : ∀ x ∈ gs, x.Ok) (q : Gr → Bool) (n : Nat) (ok : Bool) (hL : LastAt gs q n ok) : (tell gs n ok).Ok := by
  cases ok with
  | true =>
    rcases hL with ⟨_, h1, _⟩ | ⟨h1, _⟩
    · exact (h _ (by show gr gs n ∈ gs; unfold gr; rw [List.getD_eq_getElem?_getD, List.getElem?_eq_getElem h1]; exact List.getElem_mem _)).r
    · cases h1
  | false => exact ⟨(by decide : (0 : Nat) < 18446744073709551616), (by decide : (0 : Nat) < 18446744073709551616), (by decide : (0 : Nat) < 18446744073709551616)⟩
set_option maxRecDepth 100000 in
set_option maxHeartbeats 4000000 in
theorem told_any (h : Bk w b base gs v) (ao : Option Addr) (cap : Nat) (hr : RowF w ao gs cap) (hlen : gs.length ≤ 100000) :
    Calls Try.prog 15 #[.pointer (some ⟨b, 0, none⟩), .slice ao gs.length cap] w fun e w' => e = .returned (.bool true) ∧ Fr (fun _ => False) w w' := by
  have HB : Hid (Bk w b base gs v) := h
  have HR : Hid (RowF w ao gs cap) := hr
  have hl3 := hr.lens
  have KL : Hid (Calls _ _ _ _ _) := len_any h
  clear h hr
  go_enter Try.func15, Try.ntmps15
  go_wp2_with fail
  refine KL.out.mono ?_
  rintro e w1 ⟨rfl, hw⟩
  subst w1
  go_wp2
  go_loopw [5] (fun iv wr => ∃ k : Nat, k ≤ 4 ∧ iv = .int .u64 (k : Int) ∧ Fr (fun _ => False) w wr) (fun iv _ => 4 - (intOf iv).toNat)
  case atStart => exact ⟨0, by omega, rfl, Fr.refl _ _⟩
  case round =>
    obtain ⟨k, hk, rfl, hfr⟩ := hrel
    have HF : Hid (Fr (fun _ => False) w wr) := hfr
    clear hfr
    by_cases hk4 : k < 4
    · rename World => wo
      have k1 : (k : Int) < 4 := by omega
      go_wp2
      go_loopw [6] (fun iv wr => ∃ m : Nat, m ≤ 9 ∧ iv = .int .u64 (m : Int) ∧ Fr (fun _ => False) w wr) (fun iv _ => 9 - (intOf iv).toNat)
      case atStart => exact ⟨0, by omega, rfl, HF.out⟩
      case round =>
        obtain ⟨m, hm, rfl, hfr⟩ := hrel
        have HG : Hid (Fr (fun _ => False) w wr) := hfr
        clear hfr
        by_cases hm9 : m < 9
        · have m1 : (m : Int) < 9 := by omega
          obtain ⟨ln, lok, hL⟩ := lastAt_ex gs (fun y => decide (y.r.id = k) && y.within m)
          have HL : Hid (LastAt gs (fun y => decide (y.r.id = k) && y.within m) ln lok) := hL
          have K1 : Hid (Calls _ _ _ _ _) := at_any (HB.out.fr HG.out (by simp) (by simp)) k m (by omega) ln lok hL
          have HTO : Hid (tell gs ln lok).Ok := tell_ok HB.out.ok _ ln lok hL
          obtain ⟨x, Hx⟩ : ∃ x, Hid (tell gs ln lok = x) := ⟨_, rfl⟩
          rw [Hx.out] at K1 HTO
          clear hL hm9
          go_wp2_with fail
          refine K1.out.mono ?_
          rintro e w2 ⟨rfl, f2⟩
          have F2 : Hid (Fr (fun _ => False) wr (w2.alloc (.cells #[.int .u64 (x.id : Int), .int .i64 x.fr, .int .i64 x.tt, .float .f64 x.lo, .float .f64 x.hi, .int .u64 (x.au : Int), .int .i64 x.qu] 34))) := f2.alloc _
          have HX1 : Hid (Bx (w2.alloc (.cells #[.int .u64 (x.id : Int), .int .i64 x.fr, .int .i64 x.tt, .float .f64 x.lo, .float .f64 x.hi, .int .u64 (x.au : Int), .int .i64 x.qu] 34)) w2.heap.size x) := Bx.new w2 x
          have K2 : Hid (Calls _ _ _ _ _) := refat_any ao gs cap k m (w2.alloc (.cells #[.int .u64 (x.id : Int), .int .i64 x.fr, .int .i64 x.tt, .float .f64 x.lo, .float .f64 x.hi, .int .u64 (x.au : Int), .int .i64 x.qu] 34)) (HR.out.fr (HG.out.trans F2.out) (by simp)) ln lok HL.out
          rw [Hx.out] at K2
          clear f2 K1
          go_wp2_with fail
          refine K2.out.mono ?_
          rintro e w3 ⟨rfl, f3⟩
          have F3 : Hid (Fr (fun _ => False) w (w3.alloc (.cells #[.int .u64 (x.id : Int), .int .i64 x.fr, .int .i64 x.tt, .float .f64 x.lo, .float .f64 x.hi, .int .u64 (x.au : Int), .int .i64 x.qu] 34))) := (HG.out.trans F2.out).trans (f3.alloc _)
          obtain ⟨a0, a1, a2, a3, a4, a5, a6, _⟩ := HX1.out.fr (f3.alloc (.cells #[.int .u64 (x.id : Int), .int .i64 x.fr, .int .i64 x.tt, .float .f64 x.lo, .float .f64 x.hi, .int .u64 (x.au : Int), .int .i64 x.qu] 34)) (by simp)
          obtain ⟨b0, b1, b2, b3, b4, b5, b6, _⟩ := Bx.new w3 x
          clear f3 K2
          go_wp2_with fail
          refine (same_refl x HTO.out _).mono ?_
          rintro e w4 ⟨rfl, f4⟩
          have F4 : Hid (Fr (fun _ => False) w w4) := F3.out.trans f4
          clear f4 a0 a1 a2 a3 a4 a5 a6 b0 b1 b2 b3 b4 b5 b6
          cases lok
          all_goals
            go_wp2
            go_roundw
            case rel => exact ⟨m + 1, by omega, by go_num, F4.out⟩
            case measure => simp [intOf]; omega
        · obtain rfl : m = 9 := by omega
          go_wp2
          go_roundw
          case rel => exact ⟨k + 1, by omega, by go_num, HG.out⟩
          case measure => simp [intOf]; omega
    · obtain rfl : k = 4 := by omega
      go_wp2
      go_ret
      exact ⟨rfl, HF.out⟩
end
end Go.Proofs.Ytlneneacbjkheaa
