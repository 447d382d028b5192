/- A book as bytes. -/
import Derived.Test.YtlneneacbjkheaaLayW
import Derived.Test.YtlneneacbjkheaaAt
namespace Go.Proofs.Ytlneneacbjkheaa
open Go.RowKit
attribute [local go_sem] run_store_float
theorem Fresh.later {w w1 w2 : World} {ao : Option Addr} {l : List Nat} (h : Fresh w1 w2 ao l) (hs : w.heap.size ≤ w1.heap.size) : Fresh w w2 ao l :=
  ⟨h.1, fun a ha => by
    obtain ⟨h1, h2⟩ := h.2 a ha
    exact ⟨Nat.le_trans hs h1, h2⟩⟩
/-- whole numbers that bytes hold. -/
structure Gr.In (x : Gr) : Prop where
  au : x.r.au < 18446744073709551616
  fr : 0 ≤ x.r.fr ∧ x.r.fr < 9223372036854775808
  tt : 0 ≤ x.r.tt ∧ x.r.tt < 9223372036854775808
  qu : 0 ≤ x.r.qu ∧ x.r.qu < 9223372036854775808
theorem wr_here (w : World) : Wr (w.alloc (.cells #[.slice none 0 0] 80)) w.heap.size w.heap.size (.slice none 0 0) [] :=
  ⟨by simp, by simp, Own.nil _ _, by simp [Value.ownBlock]⟩
section
variable {w w1 : World} {b base : Nat} {gs : List Gr} {v : Value}
set_option maxRecDepth 100000 in
set_option maxHeartbeats 4000000 in
theorem enc_any (h : Bk w b base gs v) (hin : ∀ x ∈ gs, x.In) (hlen : gs.length ≤ 10000) :
    Calls Try.prog 21 #[.pointer (some ⟨b, 0, none⟩)] w fun e w' => ∃ a1, e = .returned (.slice a1 (encB gs).length (encB gs).length) ∧ Fresh w w' a1 (encB gs) ∧ Fr (fun _ => False) w w' := by
  have HB : Hid (Bk w b base gs v) := h
  have c0 := h.c0
  obtain ⟨ao, cap, rfl, hl1⟩ := h.own.form
  have HR : Hid (RowF w ao gs cap) := by
    obtain ⟨ao', cap', hv, hr, _⟩ := h.own.row
    cases hv
    exact hr
  have HBL : Hid (b < w.heap.size) := h.lt
  have HI : Hid (∀ x ∈ gs, x.In) := hin
  have hcl : IntKind.u64.wrap (gs.length : Int) = (gs.length : Int) := wrap_u64_small _ (by omega) (by omega)
  have c1 : (w.alloc (.cells #[.slice none 0 0] 80)).cell? ⟨b, 0, none⟩ = some (.slice ao gs.length cap) := ((Fr.refl (fun _ => False) w).alloc _).cell c0 (by simp)
  have h0 := wr_here w
  have A0 : Ap (w.alloc (.cells #[.slice none 0 0] 80)) b w.heap.size (.slice none 0 0) := ⟨by have := HBL.out; omega, by simp [Value.ownBlock], by have := HBL.out; simp; omega⟩
  have K0 : Hid (Calls _ _ _ _ _) := wnum_step gs.length 4 h0 (by simp) A0 (by omega) (by omega) (by simp)
  clear h hin h0 A0
  go_enter Try.func21, Try.ntmps21
  go_wp2_with fail
  refine K0.out.mono ?_
  rintro e w1 ⟨rfl, v1, hw1, hl1, hb1, ha1, hc1⟩
  have HF1 : Hid (Fr (fun _ => False) w w1) := ((Fr.refl (fun _ => False) w).alloc _).trans' hl1.fr (fun i hi e => by
    rcases e with e | e
    · omega
    · simp [Value.ownBlock] at e)
  have d0 := hc1 0 _ c1
  have HW1 : Hid (Wr w1 w.heap.size w.heap.size v1 ([] ++ Crc.le 4 gs.length)) := hw1
  clear hw1 hl1 hb1 ha1 hc1 K0 c1
  go_wp2_with fail
  obtain ⟨wb, Hwb⟩ : ∃ wb, Hid (w.heap.size = wb) := ⟨_, rfl⟩
  rw [Hwb.out] at HW1 ⊢
  go_loopw [23] (fun iv wr => ∃ (k : Nat) (v2 : Value), k ≤ gs.length ∧ iv = .int .i64 (k : Int) ∧ Hid (Wr wr wb wb v2 (Crc.le 4 gs.length ++ (gs.take k).flatMap encG)) ∧ Hid (Fr (fun _ => False) w wr)) (fun iv _ => gs.length - (intOf iv).toNat)
  case atStart => exact ⟨0, v1, by omega, rfl, (show Wr _ _ _ _ _ by simpa using HW1.out), HF1.out⟩
  case round =>
    obtain ⟨k, v2, hk, rfl, HW2, HF⟩ := hrel
    by_cases hlt : k < gs.length
    · have k1 : (k : Int) < gs.length := by omega
      have HR2 : Hid (RowF wr ao gs cap) := HR.out.fr HF.out (by simp)
      obtain ⟨g, off, rfl, x, HX, e0, e1, e2, e3, e4, e5, e6, e7, e8⟩ := HR2.out.gr k hlt
      have HXO : Hid (x.Ok ∧ x.In ∧ x ∈ gs) := by
        have hm : x ∈ gs := by
          rw [HX.out]
          show gs.getD k Enc.dflt ∈ gs
          rw [List.getD_eq_getElem?_getD, List.getElem?_eq_getElem hlt]
          exact List.getElem_mem hlt
        exact ⟨HB.out.ok x hm, HI.out x hm, hm⟩
      have HT : Hid ((gs.take (k + 1)).flatMap encG = (gs.take k).flatMap encG ++ encG x) := by
        show _ = _
        rw [take_snoc hlt, List.flatMap_append, ← HX.out]; simp
      have HLL : Hid (((gs.take k).flatMap encG).length = k * 54) := by
        show _ = _
        rw [encGs_length, List.length_take, Nat.min_eq_left hk]
      obtain ⟨W, HW⟩ : ∃ W, Hid (W = wr.alloc (.cells #[.int .u64 (x.r.id : Int), .int .i64 x.r.fr, .int .i64 x.r.tt, .float .f64 x.r.lo, .float .f64 x.r.hi, .int .u64 (x.r.au : Int), .int .i64 x.r.qu, .int .u64 (x.f : Int), .int .u64 (x.u : Int)] 67)) := ⟨_, rfl⟩
      have f0 : Fr (fun _ => False) wr W := by rw [HW.out]; exact (Fr.refl _ _).alloc _
      have y7 : W.cell? ⟨wr.heap.size, 7, none⟩ = some (.int .u64 (x.f : Int)) := by rw [HW.out]; simp
      have y8 : W.cell? ⟨wr.heap.size, 8, none⟩ = some (.int .u64 (x.u : Int)) := by rw [HW.out]; simp
      have hz : W.heap.size = wr.heap.size + 1 := by rw [HW.out]; simp
      have hwW : Wr W wb wb v2 (Crc.le 4 gs.length ++ (gs.take k).flatMap encG) := HW2.out.frS f0 (by simp) (by simp)
      have hwl : wb < wr.heap.size := World.block_lt_of_cell? _ _ HW2.out.cell
      have ab : Ap W wr.heap.size wb v2 := ⟨by omega, fun e => by have := HW2.out.own.lt _ e; omega, by omega⟩
      have HLA : Hid (Later wr wb v2 W v2) := ⟨f0.mono (fun _ _ h => h.elim), fun _ h => .inl h⟩
      obtain ⟨c, Hc⟩ : ∃ c, Hid (wr.heap.size = c) := ⟨_, rfl⟩
      have K : Hid (Calls _ _ _ _ _) := layrule_any x.r HXO.out.1.r HXO.out.2.1.au x.r.fr.toNat x.r.tt.toNat x.r.qu.toNat (Int.toNat_of_nonneg HXO.out.2.1.fr.1).symm (Int.toNat_of_nonneg HXO.out.2.1.tt.1).symm (Int.toNat_of_nonneg HXO.out.2.1.qu.1).symm (by have := HXO.out.2.1.fr; omega) (by have := HXO.out.2.1.tt; omega) (by have := HXO.out.2.1.qu; omega) hwW (by omega) ab (by have := HLL.out; rw [List.length_append, Crc.le_length]; omega)
      rw [Hc.out] at K y7 y8
      clear ab hwW f0 hz
      go_wp2_with fail
      rw [← HW.out, Hc.out]
      refine K.out.mono ?_
      rintro e w3 ⟨rfl, v3, hw3, hl3, hb3, ha3, hc3⟩
      have HL3 : Hid (Later wr wb v2 w3 v3) := HLA.out.trans hl3
      have z7 := hc3 _ _ y7
      have z8 := hc3 _ _ y8
      obtain ⟨l3, Hl3⟩ : ∃ l3, Hid (Crc.le 4 gs.length ++ (gs.take k).flatMap encG ++ encR x.r = l3) := ⟨_, rfl⟩
      have n3 : l3.length ≤ 700000 := by
        have := HLL.out
        have he : (encR x.r).length = 38 := by simp [encR, Crc.le_length]
        rw [← Hl3.out, List.length_append, List.length_append, Crc.le_length, this, he]; omega
      rw [Hl3.out] at hw3
      have h3d := hw3.drew
      have a3d : Ap w3.drew c wb v3 := ⟨ha3.ne, ha3.no, ha3.lt⟩
      have hf64 : x.f < 18446744073709551616 := HXO.out.1.f
      have hu64 : x.u < 18446744073709551616 := HXO.out.1.u
      clear K y7 y8 hl3 hc3
      go_wp2_with fail
      go_region_held3 (fun w' => w'.cell? ⟨c, 7, none⟩ = some (.int .u64 (x.f : Int)) ∧ w'.cell? ⟨c, 8, none⟩ = some (.int .u64 (x.u : Int))) (first | exact ⟨z7, z8⟩ | exact ⟨s7, s8⟩ | exact ⟨t7, t8⟩ | go_keep) (first
        | (go_at_call 40; refine (wnum_step x.u 8 hw4 hb4 ha4 (by omega) (by omega) (by simp [Crc.le_length]; omega)).mono ?_; rintro e w5 ⟨rfl, v5, hw5, hl5, hb5, ha5, hc5⟩; have t7 := hc5 _ _ s7; have t8 := hc5 _ _ s8)
        | (go_at_call 40; refine (wnum_step x.f 8 h3d hb3 a3d (by omega) (by omega) (by omega)).mono ?_; rintro e w4 ⟨rfl, v4, hw4, hl4, hb4, ha4, hc4⟩; have s7 := hc4 _ _ z7; have s8 := hc4 _ _ z8))
      have L5 : Later w3 wb v3 w5 v5 := Later.trans Later.drew (hl4.trans hl5)
      have HL5 : Hid (Later wr wb v2 w5 v5) := HL3.out.trans L5
      have HE : Hid (l3 ++ Crc.le 8 x.f ++ Crc.le 8 x.u = Crc.le 4 gs.length ++ (gs.take (k + 1)).flatMap encG) := by
        show _ = _
        rw [← Hl3.out, HT.out]; simp [encG]
      rw [HE.out] at hw5
      have HW5 : Hid (Wr w5 wb wb v5 (Crc.le 4 gs.length ++ (gs.take (k + 1)).flatMap encG)) := hw5
      have HF5 : Hid (Fr (fun _ => False) w w5) := HF.out.trans' HL5.out.fr (fun i hi e => by
        have := Hwb.out
        rcases e with e | e
        · omega
        · have := HW2.out.own.lt _ e; omega)
      clear z7 z8 s7 s8 t7 t8 hw3 hw4 hw5 hl4 hl5 hb3 hb4 hb5 ha3 ha4 ha5 hc4 hc5 h3d a3d L5
      go_wp2
      go_roundw
      case rel => exact ⟨k + 1, v5, by omega, by go_num, HW5.out, HF5.out⟩
      case measure => simp [intOf]; omega
    · obtain rfl : k = gs.length := by omega
      have hw2 : Wr wr wb wb v2 (encB gs) := by have := HW2.out; rw [List.take_length] at this; exact this
      have K : Hid (Calls _ _ _ _ _) := done_any wb wb v2 (encB gs) wr hw2 (by rw [encB_length]; omega)
      clear hw2
      go_wp2_with fail
      refine K.out.mono ?_
      rintro e w3 ⟨a1, rfl, h3, f3⟩
      go_wp2
      go_ret
      exact ⟨a1, rfl, h3.later HF.out.size, HF.out.trans f3⟩
end
end Go.Proofs.Ytlneneacbjkheaa
