/- lay.Number, lay.Rule: what they lay. -/
import Derived.Test.YtlneneacbjkheaaCodec
import Derived.Test.YtlneneacbjkheaaDone
import Derived.Deep.RegionHeld3
namespace Go.Proofs.Ytlneneacbjkheaa
open Go.RowKit
theorem Wr.frS {S : Nat → Prop} {w w1 : World} {base wb : Nat} {v : Value} {l : List Nat} (h : Wr w base wb v l) (f : Fr S w w1) (hs : ¬ S wb) (ho : ∀ k, v.ownBlock = some k → ¬ S k) : Wr w1 base wb v l :=
  ⟨f.cell h.cell hs, (f.frozenEq (World.block_lt_of_cell? _ _ h.cell) hs).trans h.free, h.own.fr f ho, h.apart⟩
theorem Wr.drew {w : World} {base wb : Nat} {v : Value} {l : List Nat} (h : Wr w base wb v l) : Wr w.drew base wb v l :=
  h.frS (Fr.refl (fun _ => False) w).drew (by simp) (by simp)
theorem Later.drew {w : World} {wb : Nat} {v : Value} : Later w wb v w.drew v := ⟨(Fr.refl _ _).drew, fun _ h => .inl h⟩
/-- a block that a writer doesn't touch. -/
structure Ap (w : World) (c wb : Nat) (v : Value) : Prop where
  ne : c ≠ wb
  no : v.ownBlock ≠ some c
  lt : c < w.heap.size
theorem Later.ap {w w1 : World} {c wb : Nat} {v v1 : Value} (h : Later w wb v w1 v1) (ha : Ap w c wb v) : Ap w1 c wb v1 :=
  ⟨ha.ne, fun e => by
    rcases h.new c e with h' | h'
    · exact ha.no h'
    · have := ha.lt; omega, Nat.lt_of_lt_of_le ha.lt h.fr.size⟩
theorem Later.cell {w w1 : World} {c wb : Nat} {v v1 : Value} (h : Later w wb v w1 v1) (ha : Ap w c wb v) {o : Nat} {u : Value} (hc : w.cell? ⟨c, o, none⟩ = some u) : w1.cell? ⟨c, o, none⟩ = some u :=
  h.fr.cell hc fun hs => by
    rcases hs with e | e
    · exact ha.ne e
    · exact ha.no e
theorem wnum_step {base wb c : Nat} {v : Value} {l : List Nat} {w : World} (n nb : Nat) (hw : Wr w base wb v l) (hb : base ≤ w.heap.size) (ha : Ap w c wb v) (hn : n < 18446744073709551616) (hnb : nb ≤ 8) (hlen : l.length ≤ 1000000) :
    Calls Try.prog 40 #[.pointer (some ⟨wb, 0, none⟩), .int .u64 (n : Int), .int .i64 (nb : Int)] w fun e w' => e = .returned (.pointer (some ⟨wb, 0, none⟩)) ∧ ∃ v', Wr w' base wb v' (l ++ Crc.le nb n) ∧ Later w wb v w' v' ∧ base ≤ w'.heap.size ∧ Ap w' c wb v' ∧
      (∀ o u, w.cell? ⟨c, o, none⟩ = some u → w'.cell? ⟨c, o, none⟩ = some u) := by
  refine (wnum_any base wb v l n nb w hw hb hn hnb (by omega)).mono ?_
  rintro e w' ⟨rfl, v', hw', hl'⟩
  exact ⟨rfl, v', hw', hl', Nat.le_trans hb hl'.fr.size, hl'.ap ha, fun o u hc => hl'.cell ha hc⟩
set_option maxHeartbeats 400000 in
theorem laynum_any {base wb c : Nat} {v : Value} {l : List Nat} {w : World} (x : Nat) (hx : x < 18446744073709551616) (hw : Wr w base wb v l) (hb : base ≤ w.heap.size) (ha : Ap w c wb v) (hlen : l.length ≤ 1000000) :
    Calls Try.prog 50 #[.pointer (some ⟨wb, 0, none⟩), .float .f64 x] w fun e w' => e = .returned (.tuple #[]) ∧ ∃ v', Wr w' base wb v' (l ++ Crc.le 8 (Fl.rk x)) ∧ Later w wb v w' v' ∧ base ≤ w'.heap.size ∧ Ap w' c wb v' ∧
      (∀ o u, w.cell? ⟨c, o, none⟩ = some u → w'.cell? ⟨c, o, none⟩ = some u) := by
  have hr : Fl.rk x < 18446744073709551616 := by have := rk_le x hx; omega
  have K : Hid (Calls _ _ _ _ _) := wnum_step (Fl.rk x) 8 hw hb ha hr (by omega) hlen
  clear hw hb ha
  go_enter Try.func50, Try.ntmps50
  go_wp2_with fail
  refine (rank_any x w hx).mono ?_
  rintro e w1 ⟨rfl, hw1⟩
  subst w1
  go_wp2_with fail
  refine K.out.mono ?_
  rintro e w1 ⟨rfl, v', h1, h2, h3, h4, h5⟩
  go_wp2
  go_end0
  exact ⟨rfl, v', h1, h2, h3, h4, h5⟩
set_option maxRecDepth 100000 in
set_option maxHeartbeats 4000000 in
theorem layrule_any {base wb c : Nat} {v : Value} {l : List Nat} {w : World} (x : Rl) (hx : x.Ok) (hau : x.au < 18446744073709551616) (nf nt nq : Nat) (ef : x.fr = (nf : Int)) (et : x.tt = (nt : Int)) (eq : x.qu = (nq : Int)) (hnf : nf < 9223372036854775808) (hnt : nt < 9223372036854775808) (hnq : nq < 9223372036854775808) (hw : Wr w base wb v l) (hb : base ≤ w.heap.size) (ha : Ap w c wb v) (hlen : l.length ≤ 900000) :
    Calls Try.prog 41 #[.pointer (some ⟨wb, 0, none⟩), .agg #[.int .u64 (x.id : Int), .int .i64 x.fr, .int .i64 x.tt, .float .f64 x.lo, .float .f64 x.hi, .int .u64 (x.au : Int), .int .i64 x.qu]] w fun e w' => e = .returned (.tuple #[]) ∧ ∃ v', Wr w' base wb v' (l ++ encR x) ∧ Later w wb v w' v' ∧ base ≤ w'.heap.size ∧ Ap w' c wb v' ∧
      (∀ o u, w.cell? ⟨c, o, none⟩ = some u → w'.cell? ⟨c, o, none⟩ = some u) := by
  obtain ⟨id, fr, tt, lo, hi, au, qu⟩ := x
  simp only at ef et eq hau
  subst ef et eq
  obtain ⟨hid, hlo, hhi⟩ := hx
  simp only at hid hlo hhi
  have f0 := (Fr.refl (fun _ => False) w).alloc (.cells #[.int .u64 (id : Int), .int .i64 (nf : Int), .int .i64 (nt : Int), .float .f64 lo, .float .f64 hi, .int .u64 (au : Int), .int .i64 (nq : Int)] 34)
  obtain ⟨W, HW⟩ : ∃ W, Hid (W = w.alloc (.cells #[.int .u64 (id : Int), .int .i64 (nf : Int), .int .i64 (nt : Int), .float .f64 lo, .float .f64 hi, .int .u64 (au : Int), .int .i64 (nq : Int)] 34)) := ⟨_, rfl⟩
  have x0 : W.cell? ⟨w.heap.size, 0, none⟩ = some (.int .u64 (id : Int)) := by rw [HW.out]; simp
  have x1 : W.cell? ⟨w.heap.size, 1, none⟩ = some (.int .i64 (nf : Int)) := by rw [HW.out]; simp
  have x2 : W.cell? ⟨w.heap.size, 2, none⟩ = some (.int .i64 (nt : Int)) := by rw [HW.out]; simp
  have x3 : W.cell? ⟨w.heap.size, 3, none⟩ = some (.float .f64 lo) := by rw [HW.out]; simp
  have x4 : W.cell? ⟨w.heap.size, 4, none⟩ = some (.float .f64 hi) := by rw [HW.out]; simp
  have x5 : W.cell? ⟨w.heap.size, 5, none⟩ = some (.int .u64 (au : Int)) := by rw [HW.out]; simp
  have x6 : W.cell? ⟨w.heap.size, 6, none⟩ = some (.int .i64 (nq : Int)) := by rw [HW.out]; simp
  have hz : W.heap.size = w.heap.size + 1 := by rw [HW.out]; simp
  rw [← HW.out] at f0
  have h0 : Wr W base wb v l := hw.frS f0 (by simp) (by simp)
  have L0 : Later w wb v W v := ⟨f0.mono (fun _ _ h => h.elim), fun _ h => .inl h⟩
  have hwl : wb < w.heap.size := World.block_lt_of_cell? _ _ hw.cell
  have ab : Ap W w.heap.size wb v := ⟨by omega, fun e => by have := hw.own.lt _ e; omega, by omega⟩
  have cf : IntKind.u64.wrap (nf : Int) = (nf : Int) := wrap_u64_small _ (by omega) (by omega)
  have ct : IntKind.u64.wrap (nt : Int) = (nt : Int) := wrap_u64_small _ (by omega) (by omega)
  have cq : IntKind.u64.wrap (nq : Int) = (nq : Int) := wrap_u64_small _ (by omega) (by omega)
  have HA : Hid (Ap w c wb v) := ha
  have HL0 : Hid (Later w wb v W v) := L0
  obtain ⟨B, HB⟩ : ∃ B, Hid (w.heap.size = B) := ⟨_, rfl⟩
  rw [HB.out] at x0 x1 x2 x3 x4 x5 x6 ab
  have hb0 : base ≤ W.heap.size := by omega
  have h0d := h0.drew
  have abd : Ap W.drew B wb v := ⟨ab.ne, ab.no, ab.lt⟩
  clear hw hb ha f0 L0 hz
  go_enter Try.func41, Try.ntmps41
  go_wp2_with fail
  rw [← HW.out, HB.out]
  go_region_held3 (fun w' => w'.cell? ⟨B, 0, none⟩ = some (.int .u64 (id : Int)) ∧ w'.cell? ⟨B, 1, none⟩ = some (.int .i64 (nf : Int)) ∧ w'.cell? ⟨B, 2, none⟩ = some (.int .i64 (nt : Int))) (first | exact ⟨x0, x1, x2⟩ | exact ⟨y0, y1, y2⟩ | exact ⟨z0, z1, z2⟩ | exact ⟨t0, t1, t2⟩ | go_keep) (first
    | (go_at_call 40; refine (wnum_step nt 1 hw2 hb2 ha2 (by omega) (by omega) (by simp [Crc.le_length]; omega)).mono ?_; rintro e w3 ⟨rfl, v3, hw3, hl3, hb3, ha3, hc3⟩; have t0 := hc3 _ _ z0; have t1 := hc3 _ _ z1; have t2 := hc3 _ _ z2)
    | (go_at_call 40; refine (wnum_step nf 1 hw1 hb1 ha1 (by omega) (by omega) (by simp [Crc.le_length]; omega)).mono ?_; rintro e w2 ⟨rfl, v2, hw2, hl2, hb2, ha2, hc2⟩; have z0 := hc2 _ _ y0; have z1 := hc2 _ _ y1; have z2 := hc2 _ _ y2)
    | (go_at_call 40; refine (wnum_step id 8 h0d hb0 abd hid (by omega) (by omega)).mono ?_; rintro e w1 ⟨rfl, v1, hw1, hl1, hb1, ha1, hc1⟩; have y0 := hc1 _ _ x0; have y1 := hc1 _ _ x1; have y2 := hc1 _ _ x2))
  have L3 : Later W wb v w3 v3 := Later.trans Later.drew (hl1.trans (hl2.trans hl3))
  have HL3 : Hid (Later w wb v w3 v3) := HL0.out.trans L3
  have k3 := hc3 _ _ (hc2 _ _ (hc1 _ _ x3))
  have k4 := hc3 _ _ (hc2 _ _ (hc1 _ _ x4))
  have k5 := hc3 _ _ (hc2 _ _ (hc1 _ _ x5))
  have k6 := hc3 _ _ (hc2 _ _ (hc1 _ _ x6))
  obtain ⟨l3, Hl3⟩ : ∃ l3, Hid (l ++ Crc.le 8 id ++ Crc.le 1 nf ++ Crc.le 1 nt = l3) := ⟨_, rfl⟩
  have n3 : l3.length ≤ l.length + 10 := by rw [← Hl3.out]; simp [Crc.le_length]
  rw [Hl3.out] at hw3
  have HN3 : Hid (l3.length ≤ l.length + 10) := n3
  have K1 : Hid (Calls _ _ _ _ _) := laynum_any lo hlo hw3 hb3 ha3 (by omega)
  clear x0 x1 x2 x3 x4 x5 x6 y0 y1 y2 z0 z1 z2 t0 t1 t2 hw1 hw2 hw3 hl1 hl2 hl3 hb1 hb2 hb3 ha1 ha2 ha3 hc1 hc2 hc3 h0 h0d ab abd L3 hb0 n3
  go_wp2_with fail
  refine K1.out.mono ?_
  rintro e w4 ⟨rfl, v4, hw4, hl4, hb4, ha4, hc4⟩
  have HL4 : Hid (Later w wb v w4 v4) := HL3.out.trans hl4
  replace k4 := hc4 _ _ k4
  replace k5 := hc4 _ _ k5
  replace k6 := hc4 _ _ k6
  have K2 : Hid (Calls _ _ _ _ _) := laynum_any hi hhi hw4 hb4 ha4 (by have := HN3.out; simp [Crc.le_length]; omega)
  clear k3 K1 hw4 hl4 hb4 ha4 hc4
  go_wp2_with fail
  refine K2.out.mono ?_
  rintro e w5 ⟨rfl, v5, hw5, hl5, hb5, ha5, hc5⟩
  have HL5 : Hid (Later w wb v w5 v5) := HL4.out.trans hl5
  replace k5 := hc5 _ _ k5
  replace k6 := hc5 _ _ k6
  obtain ⟨l5, Hl5⟩ : ∃ l5, Hid (l3 ++ Crc.le 8 (Fl.rk lo) ++ Crc.le 8 (Fl.rk hi) = l5) := ⟨_, rfl⟩
  have n5 : l5.length ≤ l.length + 26 := by have := HN3.out; rw [← Hl5.out]; simp [Crc.le_length]; omega
  rw [Hl5.out] at hw5
  have h5d := hw5.drew
  have a5d : Ap w5.drew B wb v5 := ⟨ha5.ne, ha5.no, ha5.lt⟩
  clear k4 K2 hl5 hc5
  go_wp2_with fail
  go_region_held3 (fun w' => w'.cell? ⟨B, 5, none⟩ = some (.int .u64 (au : Int)) ∧ w'.cell? ⟨B, 6, none⟩ = some (.int .i64 (nq : Int))) (first | exact ⟨k5, k6⟩ | exact ⟨y5, y6⟩ | exact ⟨z5, z6⟩ | go_keep) (first
    | (go_at_call 40; refine (wnum_step nq 4 hw6 hb6 ha6 (by omega) (by omega) (by simp [Crc.le_length]; omega)).mono ?_; rintro e w7 ⟨rfl, v7, hw7, hl7, hb7, ha7, hc7⟩; have z5 := hc7 _ _ y5; have z6 := hc7 _ _ y6)
    | (go_at_call 40; refine (wnum_step au 8 h5d hb5 a5d hau (by omega) (by omega)).mono ?_; rintro e w6 ⟨rfl, v6, hw6, hl6, hb6, ha6, hc6⟩; have y5 := hc6 _ _ k5; have y6 := hc6 _ _ k6))
  have L7 : Later w5 wb v5 w7 v7 := Later.trans Later.drew (hl6.trans hl7)
  have HL7 : Hid (Later w wb v w7 v7) := HL5.out.trans L7
  have HE : Hid (l5 ++ Crc.le 8 au ++ Crc.le 4 nq = l ++ encR ⟨id, (nf : Int), (nt : Int), lo, hi, au, (nq : Int)⟩) := by
    show _ = _
    rw [← Hl5.out, ← Hl3.out]; simp [encR]
  rw [HE.out] at hw7
  clear k5 k6 y5 y6 z5 z6 hw5 hw6 hl6 hl7 hb5 hb6 ha5 ha6 hc6 hc7 h5d a5d L7
  go_wp2
  go_end0
  exact ⟨rfl, v7, hw7, HL7.out, hb7, HL7.out.ap HA.out, fun o u hc => HL7.out.cell HA.out hc⟩
end Go.Proofs.Ytlneneacbjkheaa
