/- A hold's bytes; lay.ID, layNumbers, Lay. -/
import Derived.Test.YtaalkhipncbjpaaOLayW
import Derived.Test.YtaalkhipncbjpaaOLayB
import Derived.Test.YtaalkhipncbjpaaTabG
namespace Go.Proofs.Ytaalkhipncbjpaa
open Go Go.RowKit
attribute [local go_sem] run_store_float
def encFl (l : List Nat) : List Nat := Crc.le 4 l.length ++ l.flatMap fun b => Crc.le 8 (Fl.rk b)
def enc2 (p : Nat × Nat) : List Nat := Crc.le 8 (Fl.rk p.1) ++ Crc.le 8 (Fl.rk p.2)
def encS (l : List (Nat × Nat)) : List Nat := Crc.le 4 l.length ++ l.flatMap enc2
def encX (x : Hd) : List Nat := Crc.le 8 x.a0 ++ Crc.le 8 x.a1 ++ Crc.le 8 x.a2 ++ encFl x.g ++ encS x.s ++ encFl x.p ++ (Crc.le 4 x.dl.length ++ x.dl)
/-- its numbers are numbers of 64 bits. -/
def Hd.u (x : Hd) : Prop := x.a0 < 18446744073709551616 ∧ x.a1 < 18446744073709551616 ∧ x.a2 < 18446744073709551616
theorem fm_len8 (l : List Nat) : (l.flatMap fun b => Crc.le 8 (Fl.rk b)).length = l.length * 8 := by
  induction l with
  | nil => rfl
  | cons a l ih => rw [List.flatMap_cons, List.length_append, ih, Crc.le_length, List.length_cons]; omega
theorem fm_len16 (l : List (Nat × Nat)) : (l.flatMap enc2).length = l.length * 16 := by
  induction l with
  | nil => rfl
  | cons a l ih => rw [List.flatMap_cons, List.length_append, ih, enc2, List.length_append, Crc.le_length, Crc.le_length, List.length_cons]; omega
theorem encFl_len (l : List Nat) : (encFl l).length = 4 + l.length * 8 := by unfold encFl; rw [List.length_append, Crc.le_length, fm_len8]
theorem encS_len (l : List (Nat × Nat)) : (encS l).length = 4 + l.length * 16 := by unfold encS; rw [List.length_append, Crc.le_length, fm_len16]
theorem fm_succ {α β : Type} (l : List α) (f : α → List β) (d : α) (k : Nat) (hk : k < l.length) : (l.take (k + 1)).flatMap f = (l.take k).flatMap f ++ f (l.getD k d) := by
  rw [List.take_succ_eq_append_getElem hk, List.flatMap_append, List.flatMap_cons, List.flatMap_nil, List.append_nil, List.getD_eq_getElem?_getD, List.getElem?_eq_getElem hk]; rfl
theorem Later.below {w w1 : World} {base : Nat} {v v1 : Value} {l : List Nat} (_h : Later w base v w1 v1) (hw : Wr w base base v l) {k : Nat} (hk : k < base) : ¬ wset base v k := fun e => by
  rcases e with e | e
  · omega
  · have := hw.own.lt _ e; omega
set_option maxRecDepth 100000 in
set_option maxHeartbeats 2000000 in
theorem layid_any {base c : Nat} {v : Value} {l : List Nat} {w : World} (s q : Nat) (hw : Wr w base base v l) (_hb : base ≤ w.heap.size) (hs : s < 18446744073709551616) (hq : q < 18446744073709551616) (_hc : Ap w c base v) (hlen : l.length ≤ 900000) :
    Calls Try.prog 56 #[.pointer (some ⟨base, 0, none⟩), .agg #[.int .u64 (s : Int), .int .u64 (q : Int)]] w fun e w' => e = .returned (.tuple #[]) ∧ ∃ v', Wr w' base base v' (l ++ (Crc.le 8 s ++ Crc.le 8 q)) ∧ Later w base v w' v' ∧ base ≤ w'.heap.size := by
  obtain ⟨W, HW⟩ : ∃ W, Hid (W = w.alloc (.cells #[.int .u64 (s : Int), .int .u64 (q : Int)] 24)) := ⟨_, rfl⟩
  have f0 : Fr (fun _ => False) w W := by rw [HW.out]; exact (Fr.refl _ w).alloc _
  have x0 : W.cell? ⟨w.heap.size, 0, none⟩ = some (.int .u64 (s : Int)) := by rw [HW.out]; simp
  have x1 : W.cell? ⟨w.heap.size, 1, none⟩ = some (.int .u64 (q : Int)) := by rw [HW.out]; simp
  have hz : W.heap.size = w.heap.size + 1 := by rw [HW.out]; simp
  have h0 : Wr W base base v l := hw.frS f0 (by simp) (by simp)
  have L0 : Later w base v W v := ⟨f0.mono (fun _ _ h => h.elim), fun _ h => .inl h⟩
  have hwl : base < w.heap.size := World.block_lt_of_cell? _ _ hw.cell
  have ab : Ap W w.heap.size base v := ⟨by omega, fun e => by have := hw.own.lt _ e; omega, by omega⟩
  have HL0 : Hid (Later w base v W v) := L0
  obtain ⟨B, HB⟩ : ∃ B, Hid (w.heap.size = B) := ⟨_, rfl⟩
  rw [HB.out] at x0 x1 ab
  have hb0 : base ≤ W.heap.size := by omega
  have h0d := h0.drew
  have abd : Ap W.drew B base v := ⟨ab.ne, ab.no, ab.lt⟩
  clear hw f0 L0 hz
  go_enter Try.func56, Try.ntmps56
  go_wp2_with fail
  rw [← HW.out, HB.out]
  go_region_held3 (fun w' => w'.cell? ⟨B, 0, none⟩ = some (.int .u64 (s : Int)) ∧ w'.cell? ⟨B, 1, none⟩ = some (.int .u64 (q : Int))) (first | exact ⟨x0, x1⟩ | exact ⟨y0, y1⟩ | exact ⟨z0, z1⟩ | go_keep) (first
    | (go_at_call 57; refine (wnum_step q 8 hw1 hb1 ha1 hq (by omega) (by simp [Crc.le_length]; omega)).mono ?_; rintro e w2 ⟨rfl, v2, hw2, hl2, hb2, ha2, hc2⟩; have z0 := hc2 _ _ y0; have z1 := hc2 _ _ y1)
    | (go_at_call 57; refine (wnum_step s 8 h0d hb0 abd hs (by omega) (by omega)).mono ?_; rintro e w1 ⟨rfl, v1, hw1, hl1, hb1, ha1, hc1⟩; have y0 := hc1 _ _ x0; have y1 := hc1 _ _ x1))
  have HL4 : Hid (Later w base v w2 v2) := HL0.out.trans (Later.trans Later.drew (hl1.trans hl2))
  have HE : Hid (l ++ Crc.le 8 s ++ Crc.le 8 q = l ++ (Crc.le 8 s ++ Crc.le 8 q)) := by show _ = _; simp
  rw [HE.out] at hw2
  clear x0 x1 y0 y1 z0 z1 hw1 hl1 hl2 hb1 ha1 ha2 hc1 hc2 h0 h0d ab abd hb0
  first | go_end0 | (go_wp2; go_end0)
  exact ⟨rfl, v2, hw2, HL4.out, hb2⟩
set_option maxRecDepth 100000 in
set_option maxHeartbeats 4000000 in
theorem laynums_any {base c : Nat} {v : Value} {l : List Nat} {w : World} (ao : Option Addr) (lf : List Nat) (cap : Nat) (hr : FRow w ao lf cap) (hap : lf ≠ [] → ∀ a, ao = some a → a.block < base) (hw : Wr w base base v l) (hb : base ≤ w.heap.size) (hc : Ap w c base v) (hlen : l.length ≤ 500000) (hn : lf.length ≤ 1000) :
    Calls Try.prog 58 #[.pointer (some ⟨base, 0, none⟩), .slice ao lf.length cap] w fun e w' => e = .returned (.tuple #[]) ∧ ∃ v', Wr w' base base v' (l ++ encFl lf) ∧ Later w base v w' v' ∧ base ≤ w'.heap.size ∧ Ap w' c base v' ∧ (∀ o u, w.cell? ⟨c, o, none⟩ = some u → w'.cell? ⟨c, o, none⟩ = some u) := by
  have HR : Hid (FRow w ao lf cap) := hr
  have HAP : Hid (lf ≠ [] → ∀ a, ao = some a → a.block < base) := hap
  have HW : Hid (Wr w base base v l) := hw
  have HC : Hid (Ap w c base v) := hc
  have hn1 : IntKind.u64.wrap (lf.length : Int) = (lf.length : Int) := wrap_u64_small _ (by omega) (by omega)
  have K0 : Hid (Calls _ _ _ _ _) := wnum_step lf.length 4 hw hb hc (by omega) (by omega) (by omega)
  clear hr hap hw hc
  go_enter Try.func58, Try.ntmps58
  go_wp2_with fail
  refine K0.out.mono ?_
  rintro e w1 ⟨rfl, v1, hw1, hl1, hb1, ha1, hc1⟩
  have HW1 : Hid (Wr w1 base base v1 (l ++ Crc.le 4 lf.length)) := hw1
  have HL1 : Hid (Later w base v w1 v1) := hl1
  have HB1 : Hid (base ≤ w1.heap.size) := hb1
  clear hw1 hl1 hb1 ha1 hc1 K0
  go_wp2
  go_loopw [13] (fun iv wr => ∃ (k : Nat) (v2 : Value), k ≤ lf.length ∧ iv = .int .i64 (k : Int) ∧ Hid (Wr wr base base v2 (l ++ (Crc.le 4 lf.length ++ (lf.take k).flatMap fun b => Crc.le 8 (Fl.rk b)))) ∧ Hid (Later w base v wr v2) ∧ Hid (base ≤ wr.heap.size)) (fun iv _ => lf.length - (intOf iv).toNat)
  case atStart => exact ⟨0, v1, Nat.zero_le _, rfl, (by show Wr _ _ _ _ _; simpa using HW1.out), HL1.out, HB1.out⟩
  case round =>
    obtain ⟨k, v2, hk, rfl, HW2, HL2, HB2⟩ := hrel
    by_cases hlt : k < lf.length
    · obtain ⟨b, off, hao, hce⟩ := (HR.out.fr HL2.out.fr (fun hne a ha => HL2.out.below HW.out (HAP.out hne a ha))).2.2.2 (fun e => by rw [e] at hlt; simp at hlt)
      have x0 := hce k hlt
      have hx : lf.getD k 0 < 18446744073709551616 := HR.out.2.2.1 _ (by rw [List.getD_eq_getElem?_getD, List.getElem?_eq_getElem hlt]; exact List.getElem_mem hlt)
      have HS : Hid ((lf.take (k + 1)).flatMap (fun b => Crc.le 8 (Fl.rk b)) = (lf.take k).flatMap (fun b => Crc.le 8 (Fl.rk b)) ++ Crc.le 8 (Fl.rk (lf.getD k 0))) := fm_succ lf _ 0 k hlt
      have HLK : Hid ((l ++ (Crc.le 4 lf.length ++ (lf.take k).flatMap fun b => Crc.le 8 (Fl.rk b))).length ≤ 600000) := (show _ ≤ _ by rw [List.length_append, List.length_append, Crc.le_length, fm_len8, List.length_take]; omega)
      obtain ⟨L2, HL2E⟩ : ∃ L, Hid ((l ++ (Crc.le 4 lf.length ++ (lf.take k).flatMap fun b => Crc.le 8 (Fl.rk b))) = L) := ⟨_, rfl⟩
      rw [HL2E.out] at HW2 HLK
      obtain ⟨x, Hx⟩ : ∃ x, Hid (lf.getD k 0 = x) := ⟨_, rfl⟩
      rw [Hx.out] at x0 hx HS
      have KN : Hid (Calls _ _ _ _ _) := laynum_any x hx HW2.out HB2.out (HL2.out.ap HC.out) (by have := HLK.out; omega)
      have z1 : (0 : Int) ≤ (k : Int) := by omega
      have z2 : (k : Int) < (lf.length : Int) := by omega
      subst hao
      clear hce
      go_wp2_with fail
      refine KN.out.mono ?_
      rintro e w3 ⟨rfl, v3, hw3, hl3, hb3, _, _⟩
      have HW3 : Hid (Wr w3 base base v3 (l ++ (Crc.le 4 lf.length ++ (lf.take (k + 1)).flatMap fun b => Crc.le 8 (Fl.rk b)))) := (show Wr _ _ _ _ _ by rw [HS.out]; have := hw3; rw [← HL2E.out] at this; simpa using this)
      have HL3 : Hid (Later w base v w3 v3) := HL2.out.trans hl3
      have HB3 : Hid (base ≤ w3.heap.size) := hb3
      clear hw3 hl3 hb3 KN x0
      go_wp2
      go_roundw
      case rel => exact ⟨k + 1, v3, by omega, by go_num, HW3.out, HL3.out, HB3.out⟩
      case measure => simp [intOf]; omega
    · have z2 : ¬ (k : Int) < (lf.length : Int) := by omega
      have HWE : Hid (Wr wr base base v2 (l ++ encFl lf)) := (show Wr _ _ _ _ _ by have := HW2.out; rw [List.take_of_length_le (by omega)] at this; exact this)
      go_wp2
      go_end0
      exact ⟨rfl, v2, HWE.out, HL2.out, HB2.out, HL2.out.ap HC.out, fun o u hu => HL2.out.cell HC.out hu⟩
set_option maxRecDepth 100000 in
set_option maxHeartbeats 8000000 in
theorem layhold_any {base : Nat} {v : Value} {l : List Nat} {w : World} (x : Hd) (hx : x.ok w) (hsh : x.sh) (hu : x.u) (hxi : x.ins (fun k => k < base)) (hw : Wr w base base v l) (_hb : base ≤ w.heap.size) (hlen : l.length ≤ 400000) :
    Calls Try.prog 27 #[.pointer (some ⟨base, 0, none⟩), .agg #[.int .u64 (x.a0 : Int), .int .u64 (x.a1 : Int), .int .u64 (x.a2 : Int), .slice x.ga x.g.length x.gc, .slice x.sa x.s.length x.sc, .slice x.pa x.p.length x.pc, .slice x.da x.dl.length x.dc]] w fun e w' => e = .returned (.tuple #[]) ∧ ∃ v', Wr w' base base v' (l ++ encX x) ∧ Later w base v w' v' ∧ base ≤ w'.heap.size := by
  obtain ⟨W, HW⟩ : ∃ W, Hid (W = w.alloc (.cells #[.int .u64 (x.a0 : Int), .int .u64 (x.a1 : Int), .int .u64 (x.a2 : Int), .slice x.ga x.g.length x.gc, .slice x.sa x.s.length x.sc, .slice x.pa x.p.length x.pc, .slice x.da x.dl.length x.dc] 29)) := ⟨_, rfl⟩
  have f0 : Fr (fun _ => False) w W := by rw [HW.out]; exact (Fr.refl _ w).alloc _
  have HX : Hid (C7 W w.heap.size (.int .u64 (x.a0 : Int)) (.int .u64 (x.a1 : Int)) (.int .u64 (x.a2 : Int)) (.slice x.ga x.g.length x.gc) (.slice x.sa x.s.length x.sc) (.slice x.pa x.p.length x.pc) (.slice x.da x.dl.length x.dc)) := (show C7 _ _ _ _ _ _ _ _ _ by rw [HW.out]; exact C7.new w 29 _ _ _ _ _ _ _)
  have hz : W.heap.size = w.heap.size + 1 := by rw [HW.out]; simp
  have h0 : Wr W base base v l := hw.frS f0 (by simp) (by simp)
  have HL0 : Hid (Later w base v W v) := ⟨f0.mono (fun _ _ h => h.elim), fun _ h => .inl h⟩
  have hwl : base < w.heap.size := World.block_lt_of_cell? _ _ hw.cell
  have HW0 : Hid (Wr w base base v l) := hw
  have HWW : Hid (Wr W base base v l) := h0
  have HAB : Hid (Ap W w.heap.size base v) := ⟨by omega, fun e => by have := hw.own.lt _ e; omega, by omega⟩
  obtain ⟨B, HB⟩ : ∃ B, Hid (w.heap.size = B) := ⟨_, rfl⟩
  obtain ⟨sa, Hsa⟩ : ∃ sa, Hid (x.sa = sa) := ⟨_, rfl⟩
  rw [HB.out] at HX HAB
  rw [Hsa.out] at HX HW ⊢
  have HOK : Hid (x.ok W) := hx.fr f0
  have HSH : Hid x.sh := hsh
  have HXI : Hid (x.ins (fun k => k < base)) := hxi
  have HU : Hid x.u := hu
  have HB0 : Hid (base ≤ W.heap.size) := (show _ ≤ _ by omega)
  have hs1 : x.s.length ≤ 1000 := hsh.2.1
  have hn1 : IntKind.u64.wrap (x.s.length : Int) = (x.s.length : Int) := wrap_u64_small _ (by omega) (by omega)
  have HKEEP : Hid (∀ w1 v1, Later W base v w1 v1 → x.ok w1 ∧ C7 w1 B (.int .u64 (x.a0 : Int)) (.int .u64 (x.a1 : Int)) (.int .u64 (x.a2 : Int)) (.slice x.ga x.g.length x.gc) (.slice sa x.s.length x.sc) (.slice x.pa x.p.length x.pc) (.slice x.da x.dl.length x.dc) ∧ Ap w1 B base v1) := fun w1 v1 h => by
    refine ⟨HOK.out.frD h.fr HXI.out (fun k hk => h.below HWW.out hk), ?_, h.ap HAB.out⟩
    obtain ⟨d0, d1, d2, d3, d4, d5, d6⟩ := HX.out
    exact ⟨h.cell HAB.out d0, h.cell HAB.out d1, h.cell HAB.out d2, h.cell HAB.out d3, h.cell HAB.out d4, h.cell HAB.out d5, h.cell HAB.out d6⟩
  have K0 : Hid (Calls _ _ _ _ _) := layid_any x.a0 x.a1 h0 HB0.out hu.1 hu.2.1 HAB.out (by omega)
  clear hx hsh hu hxi hw h0 f0 hz
  go_enter Try.func27, Try.ntmps27
  obtain ⟨d0, d1, d2, d3, d4, d5, d6⟩ := HX.out
  go_wp2_with fail
  rw [← HW.out, HB.out]
  refine K0.out.mono ?_
  rintro e w1 ⟨rfl, v1, hw1, hl1, hb1⟩
  have L1 : Hid (Later W base v w1 v1) := hl1
  have K1 : Hid (Calls _ _ _ _ _) := wnum_step x.a2 8 hw1 hb1 (HKEEP.out _ _ hl1).2.2 HU.out.2.2 (by omega) (by simp [Crc.le_length]; omega)
  clear d0 d1 d2 d3 d4 d5 d6 K0 hw1 hl1 hb1
  obtain ⟨d0, d1, d2, d3, d4, d5, d6⟩ := (HKEEP.out _ _ L1.out).2.1
  go_wp2_with fail
  refine K1.out.mono ?_
  rintro e w2 ⟨rfl, v2, hw2, hl2, hb2, _, _⟩
  have L2 : Hid (Later W base v w2 v2) := L1.out.trans hl2
  have HI2 : Hid (x.ok w2) := (HKEEP.out _ _ L2.out).1
  have K2 : Hid (Calls _ _ _ _ _) := laynums_any x.ga x.g x.gc HI2.out.1 HXI.out.1 hw2 hb2 (HKEEP.out _ _ L2.out).2.2 (by simp [Crc.le_length]; omega) HSH.out.1
  clear d0 d1 d2 d3 d4 d5 d6 K1 hw2 hl2 hb2
  obtain ⟨d0, d1, d2, d3, d4, d5, d6⟩ := (HKEEP.out _ _ L2.out).2.1
  go_wp2_with fail
  refine K2.out.mono ?_
  rintro e w3 ⟨rfl, v3, hw3, hl3, hb3, _, _⟩
  have L3 : Hid (Later W base v w3 v3) := L2.out.trans hl3
  have K3 : Hid (Calls _ _ _ _ _) := wnum_step x.s.length 4 hw3 hb3 (HKEEP.out _ _ L3.out).2.2 (by omega) (by omega) (by simp [Crc.le_length, encFl_len]; have := HSH.out.1; omega)
  clear d0 d1 d2 d3 d4 d5 d6 K2 hw3 hl3 hb3
  obtain ⟨d0, d1, d2, d3, d4, d5, d6⟩ := (HKEEP.out _ _ L3.out).2.1
  go_wp2_with fail
  refine K3.out.mono ?_
  rintro e w4 ⟨rfl, v4, hw4, hl4, hb4, _, _⟩
  have L4 : Hid (Later W base v w4 v4) := L3.out.trans hl4
  obtain ⟨l4, Hl4⟩ : ∃ L, Hid (l ++ (Crc.le 8 x.a0 ++ Crc.le 8 x.a1) ++ Crc.le 8 x.a2 ++ encFl x.g = L) := ⟨_, rfl⟩
  rw [Hl4.out] at hw4
  have HL4 : Hid (l4.length ≤ 450000) := (show _ ≤ _ by rw [← Hl4.out]; simp [Crc.le_length, encFl_len]; have := HSH.out.1; omega)
  have HW4 : Hid (Wr w4 base base v4 (l4 ++ Crc.le 4 x.s.length)) := hw4
  have HB4 : Hid (base ≤ w4.heap.size) := hb4
  clear d0 d1 d2 d3 d4 d5 d6 K3 hw4 hl4 hb4
  obtain ⟨d0, d1, d2, d3, d4, d5, d6⟩ := (HKEEP.out _ _ L4.out).2.1
  go_wp2
  clear d0 d1 d2 d3 d4 d5 d6
  go_loopw [27] (fun iv wr => ∃ (k : Nat) (v5 : Value), k ≤ x.s.length ∧ iv = .int .i64 (k : Int) ∧ Hid (Wr wr base base v5 (l4 ++ (Crc.le 4 x.s.length ++ (x.s.take k).flatMap enc2))) ∧ Hid (Later W base v wr v5) ∧ Hid (base ≤ wr.heap.size)) (fun iv _ => x.s.length - (intOf iv).toNat)
  case atStart => exact ⟨0, v4, Nat.zero_le _, rfl, (by show Wr _ _ _ _ _; simpa using HW4.out), L4.out, HB4.out⟩
  case round =>
    obtain ⟨k, v5, hk, rfl, HW5, L5, HB5⟩ := hrel
    by_cases hlt : k < x.s.length
    · have HI5 : Hid (x.ok wr) := (HKEEP.out _ _ L5.out).1
      obtain ⟨b, off, hao, hce⟩ := HI5.out.2.1.2.2.2 (fun e => by rw [e] at hlt; simp at hlt)
      obtain ⟨x0, x1⟩ := hce k hlt
      have hxb := HI5.out.2.1.2.2.1 (x.s.getD k (0, 0)) (by rw [List.getD_eq_getElem?_getD, List.getElem?_eq_getElem hlt]; exact List.getElem_mem hlt)
      have HS : Hid ((x.s.take (k + 1)).flatMap enc2 = (x.s.take k).flatMap enc2 ++ enc2 (x.s.getD k (0, 0))) := fm_succ x.s _ (0, 0) k hlt
      have HLK : Hid ((l4 ++ (Crc.le 4 x.s.length ++ (x.s.take k).flatMap enc2)).length ≤ 500000) := (show _ ≤ _ by rw [List.length_append, List.length_append, Crc.le_length, fm_len16, List.length_take]; have := HL4.out; omega)
      obtain ⟨L2x, HL2E⟩ : ∃ L, Hid ((l4 ++ (Crc.le 4 x.s.length ++ (x.s.take k).flatMap enc2)) = L) := ⟨_, rfl⟩
      rw [HL2E.out] at HW5 HLK
      obtain ⟨y, Hy⟩ : ∃ y, Hid (x.s.getD k (0, 0) = y) := ⟨_, rfl⟩
      rw [Hy.out] at x0 x1 hxb HS
      obtain ⟨y0, y1⟩ := y
      simp only at x0 x1 hxb
      have HFA : Hid (Later wr base v5 (wr.alloc (.cells #[.float .f64 y0, .float .f64 y1] 75)) v5) := (Later.refl _ _ _).alloc _
      have HLt : Hid (wr.heap.size < (wr.alloc (.cells #[.float .f64 y0, .float .f64 y1] 75)).heap.size) := (show _ < _ by simp)
      have HG0 : Hid ((wr.alloc (.cells #[.float .f64 y0, .float .f64 y1] 75)).cell? ⟨wr.heap.size, 0, none⟩ = some (.float .f64 y0) ∧ (wr.alloc (.cells #[.float .f64 y0, .float .f64 y1] 75)).cell? ⟨wr.heap.size, 1, none⟩ = some (.float .f64 y1)) := ⟨by simp, by simp⟩
      have HAG : Hid (Ap (wr.alloc (.cells #[.float .f64 y0, .float .f64 y1] 75)) wr.heap.size base v5) := ⟨fun e => by have := World.block_lt_of_cell? _ _ HW5.out.cell; have h9 : base < wr.heap.size := this; omega, fun e => by have := HW5.out.own.lt _ e; omega, HLt.out⟩
      have KN : Hid (Calls _ _ _ _ _) := laynum_any y0 hxb.1 (HW5.out.alloc (.cells #[.float .f64 y0, .float .f64 y1] 75)) (by have := HB5.out; have := HLt.out; omega) HAG.out (by have := HLK.out; omega)
      have z1 : (0 : Int) ≤ (k : Int) := by omega
      have z2 : (k : Int) < (x.s.length : Int) := by omega
      have HY1 : Hid (y1 < 18446744073709551616) := hxb.2
      rw [Hsa.out] at hao
      clear Hsa
      subst hao
      clear hce hxb HI5
      go_wp2_with fail
      refine KN.out.mono ?_
      obtain ⟨g, Hg⟩ : ∃ g, Hid (wr.heap.size = g) := ⟨_, rfl⟩
      rw [Hg.out] at HG0 HAG ⊢
      rintro e w6 ⟨rfl, v6, hw6, hl6, hb6, ha6, hc6⟩
      have g1 := hc6 _ _ HG0.out.2
      have HL6 : Hid (Later wr base v5 w6 v6) := HFA.out.trans hl6
      have KN2 : Hid (Calls _ _ _ _ _) := laynum_any y1 HY1.out hw6 hb6 ha6 (by rw [List.length_append, Crc.le_length]; have := HLK.out; omega)
      clear hw6 hl6 hb6 ha6 hc6 KN x0 x1
      go_wp2_with fail
      refine KN2.out.mono ?_
      rintro e w7 ⟨rfl, v7, hw7, hl7, hb7, _, _⟩
      have HW7 : Hid (Wr w7 base base v7 (l4 ++ (Crc.le 4 x.s.length ++ (x.s.take (k + 1)).flatMap enc2))) := (show Wr _ _ _ _ _ by rw [HS.out]; have := hw7; rw [← HL2E.out] at this; simpa [enc2] using this)
      have L7 : Hid (Later W base v w7 v7) := L5.out.trans (HL6.out.trans hl7)
      have HB7 : Hid (base ≤ w7.heap.size) := hb7
      clear hw7 hl7 hb7 KN2 g1
      go_wp2
      go_roundw
      case rel => first | exact ⟨k + 1, by omega, by go_num, v7, HW7.out, L7.out, HB7.out⟩ | exact ⟨k + 1, v7, by omega, by go_num, HW7.out, L7.out, HB7.out⟩
      case measure => simp [intOf]; omega
    · have z2 : ¬ (k : Int) < (x.s.length : Int) := by omega
      obtain ⟨l5, Hl5⟩ : ∃ L, Hid (l4 ++ encS x.s = L) := ⟨_, rfl⟩
      have HWE : Hid (Wr wr base base v5 l5) := (show Wr _ _ _ _ _ by have := HW5.out; rw [List.take_of_length_le (by omega)] at this; rw [← Hl5.out]; exact this)
      have HL5L : Hid (l5.length ≤ 480000) := (show _ ≤ _ by rw [← Hl5.out, List.length_append, encS_len]; have := HL4.out; omega)
      obtain ⟨hok5, ⟨d0, d1, d2, d3, d4, d5, d6⟩, hap5⟩ := HKEEP.out _ _ L5.out
      have K5 : Hid (Calls _ _ _ _ _) := laynums_any x.pa x.p x.pc hok5.2.2.1 HXI.out.2.2.1 HWE.out HB5.out hap5 (by have := HL5L.out; omega) HSH.out.2.2.1
      clear hok5 hap5
      go_wp2_with fail
      refine K5.out.mono ?_
      rintro e w6 ⟨rfl, v6, hw6, hl6, hb6, _, _⟩
      have L6 : Hid (Later W base v w6 v6) := L5.out.trans hl6
      have HI6 : Hid (x.ok w6) := (HKEEP.out _ _ L6.out).1
      have K6 : Hid (Calls _ _ _ _ _) := wbytes_any base base v6 _ x.da x.dl x.dc w6 hw6 HI6.out.2.2.2 HXI.out.2.2.2 (Nat.le_refl _) hb6 (by rw [List.length_append, encFl_len]; have := HL5L.out; have := HSH.out.2.2; omega)
      clear d0 d1 d2 d3 d4 d5 d6 K5 hw6 hl6 hb6
      obtain ⟨d0, d1, d2, d3, d4, d5, d6⟩ := (HKEEP.out _ _ L6.out).2.1
      have HLB : Hid (∀ w7 : World, w6.heap.size ≤ w7.heap.size → base ≤ w7.heap.size) := fun w7 h => by have := L6.out.fr.size; have := HB0.out; omega
      go_wp2_with fail
      refine K6.out.mono ?_
      rintro e w7 ⟨rfl, v7, hw7, hl7⟩
      have HW7 : Hid (Wr w7 base base v7 (l ++ encX x)) := (show Wr _ _ _ _ _ by have := hw7; rw [← Hl5.out, ← Hl4.out] at this; unfold encX; simpa using this)
      have L7 : Hid (Later w base v w7 v7) := HL0.out.trans (L6.out.trans hl7)
      have HB7 : Hid (base ≤ w7.heap.size) := HLB.out _ hl7.fr.size
      clear hw7 hl7 K6 d0 d1 d2 d3 d4 d5 d6
      first | go_end0 | (go_wp2; go_end0)
      exact ⟨rfl, v7, HW7.out, L7.out, HB7.out⟩
end Go.Proofs.Ytaalkhipncbjpaa
