/- Encode, of any table; what a hold's bytes are read as. -/
import Derived.Test.YtaalkhipncbjpaaTabU
import Derived.Test.YtaalkhipncbjpaaTabK
import Derived.Test.YtaalkhipncbjpaaOLayB
namespace Go.Proofs.Ytaalkhipncbjpaa
open Go Go.RowKit
attribute [local go_sem] run_store_float
def encT (l : List Hd) : List Nat := Crc.le 4 l.length ++ l.flatMap encX
theorem wr_here (w : World) : Wr (w.alloc (.cells #[.slice none 0 0] 59)) w.heap.size w.heap.size (.slice none 0 0) [] :=
  ⟨by simp, by simp, Own.nil _ _, by simp [Value.ownBlock]⟩
theorem encT_part (l : List Hd) (k : Nat) : (Crc.le 4 l.length ++ (l.take k).flatMap encX).length ≤ (encT l).length := by
  have h : l.flatMap encX = (l.take k).flatMap encX ++ (l.drop k).flatMap encX := by rw [← List.flatMap_append, List.take_append_drop]
  unfold encT
  rw [h]
  simp
theorem fr_later {w w1 : World} {wb : Nat} {v : Value} (f : Fr (fun _ => False) w w1) : Later w wb v w1 v := ⟨f.mono (fun _ _ h => h.elim), fun _ h => .inl h⟩
set_option maxRecDepth 100000 in
set_option maxHeartbeats 4000000 in
theorem enc_any (base tb : Nat) (ao : Option Addr) (cap : Nat) (l : List Hd) (w : World) (hT : TabP w base tb ao cap l) (hu : ∀ x ∈ l, x.u) (hlen : (encT l).length ≤ 300000) (hl1 : l.length ≤ 1000) :
    Calls Try.prog 34 #[.pointer (some ⟨tb, 0, none⟩)] w fun e w' => ∃ a1, e = .returned (.slice a1 (encT l).length (encT l).length) ∧ Fresh w w' a1 (encT l) ∧ Fr (fun _ => False) w w' := by
  obtain ⟨W, HW⟩ : ∃ W, Hid (w.alloc (.cells #[.slice none 0 0] 59) = W) := ⟨_, rfl⟩
  have F0 : Hid (Fr (fun _ => False) w W) := (show Fr _ _ _ by rw [← HW.out]; exact (Fr.refl _ w).alloc _)
  have hz : W.heap.size = w.heap.size + 1 := by rw [← HW.out]; simp
  have h0 : Wr W w.heap.size w.heap.size (.slice none 0 0) [] := by rw [← HW.out]; exact wr_here w
  obtain ⟨B, HB⟩ : ∃ B, Hid (w.heap.size = B) := ⟨_, rfl⟩
  rw [HB.out] at h0 hz
  have HT : Hid (TabP W base tb ao cap l) := hT.fr F0.out
  have HTB : Hid (tb < B ∧ (∀ a, ao = some a → a.block < B) ∧ ∀ x ∈ l, x.ins (fun k => k < B)) := ⟨by rw [← HB.out]; exact hT.lt, fun a ha => by rw [← HB.out]; exact (hT.blk a ha).2.2, fun x hx => by rw [← HB.out]; exact (hT.ok x hx).lt⟩
  have HW0 : Hid (Wr W B B (.slice none 0 0) []) := h0
  have HU : Hid (∀ x ∈ l, x.u) := hu
  have HLN : Hid ((encT l).length ≤ 300000) := hlen
  have HAB : Hid (Ap W tb B (.slice none 0 0)) := ⟨by have := HTB.out.1; omega, by simp [Value.ownBlock], by have := HTB.out.1; omega⟩
  have HWZ : Hid (B ≤ W.heap.size) := (show _ ≤ _ by omega)
  have HK : Hid (∀ w1 v1, Later W B (.slice none 0 0) w1 v1 → TabP w1 base tb ao cap l) := fun w1 v1 h => by
    have hS : ∀ k, k < B → ¬ wset B (.slice none 0 0) k := fun k hk => h.below HW0.out hk
    have T := HT.out
    exact ⟨h.fr.cell T.cell (hS tb HTB.out.1), (h.fr.frozenEq (a := ⟨tb, 0, none⟩) T.lt (hS tb HTB.out.1)).trans T.free, T.low, T.own.fr h.fr (fun k e => by obtain ⟨a, ha, hb⟩ := T.owns k e; exact hS k (by rw [← hb]; exact HTB.out.2.1 a ha)), T.beside, T.srt, T.alone, fun x hx => (T.ok x hx).frD h.fr (HTB.out.2.2 x hx) (fun k hk => hS k hk), T.ins, T.sh⟩
  have hn1 : IntKind.u64.wrap (l.length : Int) = (l.length : Int) := wrap_u64_small _ (by omega) (by omega)
  have K0 : Hid (Calls _ _ _ _ _) := wnum_step l.length 4 h0 HWZ.out HAB.out (by omega) (by omega) (by simp)
  have c0 : (w.alloc (.cells #[.slice none 0 0] 59)).cell? ⟨tb, 0, none⟩ = some (.slice ao l.length cap) := by rw [HW.out]; exact HT.out.cell
  clear hT hu hlen h0 hz
  go_enter Try.func34, Try.ntmps34
  go_wp2_with fail
  rw [HW.out, HB.out]
  refine K0.out.mono ?_
  rintro e w1 ⟨rfl, v1, hw1, hl1', hb1, _, _⟩
  have HW1 : Hid (Wr w1 B B v1 (Crc.le 4 l.length)) := (show Wr _ _ _ _ _ by simpa using hw1)
  have L1 : Hid (Later W B (.slice none 0 0) w1 v1) := hl1'
  have HB1 : Hid (B ≤ w1.heap.size) := hb1
  clear hw1 hl1' hb1 K0 c0
  have c0 := (HK.out _ _ L1.out).cell
  go_wp2
  clear c0
  go_loopw [23] (fun iv wr => ∃ (k : Nat) (v2 : Value), k ≤ l.length ∧ iv = .int .i64 (k : Int) ∧ Hid (Wr wr B B v2 (Crc.le 4 l.length ++ (l.take k).flatMap encX)) ∧ Hid (Later W B (.slice none 0 0) wr v2) ∧ Hid (B ≤ wr.heap.size)) (fun iv _ => l.length - (intOf iv).toNat)
  case atStart => exact ⟨0, v1, Nat.zero_le _, rfl, (by show Wr _ _ _ _ _; simpa using HW1.out), L1.out, HB1.out⟩
  case round =>
    obtain ⟨k, v2, hk, rfl, HW2, L2, HB2⟩ := hrel
    by_cases hlt : k < l.length
    · have HT2 : Hid (TabP wr base tb ao cap l) := HK.out _ _ L2.out
      obtain ⟨b, off, x, hao, Hx, hmem, d0, d1, d2, d3, d4, d5, d6⟩ := HT2.out.row.seven hlt
      have HS : Hid ((l.take (k + 1)).flatMap encX = (l.take k).flatMap encX ++ encX x) := (show _ = _ by rw [fm_succ l encX dH k hlt, Hx.out])
      have HLK : Hid ((Crc.le 4 l.length ++ (l.take k).flatMap encX).length ≤ 400000) := (show _ ≤ _ by have := encT_part l k; have := HLN.out; omega)
      have FA : Hid (Fr (fun _ => False) wr (wr.alloc (.cells #[.int .u64 (x.a0 : Int), .int .u64 (x.a1 : Int), .int .u64 (x.a2 : Int), .slice x.ga x.g.length x.gc, .slice x.sa x.s.length x.sc, .slice x.pa x.p.length x.pc, .slice x.da x.dl.length x.dc] 29))) := (Fr.refl _ _).alloc _
      have KL : Hid (Calls _ _ _ _ _) := layhold_any x ((HT2.out.ok x hmem).fr FA.out) (HT2.out.sh x hmem) (HU.out x hmem) (HTB.out.2.2 x hmem) (HW2.out.frS FA.out (by simp) (by simp)) (Nat.le_trans HB2.out FA.out.size) HLK.out
      have LA : Hid (Later W B (.slice none 0 0) (wr.alloc (.cells #[.int .u64 (x.a0 : Int), .int .u64 (x.a1 : Int), .int .u64 (x.a2 : Int), .slice x.ga x.g.length x.gc, .slice x.sa x.s.length x.sc, .slice x.pa x.p.length x.pc, .slice x.da x.dl.length x.dc] 29)) v2) := L2.out.trans (fr_later FA.out)
      have z1 : (0 : Int) ≤ (k : Int) := by omega
      have z2 : (k : Int) < (l.length : Int) := by omega
      subst hao
      clear hmem HT2
      go_wp2_with fail
      refine KL.out.mono ?_
      rintro e w3 ⟨rfl, v3, hw3, hl3, hb3⟩
      have HW3 : Hid (Wr w3 B B v3 (Crc.le 4 l.length ++ (l.take (k + 1)).flatMap encX)) := (show Wr _ _ _ _ _ by rw [HS.out]; simpa using hw3)
      have L3 : Hid (Later W B (.slice none 0 0) w3 v3) := LA.out.trans hl3
      have HB3 : Hid (B ≤ w3.heap.size) := hb3
      clear hw3 hl3 hb3 KL d0 d1 d2 d3 d4 d5 d6
      go_wp2
      go_roundw
      case rel => first | exact ⟨k + 1, by omega, by go_num, v3, HW3.out, L3.out, HB3.out⟩ | exact ⟨k + 1, v3, by omega, by go_num, HW3.out, L3.out, HB3.out⟩
      case measure => simp [intOf]; omega
    · have z2 : ¬ (k : Int) < (l.length : Int) := by omega
      have HWE : Hid (Wr wr B B v2 (encT l)) := (show Wr _ _ _ _ _ by have := HW2.out; rw [List.take_of_length_le (by omega)] at this; exact this)
      have KD : Hid (Calls _ _ _ _ _) := done_any B B v2 (encT l) wr HWE.out (by have := HLN.out; omega)
      have HFL : Hid (Fr (fun _ => False) w wr) := F0.out.trans' L2.out.fr (fun i hi e => by
        have h9 := HB.out
        rcases e with e | e
        · omega
        · simp [Value.ownBlock] at e)
      go_wp2_with fail
      refine KD.out.mono ?_
      rintro e w4 ⟨a1, rfl, hf4, f4⟩
      have HF4 : Hid (Fresh w w4 a1 (encT l)) := ⟨hf4.1, fun a ha => by have h9 := hf4.2 a ha; have := HFL.out.size; exact ⟨by omega, h9.2⟩⟩
      have HFF : Hid (Fr (fun _ => False) w w4) := HFL.out.trans f4
      clear hf4 f4 KD
      go_wp2
      go_ret
      exact ⟨a1, rfl, HF4.out, HFF.out⟩
/-! what is read of bytes. -/
def fltsV : Nat → Rs → List Nat
  | 0, _ => []
  | n + 1, s => fltV s :: fltsV n (fltS s)
def fltsS : Nat → Rs → Rs
  | 0, s => s
  | n + 1, s => fltsS n (fltS s)
def spV : Nat → Rs → List (Nat × Nat)
  | 0, _ => []
  | n + 1, s => (fltV s, fltV (fltS s)) :: spV n (fltS (fltS s))
def spS : Nat → Rs → Rs
  | 0, s => s
  | n + 1, s => spS n (fltS (fltS s))
theorem flts_succ (n : Nat) : ∀ s, fltsV (n + 1) s = fltsV n s ++ [fltV (fltsS n s)] ∧ fltsS (n + 1) s = fltS (fltsS n s) := by
  induction n with
  | zero => intro s; exact ⟨rfl, rfl⟩
  | succ n ih =>
    intro s
    have h := ih (fltS s)
    exact ⟨by show fltV s :: fltsV (n + 1) (fltS s) = _; rw [h.1]; rfl, h.2⟩
theorem sp_succ (n : Nat) : ∀ s, spV (n + 1) s = spV n s ++ [(fltV (spS n s), fltV (fltS (spS n s)))] ∧ spS (n + 1) s = fltS (fltS (spS n s)) := by
  induction n with
  | zero => intro s; exact ⟨rfl, rfl⟩
  | succ n ih =>
    intro s
    have h := ih (fltS (fltS s))
    exact ⟨by show (fltV s, fltV (fltS s)) :: spV (n + 1) (fltS (fltS s)) = _; rw [h.1]; rfl, h.2⟩
theorem fltsV_len (n : Nat) : ∀ s, (fltsV n s).length = n := by
  induction n with
  | zero => intro s; rfl
  | succ n ih => intro s; show _ + 1 = _; rw [ih]
theorem spV_len (n : Nat) : ∀ s, (spV n s).length = n := by
  induction n with
  | zero => intro s; rfl
  | succ n ih => intro s; show _ + 1 = _; rw [ih]
/-- the numbers of a list, and what is left. -/
def numsV (s : Rs) : List Nat := fltsV (cntV s 32) (cntS s 32)
def numsS (s : Rs) : Rs := fltsS (cntV s 32) (cntS s 32)
def spsV (s : Rs) : List (Nat × Nat) := spV (cntV s 32) (cntS s 32)
def spsS (s : Rs) : Rs := spS (cntV s 32) (cntS s 32)
def h3 (s : Rs) : Rs := numS (numS (numS s 8) 8) 8
def holdS (s : Rs) : Rs := bytS (numsS (spsS (numsS (h3 s)))) 257
def holdV (s : Rs) : Nat × Nat × Nat × List Nat × List (Nat × Nat) × List Nat × List Nat :=
  (numV s 8, numV (numS s 8) 8, numV (numS (numS s 8) 8) 8, numsV (h3 s), spsV (numsS (h3 s)), numsV (spsS (numsS (h3 s))), bytV (numsS (spsS (numsS (h3 s)))) 257)
def encK (k : Nat × Nat × Nat × List Nat × List (Nat × Nat) × List Nat × List Nat) : List Nat :=
  Crc.le 8 k.1 ++ Crc.le 8 k.2.1 ++ Crc.le 8 k.2.2.1 ++ encFl k.2.2.2.1 ++ encS k.2.2.2.2.1 ++ encFl k.2.2.2.2.2.1 ++ (Crc.le 4 k.2.2.2.2.2.2.length ++ k.2.2.2.2.2.2)
theorem encX_key (x : Hd) : encX x = encK x.key := rfl
theorem flts_back (n : Nat) : ∀ s : Rs, (∀ x ∈ s.l, x < 256) → (fltsS n s).bad = false → s.bad = false ∧ s.l = (fltsV n s).flatMap (fun b => Crc.le 8 (Fl.rk b)) ++ (fltsS n s).l ∧ ∀ x ∈ (fltsS n s).l, x < 256 := by
  induction n with
  | zero => intro s hx hb; exact ⟨hb, rfl, hx⟩
  | succ n ih =>
    intro s hx hb
    obtain ⟨h1, h2, h4⟩ := ih (fltS s) (fltS_byte s hx) hb
    obtain ⟨g1, g2, _⟩ := flt_back s hx h1
    refine ⟨g1, ?_, h4⟩
    rw [g2, h2]
    show _ = (Crc.le 8 (Fl.rk (fltV s)) ++ _) ++ _
    rw [List.append_assoc]; rfl
theorem sp_back (n : Nat) : ∀ s : Rs, (∀ x ∈ s.l, x < 256) → (spS n s).bad = false → s.bad = false ∧ s.l = (spV n s).flatMap enc2 ++ (spS n s).l ∧ ∀ x ∈ (spS n s).l, x < 256 := by
  induction n with
  | zero => intro s hx hb; exact ⟨hb, rfl, hx⟩
  | succ n ih =>
    intro s hx hb
    obtain ⟨h1, h2, h4⟩ := ih (fltS (fltS s)) (fltS_byte _ (fltS_byte s hx)) hb
    obtain ⟨g1, g2, _⟩ := flt_back (fltS s) (fltS_byte s hx) h1
    obtain ⟨k1, k2, _⟩ := flt_back s hx g1
    refine ⟨k1, ?_, h4⟩
    rw [k2, g2, h2]
    show _ = ((Crc.le 8 (Fl.rk (fltV s)) ++ Crc.le 8 (Fl.rk (fltV (fltS s)))) ++ _) ++ _
    rw [List.append_assoc, List.append_assoc]; rfl
theorem cnt_back (s : Rs) (m : Nat) (hx : ∀ x ∈ s.l, x < 256) (hb : (cntS s m).bad = false) : s.bad = false ∧ s.l = Crc.le 4 (cntV s m) ++ (cntS s m).l ∧ ∀ x ∈ (cntS s m).l, x < 256 := by
  by_cases h : s.cnt m
  · have e1 : cntV s m = Crc.num (s.l.take 4) := by unfold cntV; rw [if_pos h]
    have e2 : cntS s m = ⟨s.l.drop 4, false⟩ := by unfold cntS; rw [if_pos h]
    have hn : numS s 4 = ⟨s.l.drop 4, false⟩ := by unfold numS; rw [if_pos h.1]
    have hv : numV s 4 = Crc.num (s.l.take 4) := by unfold numV; rw [if_pos h.1]
    have := num_back s 4 hx (by rw [hn])
    rw [hn, hv] at this
    rw [e1, e2]
    exact this
  · have e2 : cntS s m = ⟨[], true⟩ := by unfold cntS; rw [if_neg h]
    rw [e2] at hb
    cases hb
theorem byt_back (s : Rs) (m : Nat) (hx : ∀ x ∈ s.l, x < 256) (hb : (bytS s m).bad = false) : s.bad = false ∧ s.l = Crc.le 4 (bytV s m).length ++ bytV s m ++ (bytS s m).l ∧ ∀ x ∈ (bytS s m).l, x < 256 := by
  by_cases h : s.byt m
  · have e1 : bytV s m = (s.l.drop 4).take (Crc.num (s.l.take 4)) := by unfold bytV; rw [if_pos h]
    have e2 : bytS s m = ⟨(s.l.drop 4).drop (Crc.num (s.l.take 4)), false⟩ := by unfold bytS; rw [if_pos h]
    have hc : (cntS s m).bad = false := by unfold cntS; rw [if_pos h.1]
    obtain ⟨g1, g2, _⟩ := cnt_back s m hx hc
    have c1 : cntV s m = Crc.num (s.l.take 4) := by unfold cntV; rw [if_pos h.1]
    have c2 : cntS s m = ⟨s.l.drop 4, false⟩ := by unfold cntS; rw [if_pos h.1]
    rw [c1, c2] at g2
    have hl : (bytV s m).length = Crc.num (s.l.take 4) := by rw [e1, List.length_take, List.length_drop]; exact Nat.min_eq_left h.2
    refine ⟨g1, ?_, ?_⟩
    · rw [hl, e1, e2, List.append_assoc, List.take_append_drop]
      exact g2
    · rw [e2]
      exact fun x hx2 => hx x (List.mem_of_mem_drop (List.mem_of_mem_drop hx2))
  · have e2 : bytS s m = ⟨[], true⟩ := by unfold bytS; rw [if_neg h]
    rw [e2] at hb
    cases hb
theorem nums_back (s : Rs) (hx : ∀ x ∈ s.l, x < 256) (hb : (numsS s).bad = false) : s.bad = false ∧ s.l = encFl (numsV s) ++ (numsS s).l ∧ ∀ x ∈ (numsS s).l, x < 256 := by
  have hcx : ∀ x ∈ (cntS s 32).l, x < 256 := by
    unfold cntS
    split
    · exact fun x h => hx x (List.mem_of_mem_drop h)
    · intro x h; cases h
  obtain ⟨h1, h2, h4⟩ := flts_back (cntV s 32) (cntS s 32) hcx hb
  obtain ⟨g1, g2, _⟩ := cnt_back s 32 hx h1
  refine ⟨g1, ?_, h4⟩
  rw [g2, h2]
  unfold encFl numsV numsS
  rw [fltsV_len, List.append_assoc]
theorem sps_back (s : Rs) (hx : ∀ x ∈ s.l, x < 256) (hb : (spsS s).bad = false) : s.bad = false ∧ s.l = encS (spsV s) ++ (spsS s).l ∧ ∀ x ∈ (spsS s).l, x < 256 := by
  have hcx : ∀ x ∈ (cntS s 32).l, x < 256 := by
    unfold cntS
    split
    · exact fun x h => hx x (List.mem_of_mem_drop h)
    · intro x h; cases h
  obtain ⟨h1, h2, h4⟩ := sp_back (cntV s 32) (cntS s 32) hcx hb
  obtain ⟨g1, g2, _⟩ := cnt_back s 32 hx h1
  refine ⟨g1, ?_, h4⟩
  rw [g2, h2]
  unfold encS spsV spsS
  rw [spV_len, List.append_assoc]
theorem nums_byte (s : Rs) (hx : ∀ x ∈ s.l, x < 256) : ∀ x ∈ (numsS s).l, x < 256 := by
  have h : ∀ n (s : Rs), (∀ x ∈ s.l, x < 256) → ∀ x ∈ (fltsS n s).l, x < 256 := fun n => by
    induction n with
    | zero => intro s h; exact h
    | succ n ih => intro s h; exact ih _ (fltS_byte s h)
  refine h _ _ ?_
  unfold cntS
  split
  · exact fun x h => hx x (List.mem_of_mem_drop h)
  · intro x h; cases h
theorem sps_byte (s : Rs) (hx : ∀ x ∈ s.l, x < 256) : ∀ x ∈ (spsS s).l, x < 256 := by
  have h : ∀ n (s : Rs), (∀ x ∈ s.l, x < 256) → ∀ x ∈ (spS n s).l, x < 256 := fun n => by
    induction n with
    | zero => intro s h; exact h
    | succ n ih => intro s h; exact ih _ (fltS_byte _ (fltS_byte s h))
  refine h _ _ ?_
  unfold cntS
  split
  · exact fun x h => hx x (List.mem_of_mem_drop h)
  · intro x h; cases h
theorem hold_back (s : Rs) (hx : ∀ x ∈ s.l, x < 256) (hb : (holdS s).bad = false) : s.bad = false ∧ s.l = encK (holdV s) ++ (holdS s).l ∧ ∀ x ∈ (holdS s).l, x < 256 := by
  have x1 := numS_byte s 8 hx
  have x2 := numS_byte (numS s 8) 8 x1
  have x3 : ∀ x ∈ (h3 s).l, x < 256 := numS_byte _ 8 x2
  have x4 := nums_byte (h3 s) x3
  have x5 := sps_byte _ x4
  have x6 := nums_byte _ x5
  obtain ⟨b6, l6, r6⟩ := byt_back _ 257 x6 hb
  obtain ⟨b5, l5, _⟩ := nums_back _ x5 b6
  obtain ⟨b4, l4, _⟩ := sps_back _ x4 b5
  obtain ⟨b3, l3, _⟩ := nums_back _ x3 b4
  obtain ⟨b2, l2, _⟩ := num_back _ 8 x2 b3
  obtain ⟨b1, l1, _⟩ := num_back _ 8 x1 b2
  obtain ⟨b0, l0, _⟩ := num_back s 8 hx b1
  refine ⟨b0, ?_, r6⟩
  have l3' : (numS (numS (numS s 8) 8) 8).l = encFl (numsV (h3 s)) ++ (numsS (h3 s)).l := l3
  rw [l0, l1, l2, l3', l4, l5, l6]
  unfold encK holdV holdS
  simp only [List.append_assoc]
end Go.Proofs.Ytaalkhipncbjpaa
