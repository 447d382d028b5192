/- The program's lay, and the document's Frame, lay one frame. -/
import Derived.Test.YtpnjcpamhelaeaaDoorOpen
import Derived.Laws.CopyOwn
import Derived.Laws.MakeOwn
import Derived.Laws.OwnMore
import Derived.Deep.RegionHeld3
namespace Go.Proofs.YtpnjcpamhelaeaaDoor
open Go.RowKit

/-- a frame's head. -/
def hd (id k of n : Nat) : List Nat := Crc.le 1 1 ++ Crc.le 8 id ++ Crc.le 2 k ++ Crc.le 2 of ++ Crc.le 2 n
theorem hd_length (id k of n : Nat) : (hd id k of n).length = 15 := by simp [hd, Crc.le_length]
theorem hd_lt (id k of n : Nat) : ∀ x ∈ hd id k of n, x < 256 := by
  intro x hx
  simp only [hd, List.mem_append] at hx
  rcases hx with (((h | h) | h) | h) | h <;> exact Crc.le_lt _ _ x h
/-- a frame's bytes ahead of its sum. -/
def body (size id k of : Nat) (p : List Nat) : List Nat := hd id k of p.length ++ p ++ List.replicate (size - 19 - p.length) 0
theorem body_length (size id k of : Nat) (p : List Nat) (h : p.length + 19 ≤ size) : (body size id k of p).length = size - 4 := by
  simp [body, hd_length]; omega
theorem body_lt (size id k of : Nat) (p : List Nat) (h : ∀ x ∈ p, x < 256) : ∀ x ∈ body size id k of p, x < 256 := by
  intro x hx
  simp only [body, List.mem_append] at hx
  rcases hx with (h1 | h1) | h1
  · exact hd_lt _ _ _ _ x h1
  · exact h x h1
  · have := List.eq_of_mem_replicate h1; omega

theorem Wr.fr {S : Nat → Prop} {w w1 : World} {base wb : Nat} {v : Value} {l : List Nat} (h : Wr w base wb v l) (f : Fr S w w1) (hs : ¬ S wb) (ho : ∀ k, v.ownBlock = some k → ¬ S k) : Wr w1 base wb v l :=
  ⟨f.cell h.cell hs, (f.frozenEq (World.block_lt_of_cell? _ _ h.cell) hs).trans h.free, h.own.fr f ho, h.apart⟩
theorem Wr.drew {w : World} {base wb : Nat} {v : Value} {l : List Nat} (h : Wr w base wb v l) : Wr w.drew base wb v l :=
  h.fr (Fr.refl (fun _ => False) w).drew (by simp) (by simp)
/-- what was there ahead of a writer is as it was. -/
theorem Later.cell {w w1 : World} {base wb : Nat} {v v1 : Value} {l : List Nat} (h : Later w wb v w1 v1) (hw : Wr w base wb v l) {a : Addr} {u : Value} (hc : w.cell? a = some u) (h1 : a.block < base) (h2 : a.block ≠ wb) : w1.cell? a = some u :=
  h.fr.cell hc fun hs => by
    rcases hs with e | e
    · exact h2 e
    · have := hw.own.lt _ e; omega

theorem wnum_step {base : Nat} {v : Value} {l : List Nat} {w : World} (n nb : Nat) (hw : Wr w base base v l) (hb : base ≤ w.heap.size) (hn : n < 18446744073709551616) (hnb : nb ≤ 8) (hlen : l.length ≤ 1000) :
    Calls Tryd.prog 40 #[.pointer (some ⟨base, 0, none⟩), .int .u64 (n : Int), .int .i64 (nb : Int)] w fun e w' => e = .returned (.pointer (some ⟨base, 0, none⟩)) ∧ ∃ v', Wr w' base base v' (l ++ Crc.le nb n) ∧ Later w base v w' v' ∧ base ≤ w'.heap.size ∧
      (∀ b o u, b < base → w.cell? ⟨b, o, none⟩ = some u → w'.cell? ⟨b, o, none⟩ = some u) := by
  refine (wnum_any base base v l n nb w hw hb hn hnb (by omega)).mono ?_
  rintro e w' ⟨rfl, v', hw', hl'⟩
  exact ⟨rfl, v', hw', hl', Nat.le_trans hb hl'.fr.size, fun b o u h1 hc => hl'.cell hw hc h1 (by show b ≠ base; omega)⟩
theorem Later.drew {w : World} {wb : Nat} {v : Value} : Later w wb v w.drew v := ⟨(Fr.refl _ _).drew, fun _ h => .inl h⟩

theorem Tryd.size5 : (Tryd.prog.info? 5).map (·.size) = some 1 := by kernel_rfl
theorem run_make_bytes (w : World) (n : Nat) (h : n ≤ 140737488355328) : (Instr.makeSlice 24 (.int .i64 (n : Int)) (.int .i64 (n : Int))).run Tryd.prog w = .ok (.slice (some ⟨w.heap.size, 0, none⟩) n n) (w.alloc (.cells (cellsOf (List.replicate n 0)).toArray 5)) := by
  obtain ⟨i, hi, hz0, hz1, hz2⟩ := info_parts Tryd.info5
  have := run_make (P := Tryd.prog) w 24 5 i (.int .u8 0) Tryd.underlying24 hi hz0 .i64 .i64 (n : Int) (n : Int) (by omega) (by omega) (by rw [hz2]; omega) (by omega)
  rw [this]
  have e : madeCells (Value.int .u8 0).cells (n * i.size) = (cellsOf (List.replicate n 0)).toArray := by
    apply Array.ext'
    rw [hz1, Nat.mul_one, show (Value.int .u8 0).cells = #[.int .u8 0] from rfl, toList_madeCells_one]
    simp [cellsOf]
  simp only [Int.toNat_natCast]
  rw [e]
theorem row_of_block {w : World} {g : Nat} {l : List Nat} (hg : w.heap[g]? = some (.cells (cellsOf l).toArray 5 (0, 0))) (hl : l.length ≤ maxLen) (hb : ∀ x ∈ l, x < 256) : Row w (some ⟨g, 0, none⟩) l l.length := by
  refine ⟨Nat.le_refl _, hl, hb, fun e => (by cases e), fun _ => ⟨g, 0, rfl, fun i hi => ?_⟩⟩
  rw [Nat.zero_add, cell_of_row w g i _ 5 (0, 0) hg]
  simpa using cellsOf_get l i hi
theorem Fr.of_below {w w1 : World} {B : Nat} (h : Below B w w1) (hB : w.heap.size ≤ B) : Fr (fun _ => False) w w1 :=
  ⟨h.os, h.tape, h.output, h.size, fun k hk _ => h.block k (by omega)⟩
theorem Row.hpos {w : World} {ao : Option Addr} {l : List Nat} {cap : Nat} (h : Row w ao l cap) (hl : 0 < (cellsOf l).length) : ∃ ad, ao = some ad ∧ ∀ j v, (cellsOf l)[j]? = some v → w.cell? (ad.add j) = some v := by
  rw [cellsOf_length] at hl
  obtain ⟨b, off, rfl, hc⟩ := h.2.2.2.2 (fun e => by rw [e] at hl; simp at hl)
  refine ⟨_, rfl, fun j v hv => ?_⟩
  have hj : j < l.length := by
    have := (List.getElem?_eq_some_iff.1 hv).1
    rwa [cellsOf_length] at this
  rw [cellsOf_get l j hj] at hv
  cases hv
  rw [show (⟨b, off, none⟩ : Addr).add j = ⟨b, off + j, none⟩ from by unfold Addr.add; split <;> simp_all]
  exact hc j hj
theorem splice_cells (l m : List Nat) (o : Nat) : splice (cellsOf l) o (cellsOf m) = cellsOf (splice l o m) := by
  simp [splice, cellsOf]
theorem splice_body (n id k of : Nat) (p : List Nat) (h : p.length + 15 ≤ n) : splice (splice (List.replicate n 0) 0 (hd id k of p.length)) 15 p = body (n + 4) id k of p := by
  have hl := hd_length id k of p.length
  unfold body
  generalize hd id k of p.length = H at *
  have e1 : splice (List.replicate n 0) 0 H = H ++ List.replicate (n - 15) 0 := by
    unfold splice; rw [hl]; simp
  rw [e1]
  unfold splice
  rw [List.take_append_of_le_length (by omega), List.take_of_length_le (by omega), List.drop_append, List.drop_eq_nil_of_le (by omega), hl]
  simp only [List.nil_append, List.drop_replicate, List.append_assoc]
  rw [show n - 15 - (15 + p.length - 15) = n + 4 - 19 - p.length by omega]
theorem run_copy_bytes (w : World) (ty : TypeId) (g off : Nat) (dp sp : Option Addr) (dLen dCap sCap : Nat) (l m : List Nat) (hg : w.heap[g]? = some (.cells (cellsOf l).toArray 5 (0, 0))) (hm : m.length ≤ dLen) (hd : dp = some ⟨g, off, none⟩) (hr : Row w sp m sCap) (hfit : off + m.length ≤ l.length) :
    ∃ w', (Builtin.copy_ #[24, 24] ty #[.slice dp dLen dCap, .slice sp m.length sCap]).run Tryd.prog w = .ok (.int .i64 (m.length : Int)) w' ∧ w'.heap[g]? = some (.cells (cellsOf (splice l off m)).toArray 5 (0, 0)) ∧ Fr (fun k => k = g) w w' := by
  subst hd
  by_cases h0 : m.length = 0
  · have : m = [] := List.eq_nil_of_length_eq_zero h0
    subst this
    refine ⟨w, run_copy_none (P := Tryd.prog) w 24 24 ty 5 _ _ _ _ _ _ Tryd.underlying24 Tryd.size5 (by simp), ?_, Fr.refl _ _⟩
    rw [hg]; simp [splice]
  · obtain ⟨ad, rfl, hc⟩ := hr.hpos (by rw [cellsOf_length]; omega)
    have hrun := run_copy_row (P := Tryd.prog) w 24 24 ty 5 g off dLen dCap ad m.length sCap _ 5 (cellsOf m) Tryd.underlying24 Tryd.size5 hg (by rw [cellsOf_length]; exact (Nat.min_eq_left hm).symm) hc (by simp [cellsOf_length]; omega) (cellsOf_one m)
    rw [cellsOf_length] at hrun
    refine ⟨w.setRow g ((cellsOf l).toArray.toList.take off ++ cellsOf m ++ (cellsOf l).toArray.toList.drop (off + m.length)).toArray, hrun, ?_, ⟨rfl, rfl, rfl, by simp, fun k hk hs => setRow_other w g k _ hs⟩⟩
    rw [setRow_heap w g _ _ 5 _ hg]
    rw [← splice_cells]
    simp [splice, cellsOf_length]
set_option maxRecDepth 100000 in
set_option maxHeartbeats 2000000 in
theorem lay1_any (size id k of : Nat) (ao : Option Addr) (p : List Nat) (cap : Nat) (w : World) (ht : Tab w) (hr : Row w ao p cap) (hs : 64 ≤ size ∧ size ≤ 4096) (hp : p.length + 19 ≤ size)
    (hid : id < 18446744073709551616) (hk : k < 9223372036854775808) (hof : of < 9223372036854775808) :
    Calls Tryd.prog 29 #[.int .i64 (size : Int), .agg #[.int .u64 (id : Int), .int .i64 (k : Int), .int .i64 (of : Int), .slice ao p.length cap]] w fun e w' =>
      ∃ a1, e = .returned (.slice a1 size size) ∧ Fresh w w' a1 (sealed (body size id k of p)) ∧ Fr (fun _ => False) w w' := by
  have f0 := ((Fr.refl (fun _ => False) w).alloc (.cells #[.int .u64 (id : Int), .int .i64 (k : Int), .int .i64 (of : Int), .slice ao p.length cap] 39)).alloc (.cells #[.slice none 0 0] 87)
  have h0 : Wr ((w.alloc (.cells #[.int .u64 (id : Int), .int .i64 (k : Int), .int .i64 (of : Int), .slice ao p.length cap] 39)).alloc (.cells #[.slice none 0 0] 87)) (w.heap.size + 1) (w.heap.size + 1) (.slice none 0 0) [] := by
    have := wr_new (w.alloc (.cells #[.int .u64 (id : Int), .int .i64 (k : Int), .int .i64 (of : Int), .slice ao p.length cap] 39)) (w.heap.size + 1)
    simpa using this
  have ck : IntKind.u64.wrap (k : Int) = (k : Int) := wrap_u64_small _ (by omega) (by omega)
  have cof : IntKind.u64.wrap (of : Int) = (of : Int) := wrap_u64_small _ (by omega) (by omega)
  have cpl : IntKind.u64.wrap (p.length : Int) = (p.length : Int) := wrap_u64_small _ (by omega) (by omega)
  obtain ⟨n, hn⟩ : ∃ n, size = n + 4 := ⟨size - 4, by omega⟩
  subst hn
  obtain ⟨W, HW⟩ : ∃ W, Hid (W = (w.alloc (.cells #[.int .u64 (id : Int), .int .i64 (k : Int), .int .i64 (of : Int), .slice ao p.length cap] 39)).alloc (.cells #[.slice none 0 0] 87)) := ⟨_, rfl⟩
  have x0 : W.cell? ⟨w.heap.size, 0, none⟩ = some (.int .u64 (id : Int)) := by rw [HW.out]; simp
  have x1 : W.cell? ⟨w.heap.size, 1, none⟩ = some (.int .i64 (k : Int)) := by rw [HW.out]; simp
  have x2 : W.cell? ⟨w.heap.size, 2, none⟩ = some (.int .i64 (of : Int)) := by rw [HW.out]; simp
  have x3 : W.cell? ⟨w.heap.size, 3, none⟩ = some (.slice ao p.length cap) := by rw [HW.out]; simp
  have hz : W.heap.size = w.heap.size + 2 := by rw [HW.out]; simp
  rw [← HW.out] at h0 f0
  obtain ⟨B, HB⟩ : ∃ B, Hid (B = w.heap.size + 1) := ⟨_, rfl⟩
  rw [← HB.out] at h0
  have hB : w.heap.size < B := by rw [HB.out]; omega
  have hz1 : B ≤ W.heap.size := by rw [HB.out]; omega
  have h0d := h0.drew
  have HX1 : Hid _ := x1
  have HX2 : Hid _ := x2
  have HX3 : Hid _ := x3
  have HT : Hid (Tab w) := ht
  have HR : Hid (Row w ao p cap) := hr
  clear ht hr x1 x2 x3
  go_enter Tryd.func29, Tryd.ntmps29
  go_wp2_with fail
  rw [← HW.out, ← HB.out]
  go_region_held3 (fun w' => w'.cell? ⟨w.heap.size, 0, none⟩ = some (.int .u64 (id : Int))) (first | exact x0 | exact y0 | exact z0 | go_keep) (first
    | (go_at_call 40; refine (wnum_step id 8 hw1 hb1 hid (by omega) (by simp [Crc.le_length])).mono ?_; rintro e w2 ⟨rfl, v2, hw2, hl2, hb2, hc2⟩; have z0 := hc2 _ _ _ hB y0)
    | (go_at_call 40; refine (wnum_step 1 1 h0d hz1 (by omega) (by omega) (by simp)).mono ?_; rintro e w1 ⟨rfl, v1, hw1, hl1, hb1, hc1⟩; have y0 := hc1 _ _ _ hB x0))
  have hw2d := hw2.drew
  have hb2d : B ≤ w2.drew.heap.size := hb2
  have u1 := hc2 _ _ _ hB (hc1 _ _ _ hB HX1.out)
  have u2 := hc2 _ _ _ hB (hc1 _ _ _ hB HX2.out)
  have u3 := hc2 _ _ _ hB (hc1 _ _ _ hB HX3.out)
  have hL2 : Later W B (.slice none 0 0) w2.drew v2 := Later.trans Later.drew (hl1.trans (hl2.trans Later.drew))
  have HL2 : Hid (Later W B (.slice none 0 0) w2.drew v2) := hL2
  have HF0 : Hid (Fr (fun _ => False) w W) := f0
  have HB2 : Hid (Wr w2.drew B B v2 _) := hw2d
  clear hl1 hl2 hc1 hc2 hL2 hw1 h0 h0d x0 y0 z0 hw2 hw2d hb2 hb1 f0
  go_wp2_with fail
  go_region_held3 (fun w' => w'.cell? ⟨w.heap.size, 1, none⟩ = some (.int .i64 (k : Int)) ∧ w'.cell? ⟨w.heap.size, 2, none⟩ = some (.int .i64 (of : Int)) ∧ w'.cell? ⟨w.heap.size, 3, none⟩ = some (.slice ao p.length cap)) (first | exact ⟨u1, u2, u3⟩ | exact ⟨a1, a2, a3⟩ | exact ⟨b1, b2, b3⟩ | exact ⟨c1, c2, c3⟩ | go_keep) (first
    | (go_at_call 40; refine (wnum_step p.length 2 hw4 hb4 (by omega) (by omega) (by simp [Crc.le_length])).mono ?_; rintro e w5 ⟨rfl, v5, hw5, hl5, hb5, hc5⟩; have c1 := hc5 _ _ _ hB b1; have c2 := hc5 _ _ _ hB b2; have c3 := hc5 _ _ _ hB b3)
    | (go_at_call 40; refine (wnum_step of 2 hw3 hb3 (by omega) (by omega) (by simp [Crc.le_length])).mono ?_; rintro e w4 ⟨rfl, v4, hw4, hl4, hb4, hc4⟩; have b1 := hc4 _ _ _ hB a1; have b2 := hc4 _ _ _ hB a2; have b3 := hc4 _ _ _ hB a3)
    | (go_at_call 40; refine (wnum_step k 2 HB2.out hb2d (by omega) (by omega) (by simp [Crc.le_length])).mono ?_; rintro e w3 ⟨rfl, v3, hw3, hl3, hb3, hc3⟩; have a1 := hc3 _ _ _ hB u1; have a2 := hc3 _ _ _ hB u2; have a3 := hc3 _ _ _ hB u3))
  have HL5 : Hid (Later W B (.slice none 0 0) w5 v5) := HL2.out.trans (hl3.trans (hl4.trans hl5))
  have HW5 : Hid (Wr w5 B B v5 (hd id k of p.length)) := by
    have := hw5
    simp only [List.nil_append] at this
    exact this
  have HC3 : Hid _ := c3
  clear hl3 hl4 hl5 hw3 hw4 hw5 hc3 hc4 hc5 a1 a2 a3 b1 b2 b3 c1 c2 c3 u1 u2 u3 hb3 hb4 HB2
  have hmk := run_make_bytes w5 n (by omega)
  obtain ⟨w6, HW6⟩ : ∃ w6, Hid (w6 = w5.alloc (.cells (cellsOf (List.replicate n 0)).toArray 5)) := ⟨_, rfl⟩
  rw [← HW6.out] at hmk
  have f56 : Fr (fun _ => False) w5 w6 := by rw [HW6.out]; exact (Fr.refl _ _).alloc _
  have hg6 : w6.heap[w5.heap.size]? = some (.cells (cellsOf (List.replicate n 0)).toArray 5 (0, 0)) := by rw [HW6.out]; exact heap_alloc_new w5 _
  have F06 : Hid (Fr (fun _ => False) w w6) := by
    have f1 : Fr (fun _ => False) w w5 := HF0.out.trans' HL5.out.fr (fun i hi hT => by
      rcases hT with e | e
      · omega
      · cases e)
    exact f1.trans f56
  obtain ⟨g, hgB, hg⟩ : ∃ g, g = w5.heap.size ∧ B ≤ g := ⟨_, rfl, hb5⟩
  have hw6 : Wr w6 B B v5 (hd id k of p.length) := HW5.out.fr f56 (by simp) (by simp)
  have hc6 := f56.cell HC3.out (by simp)
  have HC6 : Hid _ := hc6
  rw [← hgB] at hmk hg6
  have HG6 : Hid _ := hg6
  have hlt6 : g < w6.heap.size := (Array.getElem?_eq_some_iff.1 hg6).1
  obtain ⟨H, HH⟩ : ∃ H, Hid (H = hd id k of p.length) := ⟨_, rfl⟩
  have hHl : H.length = 15 := by rw [HH.out]; exact hd_length _ _ _ _
  have hdone := done_any B B v5 _ w6 hw6 (by rw [hd_length]; omega)
  rw [← HH.out, hHl] at hdone
  have HD : Hid (Calls _ _ _ _ _) := hdone
  clear hw6 hc6 hg6 hdone f56 hgB HC3 HW5 HL5 HL2
  go_wp2_with fail
  refine HD.out.mono ?_
  rintro e w7 ⟨a7, rfl, hF7, f7⟩
  have hg7 : w7.heap[g]? = some (.cells (cellsOf (List.replicate n 0)).toArray 5 (0, 0)) := (f7.block g hlt6 (by simp)).trans HG6.out
  have hc7 := f7.cell HC6.out (by simp)
  have HC7 : Hid _ := hc7
  have F07 : Hid (Fr (fun _ => False) w w7) := F06.out.trans f7
  clear hc7 HC6 HG6 HD
  obtain ⟨w8, hcp, hg8, f8⟩ := run_copy_bytes w7 3 g 0 (some ⟨g, 0, none⟩) a7 n n 15 (List.replicate n 0) H hg7 (by omega) rfl (by have := hF7.1; rw [hHl] at this; exact this) (by simp; omega)
  rw [hHl] at hcp
  have hc8 : w8.cell? ⟨w.heap.size, 3, none⟩ = some (.slice ao p.length cap) := f8.cell HC7.out (by show ¬ w.heap.size = g; omega)
  have F08 : Fr (fun _ => False) w w8 := F07.out.trans' f8 (fun i hi e => by omega)
  have hr8 : Row w8.drew ao p cap := (F08.drew).row HR.out (by simp)
  have hg8d : w8.drew.heap[g]? = some (.cells (cellsOf (splice (List.replicate n 0) 0 H)).toArray 5 (0, 0)) := hg8
  have hsl : (splice (List.replicate n 0) 0 H).length = n := by rw [length_splice _ _ _ (by simp; omega)]; simp
  obtain ⟨w9, hcp9, hg9, f9⟩ := run_copy_bytes w8.drew 3 g 15 (some ⟨g, 15, none⟩) ao (n - 15) (n - 15) cap (splice (List.replicate n 0) 0 H) p hg8d (by omega) rfl hr8 (by omega)
  have hc9 : w9.cell? ⟨w.heap.size, 3, none⟩ = some (.slice ao p.length cap) := f9.cell hc8 (by show ¬ w.heap.size = g; omega)
  rw [HH.out, splice_body n id k of p (by omega)] at hg9
  have F09 : Hid (Fr (fun _ => False) w w9) := F08.drew.trans' f9 (fun i hi e => by omega)
  have hbl := body_length (n + 4) id k of p hp
  have hrow := row_of_block hg9 (by rw [hbl]; unfold maxLen; omega) (body_lt _ _ _ _ _ HR.out.2.2.1)
  have hseal := seal_any (some ⟨g, 0, none⟩) (body (n + 4) id k of p) _ w9 (F09.out.tab HT.out (by simp)) hrow (by rw [hbl]; omega)
  rw [hbl, show n + 4 - 4 = n by omega] at hseal
  have HSL : Hid (Calls _ _ _ _ _) := hseal
  have g1 : (15 : Int) ≤ (n : Int) := by omega
  have g2 : ¬ n = 15 := by omega
  clear hrow hseal hg9 f9 hg8d hr8 hg8 f8 F08 hg7 hF7 f7 HC7
  go_wp2_with fail
  go_region_held3 (fun w' => w'.cell? ⟨w.heap.size, 3, none⟩ = some (.slice ao p.length cap)) (first | exact hc8 | exact hc9 | go_keep) (fail)
  all_goals
    clear hcp hcp9
    go_wp2_with fail
    refine HSL.out.mono ?_
    rintro e w10 ⟨a1, rfl, hF, f10⟩
    go_wp2
    go_ret
    exact ⟨a1, rfl, hF.later F09.out.size, F09.out.trans f10⟩
end Go.Proofs.YtpnjcpamhelaeaaDoor
