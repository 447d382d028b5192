/- The program's records of what must be kept, of an entry, of a snapshot. -/
import Derived.Test.YtlcakglmheleeaaDoorWSeal
import Derived.Deep.RegionHeld3
namespace Go.Proofs.YtlcakglmheleeaaDoor
open Go.RowKit

theorem Wr.frS {S : Nat → Prop} {w w1 : World} {base wb : Nat} {v : Value} {l : List Nat} (h : Wr w base wb v l) (f : Fr S w w1) (hs : ¬ S wb) (ho : ∀ k, v.ownBlock = some k → ¬ S k) : Wr w1 base wb v l :=
  ⟨f.cell h.cell hs, (f.frozenEq (World.block_lt_of_cell? _ _ h.cell) hs).trans h.free, h.own.fr f ho, h.apart⟩
theorem Wr.drew {w : World} {base wb : Nat} {v : Value} {l : List Nat} (h : Wr w base wb v l) : Wr w.drew base wb v l :=
  h.frS (Fr.refl (fun _ => False) w).drew (by simp) (by simp)
theorem Later.cell {w w1 : World} {base wb : Nat} {v v1 : Value} {l : List Nat} (h : Later w wb v w1 v1) (hw : Wr w base wb v l) {a : Addr} {u : Value} (hc : w.cell? a = some u) (h1 : a.block < base) (h2 : a.block ≠ wb) : w1.cell? a = some u :=
  h.fr.cell hc fun hs => by
    rcases hs with e | e
    · exact h2 e
    · have := hw.own.lt _ e; omega
theorem Later.row {w w1 : World} {base wb : Nat} {v v1 : Value} {l : List Nat} (h : Later w wb v w1 v1) (hw : Wr w base wb v l) {ao : Option Addr} {m : List Nat} {cap : Nat} (hr : Row w ao m cap) (h1 : m ≠ [] → ∀ a, ao = some a → a.block < base) (h2 : base ≤ wb) : Row w1 ao m cap :=
  h.fr.row hr fun hm a ha hs => by
    have := h1 hm a ha
    rcases hs with e | e
    · omega
    · have := hw.own.lt _ e; omega
theorem Later.drew {w : World} {wb : Nat} {v : Value} : Later w wb v w.drew v := ⟨(Fr.refl _ _).drew, fun _ h => .inl h⟩
theorem wrap_i64_small (n : Int) (h0 : -9223372036854775808 ≤ n) (h1 : n ≤ 9223372036854775807) : IntKind.i64.wrap n = n := by
  simp only [IntKind.wrap, IntKind.bits, IntKind.signed]
  simp
  omega
theorem wnum_step {base : Nat} {v : Value} {l : List Nat} {w : World} (n nb : Nat) (hw : Wr w base base v l) (hb : base ≤ w.heap.size) (hn : n < 18446744073709551616) (hnb : nb ≤ 8) (hlen : l.length ≤ 1000) :
    Calls Tryd.prog 56 #[.pointer (some ⟨base, 0, none⟩), .int .u64 (n : Int), .int .i64 (nb : Int)] w fun e w' => e = .returned (.pointer (some ⟨base, 0, none⟩)) ∧ ∃ v', Wr w' base base v' (l ++ Crc.le nb n) ∧ Later w base v w' v' ∧ base ≤ w'.heap.size ∧
      (∀ b o u, b < base → w.cell? ⟨b, o, none⟩ = some u → w'.cell? ⟨b, o, none⟩ = some u) := by
  refine (wnum_any base base v l n nb w hw hb hn hnb (by omega)).mono ?_
  rintro e w' ⟨rfl, v', hw', hl'⟩
  exact ⟨rfl, v', hw', hl', Nat.le_trans hb hl'.fr.size, fun b o u h1 hc => hl'.cell hw hc h1 (by show b ≠ base; omega)⟩
theorem wbytes_step {base : Nat} {v : Value} {l : List Nat} {w : World} (ao : Option Addr) (m : List Nat) (cap : Nat) (hw : Wr w base base v l) (hb : base ≤ w.heap.size) (hr : Row w ao m cap) (hap : m ≠ [] → ∀ a, ao = some a → a.block < base) (hlen : l.length ≤ 1000) (hm : m.length ≤ 2000000000) :
    Calls Tryd.prog 69 #[.pointer (some ⟨base, 0, none⟩), .slice ao m.length cap] w fun e w' => e = .returned (.pointer (some ⟨base, 0, none⟩)) ∧ ∃ v', Wr w' base base v' (l ++ Crc.le 4 m.length ++ m) ∧ Later w base v w' v' ∧ base ≤ w'.heap.size := by
  refine (wbytes_any base base v l ao m cap w hw hr hap (Nat.le_refl _) hb (by omega)).mono ?_
  rintro e w' ⟨rfl, v', hw', hl'⟩
  exact ⟨rfl, v', hw', hl', Nat.le_trans hb hl'.fr.size⟩

set_option maxRecDepth 100000 in
set_option maxHeartbeats 400000 in
theorem hardR_any (t n : Nat) (vo : Int) (w : World) (ht : Tab w) (ht64 : t < 18446744073709551616) (hn : vo + 1 = (n : Int)) (hn2 : n < 65536) :
    Calls Tryd.prog 38 #[.agg #[.int .u64 (t : Int), .int .i64 vo]] w fun e w' => ∃ a1, e = .returned (.slice a1 19 19) ∧ Fresh w w' a1 (hardB t vo) ∧ Fr (fun _ => False) w w' := by
  have f0 := ((Fr.refl (fun _ => False) w).alloc (.cells #[.int .u64 (t : Int), .int .i64 vo] 29)).alloc (.cells #[.slice none 0 0] 105)
  have h0 : Wr ((w.alloc (.cells #[.int .u64 (t : Int), .int .i64 vo] 29)).alloc (.cells #[.slice none 0 0] 105)) (w.heap.size + 1) (w.heap.size + 1) (.slice none 0 0) [] := by
    have := wr_new (w.alloc (.cells #[.int .u64 (t : Int), .int .i64 vo] 29)) (w.heap.size + 1)
    simpa using this
  obtain ⟨W, HW⟩ : ∃ W, Hid (W = (w.alloc (.cells #[.int .u64 (t : Int), .int .i64 vo] 29)).alloc (.cells #[.slice none 0 0] 105)) := ⟨_, rfl⟩
  have x0 : W.cell? ⟨w.heap.size, 0, none⟩ = some (.int .u64 (t : Int)) := by rw [HW.out]; simp
  have x1 : W.cell? ⟨w.heap.size, 1, none⟩ = some (.int .i64 vo) := by rw [HW.out]; simp
  have hz : W.heap.size = w.heap.size + 2 := by rw [HW.out]; simp
  rw [← HW.out] at h0 f0
  obtain ⟨B, HB⟩ : ∃ B, Hid (B = w.heap.size + 1) := ⟨_, rfl⟩
  rw [← HB.out] at h0
  have hB : w.heap.size < B := by rw [HB.out]; omega
  have hz1 : B ≤ W.heap.size := by rw [HB.out]; omega
  have h0d := h0.drew
  have cv : IntKind.u64.wrap (n : Int) = (n : Int) := wrap_u64_small _ (by omega) (by omega)
  have cw : IntKind.i64.wrap (n : Int) = (n : Int) := wrap_i64_small _ (by omega) (by omega)
  have HT : Hid (Tab w) := ht
  have HF0 : Hid (Fr (fun _ => False) w W) := f0
  have HBL : Hid (hardB t vo = recB 1 (Crc.le 8 t ++ Crc.le 2 n)) := by show _ = _; unfold hardB bodyH; rw [hn]; simp
  clear ht f0
  go_enter Tryd.func38, Tryd.ntmps38
  go_wp2_with fail
  rw [← HW.out, ← HB.out]
  go_region_held3 (fun w' => w'.cell? ⟨w.heap.size, 0, none⟩ = some (.int .u64 (t : Int)) ∧ w'.cell? ⟨w.heap.size, 1, none⟩ = some (.int .i64 vo)) (first | exact ⟨x0, x1⟩ | exact ⟨y0, y1⟩ | exact ⟨z0, z1⟩ | go_keep) (first
    | (go_at_call 56; refine (wnum_step n 2 hw1 hb1 (by omega) (by omega) (by simp [Crc.le_length])).mono ?_; rintro e w2 ⟨rfl, v2, hw2, hl2, hb2, hc2⟩; have z0 := hc2 _ _ _ hB y0; have z1 := hc2 _ _ _ hB y1)
    | (go_at_call 56; refine (wnum_step t 8 h0d hz1 ht64 (by omega) (by simp)).mono ?_; rintro e w1 ⟨rfl, v1, hw1, hl1, hb1, hc1⟩; have y0 := hc1 _ _ _ hB x0; have y1 := hc1 _ _ _ hB x1))
  have hL2 : Later W B (.slice none 0 0) w2 v2 := Later.trans Later.drew (hl1.trans hl2)
  have F2 : Hid (Fr (fun _ => False) w w2) := HF0.out.trans' hL2.fr (fun i hi hT => by
    rcases hT with e | e
    · omega
    · cases e)
  have HQ : Hid (([] ++ Crc.le 8 t) ++ Crc.le 2 n = Crc.le 8 t ++ Crc.le 2 n) := by show _ = _; simp
  rw [HQ.out] at hw2
  have HL : Hid ((Crc.le 8 t ++ Crc.le 2 n).length = 10) := by show _ = _; simp [Crc.le_length]
  have K := wseal_any 1 B B v2 (Crc.le 8 t ++ Crc.le 2 n) w2 (F2.out.tab HT.out (by simp)) hw2 (by omega) (by intro e; have := HL.out; rw [e] at this; simp at this) (by rw [HL.out]; omega)
  rw [HL.out, ← HBL.out, show ((1 : Nat) : Int) = 1 from rfl] at K
  have HK : Hid (Calls _ _ _ _ _) := K
  clear hL2 hl1 hl2 hc1 hc2 hw1 hw2 h0 h0d x0 x1 y0 y1 z0 z1 hb1 hb2 K
  go_wp2_with fail
  refine HK.out.mono ?_
  rintro e w3 ⟨a1, rfl, h3, f3⟩
  go_wp2
  go_ret
  exact ⟨a1, rfl, h3.later F2.out.size, F2.out.trans f3⟩

end Go.Proofs.YtlcakglmheleeaaDoor
