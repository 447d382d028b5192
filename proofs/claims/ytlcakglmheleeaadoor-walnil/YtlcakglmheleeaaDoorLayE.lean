/- lay.Entry, lay.Snap: what they lay; the program's records of an entry, of a snapshot. -/
import Derived.Test.YtlcakglmheleeaaDoorRecs2
namespace Go.Proofs.YtlcakglmheleeaaDoor
open Go.RowKit
/-- a block that a writer doesn't touch. -/
structure Ap (w : World) (c wb : Nat) (v : Value) : Prop where
  ne : c ≠ wb
  no : v.ownBlock ≠ some c
  lt : c < w.heap.size
theorem Later.ap {w w1 : World} {c wb : Nat} {v v1 : Value} (h : Later w wb v w1 v1) (ha : Ap w c wb v) : Ap w1 c wb v1 :=
  ⟨ha.ne, fun e => by
    rcases h.new c e with h' | h'
    · exact ha.no h'
    · have := ha.lt; omega, Nat.lt_of_lt_of_le ha.lt h.fr.size⟩
theorem Later.cellAp {w w1 : World} {c wb : Nat} {v v1 : Value} (h : Later w wb v w1 v1) (ha : Ap w c wb v) {o : Nat} {u : Value} (hc : w.cell? ⟨c, o, none⟩ = some u) : w1.cell? ⟨c, o, none⟩ = some u :=
  h.fr.cell hc fun hs => by
    rcases hs with e | e
    · exact ha.ne e
    · exact ha.no e
theorem wnum_ap {base wb c : Nat} {v : Value} {l : List Nat} {w : World} (n nb : Nat) (hw : Wr w base wb v l) (hb : base ≤ w.heap.size) (ha : Ap w c wb v) (hn : n < 18446744073709551616) (hnb : nb ≤ 8) (hlen : l.length ≤ 1000) :
    Calls Tryd.prog 56 #[.pointer (some ⟨wb, 0, none⟩), .int .u64 (n : Int), .int .i64 (nb : Int)] w fun e w' => e = .returned (.pointer (some ⟨wb, 0, none⟩)) ∧ ∃ v', Wr w' base wb v' (l ++ Crc.le nb n) ∧ Later w wb v w' v' ∧ base ≤ w'.heap.size ∧ Ap w' c wb v' ∧
      (∀ o u, w.cell? ⟨c, o, none⟩ = some u → w'.cell? ⟨c, o, none⟩ = some u) := by
  refine (wnum_any base wb v l n nb w hw hb hn hnb (by omega)).mono ?_
  rintro e w' ⟨rfl, v', hw', hl'⟩
  exact ⟨rfl, v', hw', hl', Nat.le_trans hb hl'.fr.size, hl'.ap ha, fun o u hc => hl'.cellAp ha hc⟩
theorem wbytes_ap {base c : Nat} {v : Value} {l : List Nat} {w : World} (ao : Option Addr) (m : List Nat) (cap : Nat) (hw : Wr w base base v l) (hb : base ≤ w.heap.size) (hr : Row w ao m cap) (hap : m ≠ [] → ∀ a, ao = some a → a.block < base) (ha : Ap w c base v) (hlen : l.length ≤ 1000) (hm : m.length ≤ 2000000000) :
    Calls Tryd.prog 69 #[.pointer (some ⟨base, 0, none⟩), .slice ao m.length cap] w fun e w' => e = .returned (.pointer (some ⟨base, 0, none⟩)) ∧ ∃ v', Wr w' base base v' (l ++ Crc.le 4 m.length ++ m) ∧ Later w base v w' v' ∧ base ≤ w'.heap.size ∧
      (∀ o u, w.cell? ⟨c, o, none⟩ = some u → w'.cell? ⟨c, o, none⟩ = some u) := by
  refine (wbytes_any base base v l ao m cap w hw hr hap (Nat.le_refl _) hb (by omega)).mono ?_
  rintro e w' ⟨rfl, v', hw', hl'⟩
  exact ⟨rfl, v', hw', hl', Nat.le_trans hb hl'.fr.size, fun o u hc => hl'.cellAp ha hc⟩
set_option maxRecDepth 100000 in
set_option maxHeartbeats 4000000 in
theorem layent_any {base : Nat} {v : Value} {l : List Nat} {w : World} (i t k : Nat) (ao : Option Addr) (d : List Nat) (cap : Nat) (hw : Wr w base base v l) (_hb : base ≤ w.heap.size) (hr : Row w ao d cap) (hap : d ≠ [] → ∀ a, ao = some a → a.block < base) (hi64 : i < 18446744073709551616) (ht64 : t < 18446744073709551616) (hk8 : k < 256) (hlen : l.length ≤ 900) (hd : d.length ≤ 2000000000) :
    Calls Tryd.prog 58 #[.pointer (some ⟨base, 0, none⟩), .agg #[.int .u64 (i : Int), .int .u64 (t : Int), .int .u8 (k : Int), .slice ao d.length cap]] w fun e w' => e = .returned (.tuple #[]) ∧ ∃ v', Wr w' base base v' (l ++ (Crc.le 8 i ++ Crc.le 8 t ++ Crc.le 1 k ++ Crc.le 4 d.length ++ d)) ∧ Later w base v w' v' ∧ base ≤ w'.heap.size := by
  obtain ⟨W, HW⟩ : ∃ W, Hid (W = w.alloc (.cells #[.int .u64 (i : Int), .int .u64 (t : Int), .int .u8 (k : Int), .slice ao d.length cap] 50)) := ⟨_, rfl⟩
  have f0 : Fr (fun _ => False) w W := by rw [HW.out]; exact (Fr.refl _ w).alloc _
  have x0 : W.cell? ⟨w.heap.size, 0, none⟩ = some (.int .u64 (i : Int)) := by rw [HW.out]; simp
  have x1 : W.cell? ⟨w.heap.size, 1, none⟩ = some (.int .u64 (t : Int)) := by rw [HW.out]; simp
  have x2 : W.cell? ⟨w.heap.size, 2, none⟩ = some (.int .u8 (k : Int)) := by rw [HW.out]; simp
  have x3 : W.cell? ⟨w.heap.size, 3, none⟩ = some (.slice ao d.length cap) := by rw [HW.out]; simp
  have hz : W.heap.size = w.heap.size + 1 := by rw [HW.out]; simp
  have h0 : Wr W base base v l := hw.frS f0 (by simp) (by simp)
  have L0 : Later w base v W v := ⟨f0.mono (fun _ _ h => h.elim), fun _ h => .inl h⟩
  have hwl : base < w.heap.size := World.block_lt_of_cell? _ _ hw.cell
  have ab : Ap W w.heap.size base v := ⟨by omega, fun e => by have := hw.own.lt _ e; omega, by omega⟩
  have cv : IntKind.u64.wrap (k : Int) = (k : Int) := wrap_u64_small _ (by omega) (by omega)
  have HL0 : Hid (Later w base v W v) := L0
  obtain ⟨B, HB⟩ : ∃ B, Hid (w.heap.size = B) := ⟨_, rfl⟩
  rw [HB.out] at x0 x1 x2 x3 ab
  have hb0 : base ≤ W.heap.size := by omega
  have h0d := h0.drew
  have abd : Ap W.drew B base v := ⟨ab.ne, ab.no, ab.lt⟩
  have HR : Hid (Row W ao d cap) := f0.row hr (by simp)
  have HAP : Hid (d ≠ [] → ∀ a, ao = some a → a.block < base) := hap
  clear hw f0 L0 hz hr hap
  go_enter Tryd.func58, Tryd.ntmps58
  go_wp2_with fail
  rw [← HW.out, HB.out]
  go_region_held3 (fun w' => w'.cell? ⟨B, 0, none⟩ = some (.int .u64 (i : Int)) ∧ w'.cell? ⟨B, 1, none⟩ = some (.int .u64 (t : Int)) ∧ w'.cell? ⟨B, 2, none⟩ = some (.int .u8 (k : Int)) ∧ w'.cell? ⟨B, 3, none⟩ = some (.slice ao d.length cap)) (first | exact ⟨x0, x1, x2, x3⟩ | exact ⟨y0, y1, y2, y3⟩ | exact ⟨z0, z1, z2, z3⟩ | exact ⟨q0, q1, q2, q3⟩ | exact ⟨r0, r1, r2, r3⟩ | go_keep) (first
    | (go_at_call 69; refine (wbytes_ap ao d cap hw3 hb3 HR3.out HAP.out ha3 (by simp [Crc.le_length]; omega) hd).mono ?_; rintro e w4 ⟨rfl, v4, hw4, hl4, hb4, hc4⟩; have r0 := hc4 _ _ q0; have r1 := hc4 _ _ q1; have r2 := hc4 _ _ q2; have r3 := hc4 _ _ q3)
    | (go_at_call 56; refine (wnum_ap k 1 hw2 hb2 ha2 (by omega) (by omega) (by simp [Crc.le_length]; omega)).mono ?_; rintro e w3 ⟨rfl, v3, hw3, hl3, hb3, ha3, hc3⟩; have q0 := hc3 _ _ z0; have q1 := hc3 _ _ z1; have q2 := hc3 _ _ z2; have q3 := hc3 _ _ z3; have HR3 : Hid (Row w3 ao d cap) := (hl1.trans (hl2.trans hl3)).row h0d HR.out HAP.out (Nat.le_refl _))
    | (go_at_call 56; refine (wnum_ap t 8 hw1 hb1 ha1 ht64 (by omega) (by simp [Crc.le_length]; omega)).mono ?_; rintro e w2 ⟨rfl, v2, hw2, hl2, hb2, ha2, hc2⟩; have z0 := hc2 _ _ y0; have z1 := hc2 _ _ y1; have z2 := hc2 _ _ y2; have z3 := hc2 _ _ y3)
    | (go_at_call 56; refine (wnum_ap i 8 h0d hb0 abd hi64 (by omega) (by omega)).mono ?_; rintro e w1 ⟨rfl, v1, hw1, hl1, hb1, ha1, hc1⟩; have y0 := hc1 _ _ x0; have y1 := hc1 _ _ x1; have y2 := hc1 _ _ x2; have y3 := hc1 _ _ x3))
  have L4 : Later W base v w4 v4 := Later.trans Later.drew (hl1.trans (hl2.trans (hl3.trans hl4)))
  have HL4 : Hid (Later w base v w4 v4) := HL0.out.trans L4
  have HE : Hid (l ++ Crc.le 8 i ++ Crc.le 8 t ++ Crc.le 1 k ++ Crc.le 4 d.length ++ d = l ++ (Crc.le 8 i ++ Crc.le 8 t ++ Crc.le 1 k ++ Crc.le 4 d.length ++ d)) := by show _ = _; simp
  rw [HE.out] at hw4
  clear x0 x1 x2 x3 y0 y1 y2 y3 z0 z1 z2 z3 q0 q1 q2 q3 r0 r1 r2 r3 hw1 hw2 hw3 hl1 hl2 hl3 hl4 hb1 hb2 hb3 ha1 ha2 ha3 hc1 hc2 hc3 hc4 h0 h0d ab abd L4 hb0
  first | go_end0 | (go_wp2; go_end0)
  exact ⟨rfl, v4, hw4, HL4.out, hb4⟩
set_option maxRecDepth 100000 in
set_option maxHeartbeats 4000000 in
theorem laysnap_any {base : Nat} {v : Value} {l : List Nat} {w : World} (i t k : Nat) (ao : Option Addr) (d : List Nat) (cap : Nat) (hw : Wr w base base v l) (_hb : base ≤ w.heap.size) (hr : Row w ao d cap) (hap : d ≠ [] → ∀ a, ao = some a → a.block < base) (hi64 : i < 18446744073709551616) (ht64 : t < 18446744073709551616) (hk8 : k < 18446744073709551616) (hlen : l.length ≤ 900) (hd : d.length ≤ 2000000000) :
    Calls Tryd.prog 59 #[.pointer (some ⟨base, 0, none⟩), .agg #[.int .u64 (i : Int), .int .u64 (t : Int), .int .u64 (k : Int), .slice ao d.length cap]] w fun e w' => e = .returned (.tuple #[]) ∧ ∃ v', Wr w' base base v' (l ++ (Crc.le 8 i ++ Crc.le 8 t ++ Crc.le 8 k ++ Crc.le 4 d.length ++ d)) ∧ Later w base v w' v' ∧ base ≤ w'.heap.size := by
  obtain ⟨W, HW⟩ : ∃ W, Hid (W = w.alloc (.cells #[.int .u64 (i : Int), .int .u64 (t : Int), .int .u64 (k : Int), .slice ao d.length cap] 31)) := ⟨_, rfl⟩
  have f0 : Fr (fun _ => False) w W := by rw [HW.out]; exact (Fr.refl _ w).alloc _
  have x0 : W.cell? ⟨w.heap.size, 0, none⟩ = some (.int .u64 (i : Int)) := by rw [HW.out]; simp
  have x1 : W.cell? ⟨w.heap.size, 1, none⟩ = some (.int .u64 (t : Int)) := by rw [HW.out]; simp
  have x2 : W.cell? ⟨w.heap.size, 2, none⟩ = some (.int .u64 (k : Int)) := by rw [HW.out]; simp
  have x3 : W.cell? ⟨w.heap.size, 3, none⟩ = some (.slice ao d.length cap) := by rw [HW.out]; simp
  have hz : W.heap.size = w.heap.size + 1 := by rw [HW.out]; simp
  have h0 : Wr W base base v l := hw.frS f0 (by simp) (by simp)
  have L0 : Later w base v W v := ⟨f0.mono (fun _ _ h => h.elim), fun _ h => .inl h⟩
  have hwl : base < w.heap.size := World.block_lt_of_cell? _ _ hw.cell
  have ab : Ap W w.heap.size base v := ⟨by omega, fun e => by have := hw.own.lt _ e; omega, by omega⟩
  have HL0 : Hid (Later w base v W v) := L0
  obtain ⟨B, HB⟩ : ∃ B, Hid (w.heap.size = B) := ⟨_, rfl⟩
  rw [HB.out] at x0 x1 x2 x3 ab
  have hb0 : base ≤ W.heap.size := by omega
  have h0d := h0.drew
  have abd : Ap W.drew B base v := ⟨ab.ne, ab.no, ab.lt⟩
  have HR : Hid (Row W ao d cap) := f0.row hr (by simp)
  have HAP : Hid (d ≠ [] → ∀ a, ao = some a → a.block < base) := hap
  clear hw f0 L0 hz hr hap
  go_enter Tryd.func59, Tryd.ntmps59
  go_wp2_with fail
  rw [← HW.out, HB.out]
  go_region_held3 (fun w' => w'.cell? ⟨B, 0, none⟩ = some (.int .u64 (i : Int)) ∧ w'.cell? ⟨B, 1, none⟩ = some (.int .u64 (t : Int)) ∧ w'.cell? ⟨B, 2, none⟩ = some (.int .u64 (k : Int)) ∧ w'.cell? ⟨B, 3, none⟩ = some (.slice ao d.length cap)) (first | exact ⟨x0, x1, x2, x3⟩ | exact ⟨y0, y1, y2, y3⟩ | exact ⟨z0, z1, z2, z3⟩ | exact ⟨q0, q1, q2, q3⟩ | exact ⟨r0, r1, r2, r3⟩ | go_keep) (first
    | (go_at_call 69; refine (wbytes_ap ao d cap hw3 hb3 HR3.out HAP.out ha3 (by simp [Crc.le_length]; omega) hd).mono ?_; rintro e w4 ⟨rfl, v4, hw4, hl4, hb4, hc4⟩; have r0 := hc4 _ _ q0; have r1 := hc4 _ _ q1; have r2 := hc4 _ _ q2; have r3 := hc4 _ _ q3)
    | (go_at_call 56; refine (wnum_ap k 8 hw2 hb2 ha2 (by omega) (by omega) (by simp [Crc.le_length]; omega)).mono ?_; rintro e w3 ⟨rfl, v3, hw3, hl3, hb3, ha3, hc3⟩; have q0 := hc3 _ _ z0; have q1 := hc3 _ _ z1; have q2 := hc3 _ _ z2; have q3 := hc3 _ _ z3; have HR3 : Hid (Row w3 ao d cap) := (hl1.trans (hl2.trans hl3)).row h0d HR.out HAP.out (Nat.le_refl _))
    | (go_at_call 56; refine (wnum_ap t 8 hw1 hb1 ha1 ht64 (by omega) (by simp [Crc.le_length]; omega)).mono ?_; rintro e w2 ⟨rfl, v2, hw2, hl2, hb2, ha2, hc2⟩; have z0 := hc2 _ _ y0; have z1 := hc2 _ _ y1; have z2 := hc2 _ _ y2; have z3 := hc2 _ _ y3)
    | (go_at_call 56; refine (wnum_ap i 8 h0d hb0 abd hi64 (by omega) (by omega)).mono ?_; rintro e w1 ⟨rfl, v1, hw1, hl1, hb1, ha1, hc1⟩; have y0 := hc1 _ _ x0; have y1 := hc1 _ _ x1; have y2 := hc1 _ _ x2; have y3 := hc1 _ _ x3))
  have L4 : Later W base v w4 v4 := Later.trans Later.drew (hl1.trans (hl2.trans (hl3.trans hl4)))
  have HL4 : Hid (Later w base v w4 v4) := HL0.out.trans L4
  have HE : Hid (l ++ Crc.le 8 i ++ Crc.le 8 t ++ Crc.le 8 k ++ Crc.le 4 d.length ++ d = l ++ (Crc.le 8 i ++ Crc.le 8 t ++ Crc.le 8 k ++ Crc.le 4 d.length ++ d)) := by show _ = _; simp
  rw [HE.out] at hw4
  clear x0 x1 x2 x3 y0 y1 y2 y3 z0 z1 z2 z3 q0 q1 q2 q3 r0 r1 r2 r3 hw1 hw2 hw3 hl1 hl2 hl3 hl4 hb1 hb2 hb3 ha1 ha2 ha3 hc1 hc2 hc3 hc4 h0 h0d ab abd L4 hb0
  first | go_end0 | (go_wp2; go_end0)
  exact ⟨rfl, v4, hw4, HL4.out, hb4⟩
set_option maxRecDepth 100000 in
set_option maxHeartbeats 800000 in
theorem entR_any (i t k : Nat) (ao : Option Addr) (d : List Nat) (cap : Nat) (w : World) (ht : Tab w) (hr : Row w ao d cap) (hi64 : i < 18446744073709551616) (ht64 : t < 18446744073709551616) (hk8 : k < 256) (hd : d.length ≤ 2000000000) :
    Calls Tryd.prog 39 #[.agg #[.int .u64 (i : Int), .int .u64 (t : Int), .int .u8 (k : Int), .slice ao d.length cap]] w fun e w' => ∃ a1, e = .returned (.slice a1 (d.length + 30) (d.length + 30)) ∧ Fresh w w' a1 (entB (i, t, k, d)) ∧ Fr (fun _ => False) w w' := by
  have f0 := ((Fr.refl (fun _ => False) w).alloc (.cells #[.int .u64 (i : Int), .int .u64 (t : Int), .int .u8 (k : Int), .slice ao d.length cap] 50)).alloc (.cells #[.slice none 0 0] 105)
  have h0 : Wr ((w.alloc (.cells #[.int .u64 (i : Int), .int .u64 (t : Int), .int .u8 (k : Int), .slice ao d.length cap] 50)).alloc (.cells #[.slice none 0 0] 105)) (w.heap.size + 1) (w.heap.size + 1) (.slice none 0 0) [] := by
    have := wr_new (w.alloc (.cells #[.int .u64 (i : Int), .int .u64 (t : Int), .int .u8 (k : Int), .slice ao d.length cap] 50)) (w.heap.size + 1)
    simpa using this
  obtain ⟨W, HW⟩ : ∃ W, Hid (W = (w.alloc (.cells #[.int .u64 (i : Int), .int .u64 (t : Int), .int .u8 (k : Int), .slice ao d.length cap] 50)).alloc (.cells #[.slice none 0 0] 105)) := ⟨_, rfl⟩
  have hz : W.heap.size = w.heap.size + 2 := by rw [HW.out]; simp
  rw [← HW.out] at h0 f0
  obtain ⟨B, HB⟩ : ∃ B, Hid (B = w.heap.size + 1) := ⟨_, rfl⟩
  rw [← HB.out] at h0
  have hz1 : B ≤ W.heap.size := by rw [HB.out]; omega
  have HT : Hid (Tab w) := ht
  have HF0 : Hid (Fr (fun _ => False) w W) := f0
  have HAP : Hid (d ≠ [] → ∀ a, ao = some a → a.block < B) := fun hne a ha => by have := hr.lt hne a ha; have := HB.out; omega
  have HBL : Hid (entB (i, t, k, d) = recB 2 (Crc.le 8 i ++ Crc.le 8 t ++ Crc.le 1 k ++ Crc.le 4 d.length ++ d)) := rfl
  have K0 : Hid (Calls _ _ _ _ _) := layent_any i t k ao d cap h0 hz1 (f0.row hr (by simp)) HAP.out hi64 ht64 hk8 (by simp) hd
  have HBW : Hid (w.heap.size < B) := (show _ < _ by have := HB.out; omega)
  clear ht f0 hr h0
  go_enter Tryd.func39, Tryd.ntmps39
  go_wp2_with fail
  rw [← HW.out, ← HB.out]
  refine K0.out.mono ?_
  rintro e w4 ⟨rfl, v4, hw4, hl4, hb4⟩
  have F2 : Hid (Fr (fun _ => False) w w4) := HF0.out.trans' hl4.fr (fun i hi hT => by
    rcases hT with e | e
    · have := HBW.out; omega
    · cases e)
  rw [List.nil_append] at hw4
  have HL : Hid ((Crc.le 8 i ++ Crc.le 8 t ++ Crc.le 1 k ++ Crc.le 4 d.length ++ d).length = d.length + 21) := by show _ = _; simp [Crc.le_length]; omega
  have K := wseal_any 2 B B v4 _ w4 (F2.out.tab HT.out (by simp)) hw4 (by omega) (by intro e; have := HL.out; rw [e] at this; simp at this) (by rw [HL.out]; omega)
  rw [HL.out, ← HBL.out, show ((2 : Nat) : Int) = 2 from rfl] at K
  have HK : Hid (Calls _ _ _ _ _) := K
  clear hw4 hl4 hb4 K K0
  go_wp2_with fail
  refine HK.out.mono ?_
  rintro e w5 ⟨a1, rfl, h3, f3⟩
  go_wp2
  go_ret
  exact ⟨a1, rfl, h3.later F2.out.size, F2.out.trans f3⟩
set_option maxRecDepth 100000 in
set_option maxHeartbeats 800000 in
theorem snapR_any (i t k : Nat) (ao : Option Addr) (d : List Nat) (cap : Nat) (w : World) (ht : Tab w) (hr : Row w ao d cap) (hi64 : i < 18446744073709551616) (ht64 : t < 18446744073709551616) (hk8 : k < 18446744073709551616) (hd : d.length ≤ 2000000000) :
    Calls Tryd.prog 40 #[.agg #[.int .u64 (i : Int), .int .u64 (t : Int), .int .u64 (k : Int), .slice ao d.length cap]] w fun e w' => ∃ a1, e = .returned (.slice a1 (d.length + 37) (d.length + 37)) ∧ Fresh w w' a1 (snapB (i, t, k, d)) ∧ Fr (fun _ => False) w w' := by
  have f0 := ((Fr.refl (fun _ => False) w).alloc (.cells #[.int .u64 (i : Int), .int .u64 (t : Int), .int .u64 (k : Int), .slice ao d.length cap] 31)).alloc (.cells #[.slice none 0 0] 105)
  have h0 : Wr ((w.alloc (.cells #[.int .u64 (i : Int), .int .u64 (t : Int), .int .u64 (k : Int), .slice ao d.length cap] 31)).alloc (.cells #[.slice none 0 0] 105)) (w.heap.size + 1) (w.heap.size + 1) (.slice none 0 0) [] := by
    have := wr_new (w.alloc (.cells #[.int .u64 (i : Int), .int .u64 (t : Int), .int .u64 (k : Int), .slice ao d.length cap] 31)) (w.heap.size + 1)
    simpa using this
  obtain ⟨W, HW⟩ : ∃ W, Hid (W = (w.alloc (.cells #[.int .u64 (i : Int), .int .u64 (t : Int), .int .u64 (k : Int), .slice ao d.length cap] 31)).alloc (.cells #[.slice none 0 0] 105)) := ⟨_, rfl⟩
  have hz : W.heap.size = w.heap.size + 2 := by rw [HW.out]; simp
  rw [← HW.out] at h0 f0
  obtain ⟨B, HB⟩ : ∃ B, Hid (B = w.heap.size + 1) := ⟨_, rfl⟩
  rw [← HB.out] at h0
  have hz1 : B ≤ W.heap.size := by rw [HB.out]; omega
  have HT : Hid (Tab w) := ht
  have HF0 : Hid (Fr (fun _ => False) w W) := f0
  have HAP : Hid (d ≠ [] → ∀ a, ao = some a → a.block < B) := fun hne a ha => by have := hr.lt hne a ha; have := HB.out; omega
  have HBL : Hid (snapB (i, t, k, d) = recB 3 (Crc.le 8 i ++ Crc.le 8 t ++ Crc.le 8 k ++ Crc.le 4 d.length ++ d)) := rfl
  have K0 : Hid (Calls _ _ _ _ _) := laysnap_any i t k ao d cap h0 hz1 (f0.row hr (by simp)) HAP.out hi64 ht64 hk8 (by simp) hd
  have HBW : Hid (w.heap.size < B) := (show _ < _ by have := HB.out; omega)
  clear ht f0 hr h0
  go_enter Tryd.func40, Tryd.ntmps40
  go_wp2_with fail
  rw [← HW.out, ← HB.out]
  refine K0.out.mono ?_
  rintro e w4 ⟨rfl, v4, hw4, hl4, hb4⟩
  have F2 : Hid (Fr (fun _ => False) w w4) := HF0.out.trans' hl4.fr (fun i hi hT => by
    rcases hT with e | e
    · have := HBW.out; omega
    · cases e)
  rw [List.nil_append] at hw4
  have HL : Hid ((Crc.le 8 i ++ Crc.le 8 t ++ Crc.le 8 k ++ Crc.le 4 d.length ++ d).length = d.length + 28) := by show _ = _; simp [Crc.le_length]; omega
  have K := wseal_any 3 B B v4 _ w4 (F2.out.tab HT.out (by simp)) hw4 (by omega) (by intro e; have := HL.out; rw [e] at this; simp at this) (by rw [HL.out]; omega)
  rw [HL.out, ← HBL.out, show ((3 : Nat) : Int) = 3 from rfl] at K
  have HK : Hid (Calls _ _ _ _ _) := K
  clear hw4 hl4 hb4 K K0
  go_wp2_with fail
  refine HK.out.mono ?_
  rintro e w5 ⟨a1, rfl, h3, f3⟩
  go_wp2
  go_ret
  exact ⟨a1, rfl, h3.later F2.out.size, F2.out.trans f3⟩
end Go.Proofs.YtlcakglmheleeaaDoor
