/- The document's records of an entry and of a snapshot. -/
import Derived.Test.YtlcakglmheleeaaDoorLayE
namespace Go.Proofs.YtlcakglmheleeaaDoor
open Go.RowKit

set_option maxRecDepth 100000 in
set_option maxHeartbeats 800000 in
theorem refentry_any (i t k : Nat) (ao : Option Addr) (d : List Nat) (cap : Nat) (w : World) (hr : Row w ao d cap) (hi64 : i < 18446744073709551616) (ht64 : t < 18446744073709551616) (hk8 : k < 256) (hd : d.length ≤ 900000) :
    Calls Tryd.prog 16 #[.agg #[.int .u64 (i : Int), .int .u64 (t : Int), .int .u8 (k : Int), .slice ao d.length cap]] w fun e w' => ∃ v, e = .returned v ∧ Own w' w.heap.size v (entB (i, t, k, d)) ∧ Fr (fun _ => False) w w' := by
  have f0 := (Fr.refl (fun _ => False) w).alloc (.cells #[.int .u64 (i : Int), .int .u64 (t : Int), .int .u8 (k : Int), .slice ao d.length cap] 50)
  obtain ⟨W, HW⟩ : ∃ W, Hid (W = w.alloc (.cells #[.int .u64 (i : Int), .int .u64 (t : Int), .int .u8 (k : Int), .slice ao d.length cap] 50)) := ⟨_, rfl⟩
  have x0 : W.cell? ⟨w.heap.size, 0, none⟩ = some (.int .u64 (i : Int)) := by rw [HW.out]; simp
  have x1 : W.cell? ⟨w.heap.size, 1, none⟩ = some (.int .u64 (t : Int)) := by rw [HW.out]; simp
  have x2 : W.cell? ⟨w.heap.size, 2, none⟩ = some (.int .u8 (k : Int)) := by rw [HW.out]; simp
  have x3 : W.cell? ⟨w.heap.size, 3, none⟩ = some (.slice ao d.length cap) := by rw [HW.out]; simp
  rw [← HW.out] at f0
  have F0 : Hid (Fr (fun _ => False) w W) := f0
  have cv : IntKind.u64.wrap (k : Int) = (k : Int) := wrap_u64_small _ (by omega) (by omega)
  have HBL : Hid (entB (i, t, k, d) = recB 2 (Crc.le 8 i ++ Crc.le 8 t ++ Crc.le 1 k ++ Crc.le 4 d.length ++ d)) := rfl
  have R0 : Hid (Row W.drew none [] 0) := row_nil _
  have HR : Hid (Row W ao d cap) := f0.row hr (by simp)
  clear f0 hr
  go_enter Tryd.func16, Tryd.ntmps16
  go_wp2_with fail
  rw [← HW.out]
  go_region_held3 (fun w' => w'.cell? ⟨w.heap.size, 0, none⟩ = some (.int .u64 (i : Int)) ∧ w'.cell? ⟨w.heap.size, 1, none⟩ = some (.int .u64 (t : Int))) (first | exact ⟨x0, x1⟩ | exact ⟨y0, y1⟩ | exact ⟨z0, z1⟩ | go_keep) (first
    | (go_at_call 36; refine (refnum_step t 8 r1.out ht64 (by omega) (by have := HL1.out; simp at this; omega)).mono ?_; rintro e w2 ⟨a2, c2, l2, rfl, rr2, E2, HL2, f2⟩; have r2 : Hid (Row w2 a2 l2 c2) := rr2; have F2 : Hid (Fr (fun _ => False) w1 w2) := f2; have z0 := f2.cell y0 (by simp); have z1 := f2.cell y1 (by simp); clear rr2 f2)
    | (go_at_call 36; refine (refnum_step i 8 R0.out hi64 (by omega) (by simp)).mono ?_; rintro e w1 ⟨a1, c1, l1, rfl, rr1, E1, HL1, f1⟩; have r1 : Hid (Row w1 a1 l1 c1) := rr1; have F1 : Hid (Fr (fun _ => False) W w1) := (Fr.refl (fun _ => False) W).drew.trans f1; have y0 := F1.out.cell x0 (by simp); have y1 := F1.out.cell x1 (by simp); clear rr1 f1))
  have u2 := (F1.out.trans F2.out).cell x2 (by simp)
  have u3 := (F1.out.trans F2.out).cell x3 (by simp)
  have HLL : Hid (l2.length = 16) := by show _ = _; rw [HL2.out, HL1.out]; simp
  have HR2 : Hid (Row w2.drew ao d cap) := (F1.out.trans F2.out).drew.row HR.out (by simp)
  have R2d : Hid (Row w2.drew a2 l2 c2) := ((Fr.refl (fun _ => False) w2).drew).row r2.out (by simp)
  have FF2 : Hid (Fr (fun _ => False) w w2) := F0.out.trans (F1.out.trans F2.out)
  have EE2 : Hid (l2 = Crc.le 8 i ++ Crc.le 8 t) := by show _ = _; rw [E2.out, E1.out]; simp
  clear x0 x1 x2 x3 y0 y1 z0 z1
  go_wp2_with fail
  go_region_held3 (fun w' => w'.cell? ⟨w.heap.size, 2, none⟩ = some (.int .u8 (k : Int)) ∧ w'.cell? ⟨w.heap.size, 3, none⟩ = some (.slice ao d.length cap)) (first | exact ⟨u2, u3⟩ | exact ⟨y2, y3⟩ | exact ⟨z2, z3⟩ | exact ⟨q2, q3⟩ | go_keep) (first
    | (go_at_call 35; refine (refrec_step 2 r4.out (by omega) (by have := HL4.out; have := HL3.out; have := HLL.out; omega)).mono ?_; rintro e w5 ⟨a5, c5, l5, rfl, o5, E5, f5⟩; have F5 : Hid (Fr (fun _ => False) w4 w5) := f5; have q2 := f5.cell z2 (by simp); have q3 := f5.cell z3 (by simp); clear f5)
    | (go_at_call 37; refine (refbytes_step r3.out (F3.out.row HR2.out (by simp)) (by have := HL3.out; have := HLL.out; omega) hd).mono ?_; rintro e w4 ⟨a4, c4, l4, rfl, rr4, E4, HL4, f4⟩; have r4 : Hid (Row w4 a4 l4 c4) := rr4; have F4 : Hid (Fr (fun _ => False) w3 w4) := f4; have z2 := f4.cell y2 (by simp); have z3 := f4.cell y3 (by simp); clear rr4 f4)
    | (go_at_call 36; refine (refnum_step k 1 R2d.out (by omega) (by omega) (by have := HLL.out; omega)).mono ?_; rintro e w3 ⟨a3, c3, l3, rfl, rr3, E3, HL3, f3⟩; have r3 : Hid (Row w3 a3 l3 c3) := rr3; have F3 : Hid (Fr (fun _ => False) w2.drew w3) := f3; have y2 := ((Fr.refl (fun _ => False) w2).drew.trans F3.out).cell u2 (by simp); have y3 := ((Fr.refl (fun _ => False) w2).drew.trans F3.out).cell u3 (by simp); clear rr3 f3))
  have F : Hid (Fr (fun _ => False) w w5) := FF2.out.drew.trans (F3.out.trans (F4.out.trans F5.out))
  have O : Hid (Own w5 w.heap.size (.slice a5 l5.length c5) (entB (i, t, k, d))) := by
    have e : l5 = entB (i, t, k, d) := by rw [E5.out, E4.out, E3.out, EE2.out, HBL.out]
    show Own _ _ _ _
    rw [← e]
    exact o5.rebase (FF2.out.drew.trans (F3.out.trans F4.out)).size
  clear o5 u2 u3 y2 y3 z2 z3 q2 q3
  go_wp2
  go_ret
  exact ⟨_, rfl, O.out, F.out⟩
set_option maxRecDepth 100000 in
set_option maxHeartbeats 800000 in
theorem refsnap_any (i t k : Nat) (ao : Option Addr) (d : List Nat) (cap : Nat) (w : World) (hr : Row w ao d cap) (hi64 : i < 18446744073709551616) (ht64 : t < 18446744073709551616) (hk64 : k < 18446744073709551616) (hd : d.length ≤ 900000) :
    Calls Tryd.prog 31 #[.agg #[.int .u64 (i : Int), .int .u64 (t : Int), .int .u64 (k : Int), .slice ao d.length cap]] w fun e w' => ∃ v, e = .returned v ∧ Own w' w.heap.size v (snapB (i, t, k, d)) ∧ Fr (fun _ => False) w w' := by
  have f0 := (Fr.refl (fun _ => False) w).alloc (.cells #[.int .u64 (i : Int), .int .u64 (t : Int), .int .u64 (k : Int), .slice ao d.length cap] 31)
  obtain ⟨W, HW⟩ : ∃ W, Hid (W = w.alloc (.cells #[.int .u64 (i : Int), .int .u64 (t : Int), .int .u64 (k : Int), .slice ao d.length cap] 31)) := ⟨_, rfl⟩
  have x0 : W.cell? ⟨w.heap.size, 0, none⟩ = some (.int .u64 (i : Int)) := by rw [HW.out]; simp
  have x1 : W.cell? ⟨w.heap.size, 1, none⟩ = some (.int .u64 (t : Int)) := by rw [HW.out]; simp
  have x2 : W.cell? ⟨w.heap.size, 2, none⟩ = some (.int .u64 (k : Int)) := by rw [HW.out]; simp
  have x3 : W.cell? ⟨w.heap.size, 3, none⟩ = some (.slice ao d.length cap) := by rw [HW.out]; simp
  rw [← HW.out] at f0
  have F0 : Hid (Fr (fun _ => False) w W) := f0
  have HBL : Hid (snapB (i, t, k, d) = recB 3 (Crc.le 8 i ++ Crc.le 8 t ++ Crc.le 8 k ++ Crc.le 4 d.length ++ d)) := rfl
  have R0 : Hid (Row W.drew none [] 0) := row_nil _
  have HR : Hid (Row W ao d cap) := f0.row hr (by simp)
  clear f0 hr
  go_enter Tryd.func31, Tryd.ntmps31
  go_wp2_with fail
  rw [← HW.out]
  go_region_held3 (fun w' => w'.cell? ⟨w.heap.size, 0, none⟩ = some (.int .u64 (i : Int)) ∧ w'.cell? ⟨w.heap.size, 1, none⟩ = some (.int .u64 (t : Int))) (first | exact ⟨x0, x1⟩ | exact ⟨y0, y1⟩ | exact ⟨z0, z1⟩ | go_keep) (first
    | (go_at_call 36; refine (refnum_step t 8 r1.out ht64 (by omega) (by have := HL1.out; simp at this; omega)).mono ?_; rintro e w2 ⟨a2, c2, l2, rfl, rr2, E2, HL2, f2⟩; have r2 : Hid (Row w2 a2 l2 c2) := rr2; have F2 : Hid (Fr (fun _ => False) w1 w2) := f2; have z0 := f2.cell y0 (by simp); have z1 := f2.cell y1 (by simp); clear rr2 f2)
    | (go_at_call 36; refine (refnum_step i 8 R0.out hi64 (by omega) (by simp)).mono ?_; rintro e w1 ⟨a1, c1, l1, rfl, rr1, E1, HL1, f1⟩; have r1 : Hid (Row w1 a1 l1 c1) := rr1; have F1 : Hid (Fr (fun _ => False) W w1) := (Fr.refl (fun _ => False) W).drew.trans f1; have y0 := F1.out.cell x0 (by simp); have y1 := F1.out.cell x1 (by simp); clear rr1 f1))
  have u2 := (F1.out.trans F2.out).cell x2 (by simp)
  have u3 := (F1.out.trans F2.out).cell x3 (by simp)
  have HLL : Hid (l2.length = 16) := by show _ = _; rw [HL2.out, HL1.out]; simp
  have HR2 : Hid (Row w2.drew ao d cap) := (F1.out.trans F2.out).drew.row HR.out (by simp)
  have R2d : Hid (Row w2.drew a2 l2 c2) := ((Fr.refl (fun _ => False) w2).drew).row r2.out (by simp)
  have FF2 : Hid (Fr (fun _ => False) w w2) := F0.out.trans (F1.out.trans F2.out)
  have EE2 : Hid (l2 = Crc.le 8 i ++ Crc.le 8 t) := by show _ = _; rw [E2.out, E1.out]; simp
  clear x0 x1 x2 x3 y0 y1 z0 z1
  go_wp2_with fail
  go_region_held3 (fun w' => w'.cell? ⟨w.heap.size, 2, none⟩ = some (.int .u64 (k : Int)) ∧ w'.cell? ⟨w.heap.size, 3, none⟩ = some (.slice ao d.length cap)) (first | exact ⟨u2, u3⟩ | exact ⟨y2, y3⟩ | exact ⟨z2, z3⟩ | exact ⟨q2, q3⟩ | go_keep) (first
    | (go_at_call 35; refine (refrec_step 3 r4.out (by omega) (by have := HL4.out; have := HL3.out; have := HLL.out; omega)).mono ?_; rintro e w5 ⟨a5, c5, l5, rfl, o5, E5, f5⟩; have F5 : Hid (Fr (fun _ => False) w4 w5) := f5; have q2 := f5.cell z2 (by simp); have q3 := f5.cell z3 (by simp); clear f5)
    | (go_at_call 37; refine (refbytes_step r3.out (F3.out.row HR2.out (by simp)) (by have := HL3.out; have := HLL.out; omega) hd).mono ?_; rintro e w4 ⟨a4, c4, l4, rfl, rr4, E4, HL4, f4⟩; have r4 : Hid (Row w4 a4 l4 c4) := rr4; have F4 : Hid (Fr (fun _ => False) w3 w4) := f4; have z2 := f4.cell y2 (by simp); have z3 := f4.cell y3 (by simp); clear rr4 f4)
    | (go_at_call 36; refine (refnum_step k 8 R2d.out (by omega) (by omega) (by have := HLL.out; omega)).mono ?_; rintro e w3 ⟨a3, c3, l3, rfl, rr3, E3, HL3, f3⟩; have r3 : Hid (Row w3 a3 l3 c3) := rr3; have F3 : Hid (Fr (fun _ => False) w2.drew w3) := f3; have y2 := ((Fr.refl (fun _ => False) w2).drew.trans F3.out).cell u2 (by simp); have y3 := ((Fr.refl (fun _ => False) w2).drew.trans F3.out).cell u3 (by simp); clear rr3 f3))
  have F : Hid (Fr (fun _ => False) w w5) := FF2.out.drew.trans (F3.out.trans (F4.out.trans F5.out))
  have O : Hid (Own w5 w.heap.size (.slice a5 l5.length c5) (snapB (i, t, k, d))) := by
    have e : l5 = snapB (i, t, k, d) := by rw [E5.out, E4.out, E3.out, EE2.out, HBL.out]
    show Own _ _ _ _
    rw [← e]
    exact o5.rebase (FF2.out.drew.trans (F3.out.trans F4.out)).size
  clear o5 u2 u3 y2 y3 z2 z3 q2 q3
  go_wp2
  go_ret
  exact ⟨_, rfl, O.out, F.out⟩
end Go.Proofs.YtlcakglmheleeaaDoor
