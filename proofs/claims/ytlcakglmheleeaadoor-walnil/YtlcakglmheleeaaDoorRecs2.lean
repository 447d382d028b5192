/- The program's record of a snapshot, and the document's records. -/
import Derived.Test.YtlcakglmheleeaaDoorRecs
namespace Go.Proofs.YtlcakglmheleeaaDoor
open Go.RowKit

theorem refnum_step {w : World} {ao : Option Addr} {l : List Nat} {cap : Nat} (n nb : Nat) (h : Row w ao l cap) (hn : n < 18446744073709551616) (hnb : nb ≤ 8) (hlen : l.length ≤ 1000) :
    Calls Tryd.prog 36 #[.slice ao l.length cap, .int .u64 (n : Int), .int .i64 (nb : Int)] w fun e w' => ∃ a1 c1 l1, e = .returned (.slice a1 (l1 : List Nat).length c1) ∧ Row w' a1 l1 c1 ∧ Hid (l1 = l ++ Crc.le nb n) ∧ Hid (l1.length = l.length + nb) ∧ Fr (fun _ => False) w w' := by
  refine (refnum_any w ao l cap n nb h hn hnb (by omega)).mono ?_
  rintro e w' ⟨v, rfl, o, f⟩
  obtain ⟨a1, c1, hv, r, _⟩ := o.row
  exact ⟨a1, c1, _, by rw [hv], r, rfl, by show _ = _; simp [Crc.le_length], f⟩
theorem refbytes_step {w : World} {ao a1 : Option Addr} {l m : List Nat} {c0 c1 : Nat} (h : Row w ao l c0) (h1 : Row w a1 m c1) (hlen : l.length ≤ 1000) (hm : m.length ≤ 900000) :
    Calls Tryd.prog 37 #[.slice ao l.length c0, .slice a1 m.length c1] w fun e w' => ∃ a2 c2 l2, e = .returned (.slice a2 (l2 : List Nat).length c2) ∧ Row w' a2 l2 c2 ∧ Hid (l2 = l ++ Crc.le 4 m.length ++ m) ∧ Hid (l2.length = l.length + 4 + m.length) ∧ Fr (fun _ => False) w w' := by
  refine (refbytes_any w ao a1 l m c0 c1 h h1 (by omega)).mono ?_
  rintro e w' ⟨v, rfl, o, f⟩
  obtain ⟨a1, c1, hv, r, _⟩ := o.row
  exact ⟨a1, c1, _, by rw [hv], r, rfl, by show _ = _; simp [Crc.le_length]; omega, f⟩
theorem refrec_step {w : World} {ao : Option Addr} {l : List Nat} {cap : Nat} (kind : Nat) (h : Row w ao l cap) (hk : kind < 256) (hlen : l.length ≤ 1000000) :
    Calls Tryd.prog 35 #[.int .u8 (kind : Int), .slice ao l.length cap] w fun e w' => ∃ a1 c1 l1, e = .returned (.slice a1 (l1 : List Nat).length c1) ∧ Own w' w.heap.size (.slice a1 l1.length c1) l1 ∧ Hid (l1 = recB kind l) ∧ Fr (fun _ => False) w w' := by
  refine (refrecord_any kind ao l cap w h hk hlen).mono ?_
  rintro e w' ⟨v, rfl, o, f⟩
  obtain ⟨a1, c1, hv, r, _⟩ := o.row
  subst hv
  exact ⟨a1, c1, _, rfl, o, rfl, f⟩
theorem Own.rebase {w : World} {base b2 : Nat} {v : Value} {l : List Nat} (h : Own w base v l) (hb : b2 ≤ base) : Own w b2 v l := by
  refine ⟨⟨h.1.1, ?_⟩, h.2⟩
  rcases h.1.2 with hn | ⟨g, cap, cur, rfl, hbg, rest⟩
  · exact .inl hn
  · exact .inr ⟨g, cap, cur, rfl, by omega, rest⟩
set_option maxRecDepth 100000 in
set_option maxHeartbeats 800000 in
theorem refhard_any (t n : Nat) (vo : Int) (w : World) (ht64 : t < 18446744073709551616) (hn : vo + 1 = (n : Int)) (hn2 : n < 65536) :
    Calls Tryd.prog 15 #[.agg #[.int .u64 (t : Int), .int .i64 vo]] w fun e w' => ∃ v, e = .returned v ∧ Own w' w.heap.size v (hardB t vo) ∧ Fr (fun _ => False) w w' := by
  have f0 := (Fr.refl (fun _ => False) w).alloc (.cells #[.int .u64 (t : Int), .int .i64 vo] 29)
  obtain ⟨W, HW⟩ : ∃ W, Hid (W = w.alloc (.cells #[.int .u64 (t : Int), .int .i64 vo] 29)) := ⟨_, rfl⟩
  have x0 : W.cell? ⟨w.heap.size, 0, none⟩ = some (.int .u64 (t : Int)) := by rw [HW.out]; simp
  have x1 : W.cell? ⟨w.heap.size, 1, none⟩ = some (.int .i64 vo) := by rw [HW.out]; simp
  rw [← HW.out] at f0
  have F0 : Hid (Fr (fun _ => False) w W) := f0
  have cv : IntKind.u64.wrap (n : Int) = (n : Int) := wrap_u64_small _ (by omega) (by omega)
  have cw : IntKind.i64.wrap (n : Int) = (n : Int) := wrap_i64_small _ (by omega) (by omega)
  have HBL : Hid (hardB t vo = recB 1 (Crc.le 8 t ++ Crc.le 2 n)) := by show _ = _; unfold hardB bodyH; rw [hn]; simp
  have R0 : Hid (Row W.drew none [] 0) := row_nil _
  clear f0
  go_enter Tryd.func15, Tryd.ntmps15
  go_wp2_with fail
  rw [← HW.out]
  go_region_held3 (fun w' => w'.cell? ⟨w.heap.size, 0, none⟩ = some (.int .u64 (t : Int)) ∧ w'.cell? ⟨w.heap.size, 1, none⟩ = some (.int .i64 vo)) (first | exact ⟨x0, x1⟩ | exact ⟨y0, y1⟩ | exact ⟨z0, z1⟩ | exact ⟨q0, q1⟩ | go_keep) (first
    | (go_at_call 35; refine (refrec_step 1 r2.out (by omega) (by have := HL2.out; have := HL1.out; simp at *; omega)).mono ?_; rintro e w3 ⟨a3, c3, l3, rfl, o3, E3, f3⟩; have F3 : Hid (Fr (fun _ => False) w2 w3) := f3; have q0 := f3.cell z0 (by simp); have q1 := f3.cell z1 (by simp); clear f3)
    | (go_at_call 36; refine (refnum_step n 2 r1.out (by omega) (by omega) (by have := HL1.out; simp at this; omega)).mono ?_; rintro e w2 ⟨a2, c2, l2, rfl, rr2, E2, HL2, f2⟩; have r2 : Hid (Row w2 a2 l2 c2) := rr2; have F2 : Hid (Fr (fun _ => False) w1 w2) := f2; have z0 := f2.cell y0 (by simp); have z1 := f2.cell y1 (by simp); clear rr2 f2)
    | (go_at_call 36; refine (refnum_step t 8 R0.out ht64 (by omega) (by simp)).mono ?_; rintro e w1 ⟨a1, c1, l1, rfl, rr1, E1, HL1, f1⟩; have r1 : Hid (Row w1 a1 l1 c1) := rr1; have F1 : Hid (Fr (fun _ => False) W w1) := (Fr.refl (fun _ => False) W).drew.trans f1; have y0 := F1.out.cell x0 (by simp); have y1 := F1.out.cell x1 (by simp); clear rr1 f1))
  have F : Hid (Fr (fun _ => False) w w3) := F0.out.trans (F1.out.trans (F2.out.trans F3.out))
  have O : Hid (Own w3 w.heap.size (.slice a3 l3.length c3) (hardB t vo)) := by
    have e : l3 = hardB t vo := by rw [E3.out, E2.out, E1.out, HBL.out]; simp
    show Own _ _ _ _
    rw [← e]
    exact o3.rebase (F0.out.trans (F1.out.trans F2.out)).size
  clear o3 x0 x1 y0 y1 z0 z1 q0 q1
  go_wp2
  go_ret
  exact ⟨_, rfl, O.out, F.out⟩
end Go.Proofs.YtlcakglmheleeaaDoor
