/- Records: the document's, and how the program seals one. -/
import Derived.Test.YtlcakglmheleeaaDoorReadAll
import Derived.Test.YtlcakglmheleeaaDoorWriteAll
import Derived.Test.YtlcakglmheleeaaDoorOpen
namespace Go.Proofs.YtlcakglmheleeaaDoor
open Go.RowKit

/-- a record of a kind, that has these bytes. -/
def recB (kind : Nat) (p : List Nat) : List Nat := sealed (Crc.le 4 p.length ++ Crc.le 1 kind ++ p)
theorem recB_length (kind : Nat) (p : List Nat) : (recB kind p).length = p.length + 9 := by
  unfold recB
  rw [sealed_length]
  simp [Crc.le_length]
  omega
set_option maxRecDepth 100000 in
set_option maxHeartbeats 2000000 in
theorem refrecord_any (kind : Nat) (ao : Option Addr) (p : List Nat) (cap : Nat) (w : World) (hr : Row w ao p cap) (hk : kind < 256) (hlen : p.length ≤ 1000000) :
    Calls Tryd.prog 35 #[.int .u8 (kind : Int), .slice ao p.length cap] w fun e w' => ∃ v, e = .returned v ∧ Own w' w.heap.size v (recB kind p) ∧ Fr (fun _ => False) w w' := by
  have HR : Hid (Row w ao p cap) := hr
  clear hr
  go_enter Tryd.func35, Tryd.ntmps35
  go_wp2_with fail
  refine (refnum_any w none [] 0 p.length 4 ⟨Nat.le_refl _, Nat.zero_le _, by simp, fun _ => rfl, fun h => absurd rfl h⟩ (by omega) (by omega) (by simp)).mono ?_
  rintro e w1 ⟨v1, rfl, o1, f1⟩
  obtain ⟨a1, c1, hv1, r1, _⟩ := o1.row
  subst hv1
  have hz1 : ([] ++ Crc.le 4 p.length).length = 4 := by simp [Crc.le_length]
  have K1 : Hid (Calls _ _ _ _ _) := refnum_any w1 a1 ([] ++ Crc.le 4 p.length) c1 kind 1 r1 (by omega) (by omega) (by rw [hz1]; omega)
  have F1 : Hid (Fr (fun _ => False) w w1) := f1
  clear o1 f1 r1
  go_wp2_with fail
  refine K1.out.mono ?_
  rintro e w2 ⟨v2, rfl, o2, f2⟩
  obtain ⟨a2, c2, hv2, r2, _⟩ := o2.row
  subst hv2
  have F2 : Hid (Fr (fun _ => False) w w2) := F1.out.trans f2
  have HS : Hid (w.heap.size ≤ w1.heap.size) := F1.out.size
  have hs2 : w1.heap.size ≤ w2.heap.size := f2.size
  obtain ⟨hd, Hhd⟩ : ∃ hd : List Nat, Hid ((([] : List Nat) ++ Crc.le 4 p.length) ++ Crc.le 1 kind = hd) := ⟨(([] : List Nat) ++ Crc.le 4 p.length) ++ Crc.le 1 kind, by show _ = _; rfl⟩
  rw [Hhd.out] at o2 ⊢
  have HDL : Hid (hd.length = 5) := by show _ = _; rw [← Hhd.out]; simp [Crc.le_length]
  have O2 : Hid (Own w2 w1.heap.size (.slice a2 hd.length c2) hd) := o2
  clear o2 f2 r2 K1 hz1
  go_wp2_with (at_builtin; refine wpList_append_bytes rfl _ _ rfl w1.heap.size _ hd rfl O2.out ao p cap rfl (F2.out.row HR.out (by simp)) (by rw [HDL.out]; omega) hs2 ?_)
  intro v3 w3 o3 g3 _
  have hlt2 := O2.out.lt
  have f3 : Fr (fun _ => False) w w3 := F2.out.grown g3 (fun k hk => .inr (by have := hlt2 k hk; have := HS.out; omega))
  obtain ⟨a3, c3, hv3, r3, _⟩ := o3.row
  subst hv3
  have K3 : Hid (Calls _ _ _ _ _) := refseal_any a3 (hd ++ p) c3 w3 r3 (by simp [HDL.out]; omega)
  have F3 : Hid (Fr (fun _ => False) w w3) := f3
  obtain ⟨q, Hq⟩ : ∃ q, Hid (hd ++ p = q) := ⟨_, rfl⟩
  rw [Hq.out] at K3 ⊢
  clear o3 g3 f3 r3
  go_wp2_with fail
  refine K3.out.mono ?_
  rintro e w4 ⟨v4, rfl, o4, f4⟩
  obtain ⟨a4, c4, hv4, _⟩ := o4.row
  have HO : Hid (Own w4 w3.heap.size v4 (sealed q)) := o4
  have F4 : Hid (Fr (fun _ => False) w w4) := F3.out.trans f4
  subst hv4
  clear o4 f4
  go_wp2
  go_ret
  refine ⟨_, rfl, ?_, F4.out⟩
  have := HO.out
  rw [show recB kind p = sealed q by unfold recB; rw [← Hq.out, ← Hhd.out]; simp]
  refine ⟨⟨this.1.1, ?_⟩, this.2⟩
  rcases this.1.2 with hn | ⟨g, cp, cur, he, hbg, rest⟩
  · exact .inl hn
  · exact .inr ⟨g, cp, cur, he, by have := F3.out.size; omega, rest⟩
end Go.Proofs.YtlcakglmheleeaaDoor
