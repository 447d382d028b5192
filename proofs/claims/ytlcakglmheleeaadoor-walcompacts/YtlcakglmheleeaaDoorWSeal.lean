/- The writer's seal: what is laid, as a record. -/
import Derived.Test.YtlcakglmheleeaaDoorLays
namespace Go.Proofs.YtlcakglmheleeaaDoor
open Go.RowKit

/-- what is laid behind a kind. -/
theorem wr_here (w : World) : Wr (w.alloc (.cells #[.slice none 0 0] 105)) w.heap.size w.heap.size (.slice none 0 0) [] := wr_new w _
set_option maxRecDepth 100000 in
set_option maxHeartbeats 2000000 in
theorem wseal_any (kind base wb : Nat) (v : Value) (l : List Nat) (w : World) (ht : Tab w) (hw : Wr w base wb v l) (hk : kind < 256) (hne : l ≠ []) (hlen : l.length ≤ 4000000000) :
    Calls Tryd.prog 57 #[.int .u8 (kind : Int), .pointer (some ⟨wb, 0, none⟩)] w fun e w' => ∃ a1, e = .returned (.slice a1 (l.length + 9) (l.length + 9)) ∧ Fresh w w' a1 (recB kind l) ∧ Fr (fun _ => False) w w' := by
  have HT : Hid (Tab w) := ht
  have hrl := recB_length kind l
  go_enter Tryd.func57, Tryd.ntmps57
  go_wp2_with fail
  refine (done_any base wb v l w hw (by omega)).mono ?_
  rintro e w1 ⟨a1, rfl, h1, f1⟩
  have H1 : Hid (Fresh w w1 a1 l) := h1
  have F1 : Hid (Fr (fun _ => False) w w1) := f1
  clear h1 f1 ht hw
  obtain ⟨W, HW⟩ : ∃ W, Hid (W = w1.alloc (.cells #[.slice none 0 0] 105)) := ⟨_, rfl⟩
  have K1 : Hid (Calls _ _ _ _ _) := wnum_any w1.heap.size w1.heap.size (.slice none 0 0) [] l.length 4 _ (wr_here w1) (by simp) (by omega) (by omega) (by simp)
  have HF : Hid (Fr (fun _ => False) w1 (w1.alloc (.cells #[.slice none 0 0] 105))) := (Fr.refl _ _).alloc _
  have b1 : (l.length : Int) ≤ 4000000000 := by omega
  go_wp2_with fail
  refine K1.out.mono ?_
  rintro e w2 ⟨rfl, v2, hw2, hl2⟩
  have K2 : Hid (Calls _ _ _ _ _) := wnum_any w1.heap.size w1.heap.size v2 ([] ++ Crc.le 4 l.length) kind 1 w2 hw2 (Nat.le_trans HF.out.size hl2.fr.size) (by omega) (by omega) (by simp [Crc.le_length])
  have F2 : Hid (Fr (fun _ => False) w1 w2) := HF.out.trans' hl2.fr (fun i hi ht => by
    rcases ht with rfl | ht
    · omega
    · cases ht)
  have N2 : Hid (∀ k, v2.ownBlock = some k → w1.heap.size ≤ k) := fun k hk => (hw2.own.lt k hk).1
  clear hw2 hl2 K1
  go_wp2_with fail
  refine K2.out.mono ?_
  rintro e w3 ⟨rfl, v3, hw3, hl3⟩
  have F3 : Hid (Fr (fun _ => False) w1 w3) := F2.out.trans' hl3.fr (fun i hi ht => by
    rcases ht with rfl | ht
    · omega
    · have := N2.out i ht; omega)
  obtain ⟨hd, Hhd⟩ : ∃ hd : List Nat, Hid ((([] : List Nat) ++ Crc.le 4 l.length) ++ Crc.le 1 kind = hd) := ⟨_, rfl⟩
  rw [Hhd.out] at hw3
  have HDL : Hid (hd.length = 5) := by show _ = _; rw [← Hhd.out]; simp [Crc.le_length]
  have K3 : Hid (Calls _ _ _ _ _) := done_any _ _ _ hd _ hw3 (by rw [HDL.out]; omega)
  clear hw3 hl3 K2
  go_wp2_with fail
  refine K3.out.mono ?_
  rintro e w4 ⟨a4, rfl, h4, f4⟩
  have F4 : Hid (Fr (fun _ => False) w w4) := F1.out.trans (F3.out.trans f4)
  have HL4 : Hid (Lays w4 w3.heap.size (.slice a4 hd.length hd.length) hd) := h4.lays
  have HR4 : Hid (Row w4 a1 l l.length) := (F3.out.trans f4).row H1.out.1 (by simp)
  have HS4 : Hid (w.heap.size ≤ w3.heap.size) := (F1.out.trans F3.out).size
  have hs4 : w3.heap.size ≤ w4.heap.size := f4.size
  have HLN : Hid (hd.length + l.length ≤ 70368744177664) := by show _ ≤ _; rw [HDL.out]; omega
  clear h4 f4 K3
  go_wp2_with (at_builtin; refine wpList_append_lays rfl (.tmp 20) (.tmp 21) rfl w3.heap.size _ hd rfl HL4.out a1 l l.length rfl HR4.out hne HLN.out hs4 ?_)
  intro v5 w5 o5 g5 _
  have F5 : Hid (Fr (fun _ => False) w w5) := F4.out.grown g5 (fun k hk => .inr (by have := HL4.out.lt k hk; have := HS4.out; omega))
  obtain ⟨a5, c5, hv5, r5, _⟩ := o5.row
  subst hv5
  have K5 : Hid (Calls _ _ _ _ _) := seal_any a5 (hd ++ l) c5 w5 (F5.out.tab HT.out (by simp)) r5 (by rw [List.length_append, HDL.out]; omega)
  have HQ : Hid (sealed (hd ++ l) = recB kind l) := by show _ = _; rw [← Hhd.out]; simp [recB]
  have HQL : Hid ((hd ++ l).length + 4 = l.length + 9) := by show _ = _; rw [List.length_append, HDL.out]; omega
  rw [HQ.out, HQL.out] at K5
  clear o5 g5 r5
  obtain ⟨q, Hq⟩ : ∃ q, Hid (hd ++ l = q) := ⟨_, rfl⟩
  rw [Hq.out] at K5 ⊢
  go_wp2_with fail
  refine K5.out.mono ?_
  rintro e w6 ⟨a6, rfl, h6, f6⟩
  have H6 : Hid _ := h6.later F5.out.size
  have F6 : Hid _ := F5.out.trans f6
  clear h6 f6
  go_wp2
  go_ret
  exact ⟨a6, rfl, H6.out, F6.out⟩
end Go.Proofs.YtlcakglmheleeaaDoor
