/- LogsPuts: the six ways in which an entry is laid anew. -/
import Derived.Test.YtkkpdnholnkeoabPutsA
namespace Go.Proofs.Ytkkpdnholnkeoab
open Go.RowKit
theorem newEnt_last (wr X : World) (fX : Fr (fun _ => False) wr X) (hX : X.heap.size = wr.heap.size + 1) (x z tt kd : Nat) (row : Row X (some ⟨wr.heap.size, 0, none⟩) [x, 1] 2) :
    NewEnt wr (X.alloc (.cells #[.int .u64 (z : Int), .int .u64 (tt : Int), .int .u8 (kd : Int), .slice (some ⟨wr.heap.size, 0, none⟩) 2 2] 36)) wr.heap.size (wr.heap.size + 1) x z tt kd := by
  refine ⟨fX.alloc _, ((Fr.refl (fun _ => False) _).alloc _).row row (by simp), ?_, ⟨Nat.le_refl _, by simp; omega⟩, by omega, by omega⟩
  rw [← hX]
  constructor <;> simp
/-- the box, written, and the data behind. -/
theorem newEnt_mid (wr X : World) (fX : Fr (fun _ => False) wr X) (hX : X.heap.size = wr.heap.size + 1) (x z tt kd : Nat) (hx : x < 256) (b0 : Box4 X wr.heap.size 0 0 0 (.slice none 0 0)) :
    NewEnt wr (((((X.setCell ⟨wr.heap.size, 0, none⟩ (.int .u64 (z : Int))).setCell ⟨wr.heap.size, 1, none⟩ (.int .u64 (tt : Int))).setCell ⟨wr.heap.size, 2, none⟩ (.int .u8 (kd : Int))).setCell ⟨wr.heap.size, 3, none⟩ (.slice (some ⟨wr.heap.size + 1, 0, none⟩) 2 2)).alloc (.cells #[.int .u8 (x : Int), .int .u8 1] 5)) (wr.heap.size + 1) wr.heap.size x z tt kd := by
  have g : Fr (fun k => k = wr.heap.size) X ((((X.setCell ⟨wr.heap.size, 0, none⟩ (.int .u64 (z : Int))).setCell ⟨wr.heap.size, 1, none⟩ (.int .u64 (tt : Int))).setCell ⟨wr.heap.size, 2, none⟩ (.int .u8 (kd : Int))).setCell ⟨wr.heap.size, 3, none⟩ (.slice (some ⟨wr.heap.size + 1, 0, none⟩) 2 2)) := ((((Fr.refl (fun k => k = wr.heap.size) X).setCell (p := ⟨wr.heap.size, 0, none⟩) (Or.inl rfl) (.int .u64 (z : Int))).setCell (p := ⟨wr.heap.size, 1, none⟩) (Or.inl rfl) (.int .u64 (tt : Int))).setCell (p := ⟨wr.heap.size, 2, none⟩) (Or.inl rfl) (.int .u8 (kd : Int))).setCell (p := ⟨wr.heap.size, 3, none⟩) (Or.inl rfl) (.slice (some ⟨wr.heap.size + 1, 0, none⟩) 2 2)
  have r0 := two_row ((((X.setCell ⟨wr.heap.size, 0, none⟩ (.int .u64 (z : Int))).setCell ⟨wr.heap.size, 1, none⟩ (.int .u64 (tt : Int))).setCell ⟨wr.heap.size, 2, none⟩ (.int .u8 (kd : Int))).setCell ⟨wr.heap.size, 3, none⟩ (.slice (some ⟨wr.heap.size + 1, 0, none⟩) 2 2)) x hx
  have hs : ((((X.setCell ⟨wr.heap.size, 0, none⟩ (.int .u64 (z : Int))).setCell ⟨wr.heap.size, 1, none⟩ (.int .u64 (tt : Int))).setCell ⟨wr.heap.size, 2, none⟩ (.int .u8 (kd : Int))).setCell ⟨wr.heap.size, 3, none⟩ (.slice (some ⟨wr.heap.size + 1, 0, none⟩) 2 2)).heap.size = wr.heap.size + 1 := by simp; omega
  rw [hs] at r0
  exact ⟨(fX.trans' g (fun i hi e => by omega)).alloc _, r0, (b0.set z tt kd _).fr ((Fr.refl (fun _ => False) _).alloc _) (by simp), ⟨by omega, by simp; omega⟩, Nat.le_refl _, by omega⟩
theorem newEnt_1 (wr : World) (m x z tt kd : Nat) (kv : Int) (hx : x < 256) (hk : kv = (kd : Int)) : NewEnt wr (((wr.drewN m).alloc (.cells #[.int .u8 (x : Int), .int .u8 1] 5)).alloc (.cells #[.int .u64 (z : Int), .int .u64 (tt : Int), .int .u8 kv, .slice (some ⟨wr.heap.size, 0, none⟩) 2 2] 36)) wr.heap.size (wr.heap.size + 1) x z tt kd := by
  subst hk
  exact newEnt_last wr _ (((Fr.refl _ wr).drewN m).alloc _) (by simp) x z tt kd (two_row (wr.drewN m) x hx)
theorem newEnt_2 (wr : World) (m x z tt kd : Nat) (kv : Int) (hx : x < 256) (hk : kv = (kd : Int)) : NewEnt wr (((((((wr.drewN m).alloc (.cells #[.int .u64 0, .int .u64 0, .int .u8 0, .slice none 0 0] 36)).setCell ⟨wr.heap.size, 0, none⟩ (.int .u64 (z : Int))).setCell ⟨wr.heap.size, 1, none⟩ (.int .u64 (tt : Int))).setCell ⟨wr.heap.size, 2, none⟩ (.int .u8 kv)).setCell ⟨wr.heap.size, 3, none⟩ (.slice (some ⟨wr.heap.size + 1, 0, none⟩) 2 2)).alloc (.cells #[.int .u8 (x : Int), .int .u8 1] 5)) (wr.heap.size + 1) wr.heap.size x z tt kd := by
  subst hk
  exact newEnt_mid wr _ (((Fr.refl _ wr).drewN m).alloc _) (by simp) x z tt kd hx (box0_new (wr.drewN m))
theorem newEnt_3 (wr : World) (m x z tt kd : Nat) (kv : Int) (hx : x < 256) (hk : kv = (kd : Int)) : NewEnt wr (((wr.alloc (.cells #[.int .u8 (x : Int), .int .u8 1] 5)).drewN m).alloc (.cells #[.int .u64 (z : Int), .int .u64 (tt : Int), .int .u8 kv, .slice (some ⟨wr.heap.size, 0, none⟩) 2 2] 36)) wr.heap.size (wr.heap.size + 1) x z tt kd := by
  subst hk
  exact newEnt_last wr _ (((Fr.refl _ wr).alloc _).drewN m) (by simp) x z tt kd (((Fr.refl (fun _ => False) _).drewN m).row (two_row wr x hx) (by simp))
theorem newEnt_4 (wr : World) (m x z tt kd : Nat) (kv : Int) (hx : x < 256) (hk : kv = (kd : Int)) : NewEnt wr (((((((wr.alloc (.cells #[.int .u8 (x : Int), .int .u8 1] 5)).alloc (.cells #[.int .u64 0, .int .u64 0, .int .u8 0, .slice none 0 0] 36)).drewN m).setCell ⟨wr.heap.size + 1, 0, none⟩ (.int .u64 (z : Int))).setCell ⟨wr.heap.size + 1, 1, none⟩ (.int .u64 (tt : Int))).setCell ⟨wr.heap.size + 1, 2, none⟩ (.int .u8 kv)).setCell ⟨wr.heap.size + 1, 3, none⟩ (.slice (some ⟨wr.heap.size, 0, none⟩) 2 2)) wr.heap.size (wr.heap.size + 1) x z tt kd := by
  subst hk
  have b := box0_new (wr.alloc (dataO x))
  rw [show (wr.alloc (dataO x)).heap.size = wr.heap.size + 1 by simp] at b
  exact NewEnt.setAll ((((Fr.refl _ wr).alloc _).alloc _).drewN m) ((((Fr.refl (fun _ => False) _).alloc _).drewN m).row (two_row wr x hx) (by simp)) (b.fr ((Fr.refl (fun _ => False) _).drewN m) (by simp)) (Nat.le_refl _) (by simp; omega) (by omega) (by omega) z tt kd
theorem newEnt_5 (wr : World) (m x z tt kd : Nat) (kv : Int) (hx : x < 256) (hk : kv = (kd : Int)) : NewEnt wr (((((((wr.alloc (.cells #[.int .u64 0, .int .u64 0, .int .u8 0, .slice none 0 0] 36)).drewN m).setCell ⟨wr.heap.size, 0, none⟩ (.int .u64 (z : Int))).setCell ⟨wr.heap.size, 1, none⟩ (.int .u64 (tt : Int))).setCell ⟨wr.heap.size, 2, none⟩ (.int .u8 kv)).setCell ⟨wr.heap.size, 3, none⟩ (.slice (some ⟨wr.heap.size + 1, 0, none⟩) 2 2)).alloc (.cells #[.int .u8 (x : Int), .int .u8 1] 5)) (wr.heap.size + 1) wr.heap.size x z tt kd := by
  subst hk
  exact newEnt_mid wr _ (((Fr.refl _ wr).alloc _).drewN m) (by simp) x z tt kd hx ((box0_new wr).fr ((Fr.refl (fun _ => False) _).drewN m) (by simp))
theorem newEnt_6 (wr : World) (m x z tt kd : Nat) (kv : Int) (hx : x < 256) (hk : kv = (kd : Int)) : NewEnt wr (((((((wr.alloc (.cells #[.int .u64 0, .int .u64 0, .int .u8 0, .slice none 0 0] 36)).alloc (.cells #[.int .u8 (x : Int), .int .u8 1] 5)).drewN m).setCell ⟨wr.heap.size, 0, none⟩ (.int .u64 (z : Int))).setCell ⟨wr.heap.size, 1, none⟩ (.int .u64 (tt : Int))).setCell ⟨wr.heap.size, 2, none⟩ (.int .u8 kv)).setCell ⟨wr.heap.size, 3, none⟩ (.slice (some ⟨wr.heap.size + 1, 0, none⟩) 2 2)) (wr.heap.size + 1) wr.heap.size x z tt kd := by
  subst hk
  have r := two_row (wr.alloc box0) x hx
  rw [show (wr.alloc box0).heap.size = wr.heap.size + 1 by simp] at r
  exact NewEnt.setAll ((((Fr.refl _ wr).alloc _).alloc _).drewN m) (((Fr.refl (fun _ => False) _).drewN m).row r (by simp)) ((box0_new wr).fr (((Fr.refl (fun _ => False) _).alloc _).drewN m) (by simp)) (by omega) (by simp) (Nat.le_refl _) (by omega) z tt kd
end Go.Proofs.Ytkkpdnholnkeoab
