/- The program's disk: what each of its calls does. -/
import Derived.Test.YtlcakglmheleeaaDoorNilA
import Derived.Deep.QuietTactic
import Derived.BigQuiet
import Derived.BigRegion
import Derived.Deep.RegionHeld3
import Derived.Lib.SlBytesConst
namespace Go.Proofs.YtlcakglmheleeaaDoor
open Go.RowKit

theorem Own.take {w : World} {base : Nat} {ao : Option Addr} {cap : Nat} {l : List Nat} (h : Own w base (.slice ao l.length cap) l) (n : Nat) (hn : n ≤ l.length) : Own w base (.slice ao n cap) (l.take n) := by
  obtain ⟨⟨hl, h⟩, hb⟩ := h
  have hln : (l.take n).length = n := by simp; omega
  have hct : cellsOf (l.take n) = (cellsOf l).take n := by simp [cellsOf, List.map_take]
  refine ⟨⟨by rw [cellsOf_length]; omega, ?_⟩, fun x hx => hb x (List.mem_of_mem_take hx)⟩
  rw [hln, hct]
  rcases h with ⟨he, h0⟩ | ⟨g, cp, cur, he, hbg, hg, hn1, hm, hs, ht⟩
  · injection he with e1 e2 e3
    obtain rfl : n = 0 := by omega
    exact .inl ⟨by rw [e1, e3], rfl⟩
  · cases he
    refine .inr ⟨g, _, cur, rfl, hbg, hg, by omega, hm, hs, ?_⟩
    rw [← ht, List.take_take]
    congr 1
    omega
theorem Own.bytes {w : World} {base : Nat} {v : Value} {l : List Nat} (h : Own w base v l) : ∀ x ∈ l, x < 256 := h.2
theorem Own.form {w : World} {base : Nat} {v : Value} {l : List Nat} (h : Own w base v l) : ∃ ao cap, v = .slice ao l.length cap ∧ l.length ≤ 9223372036854775807 ∧ cap ≤ 9223372036854775807 ∧ l.length ≤ cap := by
  obtain ⟨ao, cap, hv, hr, _⟩ := h.row
  have h1 := hr.1
  have h2 := hr.2.1
  unfold maxLen at h2
  exact ⟨ao, cap, hv, by omega, by omega, h1⟩
theorem own_none {ao : Option Addr} {n cap : Nat} : (Value.slice ao n cap).ownBlock = ao.map (·.block) := by
  cases ao <;> rfl

/-- A DISK at block b: its bytes, how many are sure, how many calls. -/
structure Dk (w : World) (b base : Nat) (l : List Nat) (sure ops : Nat) (v : Value) : Prop where
  c0 : w.cell? ⟨b, 0, none⟩ = some v
  c1 : w.cell? ⟨b, 1, none⟩ = some (.int .i64 (sure : Int))
  c2 : w.cell? ⟨b, 2, none⟩ = some (.int .i64 (ops : Int))
  z0 : w.frozen? ⟨b, 0, none⟩ = false
  z1 : w.frozen? ⟨b, 1, none⟩ = false
  z2 : w.frozen? ⟨b, 2, none⟩ = false
  own : Own w base v l
  apart : v.ownBlock ≠ some b
  le : sure ≤ l.length
  base : base ≤ b
section
variable {w w1 : World} {b base : Nat} {l : List Nat} {sure ops : Nat} {v : Value}
theorem Dk.lt (h : Dk w b base l sure ops v) : b < w.heap.size := World.block_lt_of_cell? _ _ h.c0
theorem Dk.fr {T : Nat → Prop} (h : Dk w b base l sure ops v) (f : Fr T w w1) (hb : ¬ T b) (hs : ∀ k, v.ownBlock = some k → ¬ T k) : Dk w1 b base l sure ops v :=
  ⟨f.cell h.c0 hb, f.cell h.c1 hb, f.cell h.c2 hb, (f.frozenEq h.lt hb).trans h.z0, (f.frozenEq h.lt hb).trans h.z1, (f.frozenEq h.lt hb).trans h.z2, h.own.fr f hs, h.apart, h.le, h.base⟩
set_option maxHeartbeats 400000 in
theorem dnew_any (w : World) (base : Nat) (hb : base ≤ w.heap.size) : Calls Tryd.prog 20 #[] w fun e w' => e = .returned (.pointer (some ⟨w.heap.size, 0, none⟩)) ∧ Dk w' w.heap.size base [] 0 0 (.slice none 0 0) ∧ Fr (fun _ => False) w w' := by
  go_enter Tryd.func20, Tryd.ntmps20
  go_wp2
  go_ret
  exact ⟨rfl, ⟨by simp, by simp, by simp, by simp, by simp, by simp, Own.nil _ _, by simp [Value.ownBlock], Nat.le_refl _, hb⟩, (Fr.refl _ _).alloc _⟩
set_option maxHeartbeats 400000 in
theorem dlen_any (h : Dk w b base l sure ops v) : Calls Tryd.prog 23 #[.pointer (some ⟨b, 0, none⟩)] w fun e w' => e = .returned (.int .i64 (l.length : Int)) ∧ w' = w := by
  have c0 := h.c0
  obtain ⟨ao, cap, rfl, _⟩ := h.own.form
  clear h
  go_enter Tryd.func23, Tryd.ntmps23
  go_wp2
  go_ret
  exact ⟨rfl, rfl⟩
set_option maxHeartbeats 400000 in
theorem dsure_any (h : Dk w b base l sure ops v) : Calls Tryd.prog 24 #[.pointer (some ⟨b, 0, none⟩)] w fun e w' => e = .returned (.int .i64 (sure : Int)) ∧ w' = w := by
  have c1 := h.c1
  clear h
  go_enter Tryd.func24, Tryd.ntmps24
  go_wp2
  go_ret
  exact ⟨rfl, rfl⟩
set_option maxHeartbeats 400000 in
theorem dsync_any (h : Dk w b base l sure ops v) (ho : ops ≤ 1000000) : Calls Tryd.prog 22 #[.pointer (some ⟨b, 0, none⟩)] w fun e w' => e = .returned (.int .i64 0) ∧ Dk w' b base l l.length (ops + 1) v ∧ Fr (fun k => k = b) w w' := by
  have c0 := h.c0
  have c1 := h.c1
  have c2 := h.c2
  have z1 := h.z1
  have z2 := h.z2
  obtain ⟨ao, cap, rfl, _⟩ := h.own.form
  have HD : Hid (Dk w b base l sure ops (.slice ao l.length cap)) := h
  clear h
  go_enter Tryd.func22, Tryd.ntmps22
  go_wp2
  go_ret
  have f := ((Fr.refl (fun k => k = b) w).setCell (p := ⟨b, 2, none⟩) (Or.inl rfl) (.int .i64 ((ops : Int) + 1))).setCell (p := ⟨b, 1, none⟩) (Or.inl rfl) (.int .i64 (l.length : Int))
  have h := HD.out
  refine ⟨rfl, ⟨?_, ?_, ?_, ?_, ?_, ?_, ?_, h.apart, Nat.le_refl _, h.base⟩, f⟩
  · exact (World.cell?_setCell_other _ _ _ _ (by simp)).trans ((World.cell?_setCell_other _ _ _ _ (by simp)).trans c0)
  · exact World.cell?_setCell_same _ _ _ ((World.cell?_setCell_other _ _ _ _ (by simp)).trans c1)
  · refine (World.cell?_setCell_other _ _ _ _ (by simp)).trans ((World.cell?_setCell_same _ _ _ c2).trans ?_)
    simp
  · simpa using h.z0
  · simpa using z1
  · simpa using z2
  · exact h.own.fr f (fun k hk e => h.apart (by rw [hk, e]))
end
end Go.Proofs.YtlcakglmheleeaaDoor
