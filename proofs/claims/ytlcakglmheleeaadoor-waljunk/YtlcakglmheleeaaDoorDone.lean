/- The program's own copy of bytes is new memory that holds just these bytes; Done answers such a copy of what was laid. -/
import Derived.Test.YtlcakglmheleeaaDoorWriter
namespace Go.Proofs.YtlcakglmheleeaaDoor
open Go.RowKit

/-- NEW BYTES: a slice that is full, in a block that wasn't there, and may be written. -/
def Fresh (w w' : World) (ao : Option Addr) (l : List Nat) : Prop :=
  Row w' ao l l.length ∧ ∀ a, ao = some a → w.heap.size ≤ a.block ∧ a.block < w'.heap.size ∧ a.off = 0 ∧ a.spot = none ∧ ∃ cur, w'.heap[a.block]? = some (.cells cur 5 (0, 0))

theorem fresh_of_own {w w1 : World} {a1 : Option Addr} {l : List Nat} {c1 : Nat} (ho : Own w1 w.heap.size (.slice a1 l.length c1) l) : Fresh w w1 a1 l := by
  obtain ⟨a, c, he, hrow, hb⟩ := ho.row
  cases he
  refine ⟨⟨Nat.le_refl _, Nat.le_trans hrow.1 hrow.2.1, hrow.2.2.1, fun e => ?_, hrow.2.2.2.2⟩, fun a ha => ?_⟩
  · have := hrow.2.2.2.1 e; have := hrow.1; omega
  · obtain ⟨b1, b2, b3, b4, b5⟩ := hb a ha
    refine ⟨b1, b2, b4, b5, ?_⟩
    rcases ho.1.2 with ⟨h, _⟩ | ⟨g, cap, cur, hv, hbg, hg, rest⟩
    · rw [ha] at h; simp at h
    · cases hv; cases ha; exact ⟨cur, hg⟩

set_option maxHeartbeats 400000 in
theorem own_any (ao : Option Addr) (l : List Nat) (cap : Nat) (w : World) (hr : Row w ao l cap) (hlen : l.length ≤ 140737488355328) :
    Calls Tryd.prog 63 #[.slice ao l.length cap] w fun e w' => ∃ a1, e = .returned (.slice a1 l.length l.length) ∧ Fresh w w' a1 l ∧ Fr (fun _ => False) w w' := by
  go_enter Tryd.func63, Tryd.ntmps63
  go_wp2_with (at_builtin; refine wpList_append_bytes rfl (.const (.slice none 0 0)) (.tmp 4) rfl w.heap.size _ [] rfl (Own.nil w _) ao l cap rfl hr (by simpa using hlen) (Nat.le_refl _) ?_)
  intro v' w1 ho1 hg _
  obtain ⟨a1, c1, hv1, hrow1, hblk1⟩ := ho1.row
  subst hv1
  have hfr : Fr (fun _ => False) w w1 := (Fr.refl _ w).grown hg (fun k hk => by cases hk)
  have hfresh := fresh_of_own ho1
  have h1 := hrow1.1
  have h2 := hrow1.2.1
  unfold maxLen at h2
  cases a1 with
  | none =>
    have h3 := hrow1.2.2.2.1 rfl
    subst h3
    have h4 : l = [] := List.eq_nil_of_length_eq_zero (by omega)
    subst h4
    clear hr hlen
    go_wp2
    go_ret
    exact ⟨none, rfl, hfresh, hfr⟩
  | some a =>
    obtain ⟨b1, b2, b3, b4, b5⟩ := hblk1 a rfl
    obtain ⟨g, o, sp⟩ := a
    simp only at b4 b5
    subst b4 b5
    clear hr hblk1
    go_wp2
    go_ret
    exact ⟨some ⟨g, 0, none⟩, rfl, hfresh, hfr⟩

set_option maxHeartbeats 400000 in
theorem done_any (base wb : Nat) (v : Value) (l : List Nat) (w : World) (hw : Wr w base wb v l) (hlen : l.length ≤ 140737488355328) :
    Calls Tryd.prog 67 #[.pointer (some ⟨wb, 0, none⟩)] w fun e w' => ∃ a1, e = .returned (.slice a1 l.length l.length) ∧ Fresh w w' a1 l ∧ Fr (fun _ => False) w w' := by
  obtain ⟨hc, hf, ho, hap⟩ := hw
  obtain ⟨a0, c0, hv, hrow, hblk⟩ := ho.row
  subst hv
  go_enter Tryd.func67, Tryd.ntmps67
  go_wp2_with fail
  refine (own_any a0 l c0 w hrow hlen).mono ?_
  rintro e w1 ⟨a1, rfl, h1, h2⟩
  go_wp2
  go_ret
  exact ⟨a1, rfl, h1, h2⟩
end Go.Proofs.YtlcakglmheleeaaDoor
