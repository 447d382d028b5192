/- octet: bytes, laid and read. -/
import Derived.Test.YtaalkhipncbjpaaORead
import Derived.Test.YtaalkhipncbjpaaOLayR
namespace Go.Proofs.Ytaalkhipncbjpaa
open Go.RowKit
theorem wbytes_any (base wb : Nat) (v : Value) (l : List Nat) (ao : Option Addr) (m : List Nat) (cap : Nat) (w : World) (hw : Wr w base wb v l) (hr : Row w ao m cap) (hap : m ≠ [] → ∀ a, ao = some a → a.block < base) (hwb : base ≤ wb) (hb : base ≤ w.heap.size) (hlen : l.length + m.length + 8 ≤ 140737488355328) :
    Calls Try.prog 60 #[.pointer (some ⟨wb, 0, none⟩), .slice ao m.length cap] w fun e w' => e = .returned (.pointer (some ⟨wb, 0, none⟩)) ∧ ∃ v', Wr w' base wb v' (l ++ Crc.le 4 m.length ++ m) ∧ Later w wb v w' v' := by
  have hown := hw.own.lt
  have hnum := wnum_any base wb v l m.length 4 w hw hb (by omega) (by omega) (by omega)
  have hlen' : (l ++ Crc.le 4 m.length).length + m.length ≤ 140737488355328 := by rw [List.length_append, Crc.le_length]; omega
  have hml : m.length < 9223372036854775808 := by omega
  generalize l ++ Crc.le 4 m.length = l1 at *
  go_enter Try.func60, Try.ntmps60
  go_wp2_with fail
  refine hnum.mono ?_
  rintro e w1 ⟨rfl, v1, h1, k1⟩
  have hr1 : Row w1 ao m cap := k1.fr.row hr (fun hm a ha hs => by
    have := hap hm a ha
    rcases hs with hs | hs
    · omega
    · have := hown _ hs; omega)
  go_wp2_with fail
  refine (lay_any base wb v1 l1 ao m cap w1 h1 hr1 (Nat.le_trans hb k1.fr.size) hlen').mono ?_
  rintro e w2 ⟨rfl, v2, h2, k2⟩
  go_wp2
  go_ret
  exact ⟨rfl, v2, h2, k1.trans k2⟩
theorem Row.lt {w : World} {ao : Option Addr} {l : List Nat} {cap : Nat} (h : Row w ao l cap) (hl : l ≠ []) : ∀ a, ao = some a → a.block < w.heap.size := by
  intro a ha
  obtain ⟨b, off, he, hc⟩ := h.2.2.2.2 hl
  rw [he] at ha
  cases ha
  exact World.block_lt_of_cell? _ _ (hc 0 (by cases l; exact absurd rfl hl; simp))
theorem Wr.fr {w w1 : World} {base wb : Nat} {v : Value} {l : List Nat} (h : Wr w base wb v l) (f : Fr (fun _ => False) w w1) : Wr w1 base wb v l :=
  ⟨f.cell h.cell (by simp), (f.frozenEq (World.block_lt_of_cell? _ _ h.cell) (by simp)).trans h.free, h.own.fr f (by simp), h.apart⟩
/-- a length that is none. -/
theorem bytes_bad (w : World) (rb : Nat) (ao : Option Addr) (l : List Nat) (cap : Nat) (bad : Bool) (most : Int) (h : Rd w rb ao l cap bad) (hi : most ≤ 9223372036854775807) (hb : l.length < 4 ∨ (bad = false ∧ 4 ≤ l.length ∧ (most < 0 ∨ most < (Crc.num (l.take 4) : Int)))) : Calls Try.prog 67 #[.pointer (some ⟨rb, 0, none⟩), .int .i64 most] w fun e w' =>
    ∃ a1, e = .returned (.slice a1 0 0) ∧ Fresh w w' a1 [] ∧ Rd w' rb none [] 0 true ∧ Fr (fun k => k = rb) w w' := by
  have hc : Calls Try.prog 65 #[.pointer (some ⟨rb, 0, none⟩), .int .i64 most] w fun e w' => e = .returned (.int .i64 0) ∧ Rd w' rb none [] 0 true ∧ Fr (fun k => k = rb) w w' := by
    rcases hb with hb | ⟨rfl, hl, hb⟩
    · exact count_short w rb ao l cap bad most hi h hb
    · exact count_much w rb ao l cap most h hl hi hb
  clear hb
  go_enter Try.func67, Try.ntmps67
  go_wp2_with fail
  refine hc.mono ?_
  rintro e w1 ⟨rfl, h1, h2⟩
  go_wp2_with fail
  refine (take_none w1 rb none [] 0 h1).mono ?_
  rintro e w2 ⟨rfl, hw2⟩
  subst w2
  go_wp2_with fail
  refine (own_anyO none [] 0 w1 (row_nilO w1) (by simp)).mono ?_
  rintro e w2 ⟨a1, rfl, h3, h4⟩
  go_wp2
  go_ret
  exact ⟨a1, rfl, ⟨h3.1, fun a ha => by have := h3.2 a ha; have hs := h2.size; exact ⟨by omega, this.2⟩⟩, h1.fr h4 (by simp) (by simp), h2.trans (h4.mono (fun _ _ h => h.elim))⟩
/-- a length beyond what is left. -/
theorem bytes_long (w : World) (rb : Nat) (ao : Option Addr) (l : List Nat) (cap m : Nat) (h : Rd w rb ao l cap false) (hi : m ≤ 9223372036854775807) (hl : 4 ≤ l.length) (hm : Crc.num (l.take 4) ≤ m) (hx : l.length - 4 < Crc.num (l.take 4)) : Calls Try.prog 67 #[.pointer (some ⟨rb, 0, none⟩), .int .i64 (m : Int)] w fun e w' =>
    ∃ a1, e = .returned (.slice a1 0 0) ∧ Fresh w w' a1 [] ∧ Rd w' rb none [] 0 true ∧ Fr (fun k => k = rb) w w' := by
  have hc := count_ok w rb ao l cap m h hl hi hm
  have hld : (l.drop 4).length = l.length - 4 := by simp
  generalize Crc.num (l.take 4) = q at *
  go_enter Try.func67, Try.ntmps67
  go_wp2_with fail
  refine hc.mono ?_
  rintro e w1 ⟨rfl, a1, h1, h2, _⟩
  go_wp2_with fail
  refine (take_bad w1 rb a1 (l.drop 4) (cap - 4) false q h1 (.inr (by omega))).mono ?_
  rintro e w2 ⟨rfl, h3, h4⟩
  go_wp2_with fail
  refine (own_anyO none [] 0 w2 (row_nilO w2) (by simp)).mono ?_
  rintro e w3 ⟨a3, rfl, h5, h6⟩
  go_wp2
  go_ret
  exact ⟨a3, rfl, ⟨h5.1, fun a ha => by have := h5.2 a ha; have hs := (h2.trans h4).size; exact ⟨by omega, this.2⟩⟩, h3.fr h6 (by simp) (by simp), (h2.trans h4).trans (h6.mono (fun _ _ h => h.elim))⟩
/-- bytes that are there. -/
theorem bytes_ok (w : World) (rb : Nat) (ao : Option Addr) (l : List Nat) (cap m : Nat) (h : Rd w rb ao l cap false) (hi : m ≤ 140737488355328) (hl : 4 ≤ l.length) (hm : Crc.num (l.take 4) ≤ m) (hx : Crc.num (l.take 4) ≤ l.length - 4) : Calls Try.prog 67 #[.pointer (some ⟨rb, 0, none⟩), .int .i64 (m : Int)] w fun e w' =>
    ∃ a1 a2 c2, e = .returned (.slice a1 (Crc.num (l.take 4)) (Crc.num (l.take 4))) ∧ Fresh w w' a1 ((l.drop 4).take (Crc.num (l.take 4))) ∧ Rd w' rb a2 ((l.drop 4).drop (Crc.num (l.take 4))) c2 false ∧ Fr (fun k => k = rb) w w' ∧ ∀ a, a2 = some a → ∃ a0, ao = some a0 ∧ a.block = a0.block := by
  have hc := count_ok w rb ao l cap m h hl (by omega) hm
  have hld : (l.drop 4).length = l.length - 4 := by simp
  have hlt : ((l.drop 4).take (Crc.num (l.take 4))).length = Crc.num (l.take 4) := by simp; omega
  generalize Crc.num (l.take 4) = q at *
  go_enter Try.func67, Try.ntmps67
  go_wp2_with fail
  refine hc.mono ?_
  rintro e w1 ⟨rfl, a1, h1, h2, k1⟩
  go_wp2_with fail
  refine (take_ok w1 rb a1 (l.drop 4) (cap - 4) q h1 (by omega)).mono ?_
  rintro e w2 ⟨rfl, a2, h3, h3r, h4, k2⟩
  have hown := own_anyO a1 ((l.drop 4).take q) q w2 h3r (by omega)
  rw [hlt] at hown
  go_wp2_with fail
  refine hown.mono ?_
  rintro e w3 ⟨a3, rfl, h5, h6⟩
  go_wp2
  go_ret
  refine ⟨a3, a2, cap - 4 - q, rfl, ⟨h5.1, fun a ha => by have := h5.2 a ha; have hs := (h2.trans h4).size; exact ⟨by omega, this.2⟩⟩, h3.fr h6 (by simp) (by simp), (h2.trans h4).trans (h6.mono (fun _ _ h => h.elim)), fun a ha => ?_⟩
  obtain ⟨x, hx1, hx2⟩ := k2 a ha
  obtain ⟨y, hy1, hy2⟩ := k1 x hx1
  exact ⟨y, hy1, hx2.trans hy2⟩
theorem bytes_gen {w : World} {rb : Nat} {ao : Option Addr} {cap : Nat} {s : Rs} (m : Nat) (h : Rd w rb ao s.l cap s.bad) (hm : m ≤ 140737488355328) :
    Calls Try.prog 67 #[.pointer (some ⟨rb, 0, none⟩), .int .i64 (m : Int)] w fun e w' => ∃ a1 q s1 a2 c2, e = .returned (.slice a1 (q : List Nat).length q.length) ∧ Fresh w w' a1 q ∧ Hid (q = bytV s m) ∧ Hid (s1 = bytS s m) ∧ q.length ≤ m ∧ Rd w' rb a2 (s1 : Rs).l c2 s1.bad ∧ Fr (fun k => k = rb) w w' := by
  obtain ⟨l, bad⟩ := s
  simp only at h
  by_cases hh : (⟨l, bad⟩ : Rs).byt m
  · have e1 : bytV ⟨l, bad⟩ m = (l.drop 4).take (Crc.num (l.take 4)) := by unfold bytV; rw [if_pos hh]
    have e2 : bytS ⟨l, bad⟩ m = ⟨(l.drop 4).drop (Crc.num (l.take 4)), false⟩ := by unfold bytS; rw [if_pos hh]
    obtain ⟨⟨⟨hb, h4⟩, hc⟩, hx⟩ := hh
    simp only at hb h4 hc hx
    subst hb
    have hl : ((l.drop 4).take (Crc.num (l.take 4))).length = Crc.num (l.take 4) := by rw [List.length_take, List.length_drop]; exact Nat.min_eq_left hx
    refine (bytes_ok w rb ao l cap m h hm h4 hc hx).mono ?_
    rintro e w' ⟨a1, a2, c2, rfl, hf, h1, f, _⟩
    exact ⟨a1, _, _, a2, c2, by rw [hl], hf, e1.symm, rfl, by rw [hl]; exact hc, by rw [e2]; exact h1, f⟩
  · have e1 : bytV ⟨l, bad⟩ m = [] := by unfold bytV; rw [if_neg hh]
    have e2 : bytS ⟨l, bad⟩ m = ⟨[], true⟩ := by unfold bytS; rw [if_neg hh]
    have key : Calls Try.prog 67 #[.pointer (some ⟨rb, 0, none⟩), .int .i64 (m : Int)] w fun e w' => ∃ a1, e = .returned (.slice a1 0 0) ∧ Fresh w w' a1 [] ∧ Rd w' rb none [] 0 true ∧ Fr (fun k => k = rb) w w' := by
      by_cases h4 : l.length < 4
      · exact bytes_bad w rb ao l cap bad m h (by omega) (.inl h4)
      · cases bad with
        | true => have := h.none rfl; subst this; simp at h4
        | false =>
          by_cases hc : Crc.num (l.take 4) ≤ m
          · refine bytes_long w rb ao l cap m h (by omega) (by omega) hc ?_
            have : ¬ Crc.num (l.take 4) ≤ l.length - 4 := fun hx => hh ⟨⟨⟨rfl, by show 4 ≤ l.length; omega⟩, hc⟩, hx⟩
            omega
          · exact bytes_bad w rb ao l cap false m h (by omega) (.inr ⟨rfl, by omega, .inr (by omega)⟩)
    refine key.mono ?_
    rintro e w' ⟨a1, rfl, hf, h1, f⟩
    exact ⟨a1, [], _, none, 0, rfl, hf, e1.symm, rfl, Nat.zero_le _, by rw [e2]; exact h1, f⟩
end Go.Proofs.Ytaalkhipncbjpaa
