/- PolicyBytes: its small lemmas. -/
import Derived.Test.YtlneneacbjkheaaPlaysWalk
import Derived.Test.YtlneneacbjkheaaTapeS
import Derived.Test.YtlneneacbjkheaaDecW
import Derived.Test.YtlneneacbjkheaaStrP
namespace Go.Proofs.Ytlneneacbjkheaa
open Go.RowKit
attribute [local go_sem] run_store_float
theorem lastly_nil : Lastly [] := fun i j _ hj => by simp at hj
theorem lastly_snoc {gs : List Gr} {x : Rl} {em f : Nat} (h : Lastly gs) (he : 1 ≤ em) : Lastly (gs.map (revX x.id em) ++ [⟨x, f, 0⟩]) := by
  intro i j hij hj hid h0
  have hl : (gs.map (revX x.id em)).length = gs.length := List.length_map ..
  have hj' : j < gs.length + 1 := by simpa using hj
  by_cases hjn : j = gs.length
  · subst hjn
    rw [gr_snoc_lt (by omega)] at h0 hid
    rw [gr_map _ hij] at h0 hid
    have hx : gr (gs.map (revX x.id em) ++ [(⟨x, f, 0⟩ : Gr)]) gs.length = ⟨x, f, 0⟩ := by rw [← hl]; exact gr_snoc
    rw [hx, revX_id] at hid
    exact (revX_u he h0).2.1 hid
  · rw [gr_snoc_lt (by omega)] at h0
    rw [gr_snoc_lt (by omega), gr_snoc_lt (by omega)] at hid
    rw [gr_map _ (by omega)] at h0 hid
    rw [gr_map _ (by omega), revX_id, revX_id] at hid
    exact h i j hij (by omega) hid (revX_u he h0).1
theorem sm_snoc {gs : List Gr} {x : Rl} {em f : Nat} (h : ∀ y ∈ gs, y.Sm) (hx : x.Sm) (he : em < 18446744073709551616) (hf : f < 18446744073709551616) : ∀ y ∈ gs.map (revX x.id em) ++ [(⟨x, f, 0⟩ : Gr)], y.Sm := by
  intro y hy
  rcases List.mem_append.1 hy with hy | hy
  · obtain ⟨z, hz, rfl⟩ := List.mem_map.1 hy
    have hz' := h z hz
    unfold revX
    split
    · exact ⟨hz'.r, hz'.f, he⟩
    · exact hz'
  · simp only [List.mem_singleton] at hy
    subst hy
    exact ⟨hx, hf, (by decide : (0 : Nat) < 18446744073709551616)⟩
theorem Rl.Sm.ok {x : Rl} (h : x.Sm) : x.Ok := ⟨h.id, h.lo.1, h.hi.1⟩
theorem Gr.Sm.in {x : Gr} (h : x.Sm) : x.In := ⟨h.r.au, ⟨h.r.fr.1, by have := h.r.fr.2; omega⟩, ⟨h.r.tt.1, by have := h.r.tt.2; omega⟩, ⟨h.r.qu.1, by have := h.r.qu.2; omega⟩⟩
theorem dec_yes (ao : Option Addr) (gs : List Gr) (cap : Nat) (w : World) (hr : Row w ao (encB gs) cap) (hs : ∀ x ∈ gs, x.Sm) (hL : Lastly gs) (hlen : gs.length ≤ 1000) :
    Calls Try.prog 20 #[.slice ao (encB gs).length cap] w fun e w' => Fr (fun _ => False) w w' ∧ ∃ b v, e = .returned (.tuple #[.pointer (some ⟨b, 0, none⟩), .int .i64 0]) ∧ Bk w' b b gs v ∧ w.heap.size ≤ b := by
  refine (dec_any ao (encB gs) cap w hr (by rw [encB_length]; omega)).mono ?_
  rintro e w' ⟨f, ⟨g2, b, v, h1, h2, h3, h4, _, _⟩ | ⟨h1, _⟩⟩
  · rw [decB_enc gs hs hL (by omega)] at h1
    cases h1
    exact ⟨f, b, v, h2, h3, h4⟩
  · rw [decB_enc gs hs hL (by omega)] at h1
    cases h1
theorem dec_back (ao : Option Addr) (l : List Nat) (cap : Nat) (w : World) (hr : Row w ao l cap) (hlen : l.length ≤ 5000) :
    Calls Try.prog 20 #[.slice ao l.length cap] w fun e w' => Fr (fun _ => False) w w' ∧ ((∃ gs b v, e = .returned (.tuple #[.pointer (some ⟨b, 0, none⟩), .int .i64 0]) ∧ Bk w' b b gs v ∧ w.heap.size ≤ b ∧ gs.length ≤ 5000 ∧ encB gs = l ∧ ∀ x ∈ gs, x.In) ∨ e = .returned (.tuple #[.pointer none, .int .i64 5])) := by
  have hb := hr.2.2.1
  refine (dec_any ao l cap w hr (by omega)).mono ?_
  rintro e w' ⟨f, ⟨g2, b, v, h1, h2, h3, h4, h5, h6⟩ | ⟨_, h2⟩⟩
  · exact ⟨f, .inl ⟨g2, b, v, h2, h3, h4, by omega, decB_back l g2 hb h1, h6⟩⟩
  · exact ⟨f, .inr h2⟩
theorem row_set {w : World} {b off cap i x : Nat} {l : List Nat} (h : Row w (some ⟨b, off, none⟩) l cap) (hi : i < l.length) (hx : x < 256) : Row (w.setCell ⟨b, off + i, none⟩ (.int .u8 (x : Int))) (some ⟨b, off, none⟩) (l.set i x) cap := by
  obtain ⟨h1, h2, h3, h4, h5⟩ := h
  refine ⟨by rw [List.length_set]; exact h1, h2, fun y hy => ?_, h4, fun _ => ⟨b, off, rfl, fun j hj => ?_⟩⟩
  · rcases List.mem_or_eq_of_mem_set hy with hy | rfl
    · exact h3 y hy
    · exact hx
  · rw [List.length_set] at hj
    obtain ⟨b', off', he, hc⟩ := h5 (fun e => by rw [e] at hi; simp at hi)
    cases he
    by_cases hji : j = i
    · subst hji
      rw [World.cell?_setCell_same _ _ _ (hc j hj)]
      simp [List.getD_eq_getElem?_getD, hj]
    · rw [World.cell?_setCell_other _ _ _ _ (by simp), hc j hj]
      simp [List.getD_eq_getElem?_getD, Ne.symm hji]
theorem wrap_u8_small (n : Int) (h0 : 0 ≤ n) (h1 : n < 2 ^ 8) : IntKind.u8.wrap n = n := by
  simp [IntKind.wrap, IntKind.bits, IntKind.signed]; omega
theorem xor_u8 (a b : Nat) (ha : a < 256) (hb : b < 256) : bits .xor .u8 (a : Int) (b : Int) = ((a ^^^ b : Nat) : Int) ∧ a ^^^ b < 256 :=
  ⟨bits_xor_nat .u8 8 (by decide) wrap_u8_small a b (by simpa using ha) (by simpa using hb), Nat.xor_lt_two_pow (n := 8) ha hb⟩
end Go.Proofs.Ytlneneacbjkheaa
