/- config.New and the document's check, of any config. -/
import Derived.Test.YtjbkmflbhlnbpaaChkB
import Derived.Test.YtjbkmflbhlnbpaaChkC
namespace Go.Proofs.Ytjbkmflbhlnbpaa
open Go.RowKit

def CameU (w : World) (ao : Option Addr) (l : List Nat) : Prop := l.length ≤ maxLen ∧ (∀ x ∈ l, x < 18446744073709551616) ∧ (l ≠ [] → ∃ b off, ao = some ⟨b, off, none⟩ ∧ At .u64 w b off l)
theorem CameU.fr {w w1 : World} {ao : Option Addr} {l : List Nat} (h : CameU w ao l) (f : Fr (fun _ => False) w w1) : CameU w1 ao l :=
  ⟨h.1, h.2.1, fun hn => by obtain ⟨b, off, e, hc⟩ := h.2.2 hn; exact ⟨b, off, e, hc.fr f (by simp)⟩⟩
set_option maxHeartbeats 400000 in
theorem check_arg (ao : Option Addr) (n cap : Nat) (w : World) (h : n = 0 ∨ 16 < n) (hm : n ≤ maxLen) :
    Calls Try.prog 36 #[.slice ao n cap] w fun e w' => e = .returned (.int .i64 1) ∧ w' = w := by
  unfold maxLen at hm
  rcases h with rfl | h
  · go_enter Try.func36, Try.ntmps36
    go_wp2
    go_ret
    exact ⟨rfl, rfl⟩
  · have h0 : ¬ (n : Int) < 1 := by omega
    have h16 : 16 < (n : Int) := by omega
    go_enter Try.func36, Try.ntmps36
    go_wp2
    go_ret
    exact ⟨rfl, rfl⟩
theorem cnew_right (g off c : Nat) (L cl : List Nat) (ao : Option Addr) (cap : Nat) (nodes frame depth quota wide beat elect : Int) (w : World) (h1 : 0 < L.length) (h2 : L.length ≤ 16) (h3 : ∀ x ∈ L, x < 18446744073709551616) (h4 : Lat.ok L = true) (hA : At .u64 w g off L) (hf : FRow w ao cl cap) (hB : InB cl.length (rises cl) nodes frame depth quota wide beat elect) (hnone : ao = none → cap = 0) :
    Calls Try.prog 10 #[.agg (cfg (.slice (some ⟨g, off, none⟩) L.length c) nodes (.slice ao cl.length cap) frame depth quota wide beat elect)] w fun e w' => (∃ p, e = madeAt p) ∧ Fr (fun _ => False) w w' := by
  obtain ⟨b1, b2, hr, b4, b5, b6, b7, b8, b9, b10⟩ := hB
  by_cases hl : cl = []
  · subst hl
    cases ao with
    | none =>
      have := hnone rfl
      subst this
      exact (cnew_none g off c L nodes frame depth quota wide beat elect w b1 b4 b5 b6 b7 b8 b9 b10 h2 h1 h3 hA h4).mono fun e w' ⟨p, he, hP, _, hfr⟩ => ⟨⟨p, he⟩, hfr⟩
    | some ad =>
      refine (cnew_empty g off c ad cap L nodes frame depth quota wide beat elect w b1 (fun W fW => ?_) b4 b5 b6 b7 b8 b9 b10 h2 h1 h3 hA h4).mono fun e w' ⟨p, g2, c2, he, hP, _, hfr⟩ => ⟨⟨p, he⟩, hfr⟩
      have := rising_nil (some ad) cap W
      rw [hr] at this
      exact this
  · obtain ⟨b, off2, rfl, hc⟩ := hf.2.2.2 hl
    refine (cnew_cuts g off c b off2 cap L cl nodes frame depth quota wide beat elect w b1 (by omega) (List.length_pos_iff.2 hl) (fun W fW => ?_) b4 b5 b6 b7 b8 b9 b10 h2 h1 h3 hA h4 hc).mono fun e w' ⟨p, g2, c2, he, hP, hAF, _, hfr⟩ => ⟨⟨p, he⟩, hfr⟩
    have := rising_any (some ⟨b, off2, none⟩) cl cap W (hf.fr fW)
    rw [hr] at this
    exact this
/-- what config.New answers, and the document. -/
theorem both (ao2 : Option Addr) (cap2 : Nat) (L cl : List Nat) (ao : Option Addr) (cap : Nat) (nodes frame depth quota wide beat elect : Int) (w : World) (hU : CameU w ao2 L) (hf : FRow w ao cl cap) (hnone : ao = none → cap = 0) :
    ∃ R : Int, (∀ W, Fr (fun _ => False) w W → Calls Try.prog 10 #[.agg (cfg (.slice ao2 L.length cap2) nodes (.slice ao cl.length cap) frame depth quota wide beat elect)] W fun e w' => ((R = 0 ∧ ∃ p, e = madeAt p) ∨ ((R == 0) = false ∧ e = nilErr R)) ∧ Fr (fun _ => False) W w') ∧
      (∀ W, Fr (fun _ => False) w W → Calls Try.prog 11 #[.agg (cfg (.slice ao2 L.length cap2) nodes (.slice ao cl.length cap) frame depth quota wide beat elect)] W fun e w' => e = .returned (.int .i64 R) ∧ Fr (fun _ => False) W w') := by
  have hr1 : ∀ W0, Fr (fun _ => False) w W0 → ∀ W, Fr (fun _ => False) W0 W → Calls Try.prog 48 #[.slice ao cl.length cap] W fun e w' => e = .returned (.bool (rises cl)) ∧ ∃ q, w' = W.drewN q := fun W0 f0 W fW => rising_any ao cl cap W (hf.fr (f0.trans fW))
  have hr2 : ∀ W0, Fr (fun _ => False) w W0 → ∀ W, Fr (fun _ => False) W0 W → Calls Try.prog 13 #[.slice ao cl.length cap] W fun e w' => e = .returned (.bool (rises cl)) ∧ ∃ q, w' = W.drewN q := fun W0 f0 W fW => refrising_any ao cl cap W (hf.fr (f0.trans fW))
  by_cases hB : InB cl.length (rises cl) nodes frame depth quota wide beat elect
  case neg =>
    exact ⟨1, fun W f => (cnew_bad1 ao2 L.length cap2 ao cl.length cap (rises cl) nodes frame depth quota wide beat elect W (hr1 W f) hB).mono fun e w' ⟨he, hfr⟩ => ⟨.inr ⟨rfl, he⟩, hfr⟩,
      fun W f => rcheck_bad (.slice ao2 L.length cap2) ao cl.length cap (rises cl) nodes frame depth quota wide beat elect W (hr2 W f) hB⟩
  have hB' := hB
  obtain ⟨b1, b2, hr, b4, b5, b6, b7, b8, b9, b10⟩ := hB'
  have ref : ∀ R : Int, (∀ W, Fr (fun _ => False) w W → Calls Try.prog 36 #[.slice ao2 L.length cap2] W fun e w' => e = .returned (.int .i64 R) ∧ w' = W) → ∀ W, Fr (fun _ => False) w W → Calls Try.prog 11 #[.agg (cfg (.slice ao2 L.length cap2) nodes (.slice ao cl.length cap) frame depth quota wide beat elect)] W fun e w' => e = .returned (.int .i64 R) ∧ Fr (fun _ => False) W w' := fun R hk W f =>
    rcheck_16 ao2 L.length cap2 ao cl.length cap (rises cl) nodes frame depth quota wide beat elect W b1.1 b1.2 b2 hr b4.1 b4.2 b5.1 b5.2 b6.1 b6.2 b7.1 b7.2 b8 b9 b10 (hr2 W f) R (fun W2 f2 => hk W2 (f.trans f2))
  have hBt : InB cl.length true nodes frame depth quota wide beat elect := ⟨b1, b2, rfl, b4, b5, b6, b7, b8, b9, b10⟩
  have hr1' := hr1
  rw [hr] at hr1'
  by_cases hn : L.length = 0 ∨ 16 < L.length
  · exact ⟨1, fun W f => (cnew_bad2 ao2 L.length cap2 ao cl.length cap nodes frame depth quota wide beat elect W (hr1' W f) hBt 1 rfl (fun W2 f2 => (new_arg ao2 L.length cap2 W2 hn hU.1).mono fun e w' ⟨he, hw⟩ => ⟨he, by subst hw; exact Fr.refl _ _⟩)).mono fun e w' ⟨he, hfr⟩ => ⟨.inr ⟨rfl, he⟩, hfr⟩,
      ref 1 fun W f => check_arg ao2 L.length cap2 W hn hU.1⟩
  · have hp : 0 < L.length := by omega
    have h16 : L.length ≤ 16 := by omega
    obtain ⟨b, off, rfl, hc⟩ := hU.2.2 (List.ne_nil_of_length_pos hp)
    cases hok : Lat.ok L with
    | false =>
      exact ⟨15, fun W f => (cnew_bad2 (some ⟨b, off, none⟩) L.length cap2 ao cl.length cap nodes frame depth quota wide beat elect W (hr1' W f) hBt 15 rfl (fun W2 f2 => new_bad b off cap2 L W2 h16 hp hU.2.1 (hc.fr (f.trans f2) (by simp)) hok)).mono fun e w' ⟨he, hfr⟩ => ⟨.inr ⟨rfl, he⟩, hfr⟩,
        ref 15 fun W f => by have := check_any b off cap2 L W h16 hp hU.2.1 (hc.fr f (by simp)); rw [hok] at this; exact this⟩
    | true =>
      exact ⟨0, fun W f => (cnew_right b off cap2 L cl ao cap nodes frame depth quota wide beat elect W hp h16 hU.2.1 hok (hc.fr f (by simp)) (hf.fr f) hB hnone).mono fun e w' ⟨he, hfr⟩ => ⟨.inl ⟨rfl, he⟩, hfr⟩,
        ref 0 fun W f => by have := check_any b off cap2 L W h16 hp hU.2.1 (hc.fr f (by simp)); rw [hok] at this; exact this⟩
end Go.Proofs.Ytjbkmflbhlnbpaa
