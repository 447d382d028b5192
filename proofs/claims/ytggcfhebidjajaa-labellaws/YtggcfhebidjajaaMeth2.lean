/- The least label above two, the greatest below, and all below one. -/
import Derived.Test.YtggcfhebidjajaaMeth
namespace Go.Proofs.Ytggcfhebidjajaa
open Go.RowKit

set_option maxHeartbeats 1000000 in
theorem join_any (w : World) (p bu cu bd bo : Nat) (l : List Nat) (a b : Int) (hf : Fine l) (h : LatAt w p bu cu bd bo l) :
    Calls Try.prog 16 #[.pointer (some ⟨p, 0, none⟩), .int .i64 a, .int .i64 b] w fun e w' => e = .returned (.int .i64 (joinI l a b)) ∧ ∃ q, w' = w.drewN q := by
  have h1 := is_any w p bu cu l a h.c0
  have h2 := is_any w p bu cu l b h.c0
  cases ha : isI l a with
  | false =>
    have HR : Hid (joinI l a b = -1) := by show _ = _; unfold joinI; rw [ha]; rfl
    rw [HR.out]
    rw [ha] at h1
    clear h2 h
    go_enter Try.func16, Try.ntmps16
    go_wp2_with fail
    refine h1.mono ?_
    rintro e w2 ⟨rfl, hw⟩
    subst w2
    go_wp2
    go_ret
    exact ⟨rfl, 0, rfl⟩
  | true =>
    rw [ha] at h1
    cases hb : isI l b with
    | false =>
      have HR : Hid (joinI l a b = -1) := by show _ = _; unfold joinI; rw [hb, Bool.and_false]; rfl
      rw [HR.out]
      rw [hb] at h2
      clear h
      go_enter Try.func16, Try.ntmps16
      go_wp2_with fail
      refine h1.mono ?_
      rintro e w2 ⟨rfl, hw⟩
      subst w2
      go_wp2_with fail
      refine h2.mono ?_
      rintro e w2 ⟨rfl, hw⟩
      subst w2
      go_wp2
      go_ret
      exact ⟨rfl, 0, rfl⟩
    | true =>
      rw [hb] at h2
      have HR : Hid (joinI l a b = Lat.join l a.toNat b.toNat) := by show _ = _; unfold joinI; rw [ha, hb]; rfl
      rw [HR.out]
      obtain ⟨a, rfl, hal⟩ := isI_nat ha
      obtain ⟨b, rfl, hbl⟩ := isI_nat hb
      clear ha hb HR
      have hlen : (l).length = l.length := rfl
      have hbnd : ∀ x ∈ l, x < 18446744073709551616 := hf.lt
      obtain ⟨c, hcl, hcell, Hc⟩ := h.ru.one hbnd a (by rw [hlen]; exact hal)
      obtain ⟨d, hdl, hdell, Hd⟩ := h.ru.one hbnd b (by rw [hlen]; exact hbl)
      rw [Nat.zero_add] at hcell hdell
      have hand := and_cast c d hcl hdl
      have hs : c &&& d < 18446744073709551616 := Nat.lt_of_le_of_lt Nat.and_le_left hcl
      have h3 := fun W hW => nearest_any bu 0 cu (l) (c &&& d) W (by rw [hlen]; have := hf.le; omega) hbnd hs hW
      have HN : Hid (Lat.near (l) (c &&& d) = Lat.join l a b) := by show _ = _; rw [Hc.out, Hd.out]; exact Lat.near_up hf.alone hf.lt a b hal
      rw [HN.out] at h3
      simp only [Int.toNat_natCast]
      
      generalize c &&& d = s at *
      generalize Lat.join l a b = r at *
      have c0 := h.c0
      have hrow := h.ru
      have hA := fun q => (show At .u64 (w.drewN q) bu 0 (l) from hrow)
      clear h
      go_enter Try.func16, Try.ntmps16
      go_wp2_with fail
      refine h1.mono ?_
      rintro e w2 ⟨rfl, hw⟩
      subst w2
      go_wp2_with fail
      refine h2.mono ?_
      rintro e w2 ⟨rfl, hw⟩
      subst w2
      go_wp2
      go_quiet (first | (go_at_call 35; refine Calls.quiet_of_same (h3 _ (hA _))))
      go_wp2
      go_ret
      exact ⟨rfl, _, rfl⟩

set_option maxHeartbeats 1000000 in
theorem meet_any (w : World) (p bu cu bd bo : Nat) (l : List Nat) (a b : Int) (hf : Fine l) (h : LatAt w p bu cu bd bo l) :
    Calls Try.prog 17 #[.pointer (some ⟨p, 0, none⟩), .int .i64 a, .int .i64 b] w fun e w' => e = .returned (.int .i64 (meetI l a b)) ∧ ∃ q, w' = w.drewN q := by
  have h1 := is_any w p bu cu l a h.c0
  have h2 := is_any w p bu cu l b h.c0
  cases ha : isI l a with
  | false =>
    have HR : Hid (meetI l a b = -1) := by show _ = _; unfold meetI; rw [ha]; rfl
    rw [HR.out]
    rw [ha] at h1
    clear h2 h
    go_enter Try.func17, Try.ntmps17
    go_wp2_with fail
    refine h1.mono ?_
    rintro e w2 ⟨rfl, hw⟩
    subst w2
    go_wp2
    go_ret
    exact ⟨rfl, 0, rfl⟩
  | true =>
    rw [ha] at h1
    cases hb : isI l b with
    | false =>
      have HR : Hid (meetI l a b = -1) := by show _ = _; unfold meetI; rw [hb, Bool.and_false]; rfl
      rw [HR.out]
      rw [hb] at h2
      clear h
      go_enter Try.func17, Try.ntmps17
      go_wp2_with fail
      refine h1.mono ?_
      rintro e w2 ⟨rfl, hw⟩
      subst w2
      go_wp2_with fail
      refine h2.mono ?_
      rintro e w2 ⟨rfl, hw⟩
      subst w2
      go_wp2
      go_ret
      exact ⟨rfl, 0, rfl⟩
    | true =>
      rw [hb] at h2
      have HR : Hid (meetI l a b = Lat.meet l a.toNat b.toNat) := by show _ = _; unfold meetI; rw [ha, hb]; rfl
      rw [HR.out]
      obtain ⟨a, rfl, hal⟩ := isI_nat ha
      obtain ⟨b, rfl, hbl⟩ := isI_nat hb
      clear ha hb HR
      have hlen : (Lat.turn l).length = l.length := Lat.turn_length l
      have hbnd : ∀ x ∈ Lat.turn l, x < 18446744073709551616 := Lat.turn_lt (by have := hf.le; omega)
      obtain ⟨c, hcl, hcell, Hc⟩ := h.rd.one hbnd a (by rw [hlen]; exact hal)
      obtain ⟨d, hdl, hdell, Hd⟩ := h.rd.one hbnd b (by rw [hlen]; exact hbl)
      rw [Nat.zero_add] at hcell hdell
      have hand := and_cast c d hcl hdl
      have hs : c &&& d < 18446744073709551616 := Nat.lt_of_le_of_lt Nat.and_le_left hcl
      have h3 := fun W hW => nearest_any bd 0 l.length (Lat.turn l) (c &&& d) W (by rw [hlen]; have := hf.le; omega) hbnd hs hW
      have HN : Hid (Lat.near (Lat.turn l) (c &&& d) = Lat.meet l a b) := by show _ = _; rw [Hc.out, Hd.out]; exact Lat.near_down (by have := hf.le; omega) a b hal hbl
      rw [HN.out] at h3
      simp only [Int.toNat_natCast]
      rw [hlen] at h3
      generalize c &&& d = s at *
      generalize Lat.meet l a b = r at *
      have c0 := h.c1
      have hrow := h.rd
      have hA := fun q => (show At .u64 (w.drewN q) bd 0 (Lat.turn l) from hrow)
      clear h
      go_enter Try.func17, Try.ntmps17
      go_wp2_with fail
      refine h1.mono ?_
      rintro e w2 ⟨rfl, hw⟩
      subst w2
      go_wp2_with fail
      refine h2.mono ?_
      rintro e w2 ⟨rfl, hw⟩
      subst w2
      go_wp2
      go_quiet (first | (go_at_call 35; refine Calls.quiet_of_same (h3 _ (hA _))))
      go_wp2
      go_ret
      exact ⟨rfl, _, rfl⟩
end Go.Proofs.Ytggcfhebidjajaa
