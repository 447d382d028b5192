/- A lattice in memory, and what each question about it answers. -/
import Derived.Test.YtggcfhebidjajaaOwn
import Derived.Test.YtggcfhebidjajaaRef
namespace Go.Proofs.Ytggcfhebidjajaa
open Go.RowKit

/-- A LATTICE AS IT LIES. -/
structure LatAt (w : World) (p bu cu bd bo : Nat) (l : List Nat) : Prop where
  c0 : w.cell? ⟨p, 0, none⟩ = some (.slice (some ⟨bu, 0, none⟩) l.length cu)
  c1 : w.cell? ⟨p, 1, none⟩ = some (.slice (some ⟨bd, 0, none⟩) l.length l.length)
  c2 : w.cell? ⟨p, 2, none⟩ = some (.slice (some ⟨bo, 0, none⟩) l.length l.length)
  ru : At .u64 w bu 0 l
  rd : At .u64 w bd 0 (Lat.turn l)
  ro : At .i64 w bo 0 (Lat.order l)
/-- WHAT IS ASKED OF THE LABELS. -/
structure Fine (l : List Nat) : Prop where
  pos : 0 < l.length
  le : l.length ≤ 16
  lt : ∀ x ∈ l, x < 18446744073709551616
  alone : Lat.alone l = true
section
variable {w w1 : World} {p bu cu bd bo : Nat} {l : List Nat} {S : Nat → Prop}
theorem LatAt.fr (h : LatAt w p bu cu bd bo l) (f : Fr (fun _ => False) w w1) : LatAt w1 p bu cu bd bo l :=
  ⟨f.cell h.c0 (by simp), f.cell h.c1 (by simp), f.cell h.c2 (by simp), h.ru.fr f (by simp), h.rd.fr f (by simp), h.ro.fr f (by simp)⟩
end
def isI (l : List Nat) (a : Int) : Bool := decide (0 ≤ a) && decide (a < l.length)
def joinI (l : List Nat) (a b : Int) : Int := if isI l a && isI l b then Lat.join l a.toNat b.toNat else -1
def meetI (l : List Nat) (a b : Int) : Int := if isI l a && isI l b then Lat.meet l a.toNat b.toNat else -1
def rankI (l : List Nat) (a : Int) : Int := if isI l a then Lat.first (fun i => (Lat.order l).getD i 0 == a.toNat) l.length else -1
theorem isI_in (l : List Nat) (a : Nat) (h : a < l.length) : isI l (a : Int) = true := by simp [isI, h]
theorem isI_nat {l : List Nat} {a : Int} (h : isI l a = true) : ∃ n : Nat, a = n ∧ n < l.length := by
  simp [isI] at h
  exact ⟨a.toNat, by omega, by omega⟩
theorem leq_isI (l : List Nat) (a b : Int) (h : (isI l a && isI l b) = false) : Lat.leq l a b = false := by
  apply leq_out
  simp only [isI, Bool.and_eq_false_iff, decide_eq_false_iff_not] at h
  omega

set_option maxHeartbeats 400000 in
theorem len_any (w : World) (p bu cu : Nat) (l : List Nat) (c0 : w.cell? ⟨p, 0, none⟩ = some (.slice (some ⟨bu, 0, none⟩) l.length cu)) :
    Calls Try.prog 15 #[.pointer (some ⟨p, 0, none⟩)] w fun e w' => e = .returned (.int .i64 (l.length : Int)) ∧ w' = w := by
  go_enter Try.func15, Try.ntmps15
  go_wp2
  go_ret
  exact ⟨rfl, rfl⟩
set_option maxHeartbeats 400000 in
theorem is_any (w : World) (p bu cu : Nat) (l : List Nat) (a : Int) (c0 : w.cell? ⟨p, 0, none⟩ = some (.slice (some ⟨bu, 0, none⟩) l.length cu)) :
    Calls Try.prog 23 #[.pointer (some ⟨p, 0, none⟩), .int .i64 a] w fun e w' => e = .returned (.bool (isI l a)) ∧ w' = w := by
  have h1 := len_any w p bu cu l c0
  clear c0
  by_cases ha : 0 ≤ a
  · by_cases hb : a < l.length
    · have : isI l a = true := by simp [isI, ha, hb]
      rw [this]
      go_enter Try.func23, Try.ntmps23
      go_wp2_with fail
      refine h1.mono ?_
      rintro e w2 ⟨rfl, hw⟩
      subst w2
      go_wp2
      go_ret
      exact ⟨rfl, rfl⟩
    · have : isI l a = false := by simp [isI, hb]
      rw [this]
      go_enter Try.func23, Try.ntmps23
      go_wp2_with fail
      refine h1.mono ?_
      rintro e w2 ⟨rfl, hw⟩
      subst w2
      go_wp2
      go_ret
      exact ⟨ret_bool (decide_eq_false (by omega)), rfl⟩
  · have : isI l a = false := by simp [isI, ha]
    rw [this]
    go_enter Try.func23, Try.ntmps23
    go_wp2
    go_ret
    exact ⟨rfl, rfl⟩
set_option maxHeartbeats 400000 in
theorem leq_any (w : World) (p bu cu bd bo : Nat) (l : List Nat) (a b : Int) (hf : Fine l) (h : LatAt w p bu cu bd bo l) :
    Calls Try.prog 18 #[.pointer (some ⟨p, 0, none⟩), .int .i64 a, .int .i64 b] w fun e w' => e = .returned (.bool (Lat.leq l a b)) ∧ w' = w := by
  have h1 := is_any w p bu cu l a h.c0
  have h2 := is_any w p bu cu l b h.c0
  cases ha : isI l a with
  | false =>
    rw [leq_isI l a b (by rw [ha]; rfl)]
    rw [ha] at h1
    clear h2 h
    go_enter Try.func18, Try.ntmps18
    go_wp2_with fail
    refine h1.mono ?_
    rintro e w2 ⟨rfl, hw⟩
    subst w2
    go_wp2
    go_ret
    exact ⟨rfl, rfl⟩
  | true =>
    rw [ha] at h1
    cases hb : isI l b with
    | false =>
      rw [leq_isI l a b (by rw [hb, Bool.and_false])]
      rw [hb] at h2
      clear h
      go_enter Try.func18, Try.ntmps18
      go_wp2_with fail
      refine h1.mono ?_
      rintro e w2 ⟨rfl, hw⟩
      subst w2
      go_wp2_with fail
      refine h2.mono ?_
      rintro e w2 ⟨rfl, hw⟩
      subst w2
      go_wp2
      go_ret
      exact ⟨rfl, rfl⟩
    | true =>
      rw [hb] at h2
      obtain ⟨a, rfl, hal⟩ := isI_nat ha
      obtain ⟨b, rfl, hbl⟩ := isI_nat hb
      clear ha hb
      rw [leq_in l a b hal hbl]
      obtain ⟨c, hcl, hcell, Hc⟩ := h.ru.one hf.lt a hal
      rw [Nat.zero_add] at hcell
      have h3 := fun W => has_any c b W hcl (by have := hf.le; omega)
      have c0 := h.c0
      have HR : Hid (c.testBit b = Lat.rel l a b) := by show _ = _; rw [Hc.out]; rfl
      rw [← HR.out]
      clear h
      go_enter Try.func18, Try.ntmps18
      go_wp2_with fail
      refine h1.mono ?_
      rintro e w2 ⟨rfl, hw⟩
      subst w2
      go_wp2_with fail
      refine h2.mono ?_
      rintro e w2 ⟨rfl, hw⟩
      subst w2
      go_wp2_with fail
      refine (h3 _).mono ?_
      rintro e w2 ⟨rfl, hw⟩
      subst w2
      go_wp2
      go_ret
      exact ⟨rfl, rfl⟩
set_option maxHeartbeats 400000 in
theorem bottom_any (w : World) (p bu cu bd bo : Nat) (l : List Nat) (hf : Fine l) (h : LatAt w p bu cu bd bo l) :
    Calls Try.prog 19 #[.pointer (some ⟨p, 0, none⟩)] w fun e w' => e = .returned (.int .i64 (((Lat.order l).getD 0 0 : Nat) : Int)) ∧ w' = w := by
  have h1 := len_any w p bu cu l h.c0
  have hp := hf.pos
  have c2 := h.c2
  have hcell := h.ro 0 (by rw [Lat.order_length]; exact hp)
  obtain ⟨x, Hx⟩ : ∃ x, Hid ((Lat.order l).getD 0 0 = x) := ⟨_, rfl⟩
  rw [Hx.out] at hcell ⊢
  clear h
  go_enter Try.func19, Try.ntmps19
  go_wp2_with fail
  refine h1.mono ?_
  rintro e w2 ⟨rfl, hw⟩
  subst w2
  go_wp2
  go_ret
  exact ⟨rfl, rfl⟩
set_option maxHeartbeats 400000 in
theorem top_any (w : World) (p bu cu bd bo : Nat) (l : List Nat) (hf : Fine l) (h : LatAt w p bu cu bd bo l) :
    Calls Try.prog 20 #[.pointer (some ⟨p, 0, none⟩)] w fun e w' => e = .returned (.int .i64 (((Lat.order l).getD (l.length - 1) 0 : Nat) : Int)) ∧ ∃ q, w' = w.drewN q := by
  have h1 := len_any w p bu cu l h.c0
  have hp := hf.pos
  have hle := hf.le
  have c2 := h.c2
  obtain ⟨n, hn, Hn⟩ : ∃ n : Nat, (l.length : Int) - 1 = (n : Int) ∧ Hid (n = l.length - 1) := ⟨l.length - 1, by omega, rfl⟩
  have hcell := h.ro n (by rw [Lat.order_length]; have := Hn.out; omega)
  rw [Nat.zero_add] at hcell
  obtain ⟨x, Hx⟩ : ∃ x, Hid ((Lat.order l).getD n 0 = x) := ⟨_, rfl⟩
  rw [← Hn.out]
  rw [Hx.out] at hcell ⊢
  have hi : (n : Int) < (l.length : Int) := by omega
  have hi0 : 0 ≤ (n : Int) := by omega
  clear h
  go_enter Try.func20, Try.ntmps20
  go_wp2_with fail
  refine h1.mono ?_
  rintro e w2 ⟨rfl, hw⟩
  subst w2
  go_wp2
  go_quiet (fail)
  go_wp2
  go_ret
  exact ⟨rfl, _, rfl⟩
set_option maxHeartbeats 400000 in
theorem index_any (b cap : Nat) (l : List Nat) (x : Nat) (w : World) (hl : l.length ≤ 64) (hc : At .i64 w b 0 l) :
    Calls Try.prog 37 #[.slice (some ⟨b, 0, none⟩) l.length cap, .int .i64 (x : Int)] w fun e w' => e = .returned (.int .i64 (Lat.first (fun i => l.getD i 0 == x) l.length)) ∧ w' = w := by
  go_enter Try.func37, Try.ntmps37
  go_wp2
  go_loop [5, 8] (fun _ i => ∃ k : Nat, k ≤ l.length ∧ i = .int .i64 (k : Int) ∧ Hid (∀ j, j < k → (l.getD j 0 == x) = false)) (fun _ i => l.length - (intOf i).toNat)
  case atStart => exact ⟨0, Nat.zero_le _, rfl, fun j hj => by omega⟩
  case round =>
    obtain ⟨k, hk, rfl, Hn⟩ := hrel
    by_cases hlt : k < l.length
    · obtain ⟨c, hcell, Hc⟩ : ∃ c : Nat, w.cell? ⟨b, k, none⟩ = some (.int .i64 (c : Int)) ∧ Hid (c = l.getD k 0) := ⟨_, by have := hc k hlt; rwa [Nat.zero_add] at this, rfl⟩
      by_cases hz : c = x
      · have HF : Hid (Lat.first (fun i => l.getD i 0 == x) l.length = (k : Int)) := Lat.first_at hlt (by rw [← Hc.out, hz]; simp) Hn.out
        have hz' : (x : Int) = (c : Int) := by omega
        clear hz
        go_wp2
        go_ret
        exact ⟨ret_int HF.out.symm, rfl⟩
      · have hz' : ¬ (x : Int) = (c : Int) := by omega
        have HF : Hid (∀ j, j < k + 1 → (l.getD j 0 == x) = false) := fun j hj => by
          rcases Nat.lt_succ_iff_lt_or_eq.1 hj with h | h
          · exact Hn.out j h
          · subst h; rw [← Hc.out]; simpa using hz
        clear hz
        go_wp2
        go_round
        case rel => exact ⟨k + 1, by omega, by go_num, HF.out⟩
        case measure => simp [intOf]; omega
    · have hfin : Hid (Lat.first (fun i => l.getD i 0 == x) l.length = -1) := Lat.first_none (fun j hj => Hn.out j (by omega))
      go_wp2
      go_ret
      exact ⟨ret_int hfin.out.symm, rfl⟩
set_option maxHeartbeats 400000 in
theorem rank_any (w : World) (p bu cu bd bo : Nat) (l : List Nat) (a : Int) (hf : Fine l) (h : LatAt w p bu cu bd bo l) :
    Calls Try.prog 21 #[.pointer (some ⟨p, 0, none⟩), .int .i64 a] w fun e w' => e = .returned (.int .i64 (rankI l a)) ∧ w' = w := by
  have h1 := is_any w p bu cu l a h.c0
  have c2 := h.c2
  cases ha : isI l a with
  | false =>
    have HR : Hid (rankI l a = -1) := by show _ = _; unfold rankI; rw [ha]; rfl
    rw [HR.out]
    rw [ha] at h1
    clear h
    go_enter Try.func21, Try.ntmps21
    go_wp2_with fail
    refine h1.mono ?_
    rintro e w2 ⟨rfl, hw⟩
    subst w2
    go_wp2
    go_ret
    exact ⟨rfl, rfl⟩
  | true =>
    rw [ha] at h1
    obtain ⟨a, rfl, hal⟩ := isI_nat ha
    have h2 := index_any bo l.length (Lat.order l) a w (by rw [Lat.order_length]; have := hf.le; omega) h.ro
    rw [Lat.order_length] at h2
    have HR : Hid (rankI l (a : Int) = Lat.first (fun i => (Lat.order l).getD i 0 == a) l.length) := by show _ = _; unfold rankI; rw [ha]; rfl
    rw [HR.out]
    generalize Lat.first (fun i => (Lat.order l).getD i 0 == a) l.length = r at *
    clear h ha HR
    go_enter Try.func21, Try.ntmps21
    go_wp2_with fail
    refine h1.mono ?_
    rintro e w2 ⟨rfl, hw⟩
    subst w2
    go_wp2_with fail
    refine h2.mono ?_
    rintro e w2 ⟨rfl, hw⟩
    subst w2
    go_wp2
    go_ret
    exact ⟨rfl, rfl⟩
set_option maxHeartbeats 400000 in
theorem order_any (w : World) (p bu cu bd bo : Nat) (l : List Nat) (hf : Fine l) (h : LatAt w p bu cu bd bo l) :
    Calls Try.prog 22 #[.pointer (some ⟨p, 0, none⟩)] w fun e w' => ∃ g c, e = .returned (.slice (some ⟨g, 0, none⟩) l.length c) ∧ w.heap.size ≤ g ∧ At .i64 w' g 0 (Lat.order l) ∧ (∀ i, w'.frozen? ⟨g, i, none⟩ = false) ∧ Fr (fun _ => False) w w' := by
  have c2 := h.c2
  have h1 := cloneI_any bo 0 l.length (Lat.order l) w (by rw [Lat.order_length]; have := hf.le; omega) (by rw [Lat.order_length]; exact hf.pos) h.ro
  rw [Lat.order_length] at h1
  clear h
  go_enter Try.func22, Try.ntmps22
  go_wp2_with fail
  refine h1.mono ?_
  rintro e w2 ⟨g, c, rfl, hg, hA, hz, hfr⟩
  go_wp2
  go_ret
  exact ⟨g, c, rfl, hg, hA, hz, hfr⟩
end Go.Proofs.Ytggcfhebidjajaa
