/- Joins and meets of labels that are a lattice: their laws. -/
import Derived.Test.YtggcfhebidjajaaTold
namespace Go.Proofs.Ytggcfhebidjajaa
namespace Lat
variable {l : List Nat}
theorem ok_refl (h : ok l = true) {a : Nat} (ha : a < l.length) : rel l a a = true := by
  unfold ok at h
  rw [Bool.and_eq_true, all_iff] at h
  have := h.1 a ha
  unfold okA at this
  rw [Bool.and_eq_true, Bool.and_eq_true] at this
  exact this.1.2
theorem ok_anti (h : ok l = true) {a b : Nat} (ha : a < l.length) (hb : b < l.length) (h1 : rel l a b = true) (h2 : rel l b a = true) : a = b := by
  unfold ok at h
  rw [Bool.and_eq_true, all_iff] at h
  have := h.1 a ha
  unfold okA at this
  rw [Bool.and_eq_true, all_iff] at this
  have := this.2 b hb
  rw [Bool.and_eq_true, h1, h2] at this
  simpa using this.1
theorem ok_trans (h : ok l = true) {a b c : Nat} (ha : a < l.length) (hb : b < l.length) (hc : c < l.length) (h1 : rel l a b = true) (h2 : rel l b c = true) : rel l a c = true := by
  unfold ok at h
  rw [Bool.and_eq_true, all_iff] at h
  have := h.1 a ha
  unfold okA at this
  rw [Bool.and_eq_true, all_iff] at this
  have := this.2 b hb
  rw [Bool.and_eq_true, all_iff] at this
  have := this.2 c hc
  rw [h1, h2] at this
  simpa using this
def IsJoin (l : List Nat) (a b j : Nat) : Prop := j < l.length ∧ rel l a j = true ∧ rel l b j = true ∧ ∀ d, d < l.length → rel l a d = true → rel l b d = true → rel l j d = true
def IsMeet (l : List Nat) (a b m : Nat) : Prop := m < l.length ∧ rel l m a = true ∧ rel l m b = true ∧ ∀ d, d < l.length → rel l d a = true → rel l d b = true → rel l d m = true
theorem join_get (h : ok l = true) {a b : Nat} (ha : a < l.length) (hb : b < l.length) : ∃ j, IsJoin l a b j ∧ join l a b = (j : Int) := by
  unfold ok at h
  rw [Bool.and_eq_true, all_iff, all_iff] at h
  have := h.2 a ha
  unfold okB at this
  rw [all_iff] at this
  have := this b hb
  rw [Bool.and_eq_true, decide_eq_true_iff] at this
  have h0 := this.1
  unfold join at h0 ⊢
  rcases first_cases (fun c => rel l a c && rel l b c && all l.length fun d => !(rel l a d && rel l b d) || rel l c d) l.length with ⟨k, hk, hp, _, e⟩ | ⟨_, e⟩
  · refine ⟨k, ?_, e⟩
    rw [Bool.and_eq_true, Bool.and_eq_true, all_iff] at hp
    exact ⟨hk, hp.1.1, hp.1.2, fun d hd h1 h2 => by have := hp.2 d hd; rw [h1, h2] at this; simpa using this⟩
  · rw [e] at h0; omega
theorem meet_get (h : ok l = true) {a b : Nat} (ha : a < l.length) (hb : b < l.length) : ∃ m, IsMeet l a b m ∧ meet l a b = (m : Int) := by
  unfold ok at h
  rw [Bool.and_eq_true, all_iff, all_iff] at h
  have := h.2 a ha
  unfold okB at this
  rw [all_iff] at this
  have := this b hb
  rw [Bool.and_eq_true, decide_eq_true_iff, decide_eq_true_iff] at this
  have h0 := this.2
  unfold meet at h0 ⊢
  rcases first_cases (fun c => rel l c a && rel l c b && all l.length fun d => !(rel l d a && rel l d b) || rel l d c) l.length with ⟨k, hk, hp, _, e⟩ | ⟨_, e⟩
  · refine ⟨k, ?_, e⟩
    rw [Bool.and_eq_true, Bool.and_eq_true, all_iff] at hp
    exact ⟨hk, hp.1.1, hp.1.2, fun d hd h1 h2 => by have := hp.2 d hd; rw [h1, h2] at this; simpa using this⟩
  · rw [e] at h0; omega
theorem join_of (h : ok l = true) {a b j : Nat} (ha : a < l.length) (hb : b < l.length) (hj : IsJoin l a b j) : join l a b = (j : Int) := by
  obtain ⟨k, ⟨k1, k2, k3, k4⟩, e⟩ := join_get h ha hb
  obtain ⟨j1, j2, j3, j4⟩ := hj
  rw [e, ok_anti h k1 j1 (k4 j j1 j2 j3) (j4 k k1 k2 k3)]
theorem meet_of (h : ok l = true) {a b m : Nat} (ha : a < l.length) (hb : b < l.length) (hj : IsMeet l a b m) : meet l a b = (m : Int) := by
  obtain ⟨k, ⟨k1, k2, k3, k4⟩, e⟩ := meet_get h ha hb
  obtain ⟨j1, j2, j3, j4⟩ := hj
  rw [e, ok_anti h k1 j1 (j4 k k1 k2 k3) (k4 m j1 j2 j3)]
theorem IsJoin.comm {a b j : Nat} (h : IsJoin l a b j) : IsJoin l b a j := ⟨h.1, h.2.2.1, h.2.1, fun d hd h1 h2 => h.2.2.2 d hd h2 h1⟩
theorem IsMeet.comm {a b j : Nat} (h : IsMeet l a b j) : IsMeet l b a j := ⟨h.1, h.2.2.1, h.2.1, fun d hd h1 h2 => h.2.2.2 d hd h2 h1⟩
theorem IsJoin.assoc (h : ok l = true) {a b c j x y : Nat} (ha : a < l.length) (hb : b < l.length) (hc : c < l.length) (h1 : IsJoin l a b j) (h2 : IsJoin l j c x) (h3 : IsJoin l b c y) : IsJoin l a y x :=
  ⟨h2.1, ok_trans h ha h1.1 h2.1 h1.2.1 h2.2.1, h3.2.2.2 x h2.1 (ok_trans h hb h1.1 h2.1 h1.2.2.1 h2.2.1) h2.2.2.1,
    fun d hd k1 k2 => h2.2.2.2 d hd (h1.2.2.2 d hd k1 (ok_trans h hb h3.1 hd h3.2.1 k2)) (ok_trans h hc h3.1 hd h3.2.2.1 k2)⟩
theorem IsMeet.assoc (h : ok l = true) {a b c j x y : Nat} (ha : a < l.length) (hb : b < l.length) (hc : c < l.length) (h1 : IsMeet l a b j) (h2 : IsMeet l j c x) (h3 : IsMeet l b c y) : IsMeet l a y x :=
  ⟨h2.1, ok_trans h h2.1 h1.1 ha h2.2.1 h1.2.1, h3.2.2.2 x h2.1 (ok_trans h h2.1 h1.1 hb h2.2.1 h1.2.2.1) h2.2.2.1,
    fun d hd k1 k2 => h2.2.2.2 d hd (h1.2.2.2 d hd k1 (ok_trans h hd h3.1 hb k2 h3.2.1)) (ok_trans h hd h3.1 hc k2 h3.2.2.1)⟩
theorem IsMeet.absorb (h : ok l = true) {a b m : Nat} (ha : a < l.length) (hm : IsMeet l a b m) : IsJoin l a m a := ⟨ha, ok_refl h ha, hm.2.1, fun _ _ k _ => k⟩
theorem IsJoin.absorb (h : ok l = true) {a b j : Nat} (ha : a < l.length) (hj : IsJoin l a b j) : IsMeet l a j a := ⟨ha, ok_refl h ha, hj.2.1, fun _ _ k _ => k⟩
theorem IsJoin.leq (h : ok l = true) {a b j : Nat} (hb : b < l.length) (hj : IsJoin l a b j) : rel l a b = true ↔ j = b :=
  ⟨fun k => ok_anti h hj.1 hb (hj.2.2.2 b hb k (ok_refl h hb)) hj.2.2.1, fun k => by rw [← k]; exact hj.2.1⟩
theorem filter_lt {P Q : Nat → Bool} {n x : Nat} (hpq : ∀ i, i < n → P i = true → Q i = true) (hx : x < n) (h1 : Q x = true) (h2 : P x = false) : ((List.range n).filter P).length < ((List.range n).filter Q).length := by
  have hle : ∀ m, m ≤ n → ((List.range m).filter P).length ≤ ((List.range m).filter Q).length := by
    intro m
    induction m with
    | zero => simp
    | succ m ih =>
      intro hm
      rw [filter_step, filter_step, List.length_append, List.length_append]
      have := ih (by omega)
      cases hp : P m with
      | false => simp; omega
      | true => rw [hpq m (by omega) hp]; simp; omega
  have key : ∀ m, x < m → m ≤ n → ((List.range m).filter P).length < ((List.range m).filter Q).length := by
    intro m
    induction m with
    | zero => intro h; omega
    | succ m ih =>
      intro hxm hm
      rw [filter_step, filter_step, List.length_append, List.length_append]
      by_cases e : x = m
      · subst e
        have := hle x (by omega)
        rw [h1, h2]
        simp; omega
      · have := ih (by omega) (by omega)
        cases hp : P m with
        | false => simp; omega
        | true => rw [hpq m (by omega) hp]; simp; omega
  exact key n hx (Nat.le_refl _)
theorem cnt_lt (h : ok l = true) {a b : Nat} (ha : a < l.length) (hb : b < l.length) (hr : rel l a b = true) (hne : a ≠ b) : cnt l a < cnt l b :=
  filter_lt (fun i hi k => ok_trans h hi ha hb k hr) hb (ok_refl h hb) (by
    cases e : rel l b a with
    | false => rfl
    | true => exact absurd (ok_anti h ha hb hr e) hne)
theorem order_get {i : Nat} (hi : i < l.length) : (order l)[i]? = some ((order l).getD i 0) ∧ (order l).getD i 0 < l.length := by
  have hl := order_length l
  have h1 : (order l)[i]? = some ((order l).getD i 0) := by rw [List.getD_eq_getElem?_getD, List.getElem?_eq_getElem (by omega)]; rfl
  exact ⟨h1, (order_mem l _).1 (List.mem_of_getElem? h1)⟩
theorem order_find {a : Nat} (ha : a < l.length) : ∃ i, i < l.length ∧ (order l).getD i 0 = a := by
  obtain ⟨i, hi, e⟩ := List.getElem_of_mem ((order_mem l a).2 ha)
  exact ⟨i, by rw [order_length] at hi; exact hi, by rw [List.getD_eq_getElem?_getD, List.getElem?_eq_getElem hi, e]; rfl⟩
theorem order_lt {i j : Nat} (hij : i < j) (hj : j < l.length) : lt l ((order l).getD i 0) ((order l).getD j 0) = true := by
  have hl := order_length l
  have := List.pairwise_iff_getElem.1 (order_pairwise l) i j (by omega) (by omega) hij
  rw [List.getD_eq_getElem?_getD, List.getD_eq_getElem?_getD, List.getElem?_eq_getElem (by omega), List.getElem?_eq_getElem (by omega)]
  exact this
theorem lt_asymm {a b : Nat} (h1 : lt l a b = true) (h2 : lt l b a = true) : False := by
  have := lt_trans h1 h2
  rw [lt_irrefl] at this
  cases this
theorem lt_of_rel (h : ok l = true) {a b : Nat} (ha : a < l.length) (hb : b < l.length) (hr : rel l a b = true) (hne : a ≠ b) : lt l a b = true := by
  have := cnt_lt h ha hb hr hne
  simp [lt, this]
/-- the first of the order is below all. -/
theorem bottom_le (h : ok l = true) {a : Nat} (ha : a < l.length) : rel l ((order l).getD 0 0) a = true := by
  obtain ⟨_, h0⟩ := order_get (l := l) (i := 0) (by omega)
  obtain ⟨m, hm, _⟩ := meet_get h h0 ha
  by_cases e : m = (order l).getD 0 0
  · rw [← e]; exact hm.2.2.1
  · exfalso
    have hlt := lt_of_rel h hm.1 h0 hm.2.1 e
    obtain ⟨i, hi, ei⟩ := order_find hm.1
    have hi0 : 0 < i := by
      rcases Nat.eq_zero_or_pos i with hz | hz
      · subst hz; exact absurd ei.symm e
      · exact hz
    have := order_lt hi0 hi
    rw [ei] at this
    exact lt_asymm hlt this
theorem top_ge (h : ok l = true) {a : Nat} (ha : a < l.length) : rel l a ((order l).getD (l.length - 1) 0) = true := by
  obtain ⟨_, h0⟩ := order_get (l := l) (i := l.length - 1) (by omega)
  obtain ⟨m, hm, _⟩ := join_get h h0 ha
  by_cases e : m = (order l).getD (l.length - 1) 0
  · rw [← e]; exact hm.2.2.1
  · exfalso
    have hlt := lt_of_rel h h0 hm.1 hm.2.1 (Ne.symm e)
    obtain ⟨i, hi, ei⟩ := order_find hm.1
    have hi0 : i < l.length - 1 := by
      by_cases hz : i = l.length - 1
      · subst hz; exact absurd ei.symm e
      · omega
    have := order_lt (l := l) hi0 (by omega)
    rw [ei] at this
    exact lt_asymm hlt this
end Lat
theorem rank_mono {l : List Nat} (h : Lat.ok l = true) {a b : Nat} (ha : a < l.length) (hb : b < l.length) (hr : Lat.rel l a b = true) : rankI l (a : Int) ≤ rankI l (b : Int) := by
  obtain ⟨i, hi, ei⟩ := Lat.order_find ha
  obtain ⟨j, hj, ej⟩ := Lat.order_find hb
  have r1 := rank_order l i hi
  have r2 := rank_order l j hj
  rw [ei] at r1
  rw [ej] at r2
  rw [r1, r2]
  by_cases e : a = b
  · subst e
    rw [← r1, ← r2]
    exact Int.le_refl _
  · have hlt := Lat.lt_of_rel h ha hb hr e
    by_cases hij : i ≤ j
    · omega
    · exfalso
      have := Lat.order_lt (l := l) (show j < i by omega) hi
      rw [ei, ej] at this
      exact Lat.lt_asymm hlt this
end Go.Proofs.Ytggcfhebidjajaa
