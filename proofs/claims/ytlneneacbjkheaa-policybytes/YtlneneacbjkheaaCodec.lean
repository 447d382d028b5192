/- A book's bytes, and back, as plain lists. -/
import Derived.Test.YtlneneacbjkheaaRs
import Derived.Test.YtlneneacbjkheaaBackN
import Derived.Test.YtlneneacbjkheaaOneOpen
namespace Go.Proofs.Ytlneneacbjkheaa

def encR (x : Rl) : List Nat := Crc.le 8 x.id ++ Crc.le 1 x.fr.toNat ++ Crc.le 1 x.tt.toNat ++ Crc.le 8 (Fl.rk x.lo) ++ Crc.le 8 (Fl.rk x.hi) ++ Crc.le 8 x.au ++ Crc.le 4 x.qu.toNat
def encG (g : Gr) : List Nat := encR g.r ++ Crc.le 8 g.f ++ Crc.le 8 g.u
def encB (gs : List Gr) : List Nat := Crc.le 4 gs.length ++ gs.flatMap encG
theorem encG_length (g : Gr) : (encG g).length = 54 := by simp [encG, encR, Crc.le_length]
theorem encGs_length (gs : List Gr) : (gs.flatMap encG).length = gs.length * 54 := by
  induction gs with
  | nil => rfl
  | cons g gs ih => rw [List.flatMap_cons, List.length_append, encG_length, ih, List.length_cons]; omega
theorem encB_length (gs : List Gr) : (encB gs).length = 4 + gs.length * 54 := by unfold encB; rw [List.length_append, Crc.le_length, encGs_length]
theorem encB_lt (gs : List Gr) : ∀ x ∈ encB gs, x < 256 := by
  intro x hx
  rcases List.mem_append.1 hx with h | h
  · exact Crc.le_lt _ _ x h
  · obtain ⟨g, _, hg⟩ := List.mem_flatMap.1 h
    simp only [encG, encR, List.mem_append] at hg
    rcases hg with ((((((((h | h) | h) | h) | h) | h) | h) | h) | h) <;> exact Crc.le_lt _ _ x h

/-- what no number is, as it is handed out. -/
def nanC : Nat := 9221120237041090561
/-- number.Back. -/
def bkV (n : Nat) : Nat := if Fl.nanB (bk n) then 9221120237041090561 else bk n
theorem bkV_lt (n : Nat) (h : n < 18446744073709551616) : bkV n < 18446744073709551616 := by
  unfold bkV; split
  · decide
  · exact bk_lt n h
theorem bkV_rk (b : Nat) (hb : b < 18446744073709551616) (hn : Fl.nanB b = false) : bkV (Fl.rk b) = b := by
  unfold bkV; rw [bk_rk b hb hn, hn]; rfl
/-- a number by its rank. -/
def fltV (s : Rs) : Nat := if Fl.rk (bkV (numV s 8)) = numV s 8 then bkV (numV s 8) else 0
def fltS (s : Rs) : Rs := if Fl.rk (bkV (numV s 8)) = numV s 8 then numS s 8 else ⟨[], true⟩
def Rl.zero : Rl := ⟨0, 0, 0, 0, 0, 0, 0⟩
/-- a rule. -/
def s1 (s : Rs) : Rs := numS s 8
def s2 (s : Rs) : Rs := numS (s1 s) 1
def s3 (s : Rs) : Rs := numS (s2 s) 1
def s4 (s : Rs) : Rs := fltS (s3 s)
def s5 (s : Rs) : Rs := fltS (s4 s)
def s6 (s : Rs) : Rs := numS (s5 s) 8
def ruleS (s : Rs) : Rs := numS (s6 s) 4
def ruleV (s : Rs) : Rl := if (ruleS s).bad then Rl.zero else ⟨numV s 8, (numV (s1 s) 1 : Nat), (numV (s2 s) 1 : Nat), fltV (s3 s), fltV (s4 s), numV (s5 s) 8, (numV (s6 s) 4 : Nat)⟩
/-- a rule and its epochs. -/
def grV (s : Rs) : Gr := ⟨ruleV s, numV (ruleS s) 8, numV (numS (ruleS s) 8) 8⟩
def grS (s : Rs) : Rs := numS (numS (ruleS s) 8) 8
/-- all of them. -/
def decL : Nat → Rs → List Gr → Option (List Gr × Rs)
  | 0, s, gs => some (gs, s)
  | n + 1, s, gs => if (grS s).bad || gs.any (hit (grV s).r.id) then none else decL n (grS s) (gs ++ [grV s])
def decB (l : List Nat) : Option (List Gr) :=
  match decL (cntV ⟨l, false⟩ l.length) (cntS ⟨l, false⟩ l.length) [] with
  | none => none
  | some (gs, s) => if endV s then some gs else none

/-- a rule whose parts are such as bytes hold. -/
structure Rl.Sm (x : Rl) : Prop where
  id : x.id < 18446744073709551616
  fr : 0 ≤ x.fr ∧ x.fr < 256
  tt : 0 ≤ x.tt ∧ x.tt < 256
  lo : x.lo < 18446744073709551616 ∧ Fl.nanB x.lo = false
  hi : x.hi < 18446744073709551616 ∧ Fl.nanB x.hi = false
  au : x.au < 18446744073709551616
  qu : 0 ≤ x.qu ∧ x.qu < 4294967296
structure Gr.Sm (x : Gr) : Prop where
  r : x.r.Sm
  f : x.f < 18446744073709551616
  u : x.u < 18446744073709551616
theorem flt_front (b : Nat) (hb : b < 18446744073709551616) (hn : Fl.nanB b = false) (r : List Nat) : fltV ⟨Crc.le 8 (Fl.rk b) ++ r, false⟩ = b ∧ fltS ⟨Crc.le 8 (Fl.rk b) ++ r, false⟩ = ⟨r, false⟩ := by
  have hr : Fl.rk b < 256 ^ 8 := by have := Fl.rk_lt b hn hb; omega
  have e : numV ⟨Crc.le 8 (Fl.rk b) ++ r, false⟩ 8 = Fl.rk b := by rw [(num_front 8 _ r).1, Nat.mod_eq_of_lt hr]
  have e2 : bkV (Fl.rk b) = b := bkV_rk b hb hn
  unfold fltV fltS
  rw [e, e2, if_pos rfl, if_pos rfl, (num_front 8 _ r).2]
  exact ⟨rfl, rfl⟩
theorem gr_front (g : Gr) (h : g.Sm) (r : List Nat) : grV ⟨encG g ++ r, false⟩ = g ∧ grS ⟨encG g ++ r, false⟩ = ⟨r, false⟩ := by
  obtain ⟨⟨id, fr, tt, lo, hi, au, qu⟩, f, u⟩ := g
  obtain ⟨⟨h1, h2, h3, h4, h5, h6, h7⟩, h8, h9⟩ := h
  simp only at h1 h2 h3 h4 h5 h6 h7 h8 h9
  obtain ⟨r8, e8⟩ : ∃ x, x = Crc.le 8 u ++ r := ⟨_, rfl⟩
  obtain ⟨r7, e7⟩ : ∃ x, x = Crc.le 8 f ++ r8 := ⟨_, rfl⟩
  obtain ⟨r6, e6⟩ : ∃ x, x = Crc.le 4 qu.toNat ++ r7 := ⟨_, rfl⟩
  obtain ⟨r5, e5⟩ : ∃ x, x = Crc.le 8 au ++ r6 := ⟨_, rfl⟩
  obtain ⟨r4, e4⟩ : ∃ x, x = Crc.le 8 (Fl.rk hi) ++ r5 := ⟨_, rfl⟩
  obtain ⟨r3, e3⟩ : ∃ x, x = Crc.le 8 (Fl.rk lo) ++ r4 := ⟨_, rfl⟩
  obtain ⟨r2, e2⟩ : ∃ x, x = Crc.le 1 tt.toNat ++ r3 := ⟨_, rfl⟩
  obtain ⟨r1, e1⟩ : ∃ x, x = Crc.le 1 fr.toNat ++ r2 := ⟨_, rfl⟩
  have e : encG ⟨⟨id, fr, tt, lo, hi, au, qu⟩, f, u⟩ ++ r = Crc.le 8 id ++ r1 := by
    rw [e1, e2, e3, e4, e5, e6, e7, e8]; simp [encG, encR]
  obtain ⟨s, hs⟩ : ∃ s : Rs, s = ⟨encG ⟨⟨id, fr, tt, lo, hi, au, qu⟩, f, u⟩ ++ r, false⟩ := ⟨_, rfl⟩
  rw [← hs]
  rw [e] at hs
  have v1 : numV s 8 = id % 256 ^ 8 := by rw [hs]; exact (num_front 8 id r1).1
  have d1 : s1 s = ⟨r1, false⟩ := by unfold s1; rw [hs]; exact (num_front 8 id r1).2
  have d2 : s2 s = ⟨r2, false⟩ := by unfold s2; rw [d1, e1]; exact (num_front 1 _ _).2
  have d3 : s3 s = ⟨r3, false⟩ := by unfold s3; rw [d2, e2]; exact (num_front 1 _ _).2
  have d4 : s4 s = ⟨r4, false⟩ := by unfold s4; rw [d3, e3]; exact (flt_front lo h4.1 h4.2 _).2
  have d5 : s5 s = ⟨r5, false⟩ := by unfold s5; rw [d4, e4]; exact (flt_front hi h5.1 h5.2 _).2
  have d6 : s6 s = ⟨r6, false⟩ := by unfold s6; rw [d5, e5]; exact (num_front 8 _ _).2
  have d7 : ruleS s = ⟨r7, false⟩ := by unfold ruleS; rw [d6, e6]; exact (num_front 4 _ _).2
  have v2 : numV (s1 s) 1 = fr.toNat := by rw [d1, e1, (num_front 1 _ _).1, Nat.mod_eq_of_lt (by omega)]
  have v3 : numV (s2 s) 1 = tt.toNat := by rw [d2, e2, (num_front 1 _ _).1, Nat.mod_eq_of_lt (by omega)]
  have v4 : fltV (s3 s) = lo := by rw [d3, e3, (flt_front lo h4.1 h4.2 _).1]
  have v5 : fltV (s4 s) = hi := by rw [d4, e4, (flt_front hi h5.1 h5.2 _).1]
  have v6 : numV (s5 s) 8 = au := by rw [d5, e5, (num_front 8 _ _).1, Nat.mod_eq_of_lt (by omega)]
  have v7 : numV (s6 s) 4 = qu.toNat := by rw [d6, e6, (num_front 4 _ _).1, Nat.mod_eq_of_lt (by omega)]
  have v8 : numV (ruleS s) 8 = f := by rw [d7, e7, (num_front 8 _ _).1, Nat.mod_eq_of_lt (by omega)]
  have d8 : numS (ruleS s) 8 = ⟨r8, false⟩ := by rw [d7, e7]; exact (num_front 8 _ _).2
  have v9 : numV (numS (ruleS s) 8) 8 = u := by rw [d8, e8, (num_front 8 _ _).1, Nat.mod_eq_of_lt (by omega)]
  have d9 : numS (numS (ruleS s) 8) 8 = ⟨r, false⟩ := by rw [d8, e8]; exact (num_front 8 _ _).2
  unfold grV grS ruleV
  rw [if_neg (by rw [d7]; simp), v1, v2, v3, v4, v5, v6, v7, v8, v9, d9]
  refine ⟨?_, rfl⟩
  rw [Nat.mod_eq_of_lt (show id < 256 ^ 8 by omega), Int.toNat_of_nonneg h2.1, Int.toNat_of_nonneg h3.1, Int.toNat_of_nonneg h7.1]
/-- of those of one number at most the last one is open. -/
def Lastly (gs : List Gr) : Prop := ∀ i j, i < j → j < gs.length → (gr gs i).r.id = (gr gs j).r.id → (gr gs i).u ≠ 0
theorem decL_enc (ms : List Gr) : ∀ (gs : List Gr) (r : List Nat), (∀ x ∈ ms, x.Sm) → Lastly (gs ++ ms) → decL ms.length ⟨ms.flatMap encG ++ r, false⟩ gs = some (gs ++ ms, ⟨r, false⟩) := by
  induction ms with
  | nil => intro gs r _ _; simp [decL]
  | cons g ms ih =>
    intro gs r hs hL
    have e : (g :: ms).flatMap encG ++ r = encG g ++ (ms.flatMap encG ++ r) := by simp
    obtain ⟨h1, h2⟩ := gr_front g (hs g (by simp)) (ms.flatMap encG ++ r)
    rw [e, List.length_cons]
    unfold decL
    rw [h1, h2]
    have hn : gs.any (hit g.r.id) = false := by
      rw [Bool.eq_false_iff]
      intro ht
      obtain ⟨x, hx, hh⟩ := List.any_eq_true.1 ht
      obtain ⟨i, hi, rfl⟩ := List.mem_iff_getElem.1 hx
      unfold hit at hh
      simp only [Bool.and_eq_true, decide_eq_true_eq] at hh
      refine hL i gs.length hi (by simp) ?_ ?_
      · simp only [List.getD_eq_getElem?_getD]
        rw [List.getElem?_append_left hi, List.getElem?_append_right (Nat.le_refl _)]
        simp [hh.1, hi]
      · simp only [List.getD_eq_getElem?_getD]
        rw [List.getElem?_append_left hi]
        simp [hh.2, hi]
    rw [if_neg (by simp [hn])]
    rw [ih (gs ++ [g]) r (fun x hx => hs x (by simp [hx])) (by simpa using hL)]
    simp
theorem decB_enc (gs : List Gr) (hs : ∀ x ∈ gs, x.Sm) (hL : Lastly gs) (hlen : gs.length < 4294967296) : decB (encB gs) = some gs := by
  have hc : (⟨encB gs, false⟩ : Rs).cnt (encB gs).length := by
    refine ⟨⟨rfl, by simp [encB_length]⟩, ?_⟩
    show Crc.num ((encB gs).take 4) ≤ _
    unfold encB
    rw [take_app (Crc.le_length 4 _), Crc.num_le, Nat.mod_eq_of_lt (by omega)]
    rw [List.length_append, Crc.le_length, encGs_length]; omega
  have e1 : cntV ⟨encB gs, false⟩ (encB gs).length = gs.length := by
    unfold cntV; rw [if_pos hc]
    show Crc.num ((encB gs).take 4) = _
    unfold encB
    rw [take_app (Crc.le_length 4 _), Crc.num_le, Nat.mod_eq_of_lt (by omega)]
  have e2 : cntS ⟨encB gs, false⟩ (encB gs).length = ⟨gs.flatMap encG ++ [], false⟩ := by
    unfold cntS; rw [if_pos hc]
    show (⟨(encB gs).drop 4, false⟩ : Rs) = _
    unfold encB
    rw [drop_app (Crc.le_length 4 _), List.append_nil]
  unfold decB
  rw [e1, e2, decL_enc gs [] [] hs (by simpa using hL)]
  simp [endV]

/-! And the other way: what is read was such bytes. -/
theorem num_back (s : Rs) (n : Nat) (hx : ∀ x ∈ s.l, x < 256) (hb : (numS s n).bad = false) : s.bad = false ∧ s.l = Crc.le n (numV s n) ++ (numS s n).l ∧ (∀ x ∈ (numS s n).l, x < 256) := by
  by_cases h : s.has n
  · have e1 : numV s n = Crc.num (s.l.take n) := by unfold numV; rw [if_pos h]
    have e2 : numS s n = ⟨s.l.drop n, false⟩ := by unfold numS; rw [if_pos h]
    rw [e1, e2]
    refine ⟨h.1, ?_, fun x hx' => hx x (List.mem_of_mem_drop hx')⟩
    have hl : (s.l.take n).length = n := by rw [List.length_take]; exact Nat.min_eq_left h.2
    have ht : ∀ x ∈ s.l.take n, x < 256 := fun x hx' => hx x (List.mem_of_mem_take hx')
    have : Crc.le n (Crc.num (s.l.take n)) = s.l.take n := by
      refine Crc.num_inj _ _ (Crc.le_lt _ _) ht (by rw [Crc.le_length, hl]) ?_
      rw [Crc.num_le, Nat.mod_eq_of_lt]
      have := Crc.num_lt (s.l.take n) ht
      rwa [hl] at this
    rw [this]
    exact (List.take_append_drop n s.l).symm
  · unfold numS at hb; rw [if_neg h] at hb; cases hb
theorem flt_back (s : Rs) (hx : ∀ x ∈ s.l, x < 256) (hb : (fltS s).bad = false) : s.bad = false ∧ s.l = Crc.le 8 (Fl.rk (fltV s)) ++ (fltS s).l ∧ (∀ x ∈ (fltS s).l, x < 256) := by
  by_cases h : Fl.rk (bkV (numV s 8)) = numV s 8
  · have e1 : fltV s = bkV (numV s 8) := by unfold fltV; rw [if_pos h]
    have e2 : fltS s = numS s 8 := by unfold fltS; rw [if_pos h]
    rw [e2] at hb ⊢
    rw [e1, h]
    exact num_back s 8 hx hb
  · unfold fltS at hb; rw [if_neg h] at hb; cases hb
theorem gr_back (s : Rs) (hx : ∀ x ∈ s.l, x < 256) (hb : (grS s).bad = false) : s.bad = false ∧ s.l = encG (grV s) ++ (grS s).l ∧ (∀ x ∈ (grS s).l, x < 256) := by
  have hx0 := hx
  by_cases hsb : s.bad = true
  · exfalso
    have : ¬ (numS s 8).bad = false := fun h => by
      by_cases hh : s.has 8
      · exact absurd hh.1 (by rw [hsb]; simp)
      · unfold numS at h; rw [if_neg hh] at h; cases h
    have num_bad : ∀ (t : Rs) (n : Nat), ¬ t.bad = false → ¬ (numS t n).bad = false := fun t n ht h => by
      by_cases hh : t.has n
      · exact ht hh.1
      · unfold numS at h; rw [if_neg hh] at h; cases h
    have flt_bad : ∀ (t : Rs), ¬ t.bad = false → ¬ (fltS t).bad = false := fun t ht h => by
      unfold fltS at h
      split at h
      · exact num_bad t 8 ht h
      · cases h
    exact num_bad _ _ (num_bad _ _ (num_bad _ _ (num_bad _ _ (flt_bad _ (flt_bad _ (num_bad _ _ (num_bad _ _ this))))))) hb
  have num_bad : ∀ (t : Rs) (n : Nat), (numS t n).bad = false → t.bad = false := fun t n h => by
    by_cases hh : t.has n
    · exact hh.1
    · unfold numS at h; rw [if_neg hh] at h; cases h
  have flt_bad : ∀ (t : Rs), (fltS t).bad = false → t.bad = false := fun t h => by
    unfold fltS at h
    split at h
    · exact num_bad t 8 h
    · cases h
  have b8 : (numS (ruleS s) 8).bad = false := num_bad _ _ hb
  have b7 : (ruleS s).bad = false := num_bad _ _ b8
  have b6 : (s6 s).bad = false := num_bad _ _ b7
  have b5 : (s5 s).bad = false := num_bad _ _ b6
  have b4 : (s4 s).bad = false := flt_bad _ b5
  have b3 : (s3 s).bad = false := flt_bad _ b4
  have b2 : (s2 s).bad = false := num_bad _ _ b3
  have b1 : (s1 s).bad = false := num_bad _ _ b2
  obtain ⟨hs, e0, x1⟩ := num_back s 8 hx b1
  obtain ⟨_, e1, x2⟩ := num_back (s1 s) 1 x1 b2
  obtain ⟨_, e2, x3⟩ := num_back (s2 s) 1 x2 b3
  obtain ⟨_, e3, x4⟩ := flt_back (s3 s) x3 b4
  obtain ⟨_, e4, x5⟩ := flt_back (s4 s) x4 b5
  obtain ⟨_, e5, x6⟩ := num_back (s5 s) 8 x5 b6
  obtain ⟨_, e6, x7⟩ := num_back (s6 s) 4 x6 b7
  obtain ⟨_, e7, x8⟩ := num_back (ruleS s) 8 x7 b8
  obtain ⟨_, e8, x9⟩ := num_back (numS (ruleS s) 8) 8 x8 hb
  refine ⟨hs, ?_, x9⟩
  have ev : ruleV s = ⟨numV s 8, (numV (s1 s) 1 : Nat), (numV (s2 s) 1 : Nat), fltV (s3 s), fltV (s4 s), numV (s5 s) 8, (numV (s6 s) 4 : Nat)⟩ := by unfold ruleV; rw [if_neg (by rw [b7]; simp)]
  have eg : encG (grV s) ++ (grS s).l = Crc.le 8 (numV s 8) ++ (Crc.le 1 (numV (s1 s) 1) ++ (Crc.le 1 (numV (s2 s) 1) ++ (Crc.le 8 (Fl.rk (fltV (s3 s))) ++ (Crc.le 8 (Fl.rk (fltV (s4 s))) ++ (Crc.le 8 (numV (s5 s) 8) ++ (Crc.le 4 (numV (s6 s) 4) ++ (Crc.le 8 (numV (ruleS s) 8) ++ (Crc.le 8 (numV (numS (ruleS s) 8) 8) ++ (grS s).l)))))))) := by
    unfold grV encG encR
    rw [ev]
    simp
  rw [eg]
  refine e0.trans (congrArg _ (e1.trans (congrArg _ (e2.trans (congrArg _ (e3.trans (congrArg _ (e4.trans (congrArg _ (e5.trans (congrArg _ (e6.trans (congrArg _ (e7.trans (congrArg _ e8))))))))))))))) 
theorem decL_back (n : Nat) : ∀ (s : Rs) (gs gs2 : List Gr) (s' : Rs), (∀ x ∈ s.l, x < 256) → s.bad = false → decL n s gs = some (gs2, s') → ∃ ms, gs2 = gs ++ ms ∧ ms.length = n ∧ s.l = ms.flatMap encG ++ s'.l ∧ s'.bad = false := by
  induction n with
  | zero =>
    intro s gs gs2 s' hx hb h
    simp only [decL, Option.some.injEq, Prod.mk.injEq] at h
    obtain ⟨rfl, rfl⟩ := h
    exact ⟨[], by simp, rfl, by simp, hb⟩
  | succ n ih =>
    intro s gs gs2 s' hx hb h
    unfold decL at h
    split at h
    · cases h
    · rename_i hc
      simp only [Bool.or_eq_true, not_or, Bool.not_eq_true] at hc
      obtain ⟨_, e, hx2⟩ := gr_back s hx hc.1
      obtain ⟨ms, rfl, hl, e2, hb2⟩ := ih (grS s) (gs ++ [grV s]) gs2 s' hx2 hc.1 h
      exact ⟨grV s :: ms, by simp, by simp [hl], by rw [e, e2]; simp, hb2⟩
theorem decB_back (l : List Nat) (gs : List Gr) (hx : ∀ x ∈ l, x < 256) (h : decB l = some gs) : encB gs = l := by
  unfold decB at h
  split at h
  · cases h
  · rename_i gs2 s' hd
    split at h
    · rename_i he
      cases h
      by_cases hc : (⟨l, false⟩ : Rs).cnt l.length
      · have e1 : cntV ⟨l, false⟩ l.length = Crc.num (l.take 4) := by unfold cntV; rw [if_pos hc]
        have e2 : cntS ⟨l, false⟩ l.length = ⟨l.drop 4, false⟩ := by unfold cntS; rw [if_pos hc]
        rw [e1, e2] at hd
        obtain ⟨ms, hms, hl, e3, _⟩ := decL_back _ _ _ _ _ (fun x hx' => hx x (List.mem_of_mem_drop hx')) rfl hd
        rw [List.nil_append] at hms
        subst hms
        have he0 : s'.l = [] := by
          unfold endV at he
          simp only [Bool.and_eq_true, beq_iff_eq] at he
          exact List.eq_nil_of_length_eq_zero (by omega)
        have h4 : (l.take 4).length = 4 := by rw [List.length_take]; exact Nat.min_eq_left hc.1.2
        have ht : ∀ x ∈ l.take 4, x < 256 := fun x hx' => hx x (List.mem_of_mem_take hx')
        have e5 : Crc.le 4 (Crc.num (l.take 4)) = l.take 4 := by
          refine Crc.num_inj _ _ (Crc.le_lt _ _) ht (by rw [Crc.le_length, h4]) ?_
          rw [Crc.num_le, Nat.mod_eq_of_lt]
          have := Crc.num_lt (l.take 4) ht
          rwa [h4] at this
        rw [he0, List.append_nil] at e3
        unfold encB
        rw [hl, e5, ← e3]
        exact List.take_append_drop 4 l
      · have e1 : cntV ⟨l, false⟩ l.length = 0 := by unfold cntV; rw [if_neg hc]
        have e2 : cntS ⟨l, false⟩ l.length = ⟨[], true⟩ := by unfold cntS; rw [if_neg hc]
        rw [e1, e2] at hd
        simp only [decL, Option.some.injEq, Prod.mk.injEq] at hd
        obtain ⟨_, rfl⟩ := hd
        simp [endV] at he
    · cases h
end Go.Proofs.Ytlneneacbjkheaa
