/- The plain mathematics of records: what stands at the front of bytes, what an image takes, what bytes come to. No program is named here. -/
import Derived.Test.YtlcakglmheleeaaDoorRec
namespace Go.Proofs.YtlcakglmheleeaaDoor

/-- an entry: index, term, kind, data. -/
abbrev Pe := Nat × Nat × Nat × List Nat
/-- an image: what must be kept, the snapshot, the entries. -/
structure Img where
  tm : Nat
  vo : Int
  si : Nat
  st : Nat
  sv : Nat
  sd : List Nat
  es : List Pe
def img0 : Img := ⟨0, -1, 0, 0, 0, [], []⟩

/-- what a reader has: the bytes that are left, and whether it has a fault. -/
structure Rs where
  l : List Nat
  bad : Bool
def Rs.has (s : Rs) (n : Nat) : Prop := s.bad = false ∧ n ≤ s.l.length
instance (s : Rs) (n : Nat) : Decidable (s.has n) := by unfold Rs.has; infer_instance
def numV (s : Rs) (n : Nat) : Nat := if s.has n then Crc.num (s.l.take n) else 0
def numS (s : Rs) (n : Nat) : Rs := if s.has n then ⟨s.l.drop n, false⟩ else ⟨[], true⟩
/-- a count of at most m. -/
def Rs.cnt (s : Rs) (m : Nat) : Prop := s.has 4 ∧ Crc.num (s.l.take 4) ≤ m
instance (s : Rs) (m : Nat) : Decidable (s.cnt m) := by unfold Rs.cnt; infer_instance
def cntV (s : Rs) (m : Nat) : Nat := if s.cnt m then Crc.num (s.l.take 4) else 0
def cntS (s : Rs) (m : Nat) : Rs := if s.cnt m then ⟨s.l.drop 4, false⟩ else ⟨[], true⟩
/-- bytes, at most m. -/
def Rs.byt (s : Rs) (m : Nat) : Prop := s.cnt m ∧ Crc.num (s.l.take 4) ≤ s.l.length - 4
instance (s : Rs) (m : Nat) : Decidable (s.byt m) := by unfold Rs.byt; infer_instance
def bytV (s : Rs) (m : Nat) : List Nat := if s.byt m then (s.l.drop 4).take (Crc.num (s.l.take 4)) else []
def bytS (s : Rs) (m : Nat) : Rs := if s.byt m then ⟨(s.l.drop 4).drop (Crc.num (s.l.take 4)), false⟩ else ⟨[], true⟩
def endV (s : Rs) : Bool := !s.bad && ((s.l.length : Int) == 0)

def maxRec : Nat := 1048576
/-- of the record at the front its kind, its bytes, and how many it is in all; 0: none. -/
def okRec (p : List Nat) : Prop := (⟨p, false⟩ : Rs).cnt maxRec ∧ 9 + Crc.num (p.take 4) ≤ p.length ∧ Crc.num ((p.take (9 + Crc.num (p.take 4))).drop (5 + Crc.num (p.take 4))) = Crc.sum (p.take (5 + Crc.num (p.take 4)))
instance (p : List Nat) : Decidable (okRec p) := by unfold okRec; infer_instance
def firstK (p : List Nat) : Nat := if okRec p then p.getD 4 0 else 0
def firstB (p : List Nat) : List Nat := if okRec p then (p.take (5 + Crc.num (p.take 4))).drop 5 else []
def firstN (p : List Nat) : Nat := if okRec p then 9 + Crc.num (p.take 4) else 0

/-- may an entry of this index stand there? -/
def canE (m : Img) (i : Nat) : Bool := decide (m.si < i ∧ i - m.si - 1 ≤ m.es.length)
def putE (m : Img) (e : Pe) : Img := { m with es := m.es.take (e.1 - m.si - 1) ++ [e] }
def readE (b : List Nat) : Pe × Bool :=
  let s0 : Rs := ⟨b, false⟩
  let s1 := numS s0 8
  let s2 := numS s1 8
  let s3 := numS s2 1
  ((numV s0 8, numV s1 8, numV s2 1, bytV s3 maxRec), endV (bytS s3 maxRec))
def readS (b : List Nat) : (Nat × Nat × Nat × List Nat) × Bool :=
  let s0 : Rs := ⟨b, false⟩
  let s1 := numS s0 8
  let s2 := numS s1 8
  let s3 := numS s2 8
  ((numV s0 8, numV s1 8, numV s2 8, bytV s3 maxRec), endV (bytS s3 maxRec))
def readH (b : List Nat) : (Nat × Nat) × Bool :=
  let s0 : Rs := ⟨b, false⟩
  let s1 := numS s0 8
  ((numV s0 8, numV s1 2), endV (numS s1 2))
def takeOk (m : Img) (k : Nat) (b : List Nat) : Bool :=
  if k = 1 then (readH b).2 else if k = 2 then (readE b).2 && canE m (readE b).1.1 else if k = 3 then (readS b).2 else false
def takeV (m : Img) (k : Nat) (b : List Nat) : Img :=
  if k = 1 then { m with tm := (readH b).1.1, vo := ((readH b).1.2 : Int) - 1 }
  else if k = 2 then putE m (readE b).1
  else { m with si := (readS b).1.1, st := (readS b).1.2.1, sv := (readS b).1.2.2.1, sd := (readS b).1.2.2.2, es := [] }
/-- what bytes come to, and how many of them. -/
def scanP : Nat → Img → List Nat → Img × Nat
  | 0, m, _ => (m, 0)
  | f + 1, m, r => if firstN r ≠ 0 ∧ takeOk m (firstK r) (firstB r) = true then ((scanP f (takeV m (firstK r) (firstB r)) (r.drop (firstN r))).1, firstN r + (scanP f (takeV m (firstK r) (firstB r)) (r.drop (firstN r))).2) else (m, 0)

theorem firstN_pos {p : List Nat} (h : firstN p ≠ 0) : okRec p ∧ firstN p = 9 + Crc.num (p.take 4) ∧ firstN p ≤ p.length := by
  unfold firstN at h ⊢
  by_cases ho : okRec p
  · simp only [ho, if_true]
    exact ⟨trivial, trivial, ho.2.1⟩
  · simp [ho] at h
theorem take_app {l r : List Nat} {n : Nat} (h : l.length = n) : (l ++ r).take n = l := by rw [← h]; simp
theorem drop_app {l r : List Nat} {n : Nat} (h : l.length = n) : (l ++ r).drop n = r := by rw [← h]; simp
theorem le4_num (n : Nat) (h : n < 4294967296) : Crc.num (Crc.le 4 n) = n := by rw [Crc.num_le]; exact Nat.mod_eq_of_lt (by simpa using h)

/-! A record at the front is found. -/
theorem recB_eq (k : Nat) (b : List Nat) : recB k b = Crc.le 4 b.length ++ (Crc.le 1 k ++ (b ++ Crc.le 4 (Crc.sum (Crc.le 4 b.length ++ Crc.le 1 k ++ b)))) := by
  simp [recB, sealed, List.append_assoc]
theorem rec_bytes (k : Nat) (b : List Nat) (h : ∀ x ∈ b, x < 256) : ∀ x ∈ Crc.le 4 b.length ++ Crc.le 1 k ++ b, x < 256 := by
  intro x hx
  rcases List.mem_append.1 hx with hx | hx
  · rcases List.mem_append.1 hx with hx | hx
    · exact Crc.le_lt _ _ x hx
    · exact Crc.le_lt _ _ x hx
  · exact h x hx
theorem first_rec (k : Nat) (b r : List Nat) (hk : k < 256) (hb : ∀ x ∈ b, x < 256) (hl : b.length ≤ maxRec) :
    okRec (recB k b ++ r) ∧ firstK (recB k b ++ r) = k ∧ firstB (recB k b ++ r) = b ∧ firstN (recB k b ++ r) = b.length + 9 := by
  have hlr := recB_length k b
  have hlm : b.length ≤ 1048576 := hl
  have h4 : Crc.num ((recB k b ++ r).take 4) = b.length := by
    rw [recB_eq, List.append_assoc, take_app (Crc.le_length 4 _), le4_num _ (by omega)]
  have hh : (Crc.le 4 b.length ++ Crc.le 1 k ++ b).length = 5 + b.length := by simp [Crc.le_length]; omega
  have h5 : (recB k b ++ r).take (5 + b.length) = Crc.le 4 b.length ++ Crc.le 1 k ++ b := by
    unfold recB sealed
    rw [List.append_assoc, take_app hh]
  have h9 : (recB k b ++ r).take (9 + b.length) = recB k b := take_app (by omega)
  have hd : (recB k b).drop (5 + b.length) = Crc.le 4 (Crc.sum (Crc.le 4 b.length ++ Crc.le 1 k ++ b)) := by
    unfold recB sealed
    rw [drop_app hh]
  have hs : Crc.num (Crc.le 4 (Crc.sum (Crc.le 4 b.length ++ Crc.le 1 k ++ b))) = Crc.sum (Crc.le 4 b.length ++ Crc.le 1 k ++ b) := le4_num _ (Crc.sum_lt _ (rec_bytes k b hb))
  have hok : okRec (recB k b ++ r) := by
    refine ⟨⟨⟨rfl, ?_⟩, ?_⟩, ?_, ?_⟩
    · show 4 ≤ (recB k b ++ r).length
      rw [List.length_append]; omega
    · show Crc.num ((recB k b ++ r).take 4) ≤ _
      rw [h4]; exact hl
    · rw [h4, List.length_append]; omega
    · rw [h4, h9, h5, hd, hs]
  refine ⟨hok, ?_, ?_, ?_⟩
  · unfold firstK
    rw [if_pos hok]
    have : (recB k b ++ r).getD 4 0 = (Crc.le 1 k).getD 0 0 := by
      rw [recB_eq, List.append_assoc, List.getD_eq_getElem?_getD, List.getElem?_append_right (by rw [Crc.le_length]; omega), Crc.le_length, List.append_assoc, List.getElem?_append_left (by rw [Crc.le_length]; omega), List.getD_eq_getElem?_getD]
    rw [this]
    simp [Crc.le]
    omega
  · unfold firstB
    rw [if_pos hok, h4, h5, List.append_assoc]
    have : (Crc.le 4 b.length ++ (Crc.le 1 k ++ b)) = (Crc.le 4 b.length ++ Crc.le 1 k) ++ b := by simp
    rw [this]
    exact drop_app (by simp [Crc.le_length])
  · unfold firstN
    rw [if_pos hok, h4]; omega
/-- what is found is a record. -/
theorem first_is (p : List Nat) (hb : ∀ x ∈ p, x < 256) (h : okRec p) : p = recB (firstK p) (firstB p) ++ p.drop (firstN p) ∧ firstK p < 256 ∧ (firstB p).length ≤ maxRec ∧ firstN p = (firstB p).length + 9 ∧ (∀ x ∈ firstB p, x < 256) := by
  have ho := h
  obtain ⟨⟨⟨_, h4⟩, hm⟩, hl, hs⟩ := h
  simp only at h4 hm
  obtain ⟨q, Hq⟩ : ∃ q, Crc.num (p.take 4) = q := ⟨_, rfl⟩
  rw [Hq] at hm hl hs
  have hK : firstK p = p.getD 4 0 := if_pos ho
  have hB : firstB p = (p.take (5 + q)).drop 5 := by rw [← Hq]; exact if_pos ho
  have hN : firstN p = 9 + q := by rw [← Hq]; exact if_pos ho
  have hBl : (firstB p).length = q := by rw [hB]; simp; omega
  have b4 : ∀ x ∈ p.take 4, x < 256 := fun x hx => hb x (List.mem_of_mem_take hx)
  have e4 : p.take 4 = Crc.le 4 q := Crc.num_inj _ _ b4 (Crc.le_lt _ _) (by rw [Crc.le_length]; simp; omega) (by rw [Hq, le4_num q (by unfold maxRec at hm; omega)])
  have hk : p.getD 4 0 < 256 := by
    rw [List.getD_eq_getElem?_getD, List.getElem?_eq_getElem (by omega)]; exact hb _ (List.getElem_mem _)
  have e1 : (p.drop 4).take 1 = Crc.le 1 (p.getD 4 0) := by
    rw [List.drop_eq_getElem_cons (show 4 < p.length by omega)]
    have hg : p.getD 4 0 = p[4]'(by omega) := by simp [List.getD_eq_getElem?_getD, List.getElem?_eq_getElem (show 4 < p.length by omega)]
    have := hb _ (List.getElem_mem (show 4 < p.length by omega))
    rw [hg, Crc.le, Nat.mod_eq_of_lt this]
    rfl
  have e5 : p.take (5 + q) = Crc.le 4 q ++ Crc.le 1 (p.getD 4 0) ++ firstB p := by
    rw [hB, ← e4, ← e1]
    have : p.take 4 ++ (p.drop 4).take 1 = p.take 5 := by rw [show (5 : Nat) = 4 + 1 from rfl, List.take_add]
    rw [this]
    have h2 : p.take 5 = (p.take (5 + q)).take 5 := by rw [List.take_take]; congr 1; omega
    rw [h2, List.take_append_drop]
  have e9 : p.take (9 + q) = recB (firstK p) (firstB p) := by
    have hn : (p.take (9 + q)).length = (5 + q) + 4 := by simp; omega
    have hx : (p.take (9 + q)).take (5 + q) = p.take (5 + q) := by rw [List.take_take]; congr 1; omega
    have := (sealed_iff (p.take (9 + q)) (5 + q) hn (fun x hx => hb x (List.mem_of_mem_take hx))).2 (by rw [hx]; exact hs)
    rw [hx, e5] at this
    rw [← this]
    unfold recB
    rw [hBl, hK]
  refine ⟨?_, by rw [hK]; exact hk, by rw [hBl]; exact hm, by rw [hN, hBl]; omega, fun x hx => ?_⟩
  · rw [← e9, hN, List.take_append_drop]
  · rw [hB] at hx
    exact hb x (List.mem_of_mem_take (List.mem_of_mem_drop hx))
theorem first_no {p : List Nat} (h : ¬ okRec p) : firstN p = 0 := if_neg h
/-- a part of a record is none. -/
theorem first_part (k : Nat) (b : List Nat) (j : Nat) (_hk : k < 256) (_hb : ∀ x ∈ b, x < 256) (hl : b.length ≤ maxRec) (hj : j < b.length + 9) : firstN ((recB k b).take j) = 0 := by
  refine first_no fun h => ?_
  obtain ⟨⟨⟨_, h4⟩, _⟩, h9, _⟩ := h
  simp only at h4
  have hlm : b.length ≤ 1048576 := hl
  have hlr := recB_length k b
  have hj4 : 4 ≤ j := by simp at h4; omega
  have : ((recB k b).take j).take 4 = Crc.le 4 b.length := by
    rw [List.take_take, show min 4 j = 4 by omega, recB_eq]
    exact take_app (Crc.le_length 4 _)
  rw [this, le4_num _ (by omega)] at h9
  simp at h9
  omega
theorem first_few (p : List Nat) (h : p.length < 9) : firstN p = 0 := by
  refine first_no fun ho => ?_
  have := ho.2.1
  omega

/-! Reading back what was laid. -/
theorem num_front (n x : Nat) (r : List Nat) : numV ⟨Crc.le n x ++ r, false⟩ n = x % 256 ^ n ∧ numS ⟨Crc.le n x ++ r, false⟩ n = ⟨r, false⟩ := by
  have hh : (⟨Crc.le n x ++ r, false⟩ : Rs).has n := ⟨rfl, by simp [Crc.le_length]⟩
  unfold numV numS
  rw [if_pos hh, if_pos hh]
  simp only [take_app (Crc.le_length n x), drop_app (Crc.le_length n x), Crc.num_le]
  exact ⟨trivial, trivial⟩
theorem byt_front (d r : List Nat) (m : Nat) (hd : d.length ≤ m) (hm : m < 4294967296) : bytV ⟨Crc.le 4 d.length ++ d ++ r, false⟩ m = d ∧ bytS ⟨Crc.le 4 d.length ++ d ++ r, false⟩ m = ⟨r, false⟩ := by
  have h4 : Crc.num ((Crc.le 4 d.length ++ d ++ r).take 4) = d.length := by
    rw [List.append_assoc, take_app (Crc.le_length 4 _), le4_num _ (by omega)]
  have hb : (⟨Crc.le 4 d.length ++ d ++ r, false⟩ : Rs).byt m := by
    refine ⟨⟨⟨rfl, ?_⟩, ?_⟩, ?_⟩
    · show 4 ≤ (Crc.le 4 d.length ++ d ++ r).length
      simp [Crc.le_length]
    · show Crc.num ((Crc.le 4 d.length ++ d ++ r).take 4) ≤ m
      rw [h4]; exact hd
    · show Crc.num ((Crc.le 4 d.length ++ d ++ r).take 4) ≤ (Crc.le 4 d.length ++ d ++ r).length - 4
      rw [h4]; simp [Crc.le_length]
  unfold bytV bytS
  rw [if_pos hb, if_pos hb]
  simp only [h4]
  rw [List.append_assoc, drop_app (Crc.le_length 4 _), take_app rfl, drop_app rfl]
  exact ⟨rfl, rfl⟩
theorem end_nil_v : endV ⟨[], false⟩ = true := rfl

def bodyH (t : Nat) (v : Int) : List Nat := Crc.le 8 t ++ Crc.le 2 (v + 1).toNat
def bodyE (e : Pe) : List Nat := Crc.le 8 e.1 ++ Crc.le 8 e.2.1 ++ Crc.le 1 e.2.2.1 ++ Crc.le 4 e.2.2.2.length ++ e.2.2.2
def bodyS (s : Nat × Nat × Nat × List Nat) : List Nat := Crc.le 8 s.1 ++ Crc.le 8 s.2.1 ++ Crc.le 8 s.2.2.1 ++ Crc.le 4 s.2.2.2.length ++ s.2.2.2
def hardB (t : Nat) (v : Int) : List Nat := recB 1 (bodyH t v)
def entB (e : Pe) : List Nat := recB 2 (bodyE e)
def snapB (s : Nat × Nat × Nat × List Nat) : List Nat := recB 3 (bodyS s)
theorem bodyH_length (t : Nat) (v : Int) : (bodyH t v).length = 10 := by simp [bodyH, Crc.le_length]
theorem bodyE_length (e : Pe) : (bodyE e).length = 21 + e.2.2.2.length := by simp [bodyE, Crc.le_length]; omega
theorem bodyS_length (s : Nat × Nat × Nat × List Nat) : (bodyS s).length = 28 + s.2.2.2.length := by simp [bodyS, Crc.le_length]; omega
theorem le_app_lt (n x : Nat) {l : List Nat} (h : ∀ y ∈ l, y < 256) : ∀ y ∈ Crc.le n x ++ l, y < 256 := by
  intro y hy
  rcases List.mem_append.1 hy with hy | hy
  · exact Crc.le_lt _ _ y hy
  · exact h y hy
theorem bodyH_lt (t : Nat) (v : Int) : ∀ x ∈ bodyH t v, x < 256 := le_app_lt _ _ (Crc.le_lt _ _)
theorem bodyE_lt (e : Pe) (h : ∀ x ∈ e.2.2.2, x < 256) : ∀ x ∈ bodyE e, x < 256 := by
  unfold bodyE
  simp only [List.append_assoc]
  exact le_app_lt _ _ (le_app_lt _ _ (le_app_lt _ _ (le_app_lt _ _ h)))
theorem bodyS_lt (s : Nat × Nat × Nat × List Nat) (h : ∀ x ∈ s.2.2.2, x < 256) : ∀ x ∈ bodyS s, x < 256 := by
  unfold bodyS
  simp only [List.append_assoc]
  exact le_app_lt _ _ (le_app_lt _ _ (le_app_lt _ _ (le_app_lt _ _ h)))
theorem readH_back (t : Nat) (v : Int) (ht : t < 18446744073709551616) (h1 : -1 ≤ v) (h2 : v < 65535) : readH (bodyH t v) = ((t, (v + 1).toNat), true) := by
  have e : bodyH t v = Crc.le 8 t ++ (Crc.le 2 (v + 1).toNat ++ []) := by simp [bodyH]
  unfold readH
  simp only
  rw [e, (num_front 8 t _).1, (num_front 8 t _).2, (num_front 2 _ _).1, (num_front 2 _ _).2, end_nil_v, Nat.mod_eq_of_lt (by simpa using ht), Nat.mod_eq_of_lt (by omega)]
theorem readE_back (e : Pe) (h1 : e.1 < 18446744073709551616) (h2 : e.2.1 < 18446744073709551616) (h3 : e.2.2.1 < 256) (hl : e.2.2.2.length ≤ maxRec) : readE (bodyE e) = (e, true) := by
  obtain ⟨i, t, k, d⟩ := e
  simp only at h1 h2 h3 hl
  have eq : bodyE (i, t, k, d) = Crc.le 8 i ++ (Crc.le 8 t ++ (Crc.le 1 k ++ (Crc.le 4 d.length ++ d ++ []))) := by simp [bodyE]
  unfold readE
  simp only
  rw [eq, (num_front 8 i _).1, (num_front 8 i _).2, (num_front 8 t _).1, (num_front 8 t _).2, (num_front 1 k _).1, (num_front 1 k _).2, (byt_front d [] maxRec hl (by decide)).1, (byt_front d [] maxRec hl (by decide)).2, end_nil_v, Nat.mod_eq_of_lt (by simpa using h1), Nat.mod_eq_of_lt (by simpa using h2), Nat.mod_eq_of_lt (by simpa using h3)]
theorem readS_back (e : Nat × Nat × Nat × List Nat) (h1 : e.1 < 18446744073709551616) (h2 : e.2.1 < 18446744073709551616) (h3 : e.2.2.1 < 18446744073709551616) (hl : e.2.2.2.length ≤ maxRec) : readS (bodyS e) = (e, true) := by
  obtain ⟨i, t, k, d⟩ := e
  simp only at h1 h2 h3 hl
  have eq : bodyS (i, t, k, d) = Crc.le 8 i ++ (Crc.le 8 t ++ (Crc.le 8 k ++ (Crc.le 4 d.length ++ d ++ []))) := by simp [bodyS]
  unfold readS
  simp only
  rw [eq, (num_front 8 i _).1, (num_front 8 i _).2, (num_front 8 t _).1, (num_front 8 t _).2, (num_front 8 k _).1, (num_front 8 k _).2, (byt_front d [] maxRec hl (by decide)).1, (byt_front d [] maxRec hl (by decide)).2, end_nil_v, Nat.mod_eq_of_lt (by simpa using h1), Nat.mod_eq_of_lt (by simpa using h2), Nat.mod_eq_of_lt (by simpa using h3)]

/-! Scanning. -/
theorem scan_le (f : Nat) : ∀ (m : Img) (r : List Nat), (scanP f m r).2 ≤ r.length := by
  induction f with
  | zero => intro m r; exact Nat.zero_le _
  | succ f ih =>
    intro m r
    unfold scanP
    split
    · rename_i h
      have h1 := (firstN_pos h.1).2.2
      have h2 := ih (takeV m (firstK r) (firstB r)) (r.drop (firstN r))
      simp only
      rw [List.length_drop] at h2
      omega
    · exact Nat.zero_le _
theorem scan_none (f : Nat) (m : Img) (r : List Nat) (h : firstN r = 0) : scanP f m r = (m, 0) := by
  cases f with
  | zero => rfl
  | succ f => unfold scanP; rw [if_neg (fun e => e.1 h)]
/-- more steps than there are records make no difference. -/
theorem scan_more (f g : Nat) : ∀ (m : Img) (r : List Nat), r.length < f → r.length < g → scanP f m r = scanP g m r := by
  induction f generalizing g with
  | zero => intro m r h; omega
  | succ f ih =>
    intro m r h1 h2
    obtain ⟨g, rfl⟩ : ∃ g', g = g' + 1 := ⟨g - 1, by omega⟩
    unfold scanP
    by_cases hc : firstN r ≠ 0 ∧ takeOk m (firstK r) (firstB r) = true
    · rw [if_pos hc, if_pos hc]
      have h3 := firstN_pos hc.1
      have hl : (r.drop (firstN r)).length < f := by rw [List.length_drop]; omega
      have hl2 : (r.drop (firstN r)).length < g := by rw [List.length_drop]; omega
      rw [ih g _ _ hl hl2]
    · rw [if_neg hc, if_neg hc]
/-- what a list of bytes comes to. -/
def scan (m : Img) (r : List Nat) : Img × Nat := scanP (r.length + 1) m r
theorem scan_nil (m : Img) : scan m [] = (m, 0) := scan_none _ _ _ (first_few _ (by simp))
theorem scan_rec (m : Img) (k : Nat) (b r : List Nat) (hk : k < 256) (hb : ∀ x ∈ b, x < 256) (hl : b.length ≤ maxRec) (ht : takeOk m k b = true) :
    scan m (recB k b ++ r) = ((scan (takeV m k b) r).1, b.length + 9 + (scan (takeV m k b) r).2) := by
  obtain ⟨_, e1, e2, e3⟩ := first_rec k b r hk hb hl
  have hlr := recB_length k b
  unfold scan
  rw [scanP, e1, e2, e3, if_pos ⟨by omega, ht⟩, drop_app (by omega)]
  rw [scan_more _ (r.length + 1) _ r (by rw [List.length_append]; omega) (by omega)]
theorem scan_stop (m : Img) (k : Nat) (b r : List Nat) (hk : k < 256) (hb : ∀ x ∈ b, x < 256) (hl : b.length ≤ maxRec) (ht : takeOk m k b = false) :
    scan m (recB k b ++ r) = (m, 0) := by
  obtain ⟨_, e1, e2, e3⟩ := first_rec k b r hk hb hl
  unfold scan
  rw [scanP, e1, e2, if_neg (fun e => by rw [ht] at e; exact absurd e.2 (by simp))]
/-- nothing behind what they come to is looked at. -/
theorem scan_self (f : Nat) : ∀ (m : Img) (r : List Nat), (∀ x ∈ r, x < 256) → scan m (r.take (scanP f m r).2) = scanP f m r := by
  induction f with
  | zero => intro m r _; simp [scanP, scan_nil]
  | succ f ih =>
    intro m r hb
    by_cases hc : firstN r ≠ 0 ∧ takeOk m (firstK r) (firstB r) = true
    · obtain ⟨e1, e2, e3, e4, e5⟩ := first_is r hb (firstN_pos hc.1).1
      have hs : scanP (f + 1) m r = ((scanP f (takeV m (firstK r) (firstB r)) (r.drop (firstN r))).1, firstN r + (scanP f (takeV m (firstK r) (firstB r)) (r.drop (firstN r))).2) := by rw [scanP, if_pos hc]
      have := ih (takeV m (firstK r) (firstB r)) (r.drop (firstN r)) (fun x hx => hb x (List.mem_of_mem_drop hx))
      rw [hs]
      generalize (scanP f (takeV m (firstK r) (firstB r)) (r.drop (firstN r))) = z at this ⊢
      have ht : r.take (firstN r + z.2) = recB (firstK r) (firstB r) ++ (r.drop (firstN r)).take z.2 := by
        rw [List.take_add]
        congr 1
        have h2 : (recB (firstK r) (firstB r) ++ r.drop (firstN r)).take (firstN r) = recB (firstK r) (firstB r) := take_app (by rw [recB_length, e4])
        rw [← e1] at h2
        exact h2
      rw [ht, scan_rec m _ _ _ e2 e5 e3 hc.2, this, e4]
    · have hs : scanP (f + 1) m r = (m, 0) := by rw [scanP, if_neg hc]
      rw [hs]
      simp [scan_nil]
end Go.Proofs.YtlcakglmheleeaaDoor
