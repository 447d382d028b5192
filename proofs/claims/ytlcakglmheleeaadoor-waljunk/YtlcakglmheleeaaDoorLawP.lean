/- The law's records and images, as plain lists. -/
import Derived.Test.YtlcakglmheleeaaDoorAwake
import Derived.Test.YtlcakglmheleeaaDoorRecA
namespace Go.Proofs.YtlcakglmheleeaaDoor
open Go.RowKit

/-- entries stand one behind the other, from the snapshot's index on. -/
def InvI (m : Img) : Prop := ∀ j, j < m.es.length → (m.es.getD j default).1 = m.si + j + 1
theorem inv0 : InvI img0 := fun j hj => by simp [img0] at hj
theorem filter_take (si i : Nat) : ∀ (n : Nat) (l : List Pe), (∀ j, j < l.length → (l.getD j default).1 = si + n + j + 1) → l.filter (fun e => decide (e.1 < i)) = l.take (i - si - n - 1) := by
  intro n l
  induction l generalizing n with
  | nil => intro _; simp
  | cons e l ih =>
    intro h
    have h0 : e.1 = si + n + 1 := by have := h 0 (by simp); simpa using this
    have h1 := ih (n + 1) (fun j hj => by
      have := h (j + 1) (by simpa using hj)
      simp only [List.getD_cons_succ] at this
      omega)
    rw [List.filter_cons, h1]
    by_cases hlt : e.1 < i
    · have : i - si - n - 1 = (i - si - (n + 1) - 1) + 1 := by omega
      rw [if_pos (by simpa using hlt), this, List.take_succ_cons]
    · have e1 : i - si - n - 1 = 0 := by omega
      have e2 : i - si - (n + 1) - 1 = 0 := by omega
      rw [if_neg (by simpa using hlt), e1, e2]
      simp
theorem filter_inv (m : Img) (i : Nat) (h : InvI m) : m.es.filter (fun e => decide (e.1 < i)) = m.es.take (i - m.si - 1) := by
  have := filter_take m.si i 0 m.es (fun j hj => by have := h j hj; omega)
  rw [this]
  simp
theorem inv_put (m : Img) (e : Pe) (h : InvI m) (hc : canE m e.1 = true) : InvI (putE m e) := by
  unfold canE at hc
  simp only [decide_eq_true_eq] at hc
  intro j hj
  have hl : (m.es.take (e.1 - m.si - 1)).length = e.1 - m.si - 1 := by rw [List.length_take]; exact Nat.min_eq_left hc.2
  simp only [putE, List.length_append, hl, List.length_singleton] at hj
  simp only [putE]
  by_cases hlt : j < e.1 - m.si - 1
  · have := h j (by omega)
    rw [List.getD_eq_getElem?_getD, List.getElem?_append_left (by omega), List.getElem?_take, if_pos hlt, ← List.getD_eq_getElem?_getD]
    exact this
  · have : j = e.1 - m.si - 1 := by omega
    rw [List.getD_eq_getElem?_getD, List.getElem?_append_right (by omega), hl, this, Nat.sub_self]
    show e.1 = _
    omega
theorem put_len (m : Img) (e : Pe) : (putE m e).es.length ≤ m.es.length + 1 := by
  simp [putE]
  omega

def voOf (v : Int) : Int := if v < -1 then -1 else v
theorem voOf_le (v : Int) (h : v < 32768) : -1 ≤ voOf v ∧ voOf v < 65535 := by unfold voOf; split <;> omega
def ixOf (m : Img) (x : Rc) : Nat := if x.k % 4 = 2 then m.si + m.es.length + 1 else x.a % 12
def entOf (m : Img) (x : Rc) : Pe := (ixOf m x, x.b, x.k / 4 % 2, x.d)
def snapOf (x : Rc) : Nat × Nat × Nat × List Nat := (x.a % 9, x.b, x.a, x.d)
def isE (x : Rc) : Bool := decide (x.k % 4 = 1 ∨ x.k % 4 = 2)
/-- a record's bytes, what an image is with it, whether it can stand there. -/
def bytesOf (m : Img) (x : Rc) : List Nat := if x.k % 4 = 0 then hardB x.a (voOf x.v) else if isE x then entB (entOf m x) else snapB (snapOf x)
def okOf (m : Img) (x : Rc) : Bool := if isE x then canE m (ixOf m x) else true
def nextOf (m : Img) (x : Rc) : Img :=
  if x.k % 4 = 0 then { m with tm := x.a, vo := voOf x.v }
  else if isE x then (if canE m (ixOf m x) then putE m (entOf m x) else m)
  else { m with si := x.a % 9, st := x.b, sv := x.a, sd := x.d, es := [] }
/-- what the law's images keep. -/
structure Good (m : Img) (n : Nat) : Prop where
  inv : InvI m
  si : m.si ≤ 1001
  len : m.es.length ≤ n
  tm : m.tm < 18446744073709551616
  vo : -1 ≤ m.vo ∧ m.vo < 65535
  st : m.st < 18446744073709551616
  sv : m.sv < 18446744073709551616
  sd : m.sd.length ≤ 200
  es : ∀ e ∈ m.es, e.2.2.2.length ≤ 200
theorem good0 : Good img0 0 := ⟨inv0, by decide, Nat.le_refl _, by decide, by decide, by decide, by decide, by decide, by simp [img0]⟩
theorem Good.le {m : Img} {n k : Nat} (h : Good m n) (hk : n ≤ k) : Good m k := ⟨h.inv, h.si, Nat.le_trans h.len hk, h.tm, h.vo, h.st, h.sv, h.sd, h.es⟩
theorem good_next {m : Img} {n : Nat} {w : World} {x : Rc} (h : Good m n) (hx : RcG w x) (hd : x.d.length ≤ 200) : Good (nextOf m x) (n + 1) := by
  have hv := voOf_le x.v hx.v.2
  unfold nextOf
  split
  · exact ⟨h.inv, h.si, by have := h.len; show m.es.length ≤ _; omega, hx.a, hv, h.st, h.sv, h.sd, h.es⟩
  · split
    · split
      · rename_i hc
        refine ⟨inv_put m _ h.inv hc, h.si, by have := put_len m (entOf m x); have := h.len; omega, h.tm, h.vo, h.st, h.sv, h.sd, fun e he => ?_⟩
        simp only [putE, List.mem_append, List.mem_singleton] at he
        rcases he with he | rfl
        · exact h.es e (List.mem_of_mem_take he)
        · exact hd
      · exact h.le (by omega)
    · exact ⟨fun j hj => by simp at hj, by show x.a % 9 ≤ 1001; omega, Nat.zero_le _, h.tm, h.vo, hx.b, hx.a, hd, by simp⟩
theorem bytesOf_len {w : World} {x : Rc} (m : Img) (_hx : RcG w x) (hd : x.d.length ≤ 200) : (bytesOf m x).length ≤ 237 ∧ 9 ≤ (bytesOf m x).length := by
  unfold bytesOf
  split
  · rw [hardB_length]; omega
  · split
    · rw [entB_length]; show x.d.length + 30 ≤ _ ∧ _; omega
    · rw [snapB_length]; show x.d.length + 37 ≤ _ ∧ _; omega
/-- one record more is scanned. -/
theorem scan_next {w : World} {x : Rc} {m : Img} {n : Nat} (r : List Nat) (h : Good m n) (hn : n ≤ 1000) (hx : RcG w x) (hd : x.d.length ≤ 200) (hok : okOf m x = true) :
    scan m (bytesOf m x ++ r) = ((scan (nextOf m x) r).1, (bytesOf m x).length + (scan (nextOf m x) r).2) := by
  have hv := voOf_le x.v hx.v.2
  have hix : ixOf m x < 18446744073709551616 := by
    unfold ixOf
    have := h.si
    have := h.len
    split <;> omega
  unfold okOf at hok
  unfold bytesOf nextOf
  split
  · rw [scan_hard m _ _ r hx.a hv.1 hv.2, hardB_length]
  · split
    · rename_i he
      rw [if_pos he] at hok
      rw [if_pos hok, scan_ent m (entOf m x) r hix hx.b (by show x.k / 4 % 2 < 256; omega) (by show x.d.length ≤ _; omega) hx.row.2.2.1 hok, entB_length]
    · rw [scan_snap m (snapOf x) r (by show x.a % 9 < _; omega) hx.b hx.a (by show x.d.length ≤ _; omega) hx.row.2.2.1, snapB_length]
      rfl
theorem scan_not {w : World} {x : Rc} {m : Img} {n : Nat} (r : List Nat) (h : Good m n) (hn : n ≤ 1000) (hx : RcG w x) (hd : x.d.length ≤ 200) (hok : okOf m x = false) : scan m (bytesOf m x ++ r) = (m, 0) := by
  have hix : ixOf m x < 18446744073709551616 := by
    unfold ixOf
    have := h.si
    have := h.len
    split <;> omega
  unfold okOf at hok
  by_cases he : isE x = true
  · rw [if_pos he] at hok
    have h0 : ¬ x.k % 4 = 0 := by unfold isE at he; simp at he; omega
    unfold bytesOf
    rw [if_neg h0, if_pos he]
    exact scan_ent_no m (entOf m x) r hix hx.b (by show x.k / 4 % 2 < 256; omega) (by show x.d.length ≤ _; omega) hx.row.2.2.1 hok
  · rw [if_neg he] at hok
    cases hok
end Go.Proofs.YtlcakglmheleeaaDoor
