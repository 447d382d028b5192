/- The writer's and the reference's other calls: bytes and truths. -/
import Derived.Test.YtlcakglmheleeaaDoorRef
import Derived.Test.YtlcakglmheleeaaDoorDone
namespace Go.Proofs.YtlcakglmheleeaaDoor
open Go.RowKit

def bit (b : Bool) : Nat := if b then 1 else 0
theorem wbytes_any (base wb : Nat) (v : Value) (l : List Nat) (ao : Option Addr) (m : List Nat) (cap : Nat) (w : World) (hw : Wr w base wb v l) (hr : Row w ao m cap) (hap : m ≠ [] → ∀ a, ao = some a → a.block < base) (hwb : base ≤ wb) (hb : base ≤ w.heap.size) (hlen : l.length + m.length + 8 ≤ 140737488355328) :
    Calls Tryd.prog 69 #[.pointer (some ⟨wb, 0, none⟩), .slice ao m.length cap] w fun e w' => e = .returned (.pointer (some ⟨wb, 0, none⟩)) ∧ ∃ v', Wr w' base wb v' (l ++ Crc.le 4 m.length ++ m) ∧ Later w wb v w' v' := by
  have hown := hw.own.lt
  have hnum := wnum_any base wb v l m.length 4 w hw hb (by omega) (by omega) (by omega)
  have hlen' : (l ++ Crc.le 4 m.length).length + m.length ≤ 140737488355328 := by rw [List.length_append, Crc.le_length]; omega
  have hml : m.length < 9223372036854775808 := by omega
  generalize l ++ Crc.le 4 m.length = l1 at *
  go_enter Tryd.func69, Tryd.ntmps69
  go_wp2_with fail
  refine hnum.mono ?_
  rintro e w1 ⟨rfl, v1, h1, k1⟩
  have hr1 : Row w1 ao m cap := k1.fr.row hr (fun hm a ha hs => by
    have := hap hm a ha
    rcases hs with hs | hs
    · omega
    · have := hown _ hs; omega)
  go_wp2_with fail
  refine (lay_any base wb v1 l1 ao m cap w1 h1 hr1 (Nat.le_trans hb k1.fr.size) hlen').mono ?_
  rintro e w2 ⟨rfl, v2, h2, k2⟩
  go_wp2
  go_ret
  exact ⟨rfl, v2, h2, k1.trans k2⟩
/-! What comes in. -/
def NRow (w : World) (ao : Option Addr) (l : List Nat) (cap : Nat) : Prop :=
  l.length ≤ cap ∧ cap ≤ maxLen ∧ (∀ x ∈ l, x < 18446744073709551616) ∧
  (l ≠ [] → ∃ b off, ao = some ⟨b, off, none⟩ ∧ ∀ i, i < l.length → w.cell? ⟨b, off + i, none⟩ = some (.int .u64 ((l.getD i 0 : Nat) : Int)))
def PRow (w : World) (ao : Option Addr) (ps : List (List Nat)) (cap : Nat) : Prop :=
  ps.length ≤ cap ∧ cap ≤ maxLen ∧
  (ps ≠ [] → ∃ b off, ao = some ⟨b, off, none⟩ ∧ ∀ i, i < ps.length → ∃ ai ci, w.cell? ⟨b, off + i, none⟩ = some (.slice ai (ps.getD i []).length ci) ∧ Row w ai (ps.getD i []) ci)
theorem NRow.at {w w1 : World} {ao : Option Addr} {l : List Nat} {cap k : Nat} (h : NRow w ao l cap) (f : Fr (fun _ => False) w w1) (hk : k < l.length) :
    ∃ b off x, ao = some ⟨b, off, none⟩ ∧ x < 18446744073709551616 ∧ w1.cell? ⟨b, off + k, none⟩ = some (.int .u64 ((x : Nat) : Int)) ∧ Hid (x = l.getD k 0) := by
  obtain ⟨_, _, h3, h4⟩ := h
  obtain ⟨b, off, he, hc⟩ := h4 (fun e => by rw [e] at hk; simp at hk)
  exact ⟨b, off, l.getD k 0, he, by rw [List.getD_eq_getElem?_getD, List.getElem?_eq_getElem hk]; exact h3 _ (List.getElem_mem hk), f.cell (hc k hk) (by simp), rfl⟩
theorem Row.at {w w1 : World} {ao : Option Addr} {l : List Nat} {cap k : Nat} (h : Row w ao l cap) (f : Fr (fun _ => False) w w1) (hk : k < l.length) :
    ∃ b off x, ao = some ⟨b, off, none⟩ ∧ x < 256 ∧ w1.cell? ⟨b, off + k, none⟩ = some (.int .u8 ((x : Nat) : Int)) ∧ Hid (x = l.getD k 0) := by
  obtain ⟨_, _, h3, _, h4⟩ := h
  obtain ⟨b, off, he, hc⟩ := h4 (fun e => by rw [e] at hk; simp at hk)
  exact ⟨b, off, l.getD k 0, he, by rw [List.getD_eq_getElem?_getD, List.getElem?_eq_getElem hk]; exact h3 _ (List.getElem_mem hk), f.cell (hc k hk) (by simp), rfl⟩
theorem PRow.at {w w1 : World} {ao : Option Addr} {ps : List (List Nat)} {cap k : Nat} (h : PRow w ao ps cap) (f : Fr (fun _ => False) w w1) (hk : k < ps.length) :
    ∃ b off ai m ci, ao = some ⟨b, off, none⟩ ∧ w1.cell? ⟨b, off + k, none⟩ = some (.slice ai (m : List Nat).length ci) ∧ Row w ai m ci ∧ Hid (m = ps.getD k []) := by
  obtain ⟨_, _, h4⟩ := h
  obtain ⟨b, off, he, hc⟩ := h4 (fun e => by rw [e] at hk; simp at hk)
  obtain ⟨ai, ci, h1, h2⟩ := hc k hk
  exact ⟨b, off, ai, _, ci, he, f.cell h1 (by simp), h2, rfl⟩
theorem Row.lt {w : World} {ao : Option Addr} {l : List Nat} {cap : Nat} (h : Row w ao l cap) (hl : l ≠ []) : ∀ a, ao = some a → a.block < w.heap.size := by
  intro a ha
  obtain ⟨b, off, he, hc⟩ := h.2.2.2.2 hl
  rw [he] at ha
  cases ha
  exact World.block_lt_of_cell? _ _ (hc 0 (by cases l; exact absurd rfl hl; simp))
theorem Wr.fr {w w1 : World} {base wb : Nat} {v : Value} {l : List Nat} (h : Wr w base wb v l) (f : Fr (fun _ => False) w w1) : Wr w1 base wb v l :=
  ⟨f.cell h.cell (by simp), (f.frozenEq (World.block_lt_of_cell? _ _ h.cell) (by simp)).trans h.free, h.own.fr f (by simp), h.apart⟩

/-! The pieces. -/
def upto (N : List (List Nat)) (k : Nat) : List Nat := (N.take k).flatten
def from' (N : List (List Nat)) (k : Nat) : List Nat := (N.drop k).flatten
theorem upto_succ {N : List (List Nat)} {k : Nat} (h : k < N.length) : upto N (k + 1) = upto N k ++ N.getD k [] := by
  unfold upto
  rw [List.take_succ_eq_append_getElem h, List.flatten_append, List.getD_eq_getElem?_getD, List.getElem?_eq_getElem h]
  simp only [List.flatten_cons, List.flatten_nil, List.append_nil, Option.getD_some]
theorem from_succ {N : List (List Nat)} {k : Nat} (h : k < N.length) : from' N k = N.getD k [] ++ from' N (k + 1) := by
  unfold from'
  rw [List.drop_eq_getElem_cons h, List.flatten_cons, List.getD_eq_getElem?_getD, List.getElem?_eq_getElem h]
  simp only [Option.getD_some]
theorem upto_all (N : List (List Nat)) : upto N N.length = from' N 0 := by simp [upto, from']
theorem from_end (N : List (List Nat)) : from' N N.length = [] := by simp [from']
def nums (ns s : List Nat) : List (List Nat) := List.zipWith (fun n k => Crc.le (k % 9) n) ns s
theorem nums_length (ns s : List Nat) : (nums ns s).length = min ns.length s.length := by simp [nums]
theorem nums_at (ns s : List Nat) (k : Nat) (h1 : k < ns.length) (h2 : k < s.length) : (nums ns s).getD k [] = Crc.le (s.getD k 0 % 9) (ns.getD k 0) := by
  unfold nums
  rw [List.getD_eq_getElem?_getD, List.getElem?_zipWith, List.getElem?_eq_getElem h1, List.getElem?_eq_getElem h2]
  simp [h1, h2]
def parts (b : Bool) (ps : List (List Nat)) : List (List Nat) := ps.map fun p => Crc.le 4 p.length ++ p ++ Crc.le 1 (bit b)
theorem parts_length (b : Bool) (ps : List (List Nat)) : (parts b ps).length = ps.length := by simp [parts]
theorem parts_at (b : Bool) (ps : List (List Nat)) (k : Nat) (h : k < ps.length) : (parts b ps).getD k [] = Crc.le 4 (ps.getD k []).length ++ ps.getD k [] ++ Crc.le 1 (bit b) := by
  simp [parts, h]
end Go.Proofs.YtlcakglmheleeaaDoor
