/- A frame that was laid tells itself. -/
import Derived.Test.YtpnjcpamhelaeaaDoorReadAll
import Derived.Test.YtpnjcpamhelaeaaDoorSlices
namespace Go.Proofs.YtpnjcpamhelaeaaDoor
open Go.RowKit

theorem num_le_take (k n : Nat) (r : List Nat) (hn : n < 256 ^ k) : Crc.num ((Crc.le k n ++ r).take k) = n := by
  rw [List.take_left' (Crc.le_length k n), Crc.num_le, Nat.mod_eq_of_lt hn]
theorem drop_le (k n : Nat) (r : List Nat) : (Crc.le k n ++ r).drop k = r := List.drop_left' (Crc.le_length k n)
section
variable (size id k of : Nat) (c : List Nat)
theorem body_eq : body size id k of c = Crc.le 1 1 ++ (Crc.le 8 id ++ (Crc.le 2 k ++ (Crc.le 2 of ++ (Crc.le 2 c.length ++ (c ++ List.replicate (size - 19 - c.length) 0))))) := by
  simp [body, hd, List.append_assoc]
theorem body_first : hFirst (body size id k of c) = 1 := by
  unfold hFirst; rw [body_eq]; exact num_le_take 1 1 _ (by decide)
theorem body_id (h : id < 18446744073709551616) : hId (body size id k of c) = id := by
  unfold hId; rw [body_eq, drop_le]; exact num_le_take 8 id _ (by simpa using h)
theorem body_at (h : k < 65536) : hAt (body size id k of c) = k := by
  unfold hAt; rw [body_eq, show (9 : Nat) = 1 + 8 from rfl, ← List.drop_drop, drop_le, drop_le]; exact num_le_take 2 k _ (by simpa using h)
theorem body_of (h : of < 65536) : hOf (body size id k of c) = of := by
  unfold hOf; rw [body_eq, show (11 : Nat) = 1 + (8 + 2) from rfl, ← List.drop_drop, drop_le, ← List.drop_drop, drop_le, drop_le]; exact num_le_take 2 of _ (by simpa using h)
theorem body_n (h : c.length < 65536) : hN (body size id k of c) = c.length := by
  unfold hN; rw [body_eq, show (13 : Nat) = 1 + (8 + (2 + 2)) from rfl, ← List.drop_drop, drop_le, ← List.drop_drop, drop_le, ← List.drop_drop, drop_le, drop_le]; exact num_le_take 2 _ _ (by simpa using h)
theorem body_drop : (body size id k of c).drop 15 = c ++ List.replicate (size - 19 - c.length) 0 := by
  rw [body_eq, show (15 : Nat) = 1 + (8 + (2 + (2 + 2))) from rfl, ← List.drop_drop, drop_le, ← List.drop_drop, drop_le, ← List.drop_drop, drop_le, ← List.drop_drop, drop_le, drop_le]
theorem body_data (h : c.length < 65536) : hData (body size id k of c) = c := by
  unfold hData; rw [body_n size id k of c h, body_drop]; exact List.take_left' rfl
theorem body_nz : nz (body size id k of c) = false := by
  rw [body_eq]; simp [nz, Crc.le]
theorem body_tells (hs : 64 ≤ size ∧ size ≤ 4096) (hc : c.length + 19 ≤ size) (hk : k < of) (ho : of < 65536) (hf : k + 1 < of → c.length = size - 19) : tells (body size id k of c) = true := by
  unfold tells
  rw [body_first, body_at size id k of c (by omega), body_of size id k of c ho, body_n size id k of c (by omega), body_length size id k of c hc, Nat.add_comm 15, ← List.drop_drop]
  rw [show (body size id k of c).drop c.length = (body size id k of c).drop c.length from rfl]
  have h1 : ((body size id k of c).drop c.length).drop 15 = List.replicate (size - 19 - c.length) 0 := by
    rw [List.drop_drop, Nat.add_comm, ← List.drop_drop, body_drop, List.drop_left' rfl]
  rw [h1]
  have h2 : nz (List.replicate (size - 19 - c.length) 0) = true := by simp [nz, List.all_replicate]
  rw [h2]
  have h3 : decide (k < of) = true := by simpa using hk
  have h4 : decide (c.length ≤ size - 4 - 15) = true := by simp; omega
  have h5 : (decide (k + 1 < of) && decide (c.length < size - 4 - 15)) = false := by
    simp
    intro h
    have := hf h
    omega
  rw [h3, h4, h5]
  rfl
theorem body_read (hs : 64 ≤ size ∧ size ≤ 4096) (hc : c.length + 19 ≤ size) (hk : k < of) (ho : of < 65536) (hf : k + 1 < of → c.length = size - 19) (hb : ∀ x ∈ c, x < 256) : readB (sealed (body size id k of c)) ∧ (sealed (body size id k of c)).take ((sealed (body size id k of c)).length - 4) = body size id k of c := by
  have hbl := body_length size id k of c hc
  have hl : (sealed (body size id k of c)).length = size := by rw [sealed_length, hbl]; omega
  have htk : (sealed (body size id k of c)).take (size - 4) = body size id k of c := List.take_left' hbl
  have hdr : (sealed (body size id k of c)).drop (size - 4) = Crc.le 4 (Crc.sum (body size id k of c)) := List.drop_left' hbl
  unfold readB isSealed
  rw [hl, htk, hdr]
  refine ⟨⟨⟨by omega, ?_⟩, hs.1, hs.2, body_nz size id k of c, body_tells size id k of c hs hc hk ho hf⟩, rfl⟩
  rw [Crc.num_le, Nat.mod_eq_of_lt]
  exact Crc.sum_lt _ (body_lt size id k of c hb)
end
/-- every frame of a message. -/
theorem fr1_read (size id i : Nat) (p : List Nat) (hs : 64 ≤ size ∧ size ≤ 4096) (hp : p.length ≤ 1048576) (hb : ∀ x ∈ p, x < 256) (hi : i < parts size p.length) :
    readB (fr1 size id (parts size p.length) i p) ∧ (fr1 size id (parts size p.length) i p).take ((fr1 size id (parts size p.length) i p).length - 4) = body size id i (parts size p.length) (chunk size i p) := by
  have hpl := parts_le size p.length hs.1 hp
  unfold fr1
  refine body_read size id i _ _ hs (chunk_le size i p (by omega)) hi (by omega) (fun h => ?_) (fun x hx => hb x (List.mem_of_mem_drop (List.mem_of_mem_take hx)))
  unfold chunk
  simp
  have h2 : (i + 1) * (size - 19) ≤ p.length := by
    have h3 : i + 1 ≤ (max p.length 1 - 1) / (size - 19) := by unfold parts at h; omega
    have h4 := (Nat.le_div_iff_mul_le (show 0 < size - 19 by omega)).1 h3
    have : 0 < (i + 1) * (size - 19) := Nat.mul_pos (by omega) (by omega)
    omega
  rw [Nat.add_mul, Nat.one_mul] at h2
  omega
/-- all parts of a message, one behind the other, are it. -/
def joined (size of : Nat) (p : List Nat) : List Nat := ((List.range of).map fun i => chunk size i p).flatten
theorem joined_take (size n : Nat) (p : List Nat) : joined size n p = p.take (n * (size - 19)) := by
  induction n with
  | zero => simp [joined]
  | succ n ih =>
    have : joined size (n + 1) p = joined size n p ++ chunk size n p := by
      simp [joined, List.range_succ, List.map_append, List.flatten_append]
    rw [this, ih, Nat.add_mul, Nat.one_mul]
    unfold chunk
    rw [List.take_add]
theorem joined_all (size : Nat) (p : List Nat) (hs : 20 ≤ size) : joined size (parts size p.length) p = p := by
  rw [joined_take]
  exact List.take_of_length_le (parts_cover size p.length hs)
end Go.Proofs.YtpnjcpamhelaeaaDoor
