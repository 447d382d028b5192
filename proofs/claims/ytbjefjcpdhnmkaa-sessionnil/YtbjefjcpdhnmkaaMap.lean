/- A map of whole numbers: what it holds. -/
import Derived.Test.YtbjefjcpdhnmkaaBase
import Derived.Maps.Keyed
namespace Go.Proofs.Ytbjefjcpdhnmkaa
open Go.RowKit Go.Maps

theorem Try.keyed : Keyed Try.prog 30 := int_keyed Try.underlying30
theorem key_nat (n : Nat) (h : n < 18446744073709551616) : keyOf Try.prog 30 (.int .u64 (n : Int)) = some (.int .u64 (n : Int)) :=
  keyOf_int_mk Try.underlying30 (by simp [Lit.wf, IntKind.min, IntKind.max, IntKind.signed, IntKind.bits]; omega)
/-- A MAP at block b: what stands where. -/
def MapAt (w : World) (b : Nat) (es : List (Nat × Value)) : Prop :=
  ∃ arr clock, w.heap[b]? = some (.map arr clock) ∧ arr.toList.map (fun x => (x.key, x.val)) = es.map (fun p => (Value.int .u64 (p.1 : Int), p.2)) ∧ (∀ p ∈ es, p.1 < 18446744073709551616)
theorem MapAt.lt {w : World} {b : Nat} {es : List (Nat × Value)} (h : MapAt w b es) : b < w.heap.size := by
  obtain ⟨arr, clock, h1, _⟩ := h
  exact (Array.getElem?_eq_some_iff.1 h1).1
theorem MapAt.fr {S : Nat → Prop} {w w1 : World} {b : Nat} {es : List (Nat × Value)} (h : MapAt w b es) (f : Fr S w w1) (hs : ¬ S b) : MapAt w1 b es := by
  have hl := h.lt
  obtain ⟨arr, clock, h1, h2⟩ := h
  exact ⟨arr, clock, (f.block b hl hs).trans h1, h2⟩
theorem MapAt.made (w : World) : MapAt (w.alloc (.map #[] 0)) w.heap.size [] := ⟨#[], 0, heap_alloc_new w _, rfl, by simp⟩
section
variable {w : World} {b : Nat} {es : List (Nat × Value)}
theorem entry_of {arr : Array MapEntry} (h : arr.toList.map (fun x => (x.key, x.val)) = es.map (fun p => (Value.int .u64 (p.1 : Int), p.2))) {x : MapEntry} (hx : x ∈ arr.toList) : ∃ p ∈ es, x.key = .int .u64 (p.1 : Int) ∧ x.val = p.2 := by
  have : (x.key, x.val) ∈ es.map (fun p => (Value.int .u64 (p.1 : Int), p.2)) := by rw [← h]; exact List.mem_map.2 ⟨x, hx, rfl⟩
  obtain ⟨p, hp, e⟩ := List.mem_map.1 this
  exact ⟨p, hp, (congrArg Prod.fst e).symm, (congrArg Prod.snd e).symm⟩
theorem of_entry {arr : Array MapEntry} (h : arr.toList.map (fun x => (x.key, x.val)) = es.map (fun p => (Value.int .u64 (p.1 : Int), p.2))) {p : Nat × Value} (hp : p ∈ es) : ∃ x ∈ arr.toList, x.key = .int .u64 (p.1 : Int) ∧ x.val = p.2 := by
  have : (Value.int .u64 (p.1 : Int), p.2) ∈ arr.toList.map (fun x => (x.key, x.val)) := by rw [h]; exact List.mem_map.2 ⟨p, hp, rfl⟩
  obtain ⟨x, hx, e⟩ := List.mem_map.1 this
  have e1 := congrArg Prod.fst e
  have e2 := congrArg Prod.snd e
  exact ⟨x, hx, e1, e2⟩
theorem Try.info71 : (Try.prog.info? 71).map (fun i => (i.zero, i.size, i.bytes)) = some (some (.agg #[.int .u64 0, .int .i64 0, .int .u64 0, .int .u64 0, .slice none 0 0, .slice none 0 0]), 6, 80) := by kernel_rfl
set_option maxRecDepth 100000 in
theorem map_none (h : MapAt w b es) (n : Nat) (hn : n < 18446744073709551616) (hno : ∀ p ∈ es, p.1 ≠ n) (c : Bool) : (Instr.lookup 55 (.map (some b)) (.int .u64 (n : Int)) c).run Try.prog w = .ok (if c then .tuple #[.agg #[.int .u64 0, .int .i64 0, .int .u64 0, .int .u64 0, .slice none 0 0, .slice none 0 0], .bool false] else .agg #[.int .u64 0, .int .i64 0, .int .u64 0, .int .u64 0, .slice none 0 0, .slice none 0 0]) w := by
  obtain ⟨arr, clock, hb, he, hk⟩ := h
  have hz : (zeroValue 71).run Try.prog w = .ok (.agg #[.int .u64 0, .int .i64 0, .int .u64 0, .int .u64 0, .slice none 0 0, .slice none 0 0]) w := by
    obtain ⟨i, hi, hz0, _, _⟩ := info_parts Try.info71
    simp [zeroValue, typeInfo, hi, hz0]
  rcases Try.keyed.find w (key_nat n hn) arr.toList (fun e hx => by obtain ⟨p, hp, e1, _⟩ := entry_of he hx; exact ⟨_, by rw [e1]; exact key_nat p.1 (hk p hp)⟩) with ⟨h1, h2⟩ | ⟨j, e0, h1, h2, h3⟩
  · simp [Instr.lookup, run_underlying Try.underlying55, MapKept.run_getObj_map hb, Try.keyed.check w _ (key_nat n hn), h1, hz, Result.andThen]
  · obtain ⟨p, hp, e1, _⟩ := entry_of he (List.mem_of_getElem? h2)
    rw [h3] at e1
    have e2 := Int.ofNat.inj (Value.int.inj e1).2
    exact absurd e2.symm (hno p hp)
set_option maxRecDepth 100000 in
theorem map_some (h : MapAt w b es) (n : Nat) (v : Value) (hm : (n, v) ∈ es) (hu : ∀ p ∈ es, p.1 = n → p.2 = v) (c : Bool) : (Instr.lookup 55 (.map (some b)) (.int .u64 (n : Int)) c).run Try.prog w = .ok (if c then .tuple #[v, .bool true] else v) w := by
  obtain ⟨arr, clock, hb, he, hk⟩ := h
  have hn : n < 18446744073709551616 := hk _ hm
  rcases Try.keyed.find w (key_nat n hn) arr.toList (fun e hx => by obtain ⟨p, hp, e1, _⟩ := entry_of he hx; exact ⟨_, by rw [e1]; exact key_nat p.1 (hk p hp)⟩) with ⟨h1, h2⟩ | ⟨j, e0, h1, h2, h3⟩
  · obtain ⟨x, hx, e1, _⟩ := of_entry he hm
    exact absurd e1 (h2 x hx)
  · obtain ⟨p, hp, e1, e2⟩ := entry_of he (List.mem_of_getElem? h2)
    rw [h3] at e1
    have e3 := Int.ofNat.inj (Value.int.inj e1).2
    have : e0.val = v := by rw [e2]; exact hu p hp e3.symm
    simp [Instr.lookup, run_underlying Try.underlying55, MapKept.run_getObj_map hb, Try.keyed.check w _ (key_nat n hn), h1, Result.andThen, this]
theorem map_put (h : MapAt w b es) (n : Nat) (v : Value) (hn : n < 18446744073709551616) (hno : ∀ p ∈ es, p.1 ≠ n) :
    ∃ w', (Instr.mapUpdate 55 (.map (some b)) (.int .u64 (n : Int)) v).run Try.prog w = .ok () w' ∧ MapAt w' b (es ++ [(n, v)]) ∧ Fr (fun k => k = b) w w' := by
  have hlt := h.lt
  obtain ⟨arr, clock, hb, he, hk⟩ := h
  rcases Try.keyed.find w (key_nat n hn) arr.toList (fun e hx => by obtain ⟨p, hp, e1, _⟩ := entry_of he hx; exact ⟨_, by rw [e1]; exact key_nat p.1 (hk p hp)⟩) with ⟨h1, h2⟩ | ⟨j, e0, h1, h2, h3⟩
  · refine ⟨{ w with heap := w.heap.setIfInBounds b (.map (arr.push ⟨.int .u64 (n : Int), v, clock⟩) (clock + 1)) }, by simp [Instr.mapUpdate, run_underlying Try.underlying55, MapKept.run_getObj_map hb, Try.keyed.check w false (key_nat n hn), h1, MapKept.run_setObj_map _ hb, Result.andThen], ⟨arr.push ⟨.int .u64 (n : Int), v, clock⟩, clock + 1, by simp [hlt], by simp [he], ?_⟩, ⟨rfl, rfl, rfl, by simp, fun k hk2 hne => by simp [Ne.symm hne]⟩⟩
    intro p hp
    rcases List.mem_append.1 hp with h | h
    · exact hk p h
    · simp at h; rw [h]; exact hn
  · obtain ⟨p, hp, e1, _⟩ := entry_of he (List.mem_of_getElem? h2)
    rw [h3] at e1
    have e2 := Int.ofNat.inj (Value.int.inj e1).2
    exact absurd e2.symm (hno p hp)
theorem map_len (h : MapAt w b es) (ty : TypeId) : (Builtin.len_ #[55] ty #[.map (some b)]).run Try.prog w = .ok (.int .i64 (es.length : Int)) w := by
  obtain ⟨arr, clock, hb, he, hk⟩ := h
  have hsz : arr.size = es.length := by have := congrArg List.length he; simpa using this
  simp [Builtin.len_, run_underlying Try.underlying55, MapKept.run_getObj_map hb, Result.andThen, hsz, goInt]
end
end Go.Proofs.Ytbjefjcpdhnmkaa
