/- Take: one more frame of the one message. -/
import Derived.Test.YtpnjcpamhelaeaaDoorWhole
namespace Go.Proofs.YtpnjcpamhelaeaaDoor
open Go.RowKit

/-- the parts that are there, as they lie. -/
def Kept (w : World) (jb g mb : Nat) (D : Nat → List Nat) (es : List (Nat × Value)) : Prop :=
  ∀ p ∈ es, ∃ ai ci, p.2 = .slice ai (D p.1).length ci ∧ Row w ai (D p.1) ci ∧ (D p.1 ≠ [] → ∀ a, ai = some a → a.block ≠ jb ∧ a.block ≠ g ∧ a.block ≠ mb)
theorem Kept.fr {S : Nat → Prop} {w w1 : World} {jb g mb : Nat} {D : Nat → List Nat} {es : List (Nat × Value)} (h : Kept w jb g mb D es) (f : Fr S w w1) (hs : ∀ k, S k → k = jb ∨ k = g ∨ k = mb) : Kept w1 jb g mb D es := fun p hp => by
  obtain ⟨ai, ci, h1, h2, h3⟩ := h p hp
  exact ⟨ai, ci, h1, f.row h2 (fun hn a ha e => by have := h3 hn a ha; rcases hs _ e with e | e | e <;> omega), h3⟩
/-- A JOINER of one message, or of none. -/
def Jn (w : World) (base jb id of : Nat) (D : Nat → List Nat) (es : List (Nat × Value)) : Prop :=
  base ≤ jb ∧ ((es = [] ∧ w.cell? ⟨jb, 0, none⟩ = some (.slice none 0 0) ∧ w.frozen? ⟨jb, 0, none⟩ = false) ∨ ∃ g cp mb, base ≤ g ∧ base ≤ mb ∧ Jo w jb g cp mb id of es ∧ Kept w jb g mb D es)
theorem Jn.lt {w : World} {base jb id of : Nat} {D : Nat → List Nat} {es : List (Nat × Value)} (h : Jn w base jb id of D es) : jb < w.heap.size := by
  rcases h.2 with ⟨_, h, _⟩ | ⟨_, _, _, _, _, h, _⟩
  · exact World.block_lt_of_cell? _ _ h
  · exact h.lt.1
theorem Jn.fr {w w1 : World} {base jb id of : Nat} {D : Nat → List Nat} {es : List (Nat × Value)} (h : Jn w base jb id of D es) (f : Fr (fun _ => False) w w1) : Jn w1 base jb id of D es := by
  have hl := h.lt
  refine ⟨h.1, ?_⟩
  rcases h.2 with ⟨h1, h2, h3⟩ | ⟨g, cp, mb, h1, h2, h3, h4⟩
  · exact .inl ⟨h1, f.cell h2 (by simp), (f.frozenEq (a := ⟨jb, 0, none⟩) hl (by simp)).trans h3⟩
  · exact .inr ⟨g, cp, mb, h1, h2, h3.fr f (by simp) (by simp) (by simp), h4.fr f (by simp)⟩
/-- the message has its place. -/
theorem placed {w w1 : World} {base jb id of : Nat} {D : Nat → List Nat} {es : List (Nat × Value)} (h : Jn w base jb id of D es) (f : Fr (fun _ => False) w w1) (hb : base ≤ w.heap.size) :
    Calls Tryd.prog 36 #[.pointer (some ⟨jb, 0, none⟩), .agg #[.int .u64 (id : Int), .int .i64 (of : Int)]] w1 fun e w' => e = .returned (.int .i64 0) ∧ (∃ g cp mb, base ≤ g ∧ base ≤ mb ∧ Jo w' jb g cp mb id of es ∧ Kept w' jb g mb D es ∧ (∀ k, w.heap.size ≤ k → k < w1.heap.size → k ≠ g ∧ k ≠ mb)) ∧ Fr (fun k => k = jb) w1 w' := by
  have hs := f.size
  rcases h.2 with ⟨h1, h2, h3⟩ | ⟨g, cp, mb, h1, h2, h3, h4⟩
  · subst h1
    refine (place_new jb id of w1 (f.cell h2 (by simp)) ((f.frozenEq (a := ⟨jb, 0, none⟩) h.lt (by simp)).trans h3)).mono ?_
    rintro e w' ⟨he, ⟨g, cp, mb, h4, h5, h6⟩, hf⟩
    exact ⟨he, ⟨g, cp, mb, by omega, by omega, h6, fun p hp => by simp at hp, fun k hk1 hk2 => by omega⟩, hf⟩
  · have hlt := h3.lt
    refine (place_one (h3.fr f (by simp) (by simp) (by simp))).mono ?_
    rintro e w' ⟨he, hf⟩
    have f2 := f.trans hf
    exact ⟨he, ⟨g, cp, mb, h1, h2, h3.fr f2 (by simp) (by simp) (by simp), h4.fr f2 (by simp), fun k hk1 hk2 => by omega⟩, hf.mono (fun _ _ h => h.elim)⟩
/-- a cell's value, behind a letter. -/
def Cell1 (w : World) (a : Addr) (v : Value) : Prop := w.cell? a = some v
section
variable {w : World} {base jb id of : Nat} {D : Nat → List Nat} {es : List (Nat × Value)}
set_option maxRecDepth 100000 in
set_option maxHeartbeats 4000000 in
theorem take_more (h : Jn w base jb id of D es) (hb : base ≤ w.heap.size) (ht : Tab w) (ao : Option Addr) (l : List Nat) (cap at_ : Nat) (hr : Row w ao l cap) (hlen : l.length ≤ 5000) (hrd : readB l)
    (e1 : hId (l.take (l.length - 4)) = id) (e2 : hAt (l.take (l.length - 4)) = at_) (e3 : hOf (l.take (l.length - 4)) = of) (e4 : hN (l.take (l.length - 4)) = (D at_).length) (e5 : hData (l.take (l.length - 4)) = D at_)
    (hno : ∀ p ∈ es, p.1 ≠ at_) (hat : at_ < of) (hof : of < 65536) (hmore : es.length + 1 < of) :
    Calls Tryd.prog 19 #[.pointer (some ⟨jb, 0, none⟩), .slice ao l.length cap] w fun e w' => e = .returned (.tuple #[.slice none 0 0, .bool false]) ∧ (∃ v, Jn w' base jb id of D (es ++ [(at_, v)])) ∧ Fr (fun k => base ≤ k) w w' := by
  have KR := readf_yes ao l cap w ht hr (by omega) hrd
  rw [e1, e2, e3, e4, e5] at KR
  have HKR : Hid (Calls _ _ _ _ _) := KR
  have HJ : Hid (Jn w base jb id of D es) := h
  obtain ⟨Da, HDa⟩ : ∃ Da, Hid (D at_ = Da) := ⟨_, rfl⟩
  rw [HDa.out] at HKR
  have hjl := h.lt
  clear KR h hr ht e1 e2 e3 e4 e5
  go_enter Tryd.func19, Tryd.ntmps19
  go_wp2_with fail
  refine HKR.out.mono ?_
  rintro e w1 ⟨a1, c1, rfl, hr1, hb1, f1⟩
  have HR1 : Hid (Row w1 a1 Da c1) := hr1
  have HB1 : Hid (∀ a, a1 = some a → w.heap.size ≤ a.block) := hb1
  have F1 : Hid (Fr (fun _ => False) w w1) := f1
  clear hr1 hb1 f1 HKR
  have s1 := F1.out.size
  have f1a : Fr (fun _ => False) w1 (w1.alloc (.cells #[.int .u64 (id : Int), .int .i64 (at_ : Int), .int .i64 (of : Int), .slice a1 Da.length c1] 39)) := (Fr.refl _ _).alloc _
  have HP : Hid (Calls _ _ _ _ _) := placed HJ.out (F1.out.trans f1a) hb
  have x1 : (w1.alloc (.cells #[.int .u64 (id : Int), .int .i64 (at_ : Int), .int .i64 (of : Int), .slice a1 Da.length c1] 39)).cell? ⟨w1.heap.size, 1, none⟩ = some (.int .i64 (at_ : Int)) := by simp
  have x3 : (w1.alloc (.cells #[.int .u64 (id : Int), .int .i64 (at_ : Int), .int .i64 (of : Int), .slice a1 Da.length c1] 39)).cell? ⟨w1.heap.size, 3, none⟩ = some (.slice a1 Da.length c1) := by simp
  have X1 : Hid (Cell1 _ _ _) := x1
  have X3 : Hid (Cell1 _ _ _) := x3
  clear x1 x3
  go_wp2_with fail
  refine HP.out.mono ?_
  rintro e w3 ⟨rfl, ⟨g, cp, mb, hg, hmb, hJo, hKe, hnew⟩, f3⟩
  have hjN : ¬ (w1.heap.size = jb) := by omega
  have f4 : Fr (fun _ => False) w3 (w3.alloc (.cells #[.int .u64 (id : Int), .int .i64 (of : Int), .map (some mb)] 76)) := (Fr.refl _ _).alloc _
  have y1 := f3.cell X1.out hjN
  have y3 := f3.cell X3.out hjN
  have hs3 : w1.heap.size < w3.heap.size := by have := f3.size; simp at this; omega
  have z1 := f4.cell y1 (by simp)
  have z3 := f4.cell y3 (by simp)
  have J4 := hJo.fr f4 (by simp) (by simp) (by simp)
  have kl := map_none J4.mp at_ (by omega) hno true
  simp only [if_true] at kl
  obtain ⟨W5, kp, hM5, f5⟩ := map_put J4.mp at_ (.slice a1 Da.length c1) (by omega) hno
  have kln := map_len hM5 3
  rw [show ((es ++ [(at_, Value.slice a1 Da.length c1)]).length : Int) = ((es.length + 1 : Nat) : Int) by simp] at kln
  have hm3 : ¬ (w3.heap.size = mb) := by have := hJo.lt; omega
  have u0 : W5.cell? ⟨w3.heap.size, 0, none⟩ = some (.int .u64 (id : Int)) := f5.cell (by simp) hm3
  have u1 : W5.cell? ⟨w3.heap.size, 1, none⟩ = some (.int .i64 (of : Int)) := f5.cell (by simp) hm3
  have u2 : W5.cell? ⟨w3.heap.size, 2, none⟩ = some (.map (some mb)) := f5.cell (by simp) hm3
  have b0 := hJo.c
  have b1 := hJo.m0
  have b2 := hJo.m1
  have b3 := hJo.m2
  have hgl := hJo.lt
  have J5 : Hid (Jo W5 jb g cp mb id of (es ++ [(at_, .slice a1 Da.length c1)])) := ⟨f5.cell J4.c hJo.d2, (f5.frozenEq (a := ⟨jb, 0, none⟩) (by simp; omega) hJo.d2).trans J4.z, f5.cell J4.m0 hJo.d3, f5.cell J4.m1 hJo.d3, f5.cell J4.m2 hJo.d3, fun j => (f5.frozenEq (a := ⟨g, j, none⟩) (by simp; omega) hJo.d3).trans (J4.zg j), hM5, hJo.d1, hJo.d2, hJo.d3, hJo.cap⟩
  have FJ : Fr (fun k => k = jb ∨ k = mb) w1 W5 := (((f1a.mono (fun _ _ h => h.elim)).trans (f3.mono (fun _ _ h => .inl h))).trans (f4.mono (fun _ _ h => h.elim))).trans (f5.mono (fun _ _ h => .inr h))
  have hrow5 : Row W5 a1 Da c1 := FJ.row HR1.out (fun hn a ha e => by
    have h1 := HB1.out a ha
    have h2 := row_blk HR1.out hn a ha
    rcases e with e | e
    · omega
    · exact (hnew a.block h1 (by simp; omega)).2 e)
  have K5 : Hid (Kept W5 jb g mb D (es ++ [(at_, .slice a1 Da.length c1)])) := fun p hp => by
    rcases List.mem_append.1 hp with h | h
    · exact ((hKe.fr f4 (by simp)).fr f5 (fun k hk => .inr (.inr hk))) p h
    · simp at h
      subst h
      refine ⟨a1, c1, by rw [HDa.out], by rw [HDa.out]; exact hrow5, fun hn a ha => ?_⟩
      rw [HDa.out] at hn
      have h1 := HB1.out a ha
      have h2 := row_blk HR1.out hn a ha
      have h3 := hnew a.block h1 (by simp; omega)
      exact ⟨by omega, h3.1, h3.2⟩
  have F5 : Hid (Fr (fun k => base ≤ k) w W5) := ((F1.out.mono (fun _ _ h => h.elim)).trans (FJ.mono (fun k _ h => by
    rcases h with h | h
    · have := HJ.out.1; omega
    · omega)))
  clear f1a f3 f4 f5 J4 hJo hKe hnew FJ hrow5 hM5 HP X1 X3 y1 y3
  obtain ⟨n1, Hn1⟩ : ∃ n, Hid (es.length + 1 = n) := ⟨_, rfl⟩
  rw [Hn1.out] at kln hmore
  go_wp2
  go_ret2
  exact ⟨rfl, ⟨_, HJ.out.1, .inr ⟨g, cp, mb, hg, hmb, J5.out, K5.out⟩⟩, F5.out⟩
end
end Go.Proofs.YtpnjcpamhelaeaaDoor
