/- Take: the last frame of the one message. -/
import Derived.Test.YtpnjcpamhelaeaaDoorTake
namespace Go.Proofs.YtpnjcpamhelaeaaDoor
open Go.RowKit
section
variable {w : World} {base jb id of : Nat} {D : Nat → List Nat} {es : List (Nat × Value)}
set_option maxRecDepth 100000 in
set_option maxHeartbeats 4000000 in
theorem take_last (h : Jn w base jb id of D es) (hb : base ≤ w.heap.size) (ht : Tab w) (ao : Option Addr) (l : List Nat) (cap at_ : Nat) (hr : Row w ao l cap) (hlen : l.length ≤ 5000) (hrd : readB l)
    (e1 : hId (l.take (l.length - 4)) = id) (e2 : hAt (l.take (l.length - 4)) = at_) (e3 : hOf (l.take (l.length - 4)) = of) (e4 : hN (l.take (l.length - 4)) = (D at_).length) (e5 : hData (l.take (l.length - 4)) = D at_)
    (hno : ∀ p ∈ es, p.1 ≠ at_) (hat : at_ < of) (hof : of < 65536) (hlast : es.length + 1 = of) (hall : ∀ i, i < of → i = at_ ∨ ∃ p ∈ es, p.1 = i) (hun : ∀ p ∈ es, ∀ q ∈ es, p.1 = q.1 → p.2 = q.2) (hDl : ∀ i, (D i).length ≤ 4096) :
    Calls Tryd.prog 19 #[.pointer (some ⟨jb, 0, none⟩), .slice ao l.length cap] w fun e w' => (∃ v, e = .returned (.tuple #[v, .bool true]) ∧ Own w' base v (flat D of)) ∧ (∃ g cp, w'.cell? ⟨jb, 0, none⟩ = some (.slice (some ⟨g, 0, none⟩) 0 cp)) ∧ Fr (fun k => base ≤ k) w w' := by
  have KR := readf_yes ao l cap w ht hr (by omega) hrd
  rw [e1, e2, e3, e4, e5] at KR
  have HKR : Hid (Calls _ _ _ _ _) := KR
  have HJ : Hid (Jn w base jb id of D es) := h
  obtain ⟨Da, HDa⟩ : ∃ Da, Hid (D at_ = Da) := ⟨_, rfl⟩
  rw [HDa.out] at HKR
  have hjl := h.lt
  clear KR h hr ht e1 e2 e3 e4 e5
  go_enter Tryd.func19, Tryd.ntmps19
  go_wp2_with fail
  refine HKR.out.mono ?_
  rintro e w1 ⟨a1, c1, rfl, hr1, hb1, f1⟩
  have HR1 : Hid (Row w1 a1 Da c1) := hr1
  have HB1 : Hid (∀ a, a1 = some a → w.heap.size ≤ a.block) := hb1
  have F1 : Hid (Fr (fun _ => False) w w1) := f1
  clear hr1 hb1 f1 HKR
  have s1 := F1.out.size
  have f1a : Fr (fun _ => False) w1 (w1.alloc (.cells #[.int .u64 (id : Int), .int .i64 (at_ : Int), .int .i64 (of : Int), .slice a1 Da.length c1] 39)) := (Fr.refl _ _).alloc _
  have HP : Hid (Calls _ _ _ _ _) := placed HJ.out (F1.out.trans f1a) hb
  have x1 : (w1.alloc (.cells #[.int .u64 (id : Int), .int .i64 (at_ : Int), .int .i64 (of : Int), .slice a1 Da.length c1] 39)).cell? ⟨w1.heap.size, 1, none⟩ = some (.int .i64 (at_ : Int)) := by simp
  have x3 : (w1.alloc (.cells #[.int .u64 (id : Int), .int .i64 (at_ : Int), .int .i64 (of : Int), .slice a1 Da.length c1] 39)).cell? ⟨w1.heap.size, 3, none⟩ = some (.slice a1 Da.length c1) := by simp
  have X1 : Hid (Cell1 _ _ _) := x1
  have X3 : Hid (Cell1 _ _ _) := x3
  clear x1 x3
  go_wp2_with fail
  refine HP.out.mono ?_
  rintro e w3 ⟨rfl, ⟨g, cp, mb, hg, hmb, hJo, hKe, hnew⟩, f3⟩
  have hjN : ¬ (w1.heap.size = jb) := by omega
  have f4 : Fr (fun _ => False) w3 (w3.alloc (.cells #[.int .u64 (id : Int), .int .i64 (of : Int), .map (some mb)] 76)) := (Fr.refl _ _).alloc _
  have y1 := f3.cell X1.out hjN
  have y3 := f3.cell X3.out hjN
  have hs3 : w1.heap.size < w3.heap.size := by have := f3.size; simp at this; omega
  have z1 := f4.cell y1 (by simp)
  have z3 := f4.cell y3 (by simp)
  have J4 := hJo.fr f4 (by simp) (by simp) (by simp)
  have kl := map_none J4.mp at_ (by omega) hno true
  simp only [if_true] at kl
  obtain ⟨W5, kp, hM5, f5⟩ := map_put J4.mp at_ (.slice a1 Da.length c1) (by omega) hno
  have kln := map_len hM5 3
  rw [show ((es ++ [(at_, Value.slice a1 Da.length c1)]).length : Int) = ((es.length + 1 : Nat) : Int) by simp] at kln
  have hm3 : ¬ (w3.heap.size = mb) := by have := hJo.lt; omega
  have u0 : W5.cell? ⟨w3.heap.size, 0, none⟩ = some (.int .u64 (id : Int)) := f5.cell (by simp) hm3
  have u1 : W5.cell? ⟨w3.heap.size, 1, none⟩ = some (.int .i64 (of : Int)) := f5.cell (by simp) hm3
  have u2 : W5.cell? ⟨w3.heap.size, 2, none⟩ = some (.map (some mb)) := f5.cell (by simp) hm3
  have b0 := hJo.c
  have b1 := hJo.m0
  have b2 := hJo.m1
  have b3 := hJo.m2
  have hgl := hJo.lt
  have J5 : Hid (Jo W5 jb g cp mb id of (es ++ [(at_, .slice a1 Da.length c1)])) := ⟨f5.cell J4.c hJo.d2, (f5.frozenEq (a := ⟨jb, 0, none⟩) (by simp; omega) hJo.d2).trans J4.z, f5.cell J4.m0 hJo.d3, f5.cell J4.m1 hJo.d3, f5.cell J4.m2 hJo.d3, fun j => (f5.frozenEq (a := ⟨g, j, none⟩) (by simp; omega) hJo.d3).trans (J4.zg j), hM5, hJo.d1, hJo.d2, hJo.d3, hJo.cap⟩
  have FJ : Fr (fun k => k = jb ∨ k = mb) w1 W5 := (((f1a.mono (fun _ _ h => h.elim)).trans (f3.mono (fun _ _ h => .inl h))).trans (f4.mono (fun _ _ h => h.elim))).trans (f5.mono (fun _ _ h => .inr h))
  have hrow5 : Row W5 a1 Da c1 := FJ.row HR1.out (fun hn a ha e => by
    have h1 := HB1.out a ha
    have h2 := row_blk HR1.out hn a ha
    rcases e with e | e
    · omega
    · exact (hnew a.block h1 (by simp; omega)).2 e)
  have K5 : Hid (Kept W5 jb g mb D (es ++ [(at_, .slice a1 Da.length c1)])) := fun p hp => by
    rcases List.mem_append.1 hp with h | h
    · exact ((hKe.fr f4 (by simp)).fr f5 (fun k hk => .inr (.inr hk))) p h
    · simp at h
      subst h
      refine ⟨a1, c1, by rw [HDa.out], by rw [HDa.out]; exact hrow5, fun hn a ha => ?_⟩
      rw [HDa.out] at hn
      have h1 := HB1.out a ha
      have h2 := row_blk HR1.out hn a ha
      have h3 := hnew a.block h1 (by simp; omega)
      exact ⟨by omega, h3.1, h3.2⟩
  have F5 : Hid (Fr (fun k => base ≤ k) w W5) := ((F1.out.mono (fun _ _ h => h.elim)).trans (FJ.mono (fun k _ h => by
    rcases h with h | h
    · have := HJ.out.1; omega
    · omega)))
  clear f1a f3 f4 f5 J4 hJo hKe hnew FJ hrow5 hM5 HP X1 X3 y1 y3
  have HNO : Hid (∀ p ∈ es, p.1 ≠ at_) := hno
  have HALL : Hid (∀ i, i < of → i = at_ ∨ ∃ p ∈ es, p.1 = i) := hall
  have HUN : Hid (∀ p ∈ es, ∀ q ∈ es, p.1 = q.1 → p.2 = q.2) := hun
  have HDL : Hid (∀ i, (D i).length ≤ 4096) := hDl
  rw [hlast] at kln
  have v0 := J5.out.c
  have vz := J5.out.z
  have HDE : Hid (Calls _ _ _ _ _) := delete_one g cp mb id of W5 J5.out.m0 J5.out.m1 J5.out.m2 J5.out.zg J5.out.cap
  have hg3 : ¬ (w3.heap.size = g) := by omega
  have hs5 : Hid (base ≤ W5.heap.size) := Nat.le_trans hb F5.out.size
  clear hno hall hun hDl hlast
  go_wp2_with fail
  refine HDE.out.mono ?_
  rintro e w6 ⟨rfl, f6⟩
  have d1 : ¬ (jb = g) := J5.out.d1
  have d2 : ¬ (mb = g) := fun e => J5.out.d3 e.symm
  have q0 := f6.cell u0 hg3
  have q1 := f6.cell u1 hg3
  have q2 := f6.cell u2 hg3
  have q3 := f6.cell v0 d1
  have qz : w6.frozen? ⟨jb, 0, none⟩ = false := (f6.frozenEq (a := ⟨jb, 0, none⟩) J5.out.lt.1 d1).trans vz
  have f7 : Fr (fun k => k = jb) w6 (w6.setCell ⟨jb, 0, none⟩ (.slice (some ⟨g, 0, none⟩) 0 cp)) := (Fr.refl (fun k => k = jb) w6).setCell (p := ⟨jb, 0, none⟩) (Or.inl rfl) _
  have hj3 : ¬ (w3.heap.size = jb) := by omega
  have r0 := f7.cell q0 hj3
  have r1 := f7.cell q1 hj3
  have r2 := f7.cell q2 hj3
  have M7 := (J5.out.mp.fr f6 d2).fr f7 (fun e => J5.out.d2 e.symm)
  have K7 := (K5.out.fr f6 (fun k hk => .inr (.inl hk))).fr f7 (fun k hk => .inl hk)
  have hwall : ∀ i, i < of → ∃ ai ci, (i, Value.slice ai (D i).length ci) ∈ es ++ [(at_, Value.slice a1 Da.length c1)] ∧ Row (w6.setCell ⟨jb, 0, none⟩ (.slice (some ⟨g, 0, none⟩) 0 cp)) ai (D i) ci := fun i hi => by
    have hex : ∃ p ∈ es ++ [(at_, Value.slice a1 Da.length c1)], p.1 = i := by
      rcases HALL.out i hi with h | ⟨p, hp, hpi⟩
      · exact ⟨(at_, .slice a1 Da.length c1), by simp, h.symm⟩
      · exact ⟨p, by simp [hp], hpi⟩
    obtain ⟨p, hp, hpi⟩ := hex
    obtain ⟨ai, ci, h1, h2, _⟩ := K7 p hp
    subst hpi
    exact ⟨ai, ci, by rw [← h1]; exact hp, h2⟩
  have hwu : ∀ p ∈ es ++ [(at_, Value.slice a1 Da.length c1)], ∀ q ∈ es ++ [(at_, Value.slice a1 Da.length c1)], p.1 = q.1 → p.2 = q.2 := fun p hp q hq hpq => by
    rcases List.mem_append.1 hp with h1 | h1 <;> rcases List.mem_append.1 hq with h2 | h2
    · exact HUN.out p h1 q h2 hpq
    · simp at h2
      exact absurd (by rw [hpq, h2]) (HNO.out p h1)
    · simp at h1
      exact absurd (by rw [← hpq, h1]) (HNO.out q h2)
    · simp at h1 h2
      rw [h1, h2]
  have HW : Hid (Calls _ _ _ _ _) := whole_any id of mb _ D _ M7 hwall hwu hof HDL.out
  have F7 : Hid (Fr (fun k => base ≤ k) w (w6.setCell ⟨jb, 0, none⟩ (.slice (some ⟨g, 0, none⟩) 0 cp))) := (F5.out.trans (f6.mono (fun k _ e => by omega))).trans (f7.mono (fun k _ e => by have := HJ.out.1; omega))
  have C7 : Hid (Cell1 (w6.setCell ⟨jb, 0, none⟩ (.slice (some ⟨g, 0, none⟩) 0 cp)) ⟨jb, 0, none⟩ (.slice (some ⟨g, 0, none⟩) 0 cp)) := World.cell?_setCell_same _ _ _ q3
  have hs6 : base ≤ w6.heap.size := Nat.le_trans hs5.out f6.size
  clear f6 f7 M7 K7 hwall hwu HDE kl kp kln u0 u1 u2 v0 vz
  go_wp2_with fail
  refine HW.out.mono ?_
  rintro e w8 ⟨v8, rfl, ho8, f8⟩
  have HO8 : Hid (Own w8 base v8 (flat D of)) := ho8.rebase (by simp; omega)
  obtain ⟨a8, c8, rfl, _⟩ := ho8.row
  have C8 : Hid (Cell1 w8 ⟨jb, 0, none⟩ (.slice (some ⟨g, 0, none⟩) 0 cp)) := f8.cell C7.out (by simp)
  have F8 : Hid (Fr (fun k => base ≤ k) w w8) := F7.out.trans (f8.mono (fun _ _ h => h.elim))
  clear ho8 f8 HW r0 r1 r2 q0 q1 q2 q3
  go_wp2
  go_ret2
  exact ⟨⟨_, rfl, HO8.out⟩, ⟨g, cp, C8.out⟩, F8.out⟩
end
end Go.Proofs.YtpnjcpamhelaeaaDoor
