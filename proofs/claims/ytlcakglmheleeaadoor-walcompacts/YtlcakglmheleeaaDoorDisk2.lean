/- The program's disk: what writes. -/
import Derived.Test.YtlcakglmheleeaaDoorDisk
namespace Go.Proofs.YtlcakglmheleeaaDoor
open Go.RowKit
section
variable {w w1 : World} {b base : Nat} {l : List Nat} {sure ops : Nat} {v : Value}

set_option maxHeartbeats 400000 in
theorem dclone_any (ao : Option Addr) (m : List Nat) (cap : Nat) (w : World) (hr : Row w ao m cap) (hml : m.length ≤ 140737488355328) :
    Calls Tryd.prog 60 #[.slice ao m.length cap] w fun e w' => ∃ v', e = .returned v' ∧ Own w' w.heap.size v' m ∧ Fr (fun _ => False) w w' := by
  have q := fun (w : World) (a : Option Addr) (n c n' c' : Nat) => Lib.run_eql_slice_nil (P := Tryd.prog) w 23 _ a n c n' c' Tryd.underlying23
  cases ao with
  | none =>
    have hc := hr.2.2.2.1 rfl
    have hl : m = [] := List.eq_nil_of_length_eq_zero (by have := hr.1; omega)
    subst hl
    subst hc
    clear hr
    go_enter Tryd.func60, Tryd.ntmps60
    go_wp2
    go_ret
    exact ⟨_, rfl, Own.nil _ _, Fr.refl _ _⟩
  | some a =>
    have hA : Hid (Row (w.alloc (.cells #[] 5)) (some a) m cap) := ((Fr.refl (fun _ => False) w).alloc _).row hr (by simp)
    have hO : Hid (Own (w.alloc (.cells #[] 5)) w.heap.size (.slice (some ⟨w.heap.size, 0, none⟩) 0 0) []) := ⟨World.ownsRow_made w #[] 0 (Nat.le_refl _) (Nat.zero_le _) (by simp), by simp⟩
    clear hr
    go_enter Tryd.func60, Tryd.ntmps60
    go_wp2_with (refine wpList_append_bytes rfl _ _ rfl w.heap.size _ [] rfl hO.out (some a) m cap rfl hA.out (by simp; omega) (by simp) ?_)
    intro v' w' ho hg hk
    go_wp2
    go_ret
    exact ⟨v', rfl, ho, ((Fr.refl (fun _ => False) w).alloc _).grown hg (fun j hj => by simp [Value.ownBlock] at hj; omega)⟩
set_option maxHeartbeats 400000 in
theorem dread_any (h : Dk w b base l sure ops v) (hml : l.length ≤ 140737488355328) : Calls Tryd.prog 41 #[.pointer (some ⟨b, 0, none⟩)] w fun e w' => ∃ v', e = .returned v' ∧ Own w' w.heap.size v' l ∧ Fr (fun _ => False) w w' := by
  have c0 := h.c0
  obtain ⟨ao, cap, rfl, hr, _⟩ := h.own.row
  have HK : Hid (Calls _ _ _ _ _) := dclone_any ao l cap w hr hml
  clear h hr
  go_enter Tryd.func41, Tryd.ntmps41
  go_wp2_with fail
  refine HK.out.mono ?_
  rintro e w1 ⟨v', rfl, ho, f⟩
  go_wp2
  go_ret
  exact ⟨v', rfl, ho, f⟩
set_option maxHeartbeats 400000 in
theorem dappend_any (h : Dk w b base l sure ops v) (hops : ops ≤ 1000000) (ao : Option Addr) (m : List Nat) (cap : Nat) (hr : Row w ao m cap) (hap : m ≠ [] → ∀ a, ao = some a → a.block ≠ b) (hlen : l.length + m.length ≤ 140737488355328) :
    Calls Tryd.prog 27 #[.pointer (some ⟨b, 0, none⟩), .slice ao m.length cap] w fun e w' => e = .returned (.int .i64 0) ∧ (∃ v', Dk w' b base (l ++ m) sure (ops + 1) v' ∧ (∀ k, v'.ownBlock = some k → v.ownBlock = some k ∨ w.heap.size ≤ k)) ∧ Fr (fun k => k = b ∨ v.ownBlock = some k) w w' := by
  have c0 := h.c0
  have c2 := h.c2
  have z0 := h.z0
  have z2 := h.z2
  have HD : Hid (Dk w b base l sure ops v) := h
  have hlt := h.lt
  have hbase := h.base
  have F1 : Hid (Fr (fun k => k = b) w (w.setCell ⟨b, 2, none⟩ (.int .i64 ((ops : Int) + 1)))) := (Fr.refl (fun k => k = b) w).setCell (p := ⟨b, 2, none⟩) (Or.inl rfl) _
  have HO : Hid (Own (w.setCell ⟨b, 2, none⟩ (.int .i64 ((ops : Int) + 1))) base v l) := h.own.fr F1.out (fun k hk e => h.apart (by rw [hk, e]))
  have HR : Hid (Row (w.setCell ⟨b, 2, none⟩ (.int .i64 ((ops : Int) + 1))) ao m cap) := F1.out.row hr (fun hn a ha e => hap hn a ha e)
  obtain ⟨lm, Hlm⟩ : ∃ lm, Hid (l ++ m = lm) := ⟨_, rfl⟩
  rw [Hlm.out]
  clear h hr
  go_enter Tryd.func27, Tryd.ntmps27
  go_wp2_with (refine wpList_append_bytes rfl _ _ rfl base _ l rfl HO.out ao m cap rfl HR.out hlen (by simp; omega) ?_)
  intro v' w' ho hg hk
  have f2 : Fr (fun k => k = b ∨ v.ownBlock = some k) w w' := (F1.out.mono (fun k _ e => .inl e)).grown hg (fun k e => .inl (.inr e))
  have g2 : Fr (fun k => v.ownBlock = some k) (w.setCell ⟨b, 2, none⟩ (.int .i64 ((ops : Int) + 1))) w' := (Fr.refl _ _).grown hg (fun k e => .inl e)
  have hap2 : ¬ (v.ownBlock = some b) := HD.out.apart
  have d0 := g2.cell ((World.cell?_setCell_other _ _ _ _ (by simp)).trans c0) hap2
  have d1 := g2.cell ((World.cell?_setCell_other _ _ _ _ (by simp)).trans HD.out.c1) hap2
  have d2 := g2.cell (World.cell?_setCell_same _ _ _ c2) hap2
  have y0 : w'.frozen? ⟨b, 0, none⟩ = false := (g2.frozenEq (a := ⟨b, 0, none⟩) (by simpa using hlt) hap2).trans (by simpa using z0)
  have y1 : w'.frozen? ⟨b, 1, none⟩ = false := (g2.frozenEq (a := ⟨b, 1, none⟩) (by simpa using hlt) hap2).trans (by simpa using HD.out.z1)
  have y2 : w'.frozen? ⟨b, 2, none⟩ = false := (g2.frozenEq (a := ⟨b, 2, none⟩) (by simpa using hlt) hap2).trans (by simpa using z2)
  rw [Hlm.out] at ho
  have HHO : Hid (Own w' base v' lm) := ho
  have HK : Hid (∀ k, v'.ownBlock = some k → v.ownBlock = some k ∨ w.heap.size ≤ k) := fun k e => by simpa using hk k e
  have F2 : Hid (Fr (fun k => k = b ∨ v.ownBlock = some k) w w') := f2
  obtain ⟨ao', cap', rfl, _, _⟩ := ho.form
  clear ho hg hk f2 g2 c0 c2 z0 z2
  go_wp2
  go_ret
  have hvb : (Value.slice ao' lm.length cap').ownBlock ≠ some b := fun e => by
    rcases HK.out b e with h | h
    · exact hap2 h
    · omega
  have fl := (Fr.refl (fun k => k = b) w').setCell (p := ⟨b, 0, none⟩) (Or.inl rfl) (.slice ao' lm.length cap')
  refine ⟨rfl, ⟨_, ⟨World.cell?_setCell_same _ _ _ d0, (World.cell?_setCell_other _ _ _ _ (by simp)).trans d1, (World.cell?_setCell_other _ _ _ _ (by simp)).trans (d2.trans (by simp)), by simpa using y0, by simpa using y1, by simpa using y2, HHO.out.fr fl (fun k hk e => hvb (by rw [hk, e])), hvb, ?_, hbase⟩, HK.out⟩, F2.out.setCell (p := ⟨b, 0, none⟩) (Or.inl (.inl rfl)) _⟩
  have := HD.out.le
  rw [← Hlm.out]
  simp
  omega
set_option maxHeartbeats 400000 in
theorem dput_any (h : Dk w b base l sure ops v) (hops : ops ≤ 1000000) (ao : Option Addr) (m : List Nat) (cap : Nat) (hr : Row w ao m cap) (hap : m ≠ [] → ∀ a, ao = some a → a.block ≠ b) (hml : m.length ≤ 140737488355328) :
    Calls Tryd.prog 42 #[.pointer (some ⟨b, 0, none⟩), .slice ao m.length cap] w fun e w' => e = .returned (.int .i64 0) ∧ (∃ v', Dk w' b base m m.length (ops + 1) v' ∧ (∀ k, v'.ownBlock = some k → w.heap.size ≤ k)) ∧ Fr (fun k => k = b) w w' := by
  have c0 := h.c0
  have c1 := h.c1
  have c2 := h.c2
  have z0 := h.z0
  have z1 := h.z1
  have z2 := h.z2
  have hlt := h.lt
  have hbase := h.base
  have F1 : Hid (Fr (fun k => k = b) w (w.setCell ⟨b, 2, none⟩ (.int .i64 ((ops : Int) + 1)))) := (Fr.refl (fun k => k = b) w).setCell (p := ⟨b, 2, none⟩) (Or.inl rfl) _
  have HR : Row (w.setCell ⟨b, 2, none⟩ (.int .i64 ((ops : Int) + 1))) ao m cap := F1.out.row hr (fun hn a ha e => hap hn a ha e)
  have HK : Hid (Calls _ _ _ _ _) := dclone_any ao m cap _ HR hml
  clear h hr HR
  go_enter Tryd.func42, Tryd.ntmps42
  go_wp2_with fail
  refine HK.out.mono ?_
  rintro e w' ⟨v', rfl, ho, g2⟩
  have f2 : Fr (fun k => k = b) w w' := F1.out.trans (g2.mono (fun _ _ h => h.elim))
  have d0 := g2.cell ((World.cell?_setCell_other _ _ _ _ (by simp)).trans c0) (by simp)
  have d1 := g2.cell ((World.cell?_setCell_other _ _ _ _ (by simp)).trans c1) (by simp)
  have d2 := g2.cell (World.cell?_setCell_same _ _ _ c2) (by simp)
  have y0 : w'.frozen? ⟨b, 0, none⟩ = false := (g2.frozenEq (a := ⟨b, 0, none⟩) (by simpa using hlt) (by simp)).trans (by simpa using z0)
  have y1 : w'.frozen? ⟨b, 1, none⟩ = false := (g2.frozenEq (a := ⟨b, 1, none⟩) (by simpa using hlt) (by simp)).trans (by simpa using z1)
  have y2 : w'.frozen? ⟨b, 2, none⟩ = false := (g2.frozenEq (a := ⟨b, 2, none⟩) (by simpa using hlt) (by simp)).trans (by simpa using z2)
  have HHO : Hid (Own w' (w.setCell ⟨b, 2, none⟩ (.int .i64 ((ops : Int) + 1))).heap.size v' m) := ho
  have HKK : Hid (∀ k, v'.ownBlock = some k → w.heap.size ≤ k) := fun k e => by simpa using (ho.lt k e).1
  have F2 : Hid (Fr (fun k => k = b) w w') := f2
  obtain ⟨ao', cap', rfl, _, _⟩ := ho.form
  clear ho f2 g2 c0 c1 c2 z0 z1 z2 HK
  go_wp2
  go_ret
  have hvb : (Value.slice ao' m.length cap').ownBlock ≠ some b := fun e => by
    have := HKK.out b e
    omega
  have fl := ((Fr.refl (fun k => k = b) w').setCell (p := ⟨b, 0, none⟩) (Or.inl rfl) (.slice ao' m.length cap')).setCell (p := ⟨b, 1, none⟩) (Or.inl rfl) (.int .i64 (m.length : Int))
  refine ⟨rfl, ⟨_, ⟨?_, ?_, ?_, by simpa using y0, by simpa using y1, by simpa using y2, (HHO.out.rebase (by simp; omega)).fr fl (fun k hk e => hvb (by rw [hk, e])), hvb, Nat.le_refl _, hbase⟩, HKK.out⟩, (F2.out.setCell (p := ⟨b, 0, none⟩) (Or.inl rfl) _).setCell (p := ⟨b, 1, none⟩) (Or.inl rfl) _⟩
  · exact (World.cell?_setCell_other _ _ _ _ (by simp)).trans (World.cell?_setCell_same _ _ _ d0)
  · exact World.cell?_setCell_same _ _ _ ((World.cell?_setCell_other _ _ _ _ (by simp)).trans d1)
  · exact (World.cell?_setCell_other _ _ _ _ (by simp)).trans ((World.cell?_setCell_other _ _ _ _ (by simp)).trans (d2.trans (by simp)))
/-- how many bytes a crash leaves. -/
def dleft (n sure : Nat) (keep : Int) : Nat := sure + min keep.toNat (n - sure)
theorem dleft_le (n sure : Nat) (keep : Int) (h : sure ≤ n) : sure ≤ dleft n sure keep ∧ dleft n sure keep ≤ n := by
  unfold dleft; omega
set_option maxRecDepth 100000 in
set_option maxHeartbeats 4000000 in
theorem dcrash_any (h : Dk w b base l sure ops v) (keep : Int) (hk : -9223372036854775808 ≤ keep ∧ keep ≤ 9223372036854775807) :
    Calls Tryd.prog 25 #[.pointer (some ⟨b, 0, none⟩), .int .i64 keep] w fun e w' => e = .returned (.tuple #[]) ∧ (∃ v', Dk w' b base (l.take (dleft l.length sure keep)) (dleft l.length sure keep) ops v' ∧ v'.ownBlock = v.ownBlock) ∧ Fr (fun k => k = b) w w' := by
  have c0 := h.c0
  have c1 := h.c1
  have z0 := h.z0
  have z1 := h.z1
  have hle := h.le
  obtain ⟨ao, cap, rfl, hl1, hl2, hl3⟩ := h.own.form
  obtain ⟨n, Hn⟩ : ∃ n, Hid (dleft l.length sure keep = n) := ⟨_, rfl⟩
  have hn := dleft_le l.length sure keep hle
  rw [Hn.out] at hn ⊢
  have hot := h.own.take n hn.2
  have HO : Hid (Own w base (.slice ao n cap) (l.take n)) := hot
  have HD : Hid (Dk w b base l sure ops (.slice ao l.length cap)) := h
  have hnl : Hid ((l.take n).length = n) := by show _ = _; simp; omega
  have fin : ∀ W, W = ((w.setCell ⟨b, 1, none⟩ (.int .i64 (n : Int))).drew.setCell ⟨b, 0, none⟩ (.slice ao n cap)).drew → (∃ v', Dk W b base (l.take n) n ops v' ∧ v'.ownBlock = (Value.slice ao l.length cap).ownBlock) ∧ Fr (fun k => k = b) w W := by
    rintro W rfl
    have f1 := ((Fr.refl (fun k => k = b) w).setCell (p := ⟨b, 1, none⟩) (Or.inl rfl) (.int .i64 (n : Int))).drew
    have f := (f1.setCell (p := ⟨b, 0, none⟩) (Or.inl rfl) (.slice ao n cap)).drew
    have hob : (Value.slice ao n cap).ownBlock = (Value.slice ao l.length cap).ownBlock := by rw [own_none, own_none]
    have e0 : (w.setCell ⟨b, 1, none⟩ (.int .i64 (n : Int))).drew.cell? ⟨b, 0, none⟩ = some (.slice ao l.length cap) := (World.cell?_setCell_other _ _ _ _ (by simp)).trans h.c0
    have e1 : (w.setCell ⟨b, 1, none⟩ (.int .i64 (n : Int))).drew.cell? ⟨b, 1, none⟩ = some (.int .i64 (n : Int)) := World.cell?_setCell_same _ _ _ h.c1
    have e2 : (w.setCell ⟨b, 1, none⟩ (.int .i64 (n : Int))).drew.cell? ⟨b, 2, none⟩ = some (.int .i64 (ops : Int)) := (World.cell?_setCell_other _ _ _ _ (by simp)).trans h.c2
    refine ⟨⟨.slice ao n cap, ⟨?_, ?_, ?_, by simpa using h.z0, by simpa using h.z1, by simpa using h.z2, HO.out.fr f (fun k hk e => h.apart (by rw [← hob, hk, e])), by rw [hob]; exact h.apart, by rw [hnl.out]; exact Nat.le_refl _, h.base⟩, hob⟩, f⟩
    · exact (World.cell?_setCell_same _ _ (.slice ao n cap) e0 : ((w.setCell ⟨b, 1, none⟩ (.int .i64 (n : Int))).drew.setCell ⟨b, 0, none⟩ (.slice ao n cap)).cell? ⟨b, 0, none⟩ = _)
    · exact ((World.cell?_setCell_other _ _ _ _ (by simp)).trans e1 : ((w.setCell ⟨b, 1, none⟩ (.int .i64 (n : Int))).drew.setCell ⟨b, 0, none⟩ (.slice ao n cap)).cell? ⟨b, 1, none⟩ = _)
    · exact ((World.cell?_setCell_other _ _ _ _ (by simp)).trans e2 : ((w.setCell ⟨b, 1, none⟩ (.int .i64 (n : Int))).drew.setCell ⟨b, 0, none⟩ (.slice ao n cap)).cell? ⟨b, 2, none⟩ = _)
  have FIN : Hid (∀ W, W = _ → _) := fin
  have HN : Hid (dleft l.length sure keep = n) := Hn.out
  have hno : ao = none → cap = 0 := by
    obtain ⟨ao2, cap2, he, hr, _⟩ := HD.out.own.row
    cases he
    exact hr.2.2.2.1
  clear fin h hot Hn HO HD
  have hn1 := hn.1
  have hn2 := hn.2
  clear hn
  by_cases hk0 : keep < 0
  · obtain rfl : n = sure := by have := HN.out; unfold dleft at this; omega
    clear HN
    cases ao with
    | none =>
      obtain rfl := hno rfl
      have hl0 : l.length = 0 := by omega
      obtain rfl : n = 0 := by omega
      rw [hl0] at c0
      go_enter Tryd.func25, Tryd.ntmps25
      go_wp2_with fail
      go_region
      go_wp2_with fail
      go_region
      go_wp2
      go_end0
      exact ⟨rfl, FIN.out _ rfl⟩
    | some a =>
      by_cases hd : l.length = n
      · rw [hd] at c0
        go_enter Tryd.func25, Tryd.ntmps25
        go_wp2_with fail
        go_region
        go_wp2_with fail
        go_region
        go_wp2
        go_end0
        exact ⟨rfl, FIN.out _ rfl⟩
      · go_enter Tryd.func25, Tryd.ntmps25
        go_wp2_with fail
        go_region
        go_wp2_with fail
        go_region
        go_wp2
        go_end0
        exact ⟨rfl, FIN.out _ rfl⟩
  · obtain ⟨kn, rfl⟩ : ∃ kn : Nat, keep = kn := ⟨keep.toNat, by omega⟩
    cases ao with
    | none =>
      obtain rfl := hno rfl
      have hl0 : l.length = 0 := by omega
      obtain rfl : n = 0 := by omega
      obtain rfl : sure = 0 := by omega
      rw [hl0] at c0
      clear HN
      by_cases hk2 : kn = 0
      · subst hk2
        go_enter Tryd.func25, Tryd.ntmps25
        go_wp2_with fail
        go_region
        go_wp2_with fail
        go_region
        go_wp2
        go_end0
        exact ⟨rfl, FIN.out _ rfl⟩
      · go_enter Tryd.func25, Tryd.ntmps25
        go_wp2_with fail
        go_region
        go_wp2_with fail
        go_region
        go_wp2
        go_end0
        exact ⟨rfl, FIN.out _ rfl⟩
    | some a =>
      by_cases hd : kn < l.length - sure
      · obtain rfl : n = sure + kn := by have := HN.out; unfold dleft at this; omega
        clear HN
        go_enter Tryd.func25, Tryd.ntmps25
        go_wp2_with fail
        go_region
        go_wp2_with fail
        go_region
        go_wp2
        go_end0
        exact ⟨rfl, FIN.out _ rfl⟩
      · obtain rfl : n = l.length := by have := HN.out; unfold dleft at this; omega
        clear HN
        by_cases hd2 : kn = l.length - sure
        · have e : (sure : Int) + (kn : Int) = (l.length : Int) := by omega
          have e2 : (l.length : Int) - (sure : Int) = (kn : Int) := by omega
          clear hd2
          go_enter Tryd.func25, Tryd.ntmps25
          go_wp2_with fail
          go_region
          go_wp2_with fail
          go_region
          go_wp2
          go_end0
          exact ⟨rfl, FIN.out _ rfl⟩
        · have e : (sure : Int) + ((l.length : Int) - (sure : Int)) = (l.length : Int) := by omega
          go_enter Tryd.func25, Tryd.ntmps25
          go_wp2_with fail
          go_region
          go_wp2_with fail
          go_region
          go_wp2
          go_end0
          exact ⟨rfl, FIN.out _ rfl⟩
end
end Go.Proofs.YtlcakglmheleeaaDoor
