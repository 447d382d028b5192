/- The program's queue. -/
import Derived.Test.YtpnjcpamhelaeabDoorOff
import Derived.Test.YtpnjcpamhelaeabDoorDummy
import Derived.Deep.QuietTactic
import Derived.BigQuiet
import Derived.Deep.RegionHeld3
namespace Go.Proofs.YtpnjcpamhelaeabDoor
open Go.RowKit

/-- A QUEUE at block qb: its size, depth, next number, and the frames that wait. -/
structure Qu (w : World) (qb : Nat) (S : Nat → Prop) (size depth next : Nat) (ps : List (List Nat)) (v : Value) : Prop where
  c0 : w.cell? ⟨qb, 0, none⟩ = some (.int .i64 (size : Int))
  c1 : w.cell? ⟨qb, 1, none⟩ = some (.int .i64 (depth : Int))
  c2 : w.cell? ⟨qb, 2, none⟩ = some (.int .u64 (next : Int))
  c3 : w.cell? ⟨qb, 3, none⟩ = some v
  z2 : w.frozen? ⟨qb, 2, none⟩ = false
  z3 : w.frozen? ⟨qb, 3, none⟩ = false
  off : OffP w S v ps
  apart : ¬ S qb
theorem Qu.lt {w : World} {qb : Nat} {S : Nat → Prop} {size depth next : Nat} {ps : List (List Nat)} {v : Value} (h : Qu w qb S size depth next ps v) : qb < w.heap.size := World.block_lt_of_cell? _ _ h.c0
theorem Qu.fr {T S : Nat → Prop} {w w1 : World} {qb : Nat} {size depth next : Nat} {ps : List (List Nat)} {v : Value} (h : Qu w qb S size depth next ps v) (f : Fr T w w1) (hq : ¬ T qb) (hs : ∀ k, S k → ¬ T k) : Qu w1 qb S size depth next ps v :=
  ⟨f.cell h.c0 hq, f.cell h.c1 hq, f.cell h.c2 hq, f.cell h.c3 hq, (f.frozenEq h.lt hq).trans h.z2, (f.frozenEq h.lt hq).trans h.z3, h.off.fr f hs, h.apart⟩
set_option maxHeartbeats 400000 in
theorem qnew_no (size depth : Int) (from_ : Int) (w : World) (h : ¬ (64 ≤ size ∧ size ≤ 4096 ∧ 1 ≤ depth ∧ depth ≤ 65536)) : Calls Tryd.prog 7 #[.int .i64 size, .int .i64 depth, .int .u64 from_] w fun e w' => e = .returned (.tuple #[.pointer none, .int .i64 1]) ∧ w' = w := by
  by_cases h1 : size < 64
  · go_enter Tryd.func7, Tryd.ntmps7
    go_wp2
    go_ret2
    exact ⟨rfl, rfl⟩
  · by_cases h2 : 4096 < size
    · go_enter Tryd.func7, Tryd.ntmps7
      go_wp2
      go_ret2
      exact ⟨rfl, rfl⟩
    · by_cases h3 : depth < 1
      · go_enter Tryd.func7, Tryd.ntmps7
        go_wp2
        go_ret2
        exact ⟨rfl, rfl⟩
      · have h4 : 65536 < depth := by omega
        clear h
        go_enter Tryd.func7, Tryd.ntmps7
        go_wp2
        go_ret2
        exact ⟨rfl, rfl⟩
set_option maxHeartbeats 400000 in
theorem qnew_any (size depth next : Nat) (w : World) (h1 : 64 ≤ size ∧ size ≤ 4096) (h2 : 1 ≤ depth ∧ depth ≤ 65536) : Calls Tryd.prog 7 #[.int .i64 (size : Int), .int .i64 (depth : Int), .int .u64 (next : Int)] w fun e w' =>
    e = .returned (.tuple #[.pointer (some ⟨w.heap.size, 0, none⟩), .int .i64 0]) ∧ Qu w' w.heap.size (fun _ => False) size depth next [] (.slice none 0 0) ∧ Fr (fun _ => False) w w' := by
  go_enter Tryd.func7, Tryd.ntmps7
  go_wp2
  go_ret2
  exact ⟨rfl, ⟨by simp, by simp, by simp, by simp, by simp, by simp, OffP.nil _ _, fun h => h⟩, (Fr.refl _ _).alloc _⟩
theorem qput_nil (sl : Value) (w : World) : Calls Tryd.prog 8 #[.pointer none, sl] w fun e w' => e = .returned (.int .i64 2) ∧ w' = w := by
  go_enter Tryd.func8, Tryd.ntmps8
  go_wp2
  go_ret
  exact ⟨rfl, rfl⟩
theorem qslot_nil (w : World) : Calls Tryd.prog 9 #[.pointer none] w fun e w' => e = .returned (.slice none 0 0) ∧ w' = w := by
  go_enter Tryd.func9, Tryd.ntmps9
  go_wp2
  go_ret
  exact ⟨rfl, rfl⟩
theorem qclear_nil (w : World) : Calls Tryd.prog 10 #[.pointer none] w fun e w' => e = .returned (.tuple #[]) ∧ w' = w := by
  go_enter Tryd.func10, Tryd.ntmps10
  go_wp2
  go_end0
  exact ⟨rfl, rfl⟩
theorem qlen_nil (w : World) : Calls Tryd.prog 11 #[.pointer none] w fun e w' => e = .returned (.int .i64 0) ∧ w' = w := by
  go_enter Tryd.func11, Tryd.ntmps11
  go_wp2
  go_ret
  exact ⟨rfl, rfl⟩
section
variable {w : World} {qb : Nat} {S : Nat → Prop} {size depth next : Nat} {ps : List (List Nat)} {v : Value}
set_option maxHeartbeats 400000 in
theorem qlen_any (h : Qu w qb S size depth next ps v) : Calls Tryd.prog 11 #[.pointer (some ⟨qb, 0, none⟩)] w fun e w' => e = .returned (.int .i64 (ps.length : Int)) ∧ w' = w := by
  have c3 := h.c3
  obtain ⟨ao, cap, rfl, _⟩ := h.off.form
  clear h
  go_enter Tryd.func11, Tryd.ntmps11
  go_wp2
  go_ret
  exact ⟨rfl, rfl⟩
set_option maxHeartbeats 400000 in
theorem qclear_any (h : Qu w qb S size depth next ps v) : Calls Tryd.prog 10 #[.pointer (some ⟨qb, 0, none⟩)] w fun e w' => e = .returned (.tuple #[]) ∧ Qu w' qb S size depth next [] (.slice none 0 0) ∧ Fr (fun k => k = qb) w w' := by
  have c3 := h.c3
  have z3 := h.z3
  have HQ : Hid (Qu w qb S size depth next ps v) := h
  clear h
  go_enter Tryd.func10, Tryd.ntmps10
  go_wp2
  go_end0
  have f := (Fr.refl (fun k => k = qb) w).setCell (p := ⟨qb, 3, none⟩) (Or.inl rfl) (.slice none 0 0)
  have h := HQ.out
  exact ⟨rfl, ⟨(World.cell?_setCell_other _ _ _ _ (by simp)).trans h.c0, (World.cell?_setCell_other _ _ _ _ (by simp)).trans h.c1, (World.cell?_setCell_other _ _ _ _ (by simp)).trans h.c2, World.cell?_setCell_same _ _ _ c3, by simpa using h.z2, by simpa using z3, OffP.nil _ _, h.apart⟩, f⟩
set_option maxRecDepth 100000 in
set_option maxHeartbeats 1000000 in
theorem qput_full (h : Qu w qb S size depth next ps v) (ao : Option Addr) (p : List Nat) (cap : Nat) (hs : 64 ≤ size ∧ size ≤ 4096) (hp : p.length ≤ 2000000) (hpl : ps.length ≤ 65536) (hd : depth ≤ 65536) (hfull : depth < ps.length + parts size p.length) :
    Calls Tryd.prog 8 #[.pointer (some ⟨qb, 0, none⟩), .slice ao p.length cap] w fun e w' => e = .returned (.int .i64 3) ∧ Fr (fun _ => False) w w' := by
  have c0 := h.c0
  have c1 := h.c1
  have c3 := h.c3
  obtain ⟨ao2, cap2, rfl, _⟩ := h.off.form
  have kp := fun q => parts_any size p.length (w.drewN q) hs (by omega)
  have hpb : parts size p.length ≤ 2000000 := by
    unfold parts
    have : (max p.length 1 - 1) / (size - 19) ≤ max p.length 1 - 1 := Nat.div_le_self _ _
    omega
  generalize parts size p.length = m at *
  have hc : ¬ ((ps.length : Int) + (m : Int) ≤ (depth : Int)) := by omega
  clear h
  go_enter Tryd.func8, Tryd.ntmps8
  go_wp2_with fail
  go_quiet ((go_at_call 14; exact Calls.quiet_of_same (kp _)))
  go_wp2
  go_ret
  exact ⟨rfl, (Fr.refl _ _).drewN _⟩
theorem PRowS.bound {w : World} {S : Nat → Prop} {ao : Option Addr} {ps : List (List Nat)} {cap : Nat} (h : PRowS w S ao ps cap) : PRowS w (fun k => S k ∧ k < w.heap.size) ao ps cap := by
  refine ⟨h.1, h.2.1, fun hne => ?_⟩
  obtain ⟨b, off, he, hc⟩ := h.2.2 hne
  refine ⟨b, off, he, fun i hi => ?_⟩
  obtain ⟨ai, ci, h1, h2, h3⟩ := hc i hi
  exact ⟨ai, ci, h1, h2, fun hn a ha => ⟨h3 hn a ha, row_blk h2 hn a ha⟩⟩
theorem PRowS.mono {w : World} {S T : Nat → Prop} {ao : Option Addr} {ps : List (List Nat)} {cap : Nat} (h : PRowS w S ao ps cap) (hs : ∀ k, S k → T k) : PRowS w T ao ps cap := by
  refine ⟨h.1, h.2.1, fun hne => ?_⟩
  obtain ⟨b, off, he, hc⟩ := h.2.2 hne
  refine ⟨b, off, he, fun i hi => ?_⟩
  obtain ⟨ai, ci, h1, h2, h3⟩ := hc i hi
  exact ⟨ai, ci, h1, h2, fun hn a ha => hs _ (h3 hn a ha)⟩
theorem PRowS.fr {T S : Nat → Prop} {w w1 : World} {ao : Option Addr} {ps : List (List Nat)} {cap : Nat} (h : PRowS w S ao ps cap) (f : Fr T w w1) (ha : ∀ a, ao = some a → ¬ T a.block) (hs : ∀ k, S k → ¬ T k) : PRowS w1 S ao ps cap := by
  refine ⟨h.1, h.2.1, fun hne => ?_⟩
  obtain ⟨b, off, he, hc⟩ := h.2.2 hne
  refine ⟨b, off, he, fun i hi => ?_⟩
  obtain ⟨ai, ci, h1, h2, h3⟩ := hc i hi
  exact ⟨ai, ci, f.cell h1 (ha ⟨b, off, none⟩ he), f.row h2 (fun hn a ha => hs _ (h3 hn a ha)), h3⟩
set_option maxRecDepth 100000 in
set_option maxHeartbeats 1000000 in
theorem qput_long (h : Qu w qb S size depth next ps v) (ao : Option Addr) (n cap : Nat) (hs : 64 ≤ size ∧ size ≤ 4096) (hp : 1048576 < n) (hp2 : n ≤ 2000000) (hpl : ps.length ≤ 65536) (hd : depth ≤ 65536) (hfit : ps.length + parts size n ≤ depth) :
    Calls Tryd.prog 8 #[.pointer (some ⟨qb, 0, none⟩), .slice ao n cap] w fun e w' => e = .returned (.int .i64 6) ∧ Fr (fun _ => False) w w' := by
  have c0 := h.c0
  have c1 := h.c1
  have c2 := h.c2
  have c3 := h.c3
  obtain ⟨ao2, cap2, rfl, _⟩ := h.off.form
  have kp := fun q => parts_any size n (w.drewN q) hs (by omega)
  have ks := fun W => split_long size (next : Int) ao n cap W hs hp (by omega)
  have HKS : Hid (∀ W, Calls _ _ _ _ _) := ks
  generalize parts size n = m at *
  have hc : (ps.length : Int) + (m : Int) ≤ (depth : Int) := by omega
  clear h ks
  go_enter Tryd.func8, Tryd.ntmps8
  go_wp2_with fail
  go_quiet ((go_at_call 14; exact Calls.quiet_of_same (kp _)))
  go_wp2_with fail
  go_region_held3 (fun w' => w'.cell? ⟨qb, 0, none⟩ = some (.int .i64 (size : Int)) ∧ w'.cell? ⟨qb, 2, none⟩ = some (.int .u64 (next : Int))) (first | exact ⟨c0, c2⟩ | go_keep) (first
    | (go_at_call 15; refine (HKS.out _).mono ?_; rintro e w2 ⟨rfl, hw2⟩; subst w2))
  all_goals
    go_wp2
    go_ret
    exact ⟨rfl, ((Fr.refl _ _).drewN _).drew⟩
set_option maxRecDepth 100000 in
set_option maxHeartbeats 2000000 in
theorem qput_ok (h : Qu w qb S size depth next ps v) (ht : Tab w) (ao : Option Addr) (p : List Nat) (cap : Nat) (hr : Row w ao p cap) (hS : ∀ k, S k → k < w.heap.size) (hs : 64 ≤ size ∧ size ≤ 4096) (hp : p.length ≤ 1048576) (hn : next < 18446744073709551616) (hd : depth ≤ 65536) (hfit : ps.length + parts size p.length ≤ depth) :
    Calls Tryd.prog 8 #[.pointer (some ⟨qb, 0, none⟩), .slice ao p.length cap] w fun e w' => e = .returned (.int .i64 0) ∧ (∃ v', Qu w' qb (fun k => S k ∨ (w.heap.size ≤ k ∧ k < w'.heap.size)) size depth ((next + 1) % 18446744073709551616) (ps ++ frames size next p) v') ∧ Fr (fun k => k = qb ∨ S k) w w' := by
  have c0 := h.c0
  have c1 := h.c1
  have c2 := h.c2
  have c3 := h.c3
  obtain ⟨ao2, cap2, rfl, hcc⟩ := h.off.form
  have kp := fun q => parts_any size p.length (w.drewN q) hs (by omega)
  have ks : ∀ W, Fr (fun _ => False) w W → _ := fun W f => split_ok size next ao p cap W (f.tab ht (by simp)) (f.row hr (by simp)) hs hp hn
  have hfl := frames_length size next p
  have hof1 := parts_pos size p.length
  obtain ⟨FS, HFS⟩ : ∃ FS, Hid (frames size next p = FS) := ⟨_, rfl⟩
  rw [HFS.out] at hfl ⊢
  have Hm : Hid (parts size p.length = FS.length) := hfl.symm
  rw [Hm.out] at kp hfit hof1
  have HKS : Hid _ := ks
  have hc : (ps.length : Int) + (FS.length : Int) ≤ (depth : Int) := by omega
  obtain ⟨nx, hnx, Hnx⟩ : ∃ nx : Nat, ((next : Int) + 1) % 18446744073709551616 = (nx : Int) ∧ Hid ((next + 1) % 18446744073709551616 = nx) := ⟨_, by omega, rfl⟩
  have hnx2 : IntKind.u64.wrap ((next : Int) + 1) = (nx : Int) := by
    rw [← hnx]; simp [IntKind.wrap, IntKind.bits, IntKind.signed]
  rw [Hnx.out]
  have HQ : Hid (Qu w qb S size depth next ps (.slice ao2 ps.length cap2)) := h
  have hql := h.lt
  have hpl : ps.length ≤ 65536 := by omega
  clear h ks ht hr hfl
  go_enter Tryd.func8, Tryd.ntmps8
  go_wp2_with fail
  go_quiet ((go_at_call 14; exact Calls.quiet_of_same (kp _)))
  go_wp2_with fail
  clear kp c1 c3
  go_region_held3 (fun w' => w'.cell? ⟨qb, 0, none⟩ = some (.int .i64 (size : Int)) ∧ w'.cell? ⟨qb, 2, none⟩ = some (.int .u64 (next : Int))) (first | exact ⟨c0, c2⟩ | exact ⟨d0, d2⟩ | go_keep) (first
    | (go_at_call 15; refine (HKS.out _ ?_).mono ?_; exact (((Fr.refl (fun _ => False) w).drewN _).drew); rintro e w2 ⟨g, rfl, hg, ⟨f, hri, hh⟩, f2'⟩; have f2 := (((Fr.refl (fun _ => False) w).drewN _).drew).trans f2'; have d0 := f2.cell c0 (by simp); have d2 := f2.cell c2 (by simp); rw [Hm.out] at hri hh))
  all_goals
    rw [Hm.out]
    have hgw : w.heap.size ≤ g := hg
    have hQ2 := HQ.out.fr f2 (by simp) (by simp)
    have hpr := prow_of_held hri hh Hm.out (by omega) (by omega)
    have hpr2 : PRowS w2 (fun k => w.heap.size ≤ k ∧ k < w2.heap.size) (some ⟨g, 0, none⟩) FS FS.length := by
      rw [HFS.out] at hpr
      exact hpr.bound.mono (fun k hk => ⟨by omega, hk.2⟩)
    have HF2 : Hid (Fr (fun _ => False) w w2) := f2
    have e3 := hQ2.c3
    have HQ2 : Hid (Qu w2 qb S size depth next ps (.slice ao2 ps.length cap2)) := hQ2
    have HPR : Hid (PRowS w2 (fun k => w.heap.size ≤ k ∧ k < w2.heap.size) (some ⟨g, 0, none⟩) FS FS.length) := hpr2
    clear hQ2 hpr hpr2 hri hh d0 d2 c0 c2 f2 f2' hg
    go_wp2_with (at_builtin; refine wpList_append_off rfl (.tmp 47) (.tmp 48) rfl S (fun k => w.heap.size ≤ k ∧ k < w2.heap.size) _ ps rfl HQ2.out.off g 0 FS FS.length rfl HPR.out (fun e => by rw [e] at hof1; simp at hof1) (fun k hk hs => by have := hS k hs; omega) (by omega) ?_)
    intro v3 w3 ho3 f3
    obtain ⟨a3, cp3, hv3, _⟩ := ho3.form
    have hqa : ¬ S qb := HQ.out.apart
    have hQ3c := HQ2.out
    have k0 := f3.cell hQ3c.c0 hqa
    have k1 := f3.cell hQ3c.c1 hqa
    have k2 := f3.cell hQ3c.c2 hqa
    have k3 := f3.cell hQ3c.c3 hqa
    have y2 : w3.frozen? ⟨qb, 2, none⟩ = false := (f3.frozenEq (a := ⟨qb, 2, none⟩) hQ3c.lt hqa).trans hQ3c.z2
    have y3 : w3.frozen? ⟨qb, 3, none⟩ = false := (f3.frozenEq (a := ⟨qb, 3, none⟩) hQ3c.lt hqa).trans hQ3c.z3
    have HO3 : Hid (OffP w3 (fun k => S k ∨ (w.heap.size ≤ k ∧ k < w2.heap.size) ∨ (w2.heap.size ≤ k ∧ k < w3.heap.size)) v3 (ps ++ FS)) := ho3
    have hs23 := f3.size
    have hs02 := HF2.out.size
    obtain ⟨PF, HPF⟩ : ∃ PF, Hid (ps ++ FS = PF) := ⟨_, rfl⟩
    rw [HPF.out] at hv3 HO3
    have F3 : Hid (Fr (fun k => k = qb ∨ S k) w w3) := (HF2.out.mono (fun k _ h => h.elim)).trans (f3.mono (fun k _ h => .inr h))
    subst hv3
    clear ho3 f3 hQ3c e3 HPR HQ2
    go_wp2
    go_ret
    have fq := ((Fr.refl (fun k => k = qb) w3).setCell (p := ⟨qb, 3, none⟩) (Or.inl rfl) (.slice a3 PF.length cp3)).setCell (p := ⟨qb, 2, none⟩) (Or.inl rfl) (.int .u64 (nx : Int))
    refine ⟨rfl, ⟨.slice a3 PF.length cp3, ⟨?_, ?_, ?_, ?_, ?_, ?_, ?_, ?_⟩⟩, ?_⟩
    · exact (World.cell?_setCell_other _ _ _ _ (by simp)).trans ((World.cell?_setCell_other _ _ _ _ (by simp)).trans k0)
    · exact (World.cell?_setCell_other _ _ _ _ (by simp)).trans ((World.cell?_setCell_other _ _ _ _ (by simp)).trans k1)
    · exact World.cell?_setCell_same _ _ _ ((World.cell?_setCell_other _ _ _ _ (by simp)).trans k2)
    · exact (World.cell?_setCell_other _ _ _ _ (by simp)).trans (World.cell?_setCell_same _ _ _ k3)
    · simpa using y2
    · simpa using y3
    · rw [HPF.out]
      refine (HO3.out.fr fq (fun k hk e => ?_)).mono (fun k hk => ?_)
      · rcases hk with h | h | h
        · exact hqa (e ▸ h)
        · omega
        · omega
      · rcases hk with h | h | h
        · exact .inl h
        · exact .inr ⟨by omega, by simp; omega⟩
        · exact .inr ⟨by omega, by simp; omega⟩
    · rintro (h | h)
      · exact hqa h
      · omega
    · exact (F3.out.setCell (p := ⟨qb, 3, none⟩) (Or.inl (.inl rfl)) _).setCell (p := ⟨qb, 2, none⟩) (Or.inl (.inl rfl)) _
end
end Go.Proofs.YtpnjcpamhelaeabDoor
