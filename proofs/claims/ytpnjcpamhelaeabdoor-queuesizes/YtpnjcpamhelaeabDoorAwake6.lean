/- The document's example of a queue. -/
import Derived.Test.YtpnjcpamhelaeabDoorSlot
import Derived.Deep.RegionWith
import Derived.Deep.DrawnRows
namespace Go.Proofs.YtpnjcpamhelaeabDoor
open Go.RowKit
attribute [local go_sem ↓] Go.wp_at_zero Go.wp_at_succ

/-- a constant's bytes, marked. -/
theorem run_mark (w : World) (g : Nat) (hg : w.heap[g]? = some (.cells #[.int .u8 97, .int .u8 98] 5 (0, 0))) :
    ∃ w', (convert 30 30 (.slice (some ⟨g, 0, none⟩) 2 2)).run Tryd.prog w = .ok (.slice (some ⟨g, 0, none⟩) 2 2) w' ∧ Row w' (some ⟨g, 0, none⟩) [97, 98] 2 ∧ Fr (fun k => k = g) w w' := by
  have hlt : g < w.heap.size := (Array.getElem?_eq_some_iff.1 hg).1
  have hsh : w.shape? g = some (5, 2) := by
    unfold World.shape?
    rw [hg]
    rfl
  have hrun : (convert 30 30 (.slice (some ⟨g, 0, none⟩) 2 2)).run Tryd.prog w = .ok (.slice (some ⟨g, 0, none⟩) 2 2) (w.freeze ⟨g, 2, none⟩ 1) := by
    simp [convert, run_underlying Tryd.underlying30, run_underlying Tryd.underlying5, markStringish, hsh]
  have hz : ∀ k, k ≠ g → (w.freeze ⟨g, 2, none⟩ 1).heap[k]? = w.heap[k]? := fun k hk => by
    unfold World.freeze
    rw [if_neg (by decide)]
    simp [Array.getElem?_modify, Ne.symm hk]
  have hsz : (w.freeze ⟨g, 2, none⟩ 1).heap.size = w.heap.size := by
    unfold World.freeze
    rw [if_neg (by decide)]
    simp
  have hgg : ∃ fz, (w.freeze ⟨g, 2, none⟩ 1).heap[g]? = some (.cells #[.int .u8 97, .int .u8 98] 5 fz) := by
    unfold World.freeze
    rw [if_neg (by decide)]
    simp [Array.getElem?_modify, hg]
  obtain ⟨fz, hgg⟩ := hgg
  refine ⟨_, hrun, ⟨by simp, by unfold maxLen; simp, by decide, fun h => (by cases h), fun _ => ⟨g, 0, rfl, fun i hi => ?_⟩⟩, ⟨?_, ?_, ?_, by rw [hsz]; exact Nat.le_refl _, fun k _ hk => hz k hk⟩⟩
  · simp only [List.length_cons, List.length_nil] at hi
    rw [Nat.zero_add, cell_of_row _ g i _ 5 fz hgg]
    match i, hi with
    | 0, _ | 1, _ => rfl
  · unfold World.freeze; rw [if_neg (by decide)]
  · unfold World.freeze; rw [if_neg (by decide)]
  · unfold World.freeze; rw [if_neg (by decide)]
set_option maxRecDepth 100000 in
set_option maxHeartbeats 8000000 in
theorem awake6_any (w : World) (ht : Tab w) : Calls Tryd.prog 6 #[] w fun e w' => e = .returned (.bool true) ∧ Fr (fun _ => False) w w' := by
  have HT : Hid (Tab w) := ht
  clear ht
  obtain ⟨L, HL⟩ : ∃ L, Hid (sealed (body 64 5 0 1 [97, 98]) = L) := ⟨_, rfl⟩
  have hLl : Hid (L.length = 64) := by show _ = _; rw [← HL.out, sealed_length, body_length _ _ _ _ _ (by simp)]
  have hLn : Hid (L ≠ []) := fun e => by have := hLl.out; rw [e] at this; simp at this
  have hfrs : frames 64 5 [97, 98] = [L] := by rw [← HL.out]; decide +kernel
  obtain ⟨D, HD⟩ : ∃ D, Hid (dum 64 = D) := ⟨_, rfl⟩
  have hDl : Hid (D.length = 64) := by show _ = _; rw [← HD.out]; exact dum_length 64 (by omega)
  go_enter Tryd.func6, Tryd.ntmps6
  go_wp2_with fail
  refine (qnew_any 64 4 5 w (by omega) (by omega)).mono ?_
  rintro e w1 ⟨rfl, q1, f1⟩
  have kc := Lib.run_convert_bytes_const (P := Tryd.prog) w1 30 5 #[.int .u8 97, .int .u8 98] 2 2 Tryd.underlying30 Tryd.underlying5
  have f2 := f1.alloc (.cells #[.int .u8 97, .int .u8 98] 5 (2, 3))
  have q2 := q1.fr ((Fr.refl (fun _ => False) w1).alloc (.cells #[.int .u8 97, .int .u8 98] 5 (2, 3))) (by simp) (by simp)
  have kp := qput_ok q2 (f2.tab HT.out (by simp)) (some ⟨w1.heap.size, 0, none⟩) [97, 98] 2 (ab_row w1) (by simp) (by omega) (by decide) (by omega) (by omega) (by decide)
  rw [hfrs] at kp
  have HKP : Hid (Calls _ _ _ _ _) := kp
  have hq1 := q1.lt
  clear kp q2 q1 hfrs
  go_wp2_with fail
  refine HKP.out.mono ?_
  rintro e w3 ⟨rfl, ⟨v3, q3⟩, f3⟩
  obtain ⟨S3, HS3⟩ : ∃ S3 : Nat → Prop, S3 = (fun k => (fun _ => False) k ∨ ((w1.alloc (.cells #[.int .u8 97, .int .u8 98] 5 (2, 3))).heap.size ≤ k ∧ k < w3.heap.size)) := ⟨_, rfl⟩
  rw [← HS3] at q3
  have hS3 : Hid (∀ k, S3 k → w.heap.size < k ∧ k < w3.heap.size) := fun k hk => by
    rw [HS3] at hk
    rcases hk with h | h
    · exact h.elim
    · have := f1.size
      simp at h
      omega
  have F3 : Hid (Fr (fun _ => False) w w3) := f2.trans' f3 (fun i hi e => by
    rcases e with e | e
    · omega
    · exact e)
  obtain ⟨qb, Hqb⟩ : ∃ qb, Hid (w.heap.size = qb) := ⟨_, rfl⟩
  rw [Hqb.out] at q3 ⊢
  have hqb : Hid (qb < w3.heap.size) := q3.lt
  have ks1 : ∀ W, Fr (fun _ => False) w3 W → Calls Tryd.prog 9 #[.pointer (some ⟨qb, 0, none⟩)] W fun e w' => ∃ a1 c1, e = .returned (.slice a1 L.length c1) ∧ Row w' a1 L c1 ∧ (L ≠ [] → ∀ a, a1 = some a → S3 a.block) ∧ (∃ v', Qu w' qb S3 64 4 6 [] v') ∧ Fr (fun k => k = qb ∨ S3 k) w3 w' ∧ Fr (fun k => k = qb ∨ S3 k) W w' := fun W f =>
    (qslot_some (q3.fr f (by simp) (by simp)) (by simp)).mono fun e w' ⟨a1, c1, h1, h2, h3, h4, h5⟩ => ⟨a1, c1, h1, h2, h3, h4, (f.mono (fun _ _ h => h.elim)).trans h5, h5⟩
  have KS1 : Hid (∀ W, Fr (fun _ => False) w3 W → _) := ks1
  have KF : Hid (∀ W g, Row W (some ⟨g, 0, none⟩) [97, 98] 2 → _) := fun W g h => refframe_any 64 5 0 1 (some ⟨g, 0, none⟩) [97, 98] 2 W h (by omega) (by simp) (by omega) (by omega) (by omega)
  rw [HL.out] at KF
  have KS2 : Hid (∀ W v', Qu W qb S3 64 4 6 [] v' → Tab W → _) := fun W v' h ht => qslot_dummy h ht (by omega)
  have KD : Hid (∀ W, _) := fun W => refdummy_any 64 W (by omega)
  rw [HD.out] at KS2 KD
  obtain ⟨t, Ht⟩ : ∃ t, Hid (strOf L = t) := ⟨_, rfl⟩
  obtain ⟨u, Hu⟩ : ∃ u, Hid (strOf D = u) := ⟨_, rfl⟩
  have hbt : (t.toList == t.toList) = true := by simp
  have hbu : (u.toList == u.toList) = true := by simp
  obtain ⟨w3c, kc3, r3c', f3c'⟩ := run_mark (w3.alloc (.cells #[.int .u8 97, .int .u8 98] 5)).drew w3.heap.size (heap_alloc_new w3 _)
  have r3c : Hid (Row w3c (some ⟨w3.heap.size, 0, none⟩) [97, 98] 2) := r3c'
  have fe : Hid (Fr (fun _ => False) w3 (w3.alloc (.cells #[.int .u8 97, .int .u8 98] 5)).drew) := ((Fr.refl _ w3).alloc _).drew
  have fc3 : Hid (Fr (fun _ => False) w3 w3c) := fe.out.trans' f3c' (fun i hi e => by omega)
  clear r3c' f3c'
  have fd : Hid (Fr (fun _ => False) w3 w3.drew) := (Fr.refl _ _).drew
  clear kc HKP f3 f2 f1 q3 ks1
  have hg3 : Hid (∀ k, (k = qb ∨ S3 k) → k ≠ w3.heap.size) := fun k hk e => by
    rcases hk with h | h
    · have := hqb.out; omega
    · have := (hS3.out k h).2; omega
  have HF4 : Hid (∀ i, i < w.heap.size → (i = qb ∨ S3 i) → False) := fun i hi hk => by
    rcases hk with h | h
    · have := Hqb.out; omega
    · have := (hS3.out i h).1; omega
  go_wp2_with fail
  go_region_with (first
    | (go_at_call 13; refine (KD.out _).mono ?_; rintro e w7 ⟨v7, rfl, ho7, f7⟩; obtain ⟨a7, c7, rfl, hr7, _⟩ := ho7.row; have s7 := run_str w7 a7 D c7 hr7; have s67 := run_str' w7 a6 D 64 64 hDl.out (f7.row r6.out (by simp)); rw [Hu.out] at s7 s67; have F7 : Hid (Fr (fun _ => False) w w7) := F6.out.trans f7; clear hr7 ho7 f7)
    | (go_at_call 9; refine (KS2.out _ _ q5.out (F5.out.tab HT.out (by simp))).mono ?_; rintro e w6 ⟨a6, rfl, hF6, f6⟩; have r6 : Hid (Row w6 a6 D 64) := (by have h6 := hF6.1; rw [hDl.out] at h6; exact h6); have s6 := run_str' w6 a6 D 64 64 hDl.out r6.out; rw [Hu.out] at s6; have F6 : Hid (Fr (fun _ => False) w w6) := F5.out.trans f6; clear hF6 f6)
    | (go_at_call 12; refine (KF.out _ _ ?_).mono ?_; (first | exact ab_row _ | exact rc.out | exact rE.out); rintro e w5 ⟨v5, rfl, ho5, f5⟩; obtain ⟨a5, c5, rfl, hr5, _⟩ := ho5.row; have s5 := run_str w5 a5 L c5 hr5; have fX : Fr (fun k => k = w3.heap.size) w4 w5 := (by first | exact f5.mono (fun _ _ h => h.elim) | exact (((Fr.refl (fun _ => False) w4).alloc _).trans f5).mono (fun _ _ h => h.elim) | exact fc.out.trans (f5.mono (fun _ _ h => h.elim))); have s15 := run_str w5 a1 L c1 (fX.row r1.out (fun hn a ha e => hg3.out _ (.inr (hb1.out hn a ha)) e)); rw [Ht.out] at s5 s15; have q5 : Hid (Qu w5 qb S3 64 4 6 [] v4) := q4.out.fr fX (fun e => hg3.out _ (.inl rfl) e) (fun k hk e => hg3.out _ (.inr hk) e); have F5 : Hid (Fr (fun _ => False) w w5) := F4.out.trans' fX (fun i hi e => by have := F3.out.size; omega); clear hr5 ho5 f5 fX)
    | (go_at_call 9; refine (KS1.out _ ?_).mono ?_; (first | exact fd.out | exact fe.out | exact fc3.out); rintro e w4 ⟨a1, c1, rfl, r1', hb1', ⟨v4, q4'⟩, f43, f4⟩; have s4 := run_str w4 a1 L c1 r1'; have s4a := run_str (w4.alloc (.cells #[.int .u8 97, .int .u8 98] 5)) a1 L c1 (((Fr.refl (fun _ => False) w4).alloc _).row r1' (by simp)); have s4b := run_str (w4.alloc (.cells #[.int .u8 97, .int .u8 98] 5 (2, 3))) a1 L c1 (((Fr.refl (fun _ => False) w4).alloc _).row r1' (by simp)); rw [Ht.out] at s4 s4a s4b; have kc4 := Lib.run_convert_bytes_const (P := Tryd.prog) w4 30 5 #[.int .u8 97, .int .u8 98] 2 2 Tryd.underlying30 Tryd.underlying5; have F4 : Hid (Fr (fun _ => False) w w4) := F3.out.trans' f43 HF4.out; have r1 : Hid (Row w4 a1 L c1) := r1'; have hb1 : Hid (L ≠ [] → ∀ a, a1 = some a → S3 a.block) := hb1'; have q4 : Hid (Qu w4 qb S3 64 4 6 [] v4) := q4'; (first | (have hg4 : w4.heap[w3.heap.size]? = some (.cells #[.int .u8 97, .int .u8 98] 5 (0, 0)) := (f4.block w3.heap.size (by show w3.heap.size < (w3.alloc _).heap.size; simp) (fun e => hg3.out _ e rfl)).trans (heap_alloc_new w3 _); obtain ⟨w4c, kcc, rc', fc'⟩ := run_mark w4 w3.heap.size hg4; have rc : Hid (Row w4c (some ⟨w3.heap.size, 0, none⟩) [97, 98] 2) := rc'; have fc : Hid (Fr (fun k => k = w3.heap.size) w4 w4c) := fc'; have s4c := run_str w4c a1 L c1 (fc'.row r1' (fun hn a ha e => hg3.out _ (.inr (hb1' hn a ha)) e)); rw [Ht.out] at s4c; clear rc' fc' hg4) | skip); (first | (have rE' : Row w4 (some ⟨w3.heap.size, 0, none⟩) [97, 98] 2 := f4.row r3c.out (fun _ a ha e => by cases ha; exact hg3.out _ e rfl); have rE : Hid (Row w4 (some ⟨w3.heap.size, 0, none⟩) [97, 98] 2) := rE'; clear rE') | skip); clear r1' hb1' q4' f4 f43))
  all_goals
    go_wp2
    go_ret
    exact ⟨rfl, F7.out⟩
end Go.Proofs.YtpnjcpamhelaeabDoor
