/- Rows of spans, and whether any of them is so; the document's has and reads (for LocksMeet). -/
import Derived.Test.YtaalkhipncbjpaaMeetA
namespace Go.Proofs.Ytaalkhipncbjpaa
open Go.RowKit
/-- spans in memory. -/
def GRow (w : World) (ao : Option Addr) (l : List (Nat × Nat)) (cap : Nat) : Prop :=
  l.length ≤ cap ∧ cap ≤ maxLen ∧ (∀ x ∈ l, x.1 < 18446744073709551616 ∧ x.2 < 18446744073709551616) ∧ (l ≠ [] → ∃ b off, ao = some ⟨b, off, none⟩ ∧ ∀ i, i < l.length → w.cell? ⟨b, off + i * 2, none⟩ = some (.float .f64 (l.getD i (0, 0)).1) ∧ w.cell? ⟨b, off + i * 2 + 1, none⟩ = some (.float .f64 (l.getD i (0, 0)).2))
theorem GRow.fr {S : Nat → Prop} {w w1 : World} {ao : Option Addr} {l : List (Nat × Nat)} {cap : Nat} (h : GRow w ao l cap) (f : Fr S w w1) (hs : l ≠ [] → ∀ a : Addr, ao = some a → ¬ S a.block) : GRow w1 ao l cap := by
  obtain ⟨h1, h2, h3, h4⟩ := h
  refine ⟨h1, h2, h3, fun hl => ?_⟩
  obtain ⟨b, off, rfl, hc⟩ := h4 hl
  exact ⟨b, off, rfl, fun i hi => ⟨f.cell (hc i hi).1 (hs hl ⟨b, off, none⟩ rfl), f.cell (hc i hi).2 (hs hl ⟨b, off, none⟩ rfl)⟩⟩
set_option maxRecDepth 100000 in
set_option maxHeartbeats 4000000 in
theorem indexG (f : Nat × Nat → Bool) (pb : Value) (ao : Option Addr) (l : List (Nat × Nat)) (cap : Nat) (w : World) (hr : GRow w ao l cap)
    (hf : ∀ W x, Fr (fun _ => False) w W → x ∈ l → Calls Try.prog 105 #[.agg #[.float .f64 x.1, .float .f64 x.2], pb] W fun e w' => e = .returned (.bool (f x)) ∧ Fr (fun _ => False) W w') :
    Calls Try.prog 104 #[.slice ao l.length cap, .func (.func 105) #[] #[pb]] w fun e w' => ∃ n : Int, e = .returned (.int .i64 n) ∧ decide (0 ≤ n) = l.any f ∧ Fr (fun _ => False) w w' := by
  have HR : Hid (GRow w ao l cap) := hr
  have KF : Hid (∀ W x, Fr (fun _ => False) w W → x ∈ l → Calls _ _ _ _ _) := hf
  have hl1 : l.length ≤ 9223372036854775807 := by have := hr.1; have := hr.2.1; unfold maxLen at this; omega
  clear hr hf
  go_enter Try.func104, Try.ntmps104
  go_wp2
  go_loopw [8] (fun iv wr => ∃ k : Nat, k ≤ l.length ∧ iv = .int .i64 (k : Int) ∧ Hid ((l.take k).any f = false) ∧ Hid (Fr (fun _ => False) w wr)) (fun iv _ => l.length - (intOf iv).toNat)
  case atStart => exact ⟨0, Nat.zero_le _, rfl, (by show (List.take 0 l).any f = false; simp), Fr.refl _ _⟩
  case round =>
    obtain ⟨k, hk, rfl, HA, HF⟩ := hrel
    by_cases hlt : k < l.length
    · have hne : l ≠ [] := fun e => by rw [e] at hlt; simp at hlt
      obtain ⟨b, off, hao, hc⟩ := (HR.out.fr HF.out (by simp)).2.2.2 hne
      obtain ⟨hy, hy2⟩ := hc k hlt
      have hmem : l.getD k (0, 0) ∈ l := by rw [List.getD_eq_getElem?_getD, List.getElem?_eq_getElem hlt]; exact List.getElem_mem _
      have KC := KF.out wr (l.getD k (0, 0)) HF.out hmem
      have HN : Hid (f (l.getD k (0, 0)) = false → (l.take (k + 1)).any f = false) := any_take_succ l f (0, 0) k hlt HA.out
      have HT : Hid (f (l.getD k (0, 0)) = true → l.any f = true) := any_at l f (0, 0) k hlt
      obtain ⟨y, Hy⟩ : ∃ y, Hid (l.getD k (0, 0) = y) := ⟨_, rfl⟩
      rw [Hy.out] at hy hy2 KC HN HT
      obtain ⟨y1, y2⟩ := y
      dsimp only at hy hy2 KC
      have HK : Hid (Calls _ _ _ _ _) := KC
      subst hao
      have z1 : (0 : Int) ≤ (k : Int) := by omega
      have z2 : (k : Int) < (l.length : Int) := by omega
      clear hc hmem KC
      go_wp2_with fail
      refine HK.out.mono ?_
      rintro e w1 ⟨rfl, f1⟩
      have HF1 : Hid (Fr (fun _ => False) w w1) := HF.out.trans f1
      clear f1 hy hy2
      cases hfy : f (y1, y2) with
      | true =>
        go_wp2
        go_ret
        exact ⟨k, rfl, by rw [HT.out hfy]; simp, HF1.out⟩
      | false =>
        go_wp2
        go_roundw
        case rel => exact ⟨k + 1, by omega, by go_num, HN.out hfy, HF1.out⟩
        case measure => simp [intOf]; omega
    · have hlt' : ¬ (k : Int) < (l.length : Int) := by omega
      have hall : l.any f = false := by have := HA.out; rwa [List.take_of_length_le (by omega)] at this
      go_wp2
      go_ret
      exact ⟨-1, rfl, (by first | (rw [hall]; rfl) | decide | simp), HF.out⟩
set_option maxRecDepth 100000 in
theorem contG (f : Nat × Nat → Bool) (pb : Value) (ao : Option Addr) (l : List (Nat × Nat)) (cap : Nat) (w : World) (hr : GRow w ao l cap)
    (hf : ∀ W x, Fr (fun _ => False) w W → x ∈ l → Calls Try.prog 105 #[.agg #[.float .f64 x.1, .float .f64 x.2], pb] W fun e w' => e = .returned (.bool (f x)) ∧ Fr (fun _ => False) W w') :
    Calls Try.prog 83 #[.slice ao l.length cap, .func (.func 105) #[] #[pb]] w fun e w' => e = .returned (.bool (l.any f)) ∧ Fr (fun _ => False) w w' := by
  have K : Hid (Calls _ _ _ _ _) := indexG f pb ao l cap w hr hf
  obtain ⟨t, Ht⟩ : ∃ t, Hid (l.any f = t) := ⟨_, rfl⟩
  clear hr hf
  rw [Ht.out] at K ⊢
  go_enter Try.func83, Try.ntmps83
  go_wp2_with fail
  refine K.out.mono ?_
  rintro e w1 ⟨n, rfl, hn, f1⟩
  cases t with
  | true =>
    have h : (0 : Int) ≤ n := by simpa using hn
    go_wp2
    go_ret
    exact ⟨rfl, f1⟩
  | false =>
    have h : ¬ (0 : Int) ≤ n := by simpa using hn
    go_wp2
    go_ret
    exact ⟨rfl, f1⟩
set_option maxRecDepth 100000 in
set_option maxHeartbeats 4000000 in
theorem has_any (x : Nat) (hx : x < 18446744073709551616) (ao : Option Addr) (l : List Nat) (cap : Nat) (w : World) (hr : FRow w ao l cap) :
    Calls Try.prog 48 #[.slice ao l.length cap, .float .f64 x] w fun e w' => e = .returned (.bool (l.any fun y => decide (Fl.rk y = Fl.rk x))) ∧ w' = w := by
  have HR : Hid (FRow w ao l cap) := hr
  obtain ⟨f, Hf⟩ : ∃ f : Nat → Bool, Hid ((fun y => decide (Fl.rk y = Fl.rk x)) = f) := ⟨_, rfl⟩
  have hl1 : l.length ≤ 9223372036854775807 := by have := hr.1; have := hr.2.1; unfold maxLen at this; omega
  rw [Hf.out]
  clear hr
  go_enter Try.func48, Try.ntmps48
  go_wp2
  go_loopw [5] (fun iv wr => ∃ k : Nat, k ≤ l.length ∧ iv = .int .i64 (k : Int) ∧ Hid ((l.take k).any f = false) ∧ wr = w) (fun iv _ => l.length - (intOf iv).toNat)
  case atStart => exact ⟨0, Nat.zero_le _, rfl, (by show (List.take 0 l).any f = false; simp), rfl⟩
  case round =>
    obtain ⟨k, hk, rfl, HA, hwr⟩ := hrel
    subst hwr
    by_cases hlt : k < l.length
    · have hne : l ≠ [] := fun e => by rw [e] at hlt; simp at hlt
      obtain ⟨b, off, hao, hc⟩ := HR.out.2.2.2 hne
      have hy := hc k hlt
      have hmem : l.getD k 0 ∈ l := by rw [List.getD_eq_getElem?_getD, List.getElem?_eq_getElem hlt]; exact List.getElem_mem _
      have HY : Hid (l.getD k 0 < 18446744073709551616) := HR.out.2.2.1 _ hmem
      have HN : Hid (f (l.getD k 0) = false → (l.take (k + 1)).any f = false) := any_take_succ l f 0 k hlt HA.out
      have HT : Hid (f (l.getD k 0) = true → l.any f = true) := any_at l f 0 k hlt
      obtain ⟨y, Hy⟩ : ∃ y, Hid (l.getD k 0 = y) := ⟨_, rfl⟩
      rw [Hy.out] at hy HY HN HT
      have HK : Hid (Says 44 y x (f y)) := by rw [← Hf.out]; exact refsame_any y x HY.out hx
      subst hao
      have z1 : (0 : Int) ≤ (k : Int) := by omega
      have z2 : (k : Int) < (l.length : Int) := by omega
      clear hc hmem
      go_wp2_with fail
      refine (HK.out _).mono ?_
      rintro e w1 ⟨rfl, hw1⟩
      subst hw1
      clear hy
      cases hfy : f y with
      | true =>
        go_wp2
        go_ret
        refine ⟨?_, rfl⟩
        have hT := HT.out hfy
        rw [hT]; rfl
      | false =>
        go_wp2
        go_roundw
        case rel => exact ⟨k + 1, by omega, by go_num, HN.out hfy, trivial⟩
        case measure => simp [intOf]; omega
    · have hlt' : ¬ (k : Int) < (l.length : Int) := by omega
      have hall : l.any f = false := by have := HA.out; rwa [List.take_of_length_le (by omega)] at this
      go_wp2
      go_ret
      exact ⟨rfl, rfl⟩
end Go.Proofs.Ytaalkhipncbjpaa
