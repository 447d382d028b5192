/- Where a transaction stands in a table; whether any hold of a row is so; does another one's hold meet this one. -/
import Derived.Test.YtaalkhipncbjpaaTabB
import Derived.Test.YtaalkhipncbjpaaSameA
namespace Go.Proofs.Ytaalkhipncbjpaa
open Go.RowKit
set_option maxRecDepth 100000 in
set_option maxHeartbeats 2000000 in
theorem place_any (s q tb : Nat) (ao : Option Addr) (l : List Hd) (cap : Nat) (w : World) (hc : w.cell? ⟨tb, 0, none⟩ = some (.slice ao l.length cap)) (hr : RowF w ao l cap) (hs : Srt l) (hlen : l.length ≤ 1000000) :
    Calls Try.prog 50 #[.pointer (some ⟨tb, 0, none⟩), .agg #[.int .u64 (s : Int), .int .u64 (q : Int)]] w fun e w' => ∃ (p : Nat) (bb : Bool), e = .returned (.tuple #[.int .i64 (p : Int), .bool bb]) ∧ Hid (bb = decide (p < l.length ∧ (l.getD p dH).a0 = s ∧ (l.getD p dH).a1 = q)) ∧ p ≤ l.length ∧ (∀ k, k < p → (l.getD k dH).lt s q) ∧ (∀ k, p ≤ k → k < l.length → ¬ (l.getD k dH).lt s q) ∧ Fr (fun _ => False) w w' := by
  have F0 : Hid (Fr (fun _ => False) w (w.alloc (.cells #[.int .u64 (s : Int), .int .u64 (q : Int)] 24))) := (Fr.refl (fun _ => False) w).alloc (.cells #[.int .u64 (s : Int), .int .u64 (q : Int)] 24)
  have h2 : C2 (w.alloc (.cells #[.int .u64 (s : Int), .int .u64 (q : Int)] 24)) w.heap.size (.int .u64 (s : Int)) (.int .u64 (q : Int)) := C2.new w 24 _ _
  have KS : Hid (∀ W, Fr (fun _ => False) w W → Calls _ _ _ _ _) := fun W f => search_any s q ao l cap W (hr.fr f (by simp)) hs hlen
  obtain ⟨bx, Hbx⟩ : ∃ bx, Hid (w.heap.size = bx) := ⟨_, rfl⟩
  rw [Hbx.out] at h2
  have HC : Hid (w.cell? ⟨tb, 0, none⟩ = some (.slice ao l.length cap)) := hc
  obtain ⟨W, HW⟩ : ∃ W, Hid (w.alloc (.cells #[.int .u64 (s : Int), .int .u64 (q : Int)] 24) = W) := ⟨_, rfl⟩
  rw [HW.out] at h2 F0
  have H2 : Hid (C2 W bx (.int .u64 (s : Int)) (.int .u64 (q : Int))) := h2
  have HSS : Hid (∀ W1, Fr (fun _ => False) w W1 → C2 W1 bx (.int .u64 (s : Int)) (.int .u64 (q : Int)) → (fun W1 : World => W1.cell? ⟨tb, 0, none⟩ = some (.slice ao l.length cap) ∧ C2 W1 bx (.int .u64 (s : Int)) (.int .u64 (q : Int))) W1) := fun W1 f g => ⟨f.cell HC.out (by simp), g⟩
  clear hc hr hs h2
  go_enter Try.func50, Try.ntmps50
  go_wp2_with fail
  rw [Hbx.out, HW.out]
  refine wp_region_held_drew (S := (fun W1 : World => W1.cell? ⟨tb, 0, none⟩ = some (.slice ao l.length cap) ∧ C2 W1 bx (.int .u64 (s : Int)) (.int .u64 (q : Int)))) (by kernel_rfl) (HSS.out _ F0.out.drew (H2.out.fr ((Fr.refl (fun _ => False) _).drew) (by simp))) (fun hHeld => ?_)
  refine wpAnyH_take (i := 0) (oi := _) (v := ?_) (by rw [List.getElem?_toArray]; rfl) (by kernel_rfl) (by kernel_rfl) (by kernel_rfl) (fun _ _ _ h => by exact h) (Or.inl ⟨by rfl, ?_⟩) (by assumption) ?_
  rotate_left
  · (intro w hSw; (try dsimp only at hSw); go_simp; (try with_reducible rfl))
  try simp only [Act.put, List.setIfInBounds_toArray, List.set_cons_zero, List.set_cons_succ]
  refine wpAnyH_take (i := 1) (oi := _) (v := ?_) (by rw [List.getElem?_toArray]; rfl) (by kernel_rfl) (by kernel_rfl) (by kernel_rfl) (fun _ _ _ h => by exact h) (Or.inl ⟨by rfl, ?_⟩) (by assumption) ?_
  rotate_left
  · (intro w hSw; (try dsimp only at hSw); go_simp; (try with_reducible rfl))
  try simp only [Act.put, List.setIfInBounds_toArray, List.set_cons_zero, List.set_cons_succ]
  refine wpAnyH_take (i := 2) (oi := _) (v := ?_) (by rw [List.getElem?_toArray]; rfl) (by kernel_rfl) (by kernel_rfl) (by kernel_rfl) (fun _ _ _ h => by exact h) (Or.inl ⟨by rfl, ?_⟩) (by assumption) ?_
  rotate_left
  · (intro w hSw; (try dsimp only at hSw); go_simp; (try with_reducible rfl))
  try simp only [Act.put, List.setIfInBounds_toArray, List.set_cons_zero, List.set_cons_succ]
  refine wpAnyH_take (i := 3) (oi := _) (v := ?_) (by rw [List.getElem?_toArray]; rfl) (by kernel_rfl) (by kernel_rfl) (by kernel_rfl) (fun _ _ _ h => by exact h) (Or.inl ⟨by rfl, ?_⟩) (by assumption) ?_
  rotate_left
  · (intro w hSw; (try dsimp only at hSw); obtain ⟨s1, ⟨i0, i1⟩⟩ := hSw; go_simp; (try with_reducible rfl))
  try simp only [Act.put, List.setIfInBounds_toArray, List.set_cons_zero, List.set_cons_succ]
  refine wpAnyH_take (i := 4) (oi := _) (v := ?_) (by rw [List.getElem?_toArray]; rfl) (by kernel_rfl) (by kernel_rfl) (by kernel_rfl) (fun _ _ _ h => by exact h) (Or.inl ⟨by rfl, ?_⟩) (by assumption) ?_
  rotate_left
  · (intro w hSw; (try dsimp only at hSw); obtain ⟨s1, ⟨i0, i1⟩⟩ := hSw; go_simp; (try with_reducible rfl))
  try simp only [Act.put, List.setIfInBounds_toArray, List.set_cons_zero, List.set_cons_succ]
  refine wpAnyH_ready (rs := [5]) (by kernel_rfl) (by simp) ?_
  refine AllReadyH.cons (o := _) (by rw [List.getElem?_toArray]; rfl) (fun K hK => ?_) ?_
  · go_simp
    go_wp2_with (go_at_call 86; refine (KS.out _ F0.out.drew).mono ?_; rintro e w5 ⟨p, bb, rfl, HB, hp1, hp2, hp3, f5⟩)
    have G5 : Hid (Fr (fun _ => False) w w5) := F0.out.drew.trans f5
    have HP : Hid (p ≤ l.length ∧ (∀ k, k < p → (l.getD k dH).lt s q) ∧ (∀ k, p ≤ k → k < l.length → ¬ (l.getD k dH).lt s q)) := ⟨hp1, hp2, hp3⟩
    have F5 : Hid (Fr (fun _ => False) W.drew w5) := f5; clear f5 hp1 hp2 hp3
    refine hK.out _ _ (HSS.out _ G5.out (H2.out.fr (((Fr.refl (fun _ => False) W).drew).trans F5.out) (by simp))) (fun hHeld => ?_)
    clear hK K
    try simp only [Act.put, List.setIfInBounds_toArray, List.set_cons_zero, List.set_cons_succ]
    refine wpAnyH_take (i := 6) (oi := _) (v := ?_) (by rw [List.getElem?_toArray]; rfl) (by kernel_rfl) (by kernel_rfl) (by kernel_rfl) (fun _ _ _ h => by exact h) (Or.inl ⟨by rfl, ?_⟩) (by assumption) ?_
    rotate_left
    · (intro w hSw; (try dsimp only at hSw); go_simp; (try with_reducible rfl))
    try simp only [Act.put, List.setIfInBounds_toArray, List.set_cons_zero, List.set_cons_succ]
    refine wpAnyH_take (i := 7) (oi := _) (v := ?_) (by rw [List.getElem?_toArray]; rfl) (by kernel_rfl) (by kernel_rfl) (by kernel_rfl) (fun _ _ _ h => by exact h) (Or.inl ⟨by rfl, ?_⟩) (by assumption) ?_
    rotate_left
    · (intro w hSw; (try dsimp only at hSw); go_simp; (try with_reducible rfl))
    try simp only [Act.put, List.setIfInBounds_toArray, List.set_cons_zero, List.set_cons_succ]
    refine wpAnyH_take (i := 8) (oi := _) (v := ?_) (by rw [List.getElem?_toArray]; rfl) (by kernel_rfl) (by kernel_rfl) (by kernel_rfl) (fun _ _ _ h => by exact h) (Or.inl ⟨by rfl, ?_⟩) (by assumption) ?_
    rotate_left
    · (intro w hSw; (try dsimp only at hSw); go_simp; (try with_reducible rfl))
    try simp only [Act.put, List.setIfInBounds_toArray, List.set_cons_zero, List.set_cons_succ]
    refine wpAnyH_take (i := 9) (oi := _) (v := ?_) (by rw [List.getElem?_toArray]; rfl) (by kernel_rfl) (by kernel_rfl) (by kernel_rfl) (fun _ _ _ h => by exact h) (Or.inl ⟨by rfl, ?_⟩) (by assumption) ?_
    rotate_left
    · (intro w hSw; (try dsimp only at hSw); go_simp; (try with_reducible rfl))
    try simp only [Act.put, List.setIfInBounds_toArray, List.set_cons_zero, List.set_cons_succ]
    refine wpAnyH_done (by kernel_rfl) ?_ _
    go_wp2
    go_ret2
    exact ⟨p, bb, rfl, HB, HP.out.1, HP.out.2.1, HP.out.2.2, G5.out⟩
  exact AllReadyH.nil
set_option maxRecDepth 100000 in
set_option maxHeartbeats 4000000 in
theorem indexH53 (f : Hd → Bool) (pb : Value) (ao : Option Addr) (l : List Hd) (cap : Nat) (w : World) (hr : RowF w ao l cap)
    (hf : ∀ W x, Fr (fun _ => False) w W → x ∈ l → Calls Try.prog 53 #[.agg #[.int .u64 (x.a0 : Int), .int .u64 (x.a1 : Int), .int .u64 (x.a2 : Int), .slice x.ga x.g.length x.gc, .slice x.sa x.s.length x.sc, .slice x.pa x.p.length x.pc, .slice x.da x.dl.length x.dc], pb] W fun e w' => e = .returned (.bool (f x)) ∧ Fr (fun _ => False) W w') :
    Calls Try.prog 89 #[.slice ao l.length cap, .func (.func 53) #[] #[pb]] w fun e w' => ∃ n : Int, e = .returned (.int .i64 n) ∧ decide (0 ≤ n) = l.any f ∧ Fr (fun _ => False) w w' := by
  have HR : Hid (RowF w ao l cap) := hr
  have KF : Hid (∀ W x, Fr (fun _ => False) w W → x ∈ l → Calls _ _ _ _ _) := hf
  have hl1 : l.length ≤ 9223372036854775807 := hr.lens.1
  clear hr hf
  go_enter Try.func89, Try.ntmps89
  go_wp2
  go_loopw [8] (fun iv wr => ∃ k : Nat, k ≤ l.length ∧ iv = .int .i64 (k : Int) ∧ Hid ((l.take k).any f = false) ∧ Hid (Fr (fun _ => False) w wr)) (fun iv _ => l.length - (intOf iv).toNat)
  case atStart => exact ⟨0, Nat.zero_le _, rfl, (by show (List.take 0 l).any f = false; simp), Fr.refl _ _⟩
  case round =>
    obtain ⟨k, hk, rfl, HA, HF⟩ := hrel
    by_cases hlt : k < l.length
    · obtain ⟨b, off, x, hao, Hx, hmem, d0, d1, d2, d3, d4, d5, d6⟩ := (HR.out.fr HF.out (by simp)).seven hlt
      have HK : Hid (Calls _ _ _ _ _) := KF.out wr x HF.out hmem
      have hn : f (l.getD k dH) = false → (l.take (k + 1)).any f = false := any_take_succ l f dH k hlt HA.out
      have ht : f (l.getD k dH) = true → l.any f = true := any_at l f dH k hlt
      rw [Hx.out] at hn ht
      have HN : Hid (f x = false → (l.take (k + 1)).any f = false) := hn
      have HT : Hid (f x = true → l.any f = true) := ht
      subst hao
      have z1 : (0 : Int) ≤ (k : Int) := by omega
      have z2 : (k : Int) < (l.length : Int) := by omega
      clear hmem hn ht
      go_wp2_with fail
      refine HK.out.mono ?_
      rintro e w1 ⟨rfl, f1⟩
      have HF1 : Hid (Fr (fun _ => False) w w1) := HF.out.trans f1
      clear f1 d0 d1 d2 d3 d4 d5 d6
      cases hfy : f x with
      | true =>
        go_wp2
        go_ret
        exact ⟨k, rfl, by rw [HT.out hfy]; simp, HF1.out⟩
      | false =>
        go_wp2
        go_roundw
        case rel => exact ⟨k + 1, by omega, by go_num, HN.out hfy, HF1.out⟩
        case measure => simp [intOf]; omega
    · have hlt' : ¬ (k : Int) < (l.length : Int) := by omega
      have hall : l.any f = false := by have := HA.out; rwa [List.take_of_length_le (by omega)] at this
      go_wp2
      go_ret
      exact ⟨-1, rfl, (by first | (rw [hall]; rfl) | decide | simp), HF.out⟩
set_option maxRecDepth 100000 in
theorem contH53 (f : Hd → Bool) (pb : Value) (ao : Option Addr) (l : List Hd) (cap : Nat) (w : World) (hr : RowF w ao l cap)
    (hf : ∀ W x, Fr (fun _ => False) w W → x ∈ l → Calls Try.prog 53 #[.agg #[.int .u64 (x.a0 : Int), .int .u64 (x.a1 : Int), .int .u64 (x.a2 : Int), .slice x.ga x.g.length x.gc, .slice x.sa x.s.length x.sc, .slice x.pa x.p.length x.pc, .slice x.da x.dl.length x.dc], pb] W fun e w' => e = .returned (.bool (f x)) ∧ Fr (fun _ => False) W w') :
    Calls Try.prog 52 #[.slice ao l.length cap, .func (.func 53) #[] #[pb]] w fun e w' => e = .returned (.bool (l.any f)) ∧ Fr (fun _ => False) w w' := by
  have K : Hid (Calls _ _ _ _ _) := indexH53 f pb ao l cap w hr hf
  obtain ⟨t, Ht⟩ : ∃ t, Hid (l.any f = t) := ⟨_, rfl⟩
  clear hr hf
  rw [Ht.out] at K ⊢
  go_enter Try.func52, Try.ntmps52
  go_wp2_with fail
  refine K.out.mono ?_
  rintro e w1 ⟨n, rfl, hn, f1⟩
  cases t with
  | true =>
    have h : (0 : Int) ≤ n := by simpa using hn
    go_wp2
    go_ret
    exact ⟨rfl, f1⟩
  | false =>
    have h : ¬ (0 : Int) ≤ n := by simpa using hn
    go_wp2
    go_ret
    exact ⟨rfl, f1⟩
set_option maxRecDepth 100000 in
set_option maxHeartbeats 4000000 in
theorem indexH75 (f : Hd → Bool) (pb : Value) (ao : Option Addr) (l : List Hd) (cap : Nat) (w : World) (hr : RowF w ao l cap)
    (hf : ∀ W x, Fr (fun _ => False) w W → x ∈ l → Calls Try.prog 75 #[.agg #[.int .u64 (x.a0 : Int), .int .u64 (x.a1 : Int), .int .u64 (x.a2 : Int), .slice x.ga x.g.length x.gc, .slice x.sa x.s.length x.sc, .slice x.pa x.p.length x.pc, .slice x.da x.dl.length x.dc], pb] W fun e w' => e = .returned (.bool (f x)) ∧ Fr (fun _ => False) W w') :
    Calls Try.prog 89 #[.slice ao l.length cap, .func (.func 75) #[] #[pb]] w fun e w' => ∃ n : Int, e = .returned (.int .i64 n) ∧ decide (0 ≤ n) = l.any f ∧ Fr (fun _ => False) w w' := by
  have HR : Hid (RowF w ao l cap) := hr
  have KF : Hid (∀ W x, Fr (fun _ => False) w W → x ∈ l → Calls _ _ _ _ _) := hf
  have hl1 : l.length ≤ 9223372036854775807 := hr.lens.1
  clear hr hf
  go_enter Try.func89, Try.ntmps89
  go_wp2
  go_loopw [8] (fun iv wr => ∃ k : Nat, k ≤ l.length ∧ iv = .int .i64 (k : Int) ∧ Hid ((l.take k).any f = false) ∧ Hid (Fr (fun _ => False) w wr)) (fun iv _ => l.length - (intOf iv).toNat)
  case atStart => exact ⟨0, Nat.zero_le _, rfl, (by show (List.take 0 l).any f = false; simp), Fr.refl _ _⟩
  case round =>
    obtain ⟨k, hk, rfl, HA, HF⟩ := hrel
    by_cases hlt : k < l.length
    · obtain ⟨b, off, x, hao, Hx, hmem, d0, d1, d2, d3, d4, d5, d6⟩ := (HR.out.fr HF.out (by simp)).seven hlt
      have HK : Hid (Calls _ _ _ _ _) := KF.out wr x HF.out hmem
      have hn : f (l.getD k dH) = false → (l.take (k + 1)).any f = false := any_take_succ l f dH k hlt HA.out
      have ht : f (l.getD k dH) = true → l.any f = true := any_at l f dH k hlt
      rw [Hx.out] at hn ht
      have HN : Hid (f x = false → (l.take (k + 1)).any f = false) := hn
      have HT : Hid (f x = true → l.any f = true) := ht
      subst hao
      have z1 : (0 : Int) ≤ (k : Int) := by omega
      have z2 : (k : Int) < (l.length : Int) := by omega
      clear hmem hn ht
      go_wp2_with fail
      refine HK.out.mono ?_
      rintro e w1 ⟨rfl, f1⟩
      have HF1 : Hid (Fr (fun _ => False) w w1) := HF.out.trans f1
      clear f1 d0 d1 d2 d3 d4 d5 d6
      cases hfy : f x with
      | true =>
        go_wp2
        go_ret
        exact ⟨k, rfl, by rw [HT.out hfy]; simp, HF1.out⟩
      | false =>
        go_wp2
        go_roundw
        case rel => exact ⟨k + 1, by omega, by go_num, HN.out hfy, HF1.out⟩
        case measure => simp [intOf]; omega
    · have hlt' : ¬ (k : Int) < (l.length : Int) := by omega
      have hall : l.any f = false := by have := HA.out; rwa [List.take_of_length_le (by omega)] at this
      go_wp2
      go_ret
      exact ⟨-1, rfl, (by first | (rw [hall]; rfl) | decide | simp), HF.out⟩
set_option maxRecDepth 100000 in
theorem contH75 (f : Hd → Bool) (pb : Value) (ao : Option Addr) (l : List Hd) (cap : Nat) (w : World) (hr : RowF w ao l cap)
    (hf : ∀ W x, Fr (fun _ => False) w W → x ∈ l → Calls Try.prog 75 #[.agg #[.int .u64 (x.a0 : Int), .int .u64 (x.a1 : Int), .int .u64 (x.a2 : Int), .slice x.ga x.g.length x.gc, .slice x.sa x.s.length x.sc, .slice x.pa x.p.length x.pc, .slice x.da x.dl.length x.dc], pb] W fun e w' => e = .returned (.bool (f x)) ∧ Fr (fun _ => False) W w') :
    Calls Try.prog 52 #[.slice ao l.length cap, .func (.func 75) #[] #[pb]] w fun e w' => e = .returned (.bool (l.any f)) ∧ Fr (fun _ => False) w w' := by
  have K : Hid (Calls _ _ _ _ _) := indexH75 f pb ao l cap w hr hf
  obtain ⟨t, Ht⟩ : ∃ t, Hid (l.any f = t) := ⟨_, rfl⟩
  clear hr hf
  rw [Ht.out] at K ⊢
  go_enter Try.func52, Try.ntmps52
  go_wp2_with fail
  refine K.out.mono ?_
  rintro e w1 ⟨n, rfl, hn, f1⟩
  cases t with
  | true =>
    have h : (0 : Int) ≤ n := by simpa using hn
    go_wp2
    go_ret
    exact ⟨rfl, f1⟩
  | false =>
    have h : ¬ (0 : Int) ≤ n := by simpa using hn
    go_wp2
    go_ret
    exact ⟨rfl, f1⟩
set_option maxRecDepth 100000 in
set_option maxHeartbeats 4000000 in
theorem take1_any (x h : Hd) (bx : Nat) (w : World) (hb : C7 w bx (.int .u64 (h.a0 : Int)) (.int .u64 (h.a1 : Int)) (.int .u64 (h.a2 : Int)) (.slice h.ga h.g.length h.gc) (.slice h.sa h.s.length h.sc) (.slice h.pa h.p.length h.pc) (.slice h.da h.dl.length h.dc)) (hx : x.ok w) (hh : h.ok w) : Calls Try.prog 53 #[.agg #[.int .u64 (x.a0 : Int), .int .u64 (x.a1 : Int), .int .u64 (x.a2 : Int), .slice x.ga x.g.length x.gc, .slice x.sa x.s.length x.sc, .slice x.pa x.p.length x.pc, .slice x.da x.dl.length x.dc], .pointer (some ⟨bx, 0, none⟩)] w fun e w' => e = .returned (.bool (!x.id h && x.meets h)) ∧ Fr (fun _ => False) w w' := by
  have F0 : Hid (Fr (fun _ => False) w (w.alloc (.cells #[.int .u64 (x.a0 : Int), .int .u64 (x.a1 : Int), .int .u64 (x.a2 : Int), .slice x.ga x.g.length x.gc, .slice x.sa x.s.length x.sc, .slice x.pa x.p.length x.pc, .slice x.da x.dl.length x.dc] 29))) := (Fr.refl (fun _ => False) w).alloc (.cells #[.int .u64 (x.a0 : Int), .int .u64 (x.a1 : Int), .int .u64 (x.a2 : Int), .slice x.ga x.g.length x.gc, .slice x.sa x.s.length x.sc, .slice x.pa x.p.length x.pc, .slice x.da x.dl.length x.dc] 29)
  have HX : Hid (C7 (w.alloc (.cells #[.int .u64 (x.a0 : Int), .int .u64 (x.a1 : Int), .int .u64 (x.a2 : Int), .slice x.ga x.g.length x.gc, .slice x.sa x.s.length x.sc, .slice x.pa x.p.length x.pc, .slice x.da x.dl.length x.dc] 29)) w.heap.size (.int .u64 (x.a0 : Int)) (.int .u64 (x.a1 : Int)) (.int .u64 (x.a2 : Int)) (.slice x.ga x.g.length x.gc) (.slice x.sa x.s.length x.sc) (.slice x.pa x.p.length x.pc) (.slice x.da x.dl.length x.dc)) := C7.new w 29 _ _ _ _ _ _ _
  have HH : Hid (C7 (w.alloc (.cells #[.int .u64 (x.a0 : Int), .int .u64 (x.a1 : Int), .int .u64 (x.a2 : Int), .slice x.ga x.g.length x.gc, .slice x.sa x.s.length x.sc, .slice x.pa x.p.length x.pc, .slice x.da x.dl.length x.dc] 29)) bx (.int .u64 (h.a0 : Int)) (.int .u64 (h.a1 : Int)) (.int .u64 (h.a2 : Int)) (.slice h.ga h.g.length h.gc) (.slice h.sa h.s.length h.sc) (.slice h.pa h.p.length h.pc) (.slice h.da h.dl.length h.dc)) := hb.fr F0.out (by simp)
  have KM : Hid (∀ W, Fr (fun _ => False) w W → Calls _ _ _ _ _) := fun W f => meet_any x h W (hx.fr f) (hh.fr f)
  have hi0 : ((x.a0 : Int) == (h.a0 : Int)) = decide (x.a0 = h.a0) := by rw [Bool.eq_iff_iff]; simp; omega
  have hi1 : ((x.a1 : Int) == (h.a1 : Int)) = decide (x.a1 = h.a1) := by rw [Bool.eq_iff_iff]; simp; omega
  have hi3 : x.id h = (decide (x.a0 = h.a0) && decide (x.a1 = h.a1)) := by unfold Hd.id; rw [Bool.eq_iff_iff]; simp
  rw [hi3]
  clear hi3 hb hx hh
  generalize decide (x.a0 = h.a0) = p0 at *
  generalize decide (x.a1 = h.a1) = p1 at *
  generalize x.meets h = mm at *
  obtain ⟨WX, HW⟩ : ∃ W, Hid (w.alloc (.cells #[.int .u64 (x.a0 : Int), .int .u64 (x.a1 : Int), .int .u64 (x.a2 : Int), .slice x.ga x.g.length x.gc, .slice x.sa x.s.length x.sc, .slice x.pa x.p.length x.pc, .slice x.da x.dl.length x.dc] 29) = W) := ⟨_, rfl⟩
  rw [HW.out] at HX HH F0
  obtain ⟨d0, d1, d2, d3, d4, d5, d6⟩ := HX.out
  obtain ⟨f0, f1, f2, f3, f4, f5, f6⟩ := HH.out
  rw [← HW.out] at d0 d1 d2 d3 d4 d5 d6 f0 f1 f2 f3 f4 f5 f6
  have e00 : (p0 && p1) = true ∨ (p0 && p1) = false := by cases (p0 && p1) <;> simp
  rcases e00 with e00 | e00
  · rw [e00]
    simp only [Bool.and_eq_true] at e00
    obtain ⟨rfl, rfl⟩ := e00
    go_enter Try.func53, Try.ntmps53
    go_wp2_with fail
    go_ret
    exact ⟨rfl, by rw [HW.out]; exact F0.out⟩
  · rw [e00]
    cases p0 <;> cases p1
    case true.true => simp at e00
    all_goals
      go_enter Try.func53, Try.ntmps53
      go_wp2_with (go_at_call 14; refine (KM.out _ ((Fr.refl (fun _ => False) w).alloc _)).mono ?_; rintro e w5 ⟨rfl, g9⟩)
      go_ret
      exact ⟨rfl, ((Fr.refl (fun _ => False) w).alloc _).trans g9⟩
end Go.Proofs.Ytaalkhipncbjpaa
