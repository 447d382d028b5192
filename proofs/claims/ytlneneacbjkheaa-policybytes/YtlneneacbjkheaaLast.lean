/- The program's book: where the last rule of a number stands of which something is so. -/
import Derived.Test.YtlneneacbjkheaaBook
namespace Go.Proofs.Ytlneneacbjkheaa
open Go.RowKit
section
variable {w w1 : World} {b base : Nat} {gs : List Gr} {v : Value}
set_option maxHeartbeats 400000 in
theorem in_any (x : Gr) (ep : Nat) (w : World) : Calls Try.prog 30 #[.agg #[.int .u64 (x.r.id : Int), .int .i64 x.r.fr, .int .i64 x.r.tt, .float .f64 x.r.lo, .float .f64 x.r.hi, .int .u64 (x.r.au : Int), .int .i64 x.r.qu, .int .u64 (x.f : Int), .int .u64 (x.u : Int)], .int .u64 (ep : Int)] w fun e w' => e = .returned (.bool (x.within ep)) ∧ Fr (fun _ => False) w w' := by
  have f0 := (Fr.refl (fun _ => False) w).alloc (.cells #[.int .u64 (x.r.id : Int), .int .i64 x.r.fr, .int .i64 x.r.tt, .float .f64 x.r.lo, .float .f64 x.r.hi, .int .u64 (x.r.au : Int), .int .i64 x.r.qu, .int .u64 (x.f : Int), .int .u64 (x.u : Int)] 67)
  by_cases h1 : x.f ≤ ep
  · have K : Hid (Calls _ _ _ _ _) := open_any x (w.alloc (.cells #[.int .u64 (x.r.id : Int), .int .i64 x.r.fr, .int .i64 x.r.tt, .float .f64 x.r.lo, .float .f64 x.r.hi, .int .u64 (x.r.au : Int), .int .i64 x.r.qu, .int .u64 (x.f : Int), .int .u64 (x.u : Int)] 67))
    have HU : Hid ((w.alloc (.cells #[.int .u64 (x.r.id : Int), .int .i64 x.r.fr, .int .i64 x.r.tt, .float .f64 x.r.lo, .float .f64 x.r.hi, .int .u64 (x.r.au : Int), .int .i64 x.r.qu, .int .u64 (x.f : Int), .int .u64 (x.u : Int)] 67)).cell? ⟨w.heap.size, 8, none⟩ = some (.int .u64 (x.u : Int))) := by show _ = _; simp
    by_cases hu : x.u = 0
    · have ho : x.open = true := by simp [Gr.open, hu]
      rw [ho] at K
      have hr : x.within ep = true := by simp [Gr.within, hu, h1]
      rw [hr]
      clear hr ho HU hu
      go_enter Try.func30, Try.ntmps30
      go_wp2_with fail
      refine K.out.mono ?_
      rintro e w1 ⟨rfl, f1⟩
      go_wp2
      go_ret
      exact ⟨rfl, f0.trans f1⟩
    · have ho : x.open = false := by simp [Gr.open, hu]
      rw [ho] at K
      have hr : x.within ep = decide (ep < x.u) := by simp [Gr.within, hu, h1]
      rw [hr]
      clear hr ho hu
      go_enter Try.func30, Try.ntmps30
      go_wp2_with fail
      refine K.out.mono ?_
      rintro e w1 ⟨rfl, f1⟩
      have hc := f1.cell HU.out (by simp)
      go_wp2
      go_ret
      refine ⟨?_, f0.trans f1⟩
      simp
  · have hr : x.within ep = false := by simp [Gr.within, h1]
    rw [hr]
    clear hr
    go_enter Try.func30, Try.ntmps30
    go_wp2
    go_ret
    exact ⟨rfl, f0⟩
set_option maxHeartbeats 400000 in
theorem at1_any (x : Gr) (ep eb : Nat) (w : World) (he : w.cell? ⟨eb, 0, none⟩ = some (.int .u64 (ep : Int))) : Calls Try.prog 29 #[.agg #[.int .u64 (x.r.id : Int), .int .i64 x.r.fr, .int .i64 x.r.tt, .float .f64 x.r.lo, .float .f64 x.r.hi, .int .u64 (x.r.au : Int), .int .i64 x.r.qu, .int .u64 (x.f : Int), .int .u64 (x.u : Int)], .pointer (some ⟨eb, 0, none⟩)] w fun e w' => e = .returned (.bool (x.within ep)) ∧ Fr (fun _ => False) w w' := by
  have f0 := (Fr.refl (fun _ => False) w).alloc (.cells #[.int .u64 (x.r.id : Int), .int .i64 x.r.fr, .int .i64 x.r.tt, .float .f64 x.r.lo, .float .f64 x.r.hi, .int .u64 (x.r.au : Int), .int .i64 x.r.qu, .int .u64 (x.f : Int), .int .u64 (x.u : Int)] 67)
  have he0 := f0.cell he (by simp)
  have K : Hid (Calls _ _ _ _ _) := in_any x ep (w.alloc (.cells #[.int .u64 (x.r.id : Int), .int .i64 x.r.fr, .int .i64 x.r.tt, .float .f64 x.r.lo, .float .f64 x.r.hi, .int .u64 (x.r.au : Int), .int .i64 x.r.qu, .int .u64 (x.f : Int), .int .u64 (x.u : Int)] 67))
  go_enter Try.func29, Try.ntmps29
  go_wp2_with fail
  refine K.out.mono ?_
  rintro e w1 ⟨rfl, f1⟩
  go_wp2
  go_ret
  exact ⟨rfl, f0.trans f1⟩

/-- where the last one stands of which something is so. -/
def LastAt (gs : List Gr) (q : Gr → Bool) (n : Nat) (ok : Bool) : Prop :=
  (ok = true ∧ n < gs.length ∧ q (gr gs n) = true ∧ ∀ j, n < j → j < gs.length → q (gr gs j) = false) ∨ (ok = false ∧ n = 0 ∧ ∀ j, j < gs.length → q (gr gs j) = false)
theorem lastAt_uniq {gs : List Gr} {q : Gr → Bool} {n m : Nat} {ok oj : Bool} (h : LastAt gs q n ok) (k : LastAt gs q m oj) : n = m ∧ ok = oj := by
  rcases h with ⟨rfl, h1, h2, h3⟩ | ⟨rfl, rfl, h3⟩ <;> rcases k with ⟨rfl, k1, k2, k3⟩ | ⟨rfl, rfl, k3⟩
  · refine ⟨?_, rfl⟩
    rcases Nat.lt_trichotomy n m with h | h | h
    · rw [h3 m h k1] at k2; cases k2
    · exact h
    · rw [k3 n h h1] at h2; cases h2
  · rw [k3 n h1] at h2; cases h2
  · rw [h3 m k1] at k2; cases k2
  · exact ⟨rfl, rfl⟩
theorem lastAt_ex (gs : List Gr) (q : Gr → Bool) : ∃ n ok, LastAt gs q n ok := by
  have key : ∀ m, m ≤ gs.length → (∀ j, m ≤ j → j < gs.length → q (gr gs j) = false) → ∃ n ok, LastAt gs q n ok := by
    intro m
    induction m with
    | zero => exact fun _ h => ⟨0, false, .inr ⟨rfl, rfl, fun j hj => h j (Nat.zero_le _) hj⟩⟩
    | succ m ih =>
      intro hm h
      cases hq : q (gr gs m) with
      | true => exact ⟨m, true, .inl ⟨rfl, by omega, hq, fun j h1 h2 => h j (by omega) h2⟩⟩
      | false =>
        refine ih (by omega) (fun j h1 h2 => ?_)
        by_cases hj : j = m
        · subst hj; exact hq
        · exact h j (by omega) h2
  exact key gs.length (Nat.le_refl _) (fun j h1 h2 => by omega)

theorem last_open_nil (id : Nat)  (w : World) : Calls Try.prog 28 #[.pointer none, .int .u64 (id : Int), .func (.func 37) #[] #[]] w fun e w' => e = .returned (.tuple #[.int .i64 0, .bool false]) ∧ w' = w := by
  go_enter Try.func28, Try.ntmps28
  go_wp2
  go_ret2
  exact ⟨rfl, rfl⟩
set_option maxRecDepth 100000 in
set_option maxHeartbeats 1000000 in
theorem last_open (h : Bk w b base gs v) (id : Nat)  (hlen : gs.length ≤ 1000000) (n : Nat) (ok : Bool) (hL : LastAt gs (fun x => decide (x.r.id = id) && x.open) n ok) : Calls Try.prog 28 #[.pointer (some ⟨b, 0, none⟩), .int .u64 (id : Int), .func (.func 37) #[] #[]] w fun e w' => e = .returned (.tuple #[.int .i64 (n : Int), .bool ok]) ∧ Fr (fun _ => False) w w' := by
  have HB : Hid (Bk w b base gs v) := h
  have HL : Hid (LastAt gs (fun x => decide (x.r.id = id) && x.open) n ok) := hL
  clear hL
  have c0 := h.c0
  obtain ⟨ao, cap, hv, hrow, _⟩ := h.own.row
  subst hv
  have HR : Hid (RowF w ao gs cap) := hrow
  have hl3 := hrow.lens
  clear h hrow
  go_enter Try.func28, Try.ntmps28
  go_wp2
  go_loopw [8] (fun nv wr => ∃ k : Nat, k ≤ gs.length ∧ nv = .int .i64 ((k : Int) - 1) ∧ Fr (fun _ => False) w wr ∧ Hid (∀ j, k ≤ j → j < gs.length → (decide ((gr gs j).r.id = id) && (fun x : Gr => x.open) (gr gs j)) = false)) (fun nv _ => (intOf nv + 1).toNat)
  case atStart => exact ⟨gs.length, Nat.le_refl _, rfl, Fr.refl _ _, fun j h1 h2 => by omega⟩
  case round =>
    obtain ⟨k, hk, rfl, hfr, HN⟩ := hrel
    have HF : Hid (Fr (fun _ => False) w wr) := hfr
    have d0 := hfr.cell c0 (by simp)
    clear hfr
    by_cases hk0 : k = 0
    · subst hk0
      go_wp2
      go_ret2
      obtain ⟨rfl, rfl⟩ := lastAt_uniq HL.out (.inr ⟨rfl, rfl, fun j hj => HN.out j (Nat.zero_le _) hj⟩)
      exact ⟨rfl, HF.out⟩
    · obtain ⟨k, rfl⟩ : ∃ m, k = m + 1 := ⟨k - 1, by omega⟩
      have e1 : ((k + 1 : Nat) : Int) - 1 = (k : Int) := by omega
      rw [e1]
      obtain ⟨g, off, ha, x, HX, x0, x1, x2, x3, x4, x5, x6, x7, x8⟩ := (HR.out.fr HF.out (by simp)).gr k (by omega)
      subst ha
      have j1 : (0 : Int) ≤ (k : Int) := by omega
      have j2 : (k : Int) < (gs.length : Int) := by omega
      clear hk0 e1
      by_cases hid : x.r.id = id
      · have hid' : ((x.r.id : Int) == (id : Int)) = true := by simp [hid]
        have K : Hid (Calls _ _ _ _ _) := open_any x wr
        have HID : Hid (x.r.id = id) := hid
        clear hid
        cases hp : (fun x : Gr => x.open) x with
        | true =>
          have hp' : x.open = true := hp
          rw [hp'] at K
          have HP : Hid ((fun x : Gr => x.open) x = true) := hp
          clear hp hp'
          go_wp2_with fail
          refine K.out.mono ?_
          rintro e w2 ⟨rfl, f2⟩
          go_wp2
          go_ret2
          have hq : (fun x : Gr => decide (x.r.id = id) && x.open) (gr gs k) = true := by
            have hp2 := HP.out
            rw [HX.out] at hp2
            have hi2 := HID.out
            rw [HX.out] at hi2
            simp only [hi2, decide_true, Bool.true_and]
            exact hp2
          obtain ⟨rfl, rfl⟩ := lastAt_uniq HL.out (.inl ⟨rfl, by omega, hq, fun j h1 h2 => HN.out j (by omega) h2⟩)
          exact ⟨rfl, HF.out.trans f2⟩
        | false =>
          have hp' : x.open = false := hp
          rw [hp'] at K
          have HP : Hid ((fun x : Gr => x.open) x = false) := hp
          clear hp hp'
          go_wp2_with fail
          refine K.out.mono ?_
          rintro e w2 ⟨rfl, f2⟩
          go_wp2
          go_roundw
          case rel => exact ⟨k, by omega, by go_num, HF.out.trans f2, fun j h1 h2 => by
            by_cases hj : j = k
            · subst hj
              have hp2 := HP.out
              rw [HX.out] at hp2
              simp only [hp2, Bool.and_false]
            · exact HN.out j (by omega) h2⟩
          case measure => first | (simp [intOf]; done) | (simp [intOf]; omega)
      · have hid' : ((x.r.id : Int) == (id : Int)) = false := by simp; omega
        have HID : Hid (¬ x.r.id = id) := hid
        clear hid
        go_wp2
        go_roundw
        case rel => exact ⟨k, by omega, by go_num, HF.out, fun j h1 h2 => by
          by_cases hj : j = k
          · subst hj
            have hi2 := HID.out
            rw [HX.out] at hi2
            simp only [hi2, decide_false, Bool.false_and]
          · exact HN.out j (by omega) h2⟩
        case measure => first | (simp [intOf]; done) | (simp [intOf]; omega)

theorem last_in_nil (id : Nat) (eb : Nat) (w : World) : Calls Try.prog 28 #[.pointer none, .int .u64 (id : Int), .func (.func 29) #[] #[.pointer (some ⟨eb, 0, none⟩)]] w fun e w' => e = .returned (.tuple #[.int .i64 0, .bool false]) ∧ w' = w := by
  go_enter Try.func28, Try.ntmps28
  go_wp2
  go_ret2
  exact ⟨rfl, rfl⟩
set_option maxRecDepth 100000 in
set_option maxHeartbeats 1000000 in
theorem last_in (h : Bk w b base gs v) (id : Nat) (ep eb : Nat) (he : w.cell? ⟨eb, 0, none⟩ = some (.int .u64 (ep : Int))) (hlen : gs.length ≤ 1000000) (n : Nat) (ok : Bool) (hL : LastAt gs (fun x => decide (x.r.id = id) && x.within ep) n ok) : Calls Try.prog 28 #[.pointer (some ⟨b, 0, none⟩), .int .u64 (id : Int), .func (.func 29) #[] #[.pointer (some ⟨eb, 0, none⟩)]] w fun e w' => e = .returned (.tuple #[.int .i64 (n : Int), .bool ok]) ∧ Fr (fun _ => False) w w' := by
  have HB : Hid (Bk w b base gs v) := h
  have HL : Hid (LastAt gs (fun x => decide (x.r.id = id) && x.within ep) n ok) := hL
  clear hL
  have c0 := h.c0
  obtain ⟨ao, cap, hv, hrow, _⟩ := h.own.row
  subst hv
  have HR : Hid (RowF w ao gs cap) := hrow
  have hl3 := hrow.lens
  clear h hrow
  go_enter Try.func28, Try.ntmps28
  go_wp2
  go_loopw [8] (fun nv wr => ∃ k : Nat, k ≤ gs.length ∧ nv = .int .i64 ((k : Int) - 1) ∧ Fr (fun _ => False) w wr ∧ Hid (∀ j, k ≤ j → j < gs.length → (decide ((gr gs j).r.id = id) && (fun x : Gr => x.within ep) (gr gs j)) = false)) (fun nv _ => (intOf nv + 1).toNat)
  case atStart => exact ⟨gs.length, Nat.le_refl _, rfl, Fr.refl _ _, fun j h1 h2 => by omega⟩
  case round =>
    obtain ⟨k, hk, rfl, hfr, HN⟩ := hrel
    have HF : Hid (Fr (fun _ => False) w wr) := hfr
    have d0 := hfr.cell c0 (by simp)
    clear hfr
    by_cases hk0 : k = 0
    · subst hk0
      go_wp2
      go_ret2
      obtain ⟨rfl, rfl⟩ := lastAt_uniq HL.out (.inr ⟨rfl, rfl, fun j hj => HN.out j (Nat.zero_le _) hj⟩)
      exact ⟨rfl, HF.out⟩
    · obtain ⟨k, rfl⟩ : ∃ m, k = m + 1 := ⟨k - 1, by omega⟩
      have e1 : ((k + 1 : Nat) : Int) - 1 = (k : Int) := by omega
      rw [e1]
      obtain ⟨g, off, ha, x, HX, x0, x1, x2, x3, x4, x5, x6, x7, x8⟩ := (HR.out.fr HF.out (by simp)).gr k (by omega)
      subst ha
      have j1 : (0 : Int) ≤ (k : Int) := by omega
      have j2 : (k : Int) < (gs.length : Int) := by omega
      clear hk0 e1
      by_cases hid : x.r.id = id
      · have hid' : ((x.r.id : Int) == (id : Int)) = true := by simp [hid]
        have K : Hid (Calls _ _ _ _ _) := at1_any x ep eb wr (HF.out.cell he (by simp))
        have HID : Hid (x.r.id = id) := hid
        clear hid
        cases hp : (fun x : Gr => x.within ep) x with
        | true =>
          have hp' : x.within ep = true := hp
          rw [hp'] at K
          have HP : Hid ((fun x : Gr => x.within ep) x = true) := hp
          clear hp hp'
          go_wp2_with fail
          refine K.out.mono ?_
          rintro e w2 ⟨rfl, f2⟩
          go_wp2
          go_ret2
          have hq : (fun x : Gr => decide (x.r.id = id) && x.within ep) (gr gs k) = true := by
            have hp2 := HP.out
            rw [HX.out] at hp2
            have hi2 := HID.out
            rw [HX.out] at hi2
            simp only [hi2, decide_true, Bool.true_and]
            exact hp2
          obtain ⟨rfl, rfl⟩ := lastAt_uniq HL.out (.inl ⟨rfl, by omega, hq, fun j h1 h2 => HN.out j (by omega) h2⟩)
          exact ⟨rfl, HF.out.trans f2⟩
        | false =>
          have hp' : x.within ep = false := hp
          rw [hp'] at K
          have HP : Hid ((fun x : Gr => x.within ep) x = false) := hp
          clear hp hp'
          go_wp2_with fail
          refine K.out.mono ?_
          rintro e w2 ⟨rfl, f2⟩
          go_wp2
          go_roundw
          case rel => exact ⟨k, by omega, by go_num, HF.out.trans f2, fun j h1 h2 => by
            by_cases hj : j = k
            · subst hj
              have hp2 := HP.out
              rw [HX.out] at hp2
              simp only [hp2, Bool.and_false]
            · exact HN.out j (by omega) h2⟩
          case measure => first | (simp [intOf]; done) | (simp [intOf]; omega)
      · have hid' : ((x.r.id : Int) == (id : Int)) = false := by simp; omega
        have HID : Hid (¬ x.r.id = id) := hid
        clear hid
        go_wp2
        go_roundw
        case rel => exact ⟨k, by omega, by go_num, HF.out, fun j h1 h2 => by
          by_cases hj : j = k
          · subst hj
            have hi2 := HID.out
            rw [HX.out] at hi2
            simp only [hi2, decide_false, Bool.false_and]
          · exact HN.out j (by omega) h2⟩
        case measure => first | (simp [intOf]; done) | (simp [intOf]; omega)
end
end Go.Proofs.Ytlneneacbjkheaa
