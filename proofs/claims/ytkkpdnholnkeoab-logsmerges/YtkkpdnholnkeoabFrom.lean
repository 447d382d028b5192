/- Voters, VotersAt; From of one entry, Entry. -/
import Derived.Test.YtkkpdnholnkeoabTold
import Derived.Test.YtkkpdnholnkeoabNew
namespace Go.Proofs.Ytkkpdnholnkeoab
open Go.RowKit

theorem ERow.drop {w : World} {R D : Nat → Prop} {b off : Nat} {es : List En} {cap : Nat} (h : ERow w R D (some ⟨b, off, none⟩) es cap) (k : Nat) (hk : k ≤ es.length) : ERow w R D (some ⟨b, off + k * 4, none⟩) (es.drop k) (cap - k) := by
  obtain ⟨h1, h2, _, h4, h5⟩ := h
  refine ⟨by simp; omega, by omega, fun h => (by cases h), fun x hx => h4 x (List.mem_of_mem_drop hx), fun hne => ?_⟩
  have hlt : k < es.length := by
    by_cases e : k < es.length
    · exact e
    · exact absurd (List.drop_eq_nil_of_le (by omega)) hne
  obtain ⟨b', off', he, hb, hc⟩ := h5 (fun e => by rw [e] at hlt; simp at hlt)
  cases he
  refine ⟨b, off + k * 4, rfl, hb, fun i hi f hf => ?_⟩
  simp at hi
  have := hc (k + i) (by omega) f hf
  rw [show off + k * 4 + (i * 4 + f) = off + ((k + i) * 4 + f) by omega, this]
  simp [List.getD_eq_getElem?_getD, List.getElem?_drop]
theorem ERow.take {w : World} {R D : Nat → Prop} {ao : Option Addr} {es : List En} {cap : Nat} (h : ERow w R D ao es cap) (k : Nat) (hk : k ≤ es.length) : ERow w R D ao (es.take k) cap := by
  obtain ⟨h1, h2, h3, h4, h5⟩ := h
  refine ⟨by simp; omega, h2, h3, fun x hx => h4 x (List.mem_of_mem_take hx), fun hne => ?_⟩
  obtain ⟨b', off', he, hb, hc⟩ := h5 (fun e => by rw [e] at hne; simp at hne)
  refine ⟨b', off', he, hb, fun i hi f hf => ?_⟩
  have hi2 : i < es.length := by simp at hi; omega
  have := hc i hi2 f hf
  rw [this]
  simp at hi
  simp [List.getD_eq_getElem?_getD, hi2, show i < k by omega]
section
variable {w w1 : World} {gb : Nat} {D : Nat → Prop} {base term voters : Nat} {es : List En} {v : Value}
set_option maxHeartbeats 400000 in
theorem voters_any (h : Lg w gb D base term voters es v) (hb : base + es.length < 18446744073709551616) :
    Calls Try.prog 27 #[.pointer (some ⟨gb, 0, none⟩)] w fun e w' => e = .returned (.tuple #[.int .u64 ((vtold base voters es (base + es.length)).1 : Int), .int .u64 ((vtold base voters es (base + es.length)).2 : Int)]) ∧ Fr (fun _ => False) w w' := by
  have K : Hid (Calls _ _ _ _ _) := last_any h hb
  have K2 : Hid (∀ n, Calls Try.prog 38 #[.pointer (some ⟨gb, 0, none⟩), .int .u64 ((base + es.length : Nat) : Int)] (w.drewN n) fun e w' => e = .returned (.tuple #[.int .u64 ((vtold base voters es (base + es.length)).1 : Int), .int .u64 ((vtold base voters es (base + es.length)).2 : Int)]) ∧ Fr (fun _ => False) (w.drewN n) w') := fun n => told_any (h.drewN n) (base + es.length)
  obtain ⟨z, Hz⟩ : ∃ z, Hid (base + es.length = z) := ⟨_, rfl⟩
  rw [Hz.out] at K K2 ⊢
  obtain ⟨p1, p2, Hp⟩ : ∃ p1 p2, Hid (vtold base voters es z = (p1, p2)) := ⟨_, _, rfl⟩
  rw [Hp.out] at K2 ⊢
  clear h hb
  go_enter Try.func27, Try.ntmps27
  go_wp2_with fail
  refine K.out.mono ?_
  rintro e w1 ⟨rfl, n, rfl⟩
  go_wp2_with fail
  refine (K2.out n).mono ?_
  rintro e w2 ⟨rfl, f2⟩
  go_wp2
  go_ret2
  exact ⟨rfl, ((Fr.refl _ w).drewN n).trans f2⟩
set_option maxHeartbeats 400000 in
theorem votersAt_any (h : Lg w gb D base term voters es v) (i : Nat) :
    Calls Try.prog 32 #[.pointer (some ⟨gb, 0, none⟩), .int .u64 (i : Int)] w fun e w' => e = .returned (.int .u64 ((vtold base voters es i).1 : Int)) ∧ Fr (fun _ => False) w w' := by
  have K : Hid (Calls _ _ _ _ _) := told_any h i
  clear h
  obtain ⟨p1, p2, Hp⟩ : ∃ p1 p2, Hid (vtold base voters es i = (p1, p2)) := ⟨_, _, rfl⟩
  rw [Hp.out] at K ⊢
  go_enter Try.func32, Try.ntmps32
  go_wp2_with fail
  refine K.out.mono ?_
  rintro e w1 ⟨rfl, f1⟩
  go_wp2
  go_ret
  exact ⟨rfl, f1⟩
set_option maxHeartbeats 400000 in
theorem from_no (h : Lg w gb D base term voters es v) (hb : base + es.length < 18446744073709551616) (i : Nat) (hi : i ≤ base ∨ base + es.length < i) (m : Int) :
    Calls Try.prog 40 #[.pointer (some ⟨gb, 0, none⟩), .int .u64 (i : Int), .int .i64 m] w fun e w' => e = .returned (.slice none 0 0) ∧ ∃ n, w' = w.drewN n := by
  have K : Calls Try.prog 39 #[.pointer (some ⟨gb, 0, none⟩), .int .u64 (i : Int)] w fun e w' => e = .returned (.tuple #[.int .i64 0, .bool false]) ∧ ∃ n, w' = w.drewN n := by
    rcases hi with hi | hi
    · exact place_low h i (by omega)
    · exact place_high h hb i hi
  have HK : Hid (Calls _ _ _ _ _) := K
  clear K h hi hb
  go_enter Try.func40, Try.ntmps40
  go_wp2_with fail
  refine HK.out.mono ?_
  rintro e w1 ⟨rfl, n, rfl⟩
  go_wp2
  go_ret
  exact ⟨rfl, n, rfl⟩
set_option maxHeartbeats 800000 in
theorem from_one (h : Lg w gb D base term voters es v) (hb : base + es.length < 18446744073709551616) (m : Nat) (hm : m < es.length) (i : Nat) (hi : i = base + 1 + m) (hd : ∀ x ∈ es, x.d.length ≤ 1000000) :
    Calls Try.prog 40 #[.pointer (some ⟨gb, 0, none⟩), .int .u64 (i : Int), .int .i64 1] w fun e w' => ∃ a y c, e = .returned (.slice (some a) 1 c) ∧ ERow w' (fun k => w.heap.size ≤ k) (fun k => w.heap.size ≤ k) (some a) [y] c ∧ y.p = (es.getD m default).p ∧ Fr (fun _ => False) w w' := by
  have K : Hid (Calls _ _ _ _ _) := place_in h hb m hm i hi
  obtain ⟨ao, cap, rfl, hr, _⟩ := h.own.row
  have hrl := hr.len
  have c3 := h.c3
  obtain ⟨b, off, x, rfl, _, _⟩ := hr.at hm
  have hsub := (hr.drop m (by omega)).take 1 (by simp; omega)
  have hx1 : (es.drop m).take 1 = [es.getD m default] := by
    rw [show es.getD m default = es[m] by simp [List.getD_eq_getElem?_getD, hm], List.drop_eq_getElem_cons hm]; rfl
  rw [hx1] at hsub
  have hDl : ∀ k, (D k ∧ (Value.slice (some ⟨b, off, none⟩) es.length cap).ownBlock ≠ some k) → True := fun _ _ => trivial
  have hsub2 : ∀ n, ERow (w.drewN n) (fun k => k < w.heap.size) (fun k => k < w.heap.size) (some ⟨b, off + m * 4, none⟩) [es.getD m default] (cap - m) := fun n => by
    have hs := hsub.fr ((Fr.refl (fun _ => False) w).drewN n) (by simp) (by simp)
    refine ⟨hs.1, hs.2.1, hs.2.2.1, fun x hx => (hs.2.2.2.1 x hx).mono (fun k hk _ => hk), fun hne => ?_⟩
    obtain ⟨b', off', he, hb', hc⟩ := hs.2.2.2.2 hne
    exact ⟨b', off', he, h.own.lt b' hb', hc⟩
  have hdx := hd _ (getD_mem hm)
  have KC : Hid (∀ n, Calls Try.prog 26 #[.slice (some ⟨b, off + m * 4, none⟩) 1 (cap - m)] (w.drewN n) fun e w' => ∃ v ys, e = .returned v ∧ OwnE w' (fun k => (w.drewN n).heap.size ≤ k) v ys ∧ ys.map En.p = [es.getD m default].map En.p ∧ Fr (fun _ => False) (w.drewN n) w') := fun n =>
    copies_any (some ⟨b, off + m * 4, none⟩) [es.getD m default] (cap - m) (w.drewN n) _ _ (hsub2 n) (fun k hk => hk) (by simp) (by simpa using hdx)
  have y3 : ∀ n, (w.drewN n).cell? ⟨gb, 3, none⟩ = some (.slice (some ⟨b, off, none⟩) es.length cap) := fun n => c3
  have m1 : (0 : Int) ≤ (m : Int) := by omega
  have m2 : (m : Int) < (es.length : Int) := by omega
  have m3 : (m : Int) ≤ (es.length : Int) := by omega
  have m4 : (es.length : Int) ≤ (cap : Int) := by omega
  have m5 : (m : Int) ≤ (cap : Int) := by omega
  obtain ⟨q, eq, Hq⟩ : ∃ q : Nat, (es.length : Int) - (m : Int) = (q : Int) ∧ Hid (q = es.length - m) := ⟨es.length - m, by omega, rfl⟩
  obtain ⟨x, Hx⟩ : ∃ x, Hid (es.getD m default = x) := ⟨_, rfl⟩
  rw [Hx.out] at KC ⊢
  clear h hr hb hi hsub hsub2 hx1 hd hdx hDl
  go_enter Try.func40, Try.ntmps40
  go_wp2_with fail
  refine K.out.mono ?_
  rintro e w1 ⟨rfl, n, rfl⟩
  have z3 := y3 n
  clear y3
  go_wp2_with fail
  refine (KC.out n).mono ?_
  rintro e w2 ⟨v2, ys, rfl, ho, hyp, f2⟩
  obtain ⟨y, rfl⟩ : ∃ y, ys = [y] := by
    match ys, hyp with
    | [y], _ => exact ⟨y, rfl⟩
    | [], h => simp at h
    | _ :: _ :: _, h => simp at h
  obtain ⟨a2, c2, hv2, hr2, hb2⟩ := ho.row
  subst hv2
  obtain ⟨b2, off2, he2, hbb, _⟩ := hr2.2.2.2.2 (by simp)
  subst he2
  have HR : Hid (ERow w2 (fun k => w.heap.size ≤ k) (fun k => w.heap.size ≤ k) (some ⟨b2, off2, none⟩) [y] c2) := by
    refine ⟨hr2.1, hr2.2.1, hr2.2.2.1, fun z hz => (hr2.2.2.2.1 z hz).mono (fun k _ hk => hk.1), fun hne => ?_⟩
    obtain ⟨b', off', he, hb', hc⟩ := hr2.2.2.2.2 hne
    exact ⟨b', off', he, ho.blk b' hb', hc⟩
  have HY : Hid (y.p = x.p) := by show y.p = x.p; simpa using hyp
  clear ho hr2 hb2 hyp
  go_wp2
  go_ret
  exact ⟨⟨b2, off2, none⟩, y, c2, rfl, HR.out, HY.out, ((Fr.refl _ w).drewN n).trans f2⟩
set_option maxHeartbeats 400000 in
theorem entry_no (h : Lg w gb D base term voters es v) (hb : base + es.length < 18446744073709551616) (i : Nat) (hi : i ≤ base ∨ base + es.length < i) :
    Calls Try.prog 30 #[.pointer (some ⟨gb, 0, none⟩), .int .u64 (i : Int)] w fun e w' => e = .returned (.tuple #[.agg #[.int .u64 0, .int .u64 0, .int .u8 0, .slice none 0 0], .bool false]) ∧ Fr (fun _ => False) w w' := by
  obtain ⟨W, HW⟩ : ∃ W, Hid (W = w.alloc (.cells #[.int .u64 0, .int .u64 0, .int .u8 0, .slice none 0 0] 36)) := ⟨_, rfl⟩
  have f0 : Fr (fun _ => False) w W := by rw [HW.out]; exact (Fr.refl _ w).alloc _
  have K : Hid (Calls _ _ _ _ _) := from_no (h.fr f0 (by simp) (by simp)) hb i hi 1
  obtain ⟨rb, Hrb⟩ : ∃ rb, Hid (w.heap.size = rb) := ⟨_, rfl⟩
  have BW : Hid (Box4 W rb 0 0 0 (.slice none 0 0)) := by show Box4 _ _ _ _ _ _; rw [HW.out, ← Hrb.out]; constructor <;> simp
  have HF0 : Hid (Fr (fun _ => False) w W) := f0
  clear h hi hb f0
  go_enter Try.func30, Try.ntmps30
  go_wp2_with fail
  rw [← HW.out]
  refine K.out.mono ?_
  rintro e w1 ⟨rfl, n, rfl⟩
  rw [Hrb.out]
  have f1 := (Fr.refl (fun _ => False) W).drewN n
  have B1 := BW.out.fr f1 (by simp)
  have HF1 : Hid (Fr (fun _ => False) w (W.drewN n)) := HF0.out.trans f1
  obtain ⟨W1, HW1⟩ : ∃ W1, Hid (W1 = W.drewN n) := ⟨_, rfl⟩
  rw [← HW1.out] at B1 HF1 ⊢
  obtain ⟨c0, c1, c2, c3, z0, z1, z2, z3⟩ := B1
  clear f1
  go_wp2
  have hfin := (((HF1.out.setCell (p := ⟨rb, 0, none⟩) (Or.inr (by show _ ≤ rb; rw [Hrb.out]; exact Nat.le_refl _)) (.int .u64 0)).setCell (p := ⟨rb, 1, none⟩) (Or.inr (by show _ ≤ rb; rw [Hrb.out]; exact Nat.le_refl _)) (.int .u64 0)).setCell (p := ⟨rb, 2, none⟩) (Or.inr (by show _ ≤ rb; rw [Hrb.out]; exact Nat.le_refl _)) (.int .u8 0)).setCell (p := ⟨rb, 3, none⟩) (Or.inr (by show _ ≤ rb; rw [Hrb.out]; exact Nat.le_refl _)) (.slice none 0 0)
  have BS := Box4.set ⟨c0, c1, c2, c3, z0, z1, z2, z3⟩ 0 0 0 (.slice none 0 0)
  obtain ⟨d0, d1, d2, d3, _⟩ := BS
  simp only [Int.cast_ofNat_Int] at d0 d1 d2 d3
  exact bodyPost_ret (v := .tuple #[.agg #[.int .u64 0, .int .u64 0, .int .u8 0, .slice none 0 0], .bool false]) (by simp [results, Try.results30, go_sem, d0, d1, d2, d3]) rfl ⟨rfl, hfin⟩
set_option maxHeartbeats 800000 in
theorem entry_in (h : Lg w gb D base term voters es v) (hb : base + es.length < 18446744073709551616) (m : Nat) (hm : m < es.length) (i : Nat) (hi : i = base + 1 + m) (hd : ∀ x ∈ es, x.d.length ≤ 1000000) :
    Calls Try.prog 30 #[.pointer (some ⟨gb, 0, none⟩), .int .u64 (i : Int)] w fun e w' => ∃ y : En, e = .returned (.tuple #[.agg #[.int .u64 (y.i : Int), .int .u64 (y.t : Int), .int .u8 (y.k : Int), .slice y.a y.d.length y.c], .bool true]) ∧ EG w' (fun k => w.heap.size ≤ k) y ∧ y.p = (es.getD m default).p ∧ Fr (fun _ => False) w w' := by
  obtain ⟨W, HW⟩ : ∃ W, Hid (W = w.alloc (.cells #[.int .u64 0, .int .u64 0, .int .u8 0, .slice none 0 0] 36)) := ⟨_, rfl⟩
  have f0 : Fr (fun _ => False) w W := by rw [HW.out]; exact (Fr.refl _ w).alloc _
  have K : Hid (Calls _ _ _ _ _) := from_one (h.fr f0 (by simp) (by simp)) hb m hm i hi hd
  obtain ⟨x, Hx⟩ : ∃ x, Hid (es.getD m default = x) := ⟨_, rfl⟩
  rw [Hx.out] at K ⊢
  obtain ⟨rb, Hrb⟩ : ∃ rb, Hid (w.heap.size = rb) := ⟨_, rfl⟩
  have BW : Hid (Box4 W rb 0 0 0 (.slice none 0 0)) := by show Box4 _ _ _ _ _ _; rw [HW.out, ← Hrb.out]; constructor <;> simp
  have hsz : Hid (rb < W.heap.size) := by show rb < _; rw [HW.out, ← Hrb.out]; simp
  have HF0 : Hid (Fr (fun _ => False) w W) := f0
  clear h hi hb hd f0
  go_enter Try.func30, Try.ntmps30
  go_wp2_with fail
  rw [← HW.out]
  refine K.out.mono ?_
  rintro e w1 ⟨a, y, c, rfl, hr, hy, f1⟩
  obtain ⟨b, off, z, he, hb, z0, z1, z2, z3, hg, Hz⟩ := hr.at (k := 0) (by simp)
  have hzy : z = y := by rw [Hz.out]; rfl
  subst hzy
  cases he
  simp only [Nat.zero_mul, Nat.add_zero] at z0 z1 z2 z3
  rw [Hrb.out]
  have B1 := BW.out.fr f1 (by simp)
  have HB1 : Hid (Box4 w1 rb 0 0 0 (.slice none 0 0)) := B1
  obtain ⟨c0, c1, c2, c3, v0, v1, v2, v3⟩ := B1
  have hne : ¬ rb = b := by have := hsz.out; have : W.heap.size ≤ b := hb; omega
  have hne2 : ¬ b = rb := by omega
  have HF1 : Hid (Fr (fun _ => False) w w1) := HF0.out.trans f1
  have HG : Hid (EG w1 (fun k => W.heap.size ≤ k) z) := hg
  have HY : Hid (z.p = x.p) := hy
  clear hr hg hy f1 hb K
  go_wp2
  have hfin := (((HF1.out.setCell (p := ⟨rb, 0, none⟩) (Or.inr (by show _ ≤ rb; rw [Hrb.out]; exact Nat.le_refl _)) (.int .u64 (z.i : Int))).setCell (p := ⟨rb, 1, none⟩) (Or.inr (by show _ ≤ rb; rw [Hrb.out]; exact Nat.le_refl _)) (.int .u64 (z.t : Int))).setCell (p := ⟨rb, 2, none⟩) (Or.inr (by show _ ≤ rb; rw [Hrb.out]; exact Nat.le_refl _)) (.int .u8 (z.k : Int))).setCell (p := ⟨rb, 3, none⟩) (Or.inr (by show _ ≤ rb; rw [Hrb.out]; exact Nat.le_refl _)) (.slice z.a z.d.length z.c)
  have fs := (((((Fr.refl (fun k => k = rb) w1).setCell (p := ⟨rb, 0, none⟩) (Or.inl rfl) (.int .u64 (z.i : Int))).setCell (p := ⟨rb, 1, none⟩) (Or.inl rfl) (.int .u64 (z.t : Int))).setCell (p := ⟨rb, 2, none⟩) (Or.inl rfl) (.int .u8 (z.k : Int))).setCell (p := ⟨rb, 3, none⟩) (Or.inl rfl) (.slice z.a z.d.length z.c))
  have BS := Box4.set HB1.out z.i z.t z.k (.slice z.a z.d.length z.c)
  have hg2 := (HG.out.fr fs (fun k hk e => by have := hsz.out; omega)).mono (E := fun k => w.heap.size ≤ k) (fun k _ hk => by have := hsz.out; have := Hrb.out; omega)
  obtain ⟨d0, d1, d2, d3, _⟩ := BS
  exact bodyPost_ret (v := .tuple #[.agg #[.int .u64 (z.i : Int), .int .u64 (z.t : Int), .int .u8 (z.k : Int), .slice z.a z.d.length z.c], .bool true]) (by simp [results, Try.results30, go_sem, d0, d1, d2, d3]) rfl ⟨z, rfl, hg2, HY.out, hfin⟩
end
end Go.Proofs.Ytkkpdnholnkeoab
