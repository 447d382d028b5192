/- The program's Bytes: the records of what is to be kept. -/
import Derived.Test.YtlcakglmheleeaaDoorEnt
namespace Go.Proofs.YtlcakglmheleeaaDoor
open Go.RowKit

theorem hardB_length (t : Nat) (v : Int) : (hardB t v).length = 19 := by unfold hardB; rw [recB_length, bodyH_length]
theorem entB_length (e : Pe) : (entB e).length = e.2.2.2.length + 30 := by unfold entB; rw [recB_length, bodyE_length]; omega
theorem snapB_length (e : Nat × Nat × Nat × List Nat) : (snapB e).length = e.2.2.2.length + 37 := by unfold snapB; rw [recB_length, bodyS_length]; omega
theorem hardR_step (t n : Nat) (vo : Int) (w : World) (ht : Tab w) (ht64 : t < 18446744073709551616) (hn : vo + 1 = (n : Int)) (hn2 : n < 65536) :
    Calls Tryd.prog 38 #[.agg #[.int .u64 (t : Int), .int .i64 vo]] w fun e w' => ∃ a1 q, e = .returned (.slice a1 (q : List Nat).length q.length) ∧ Fresh w w' a1 q ∧ Hid (q = hardB t vo) ∧ Fr (fun _ => False) w w' := by
  refine (hardR_any t n vo w ht ht64 hn hn2).mono ?_
  rintro e w' ⟨a1, rfl, h, f⟩
  exact ⟨a1, _, by rw [hardB_length], h, rfl, f⟩
theorem entR_step (x : En) (w : World) (ht : Tab w) (hr : Row w x.a x.d x.c) (hi64 : x.i < 18446744073709551616) (ht64 : x.t < 18446744073709551616) (hk8 : x.k < 256) (hd : x.d.length ≤ 2000000000) :
    Calls Tryd.prog 39 #[.agg #[.int .u64 (x.i : Int), .int .u64 (x.t : Int), .int .u8 (x.k : Int), .slice x.a x.d.length x.c]] w fun e w' => ∃ a1 q, e = .returned (.slice a1 (q : List Nat).length q.length) ∧ Fresh w w' a1 q ∧ Hid (q = entB x.p) ∧ Fr (fun _ => False) w w' := by
  refine (entR_any x.i x.t x.k x.a x.d x.c w ht hr hi64 ht64 hk8 hd).mono ?_
  rintro e w' ⟨a1, rfl, h, f⟩
  exact ⟨a1, _, by rw [entB_length], h, rfl, f⟩
theorem snapR_step (i t k : Nat) (ao : Option Addr) (d : List Nat) (cap : Nat) (w : World) (ht : Tab w) (hr : Row w ao d cap) (hi64 : i < 18446744073709551616) (ht64 : t < 18446744073709551616) (hk64 : k < 18446744073709551616) (hd : d.length ≤ 2000000000) :
    Calls Tryd.prog 40 #[.agg #[.int .u64 (i : Int), .int .u64 (t : Int), .int .u64 (k : Int), .slice ao d.length cap]] w fun e w' => ∃ a1 q, e = .returned (.slice a1 (q : List Nat).length q.length) ∧ Fresh w w' a1 q ∧ Hid (q = snapB (i, t, k, d)) ∧ Fr (fun _ => False) w w' := by
  refine (snapR_any i t k ao d cap w ht hr hi64 ht64 hk64 hd).mono ?_
  rintro e w' ⟨a1, rfl, h, f⟩
  exact ⟨a1, _, by rw [snapB_length], h, rfl, f⟩

def recsE (es : List Pe) : List Nat := es.flatMap entB
theorem recsE_append (a b : List Pe) : recsE (a ++ b) = recsE a ++ recsE b := List.flatMap_append
theorem recsE_succ (es : List En) (k : Nat) (h : k < es.length) : recsE ((es.take (k + 1)).map En.p) = recsE ((es.take k).map En.p) ++ entB (es.getD k default).p := by
  rw [List.take_succ_eq_append_getElem h, List.map_append, recsE_append]
  simp [recsE, List.getD_eq_getElem?_getD, h]
/-- what Save comes to. -/
def saveB (h : Bool) (t : Nat) (vo : Int) (es : List Pe) : List Nat := (if h then hardB t vo else []) ++ recsE es
set_option maxRecDepth 100000 in
set_option maxHeartbeats 1600000 in
theorem bytes_any (h : Bool) (t n : Nat) (vo : Int) (ea : Option Addr) (es : List En) (c : Nat) (w : World) (R D : Nat → Prop) (hr : ERow w R D ea es c) (ht : Tab w) (ht64 : t < 18446744073709551616) (hn : vo + 1 = (n : Int)) (hn2 : n < 65536)
    (hlen : es.length ≤ 100000) (hd : ∀ x ∈ es, x.d.length ≤ 1000000) :
    Calls Tryd.prog 17 #[.agg #[.bool h, .int .u64 (t : Int), .int .i64 vo, .slice ea es.length c]] w fun e w' => ∃ v, e = .returned v ∧ Lays w' w.heap.size v (saveB h t vo (es.map En.p)) ∧ Fr (fun _ => False) w w' := by
  obtain ⟨W, HW⟩ : ∃ W, Hid (W = w.alloc (.cells #[.bool h, .int .u64 (t : Int), .int .i64 vo, .slice ea es.length c] 54)) := ⟨_, rfl⟩
  have F0 : Hid (Fr (fun _ => False) w W) := by show Fr _ _ _; rw [HW.out]; exact (Fr.refl _ _).alloc _
  have HX2 : Hid (W.cell? ⟨w.heap.size, 3, none⟩ = some (.slice ea es.length c)) := by show _ = _; rw [HW.out]; simp
  have HR : Hid (ERow w R D ea es c) := hr
  have HT : Hid (Tab w) := ht
  have HD : Hid (∀ x ∈ es, x.d.length ≤ 1000000) := hd
  have hl := hr.len
  clear hr ht hd
  cases h with
  | true =>
    have K : Hid (Calls _ _ _ _ _) := hardR_step t n vo W (F0.out.tab HT.out (by simp)) ht64 hn hn2
    go_enter Tryd.func17, Tryd.ntmps17
    go_wp2_with fail
    rw [← HW.out]
    refine K.out.mono ?_
    rintro e w1 ⟨a1, q, rfl, h1, E1, f1⟩
    have F1 : Hid (Fr (fun _ => False) w w1) := F0.out.trans f1
    have hx := f1.cell HX2.out (by simp)
    have L1 : Hid (Lays w1 w.heap.size (.slice a1 q.length q.length) q) := h1.lays.rebase F0.out.size
    have HQL : Hid (q.length ≤ 19 ∧ True) := by refine ⟨?_, trivial⟩; rw [E1.out, hardB_length]; omega
    clear h1 f1 K
    go_wp2
    go_loopw [3, 14] (fun pv iv wr => ∃ (k : Nat) (v : Value) (l : List Nat), k ≤ es.length ∧ iv = .int .i64 (k : Int) ∧ pv = v ∧ Lays wr w.heap.size v l ∧ Hid (l = q ++ recsE ((es.take k).map En.p)) ∧ Hid (l.length ≤ 19 + k * 1000030) ∧ Hid (Fr (fun _ => False) w wr)) (fun _ iv _ => es.length - (intOf iv).toNat)
    case atStart => exact ⟨0, _, q, Nat.zero_le _, rfl, rfl, L1.out, by show _ = _; simp [recsE], by show _ ≤ _; have := HQL.out.1; omega, F1.out⟩
    case round =>
      obtain ⟨k, v, l, hk, rfl, rfl, hv, HLL, HLN, HF⟩ := hrel
      obtain ⟨av, cv, hvv, hrv, _⟩ := hv.row
      subst hvv
      have HV : Hid (Lays wr w.heap.size (.slice av l.length cv) l) := hv
      clear hv hrv
      by_cases hlt : k < es.length
      · obtain ⟨b, off, x, rfl, _, c0, c1, c2, c3, gx, Hx⟩ := (HR.out.fr HF.out (by simp) (by simp)).at hlt
        have hxd : x.d.length ≤ 1000000 := HD.out x (by rw [Hx.out, List.getD_eq_getElem?_getD, List.getElem?_eq_getElem hlt]; exact List.getElem_mem _)
        have i1 : (0 : Int) ≤ (k : Int) := by omega
        have i2 : (k : Int) < (es.length : Int) := by omega
        have HFB : Hid (Fr (fun _ => False) wr (wr.alloc (.cells #[.int .u64 (x.i : Int), .int .u64 (x.t : Int), .int .u8 (x.k : Int), .slice x.a x.d.length x.c] 50))) := (Fr.refl _ _).alloc _
        have K : Hid (Calls _ _ _ _ _) := entR_step x (wr.alloc (.cells #[.int .u64 (x.i : Int), .int .u64 (x.t : Int), .int .u8 (x.k : Int), .slice x.a x.d.length x.c] 50)) ((HF.out.trans HFB.out).tab HT.out (by simp)) (HFB.out.row gx.row (by simp)) gx.i gx.t gx.k (by omega)
        clear gx
        go_wp2_with fail
        refine K.out.mono ?_
        rintro e w2 ⟨a2, q2, rfl, h2, E2, f2⟩
        have F2 : Hid (Fr (fun _ => False) w w2) := HF.out.trans (HFB.out.trans f2)
        have HV2 : Hid (Lays w2 w.heap.size (.slice av l.length cv) l) := HV.out.fr (HFB.out.trans f2) (by simp)
        have HR2 : Hid (Row w2 a2 q2 q2.length) := h2.1
        have HQ2 : Hid (q2.length = x.d.length + 30) := by show _ = _; rw [E2.out, entB_length]; rfl
        have HNE : Hid (q2 ≠ []) := by intro e; have := HQ2.out; rw [e] at this; simp at this
        have HNL : Hid (l.length + q2.length ≤ 70368744177664) := by show _ ≤ _; rw [HQ2.out]; have := HLN.out; omega
        have hsz : w.heap.size ≤ w2.heap.size := F2.out.size
        clear h2 f2 K
        go_wp2_with (at_builtin; refine wpList_append_lays rfl (.tmp 18) (.tmp 20) rfl w.heap.size _ l rfl HV2.out a2 q2 q2.length rfl HR2.out HNE.out HNL.out hsz ?_)
        intro v3 w3 o3 g3 _
        have F3 : Hid (Fr (fun _ => False) w w3) := F2.out.grown g3 (fun i hi => .inr (HV2.out.lt i hi).1)
        obtain ⟨l3, Hl3⟩ : ∃ l3, Hid (l ++ q2 = l3) := ⟨_, rfl⟩
        rw [Hl3.out] at o3
        have O3 : Hid (Own w3 w.heap.size v3 l3) := o3
        obtain ⟨a3, c3', hv3, _, _⟩ := o3.row
        subst hv3
        clear o3 g3
        go_wp2
        go_roundw
        case rel => exact ⟨k + 1, _, l3, by omega, by go_num, rfl, .inl O3.out, by show _ = _; rw [← Hl3.out, recsE_succ es k hlt, HLL.out, E2.out, Hx.out]; simp [List.append_assoc], by show _ ≤ _; rw [← Hl3.out, List.length_append, HQ2.out]; have := HLN.out; omega, F3.out⟩
        case measure => simp [intOf]; omega
      · have i2 : ¬ (k : Int) < (es.length : Int) := by omega
        have HEQ : Hid (l = q ++ recsE (es.map En.p)) := by show _ = _; rw [HLL.out, List.take_of_length_le (by omega)]
        go_wp2
        go_ret
        exact ⟨_, rfl, by rw [show saveB true t vo (es.map En.p) = l by rw [HEQ.out]; simp [saveB, E1.out]]; exact HV.out, HF.out⟩
  | false =>
    have hx := HX2.out
    have L1 : Hid (Lays W w.heap.size (.slice none 0 0) []) := Lays.nil _ _
    go_enter Tryd.func17, Tryd.ntmps17
    go_wp2
    rw [← HW.out]
    go_loopw [3, 14] (fun pv iv wr => ∃ (k : Nat) (v : Value) (l : List Nat), k ≤ es.length ∧ iv = .int .i64 (k : Int) ∧ pv = v ∧ Lays wr w.heap.size v l ∧ Hid (l = [] ++ recsE ((es.take k).map En.p)) ∧ Hid (l.length ≤ 19 + k * 1000030) ∧ Hid (Fr (fun _ => False) w wr)) (fun _ iv _ => es.length - (intOf iv).toNat)
    case atStart => exact ⟨0, _, [], Nat.zero_le _, rfl, rfl, L1.out, by show _ = _; simp [recsE], by show _ ≤ _; simp, F0.out⟩
    case round =>
      obtain ⟨k, v, l, hk, rfl, rfl, hv, HLL, HLN, HF⟩ := hrel
      obtain ⟨av, cv, hvv, hrv, _⟩ := hv.row
      subst hvv
      have HV : Hid (Lays wr w.heap.size (.slice av l.length cv) l) := hv
      clear hv hrv
      by_cases hlt : k < es.length
      · obtain ⟨b, off, x, rfl, _, c0, c1, c2, c3, gx, Hx⟩ := (HR.out.fr HF.out (by simp) (by simp)).at hlt
        have hxd : x.d.length ≤ 1000000 := HD.out x (by rw [Hx.out, List.getD_eq_getElem?_getD, List.getElem?_eq_getElem hlt]; exact List.getElem_mem _)
        have i1 : (0 : Int) ≤ (k : Int) := by omega
        have i2 : (k : Int) < (es.length : Int) := by omega
        have HFB : Hid (Fr (fun _ => False) wr (wr.alloc (.cells #[.int .u64 (x.i : Int), .int .u64 (x.t : Int), .int .u8 (x.k : Int), .slice x.a x.d.length x.c] 50))) := (Fr.refl _ _).alloc _
        have K : Hid (Calls _ _ _ _ _) := entR_step x (wr.alloc (.cells #[.int .u64 (x.i : Int), .int .u64 (x.t : Int), .int .u8 (x.k : Int), .slice x.a x.d.length x.c] 50)) ((HF.out.trans HFB.out).tab HT.out (by simp)) (HFB.out.row gx.row (by simp)) gx.i gx.t gx.k (by omega)
        clear gx
        go_wp2_with fail
        refine K.out.mono ?_
        rintro e w2 ⟨a2, q2, rfl, h2, E2, f2⟩
        have F2 : Hid (Fr (fun _ => False) w w2) := HF.out.trans (HFB.out.trans f2)
        have HV2 : Hid (Lays w2 w.heap.size (.slice av l.length cv) l) := HV.out.fr (HFB.out.trans f2) (by simp)
        have HR2 : Hid (Row w2 a2 q2 q2.length) := h2.1
        have HQ2 : Hid (q2.length = x.d.length + 30) := by show _ = _; rw [E2.out, entB_length]; rfl
        have HNE : Hid (q2 ≠ []) := by intro e; have := HQ2.out; rw [e] at this; simp at this
        have HNL : Hid (l.length + q2.length ≤ 70368744177664) := by show _ ≤ _; rw [HQ2.out]; have := HLN.out; omega
        have hsz : w.heap.size ≤ w2.heap.size := F2.out.size
        clear h2 f2 K
        go_wp2_with (at_builtin; refine wpList_append_lays rfl (.tmp 18) (.tmp 20) rfl w.heap.size _ l rfl HV2.out a2 q2 q2.length rfl HR2.out HNE.out HNL.out hsz ?_)
        intro v3 w3 o3 g3 _
        have F3 : Hid (Fr (fun _ => False) w w3) := F2.out.grown g3 (fun i hi => .inr (HV2.out.lt i hi).1)
        obtain ⟨l3, Hl3⟩ : ∃ l3, Hid (l ++ q2 = l3) := ⟨_, rfl⟩
        rw [Hl3.out] at o3
        have O3 : Hid (Own w3 w.heap.size v3 l3) := o3
        obtain ⟨a3, c3', hv3, _, _⟩ := o3.row
        subst hv3
        clear o3 g3
        go_wp2
        go_roundw
        case rel => exact ⟨k + 1, _, l3, by omega, by go_num, rfl, .inl O3.out, by show _ = _; rw [← Hl3.out, recsE_succ es k hlt, HLL.out, E2.out, Hx.out]; simp, by show _ ≤ _; rw [← Hl3.out, List.length_append, HQ2.out]; have := HLN.out; omega, F3.out⟩
        case measure => simp [intOf]; omega
      · have i2 : ¬ (k : Int) < (es.length : Int) := by omega
        have HEQ : Hid (l = [] ++ recsE (es.map En.p)) := by show _ = _; rw [HLL.out, List.take_of_length_le (by omega)]
        go_wp2
        go_ret
        exact ⟨_, rfl, by rw [show saveB false t vo (es.map En.p) = l by rw [HEQ.out]; simp [saveB]]; exact HV.out, HF.out⟩
end Go.Proofs.YtlcakglmheleeaaDoor
