/- wal.Compact and wal.Open of a disk. -/
import Derived.Test.YtlcakglmheleeaaDoorDisk2
import Derived.Test.YtlcakglmheleeaaDoorJunkW
namespace Go.Proofs.YtlcakglmheleeaaDoor
open Go.RowKit
section
variable {w w1 : World} {b base : Nat} {l : List Nat} {sure ops : Nat} {v : Value}

theorem addr_own {ao : Option Addr} {n c : Nat} {a : Addr} (h : ao = some a) : (Value.slice ao n c).ownBlock = some a.block := by
  rw [own_none, h]; rfl

set_option maxRecDepth 100000 in
set_option maxHeartbeats 1600000 in
theorem compact_any (h : Dk w b base l sure ops v) (hops : ops ≤ 1000000) (t n si st sv : Nat) (vo : Int) (sa ea : Option Addr) (sd : List Nat) (sc : Nat) (es : List En) (c : Nat) (R D : Nat → Prop) (hr : ERow w R D ea es c) (hs : Row w sa sd sc) (ht : Tab w) (ht64 : t < 18446744073709551616) (hn : vo + 1 = (n : Int)) (hn2 : n < 65536)
    (hsi : si < 18446744073709551616) (hst : st < 18446744073709551616) (hsv : sv < 18446744073709551616) (hsd : sd.length ≤ 1000000) (hlen : es.length ≤ 100000) (hd : ∀ x ∈ es, x.d.length ≤ 1000000) (hq : (wholeB ⟨t, vo, si, st, sv, sd, es.map En.p⟩).length ≤ 140737488355328) :
    Calls Tryd.prog 28 #[.pointer (some ⟨b, 0, none⟩), .agg #[.int .u64 (t : Int), .int .i64 vo, .int .u64 (si : Int), .int .u64 (st : Int), .int .u64 (sv : Int), .slice sa sd.length sc, .slice ea es.length c]] w fun e w' => e = .returned (.int .i64 0) ∧ (∃ v', Dk w' b base (wholeB ⟨t, vo, si, st, sv, sd, es.map En.p⟩) (wholeB ⟨t, vo, si, st, sv, sd, es.map En.p⟩).length (ops + 1) v' ∧ (∀ k, v'.ownBlock = some k → w.heap.size ≤ k)) ∧ Fr (fun k => k = b) w w' := by
  have F0 : Fr (fun _ => False) w (w.alloc (.cells #[.int .u64 (t : Int), .int .i64 vo, .int .u64 (si : Int), .int .u64 (st : Int), .int .u64 (sv : Int), .slice sa sd.length sc, .slice ea es.length c] 42)) := (Fr.refl _ _).alloc _
  have K : Hid (Calls _ _ _ _ _) := whole_any t n si st sv vo sa ea sd sc es c (w.alloc (.cells #[.int .u64 (t : Int), .int .i64 vo, .int .u64 (si : Int), .int .u64 (st : Int), .int .u64 (sv : Int), .slice sa sd.length sc, .slice ea es.length c] 42)) R D (hr.fr F0 (by simp) (by simp)) (F0.row hs (by simp)) (F0.tab ht (by simp)) ht64 hn hn2 hsi hst hsv hsd hlen hd
  have HF : Hid (Fr _ _ _) := F0
  have HD : Hid (Dk w b base l sure ops v) := h
  have hlt := h.lt
  obtain ⟨q, Hq⟩ : ∃ q, Hid (wholeB ⟨t, vo, si, st, sv, sd, es.map En.p⟩ = q) := ⟨_, rfl⟩
  rw [Hq.out] at hq ⊢
  have el := hr.len
  have sl := hs.2.1
  have sl1 := hs.1
  unfold maxLen at sl
  clear h hr hs ht F0 hd
  go_enter Tryd.func28, Tryd.ntmps28
  go_wp2_with fail
  refine K.out.mono ?_
  rintro e w1 ⟨v1, rfl, h1, f1⟩
  rw [Hq.out] at h1
  have hl1 := h1.lt
  obtain ⟨a1, c1, hv1, hrow⟩ := h1.row
  subst hv1
  have F1 : Hid (Fr (fun _ => False) w w1) := HF.out.trans f1
  have K2 : Hid (Calls _ _ _ _ _) := dput_any (HD.out.fr F1.out (by simp) (by simp)) hops a1 q c1 hrow.1 (fun _ a ha e => by
    have := hl1 a.block (addr_own ha)
    simp at this
    omega) hq
  clear h1 f1 K hrow hl1
  go_wp2_with fail
  refine K2.out.mono ?_
  rintro e w2 ⟨rfl, ⟨v2, hd2, hk2⟩, f2⟩
  have HD2 : Hid _ := hd2
  have HK2 : Hid (∀ k, v2.ownBlock = some k → w.heap.size ≤ k) := fun k e => Nat.le_trans F1.out.size (hk2 k e)
  have F2 : Hid (Fr (fun k => k = b) w w2) := (F1.out.mono (fun _ _ h => h.elim)).trans f2
  clear hd2 hk2 f2 K2
  go_wp2
  go_ret
  exact ⟨rfl, ⟨v2, HD2.out, HK2.out⟩, F2.out⟩

theorem erow_weak {R D : Nat → Prop} {ao : Option Addr} {es : List En} {cap : Nat} (hr : ERow w R D ao es cap) : ERow w (fun _ => True) (fun _ => True) ao es cap := by
  refine ⟨hr.1, hr.2.1, hr.2.2.1, fun x hx => (hr.2.2.2.1 x hx).mono (fun _ _ _ => trivial), fun hne => ?_⟩
  obtain ⟨b, off, he, _, hc⟩ := hr.2.2.2.2 hne
  exact ⟨b, off, he, trivial, hc⟩
theorem row_notbox {ao : Option Addr} {cap : Nat} (hbox : ∀ i x, w.cell? ⟨b, i, none⟩ ≠ some (.int .u8 x)) (hr : Row w ao l cap) : l ≠ [] → ∀ a, ao = some a → a.block ≠ b := by
  intro hl a ha e
  obtain ⟨b', off, he, hc⟩ := hr.2.2.2.2 hl
  rw [he] at ha
  cases ha
  have h0 := hc 0 (List.length_pos_iff.2 hl)
  simp only at e
  rw [e] at h0
  exact hbox _ _ h0
/-- what Scan answers, opened; its entries lie in what is new. -/
theorem scan_new (ao : Option Addr) (l : List Nat) (cap : Nat) (w : World) (ht : Tab w) (hr : Row w ao l cap) (hlen : l.length < 1000000) :
    Calls Tryd.prog 12 #[.slice ao l.length cap] w fun e w' => ∃ m u sa sc ea es c, Hid ((m, u) = scan img0 l) ∧ e = .returned (.tuple #[.agg #[.int .u64 ((m : Img).tm : Int), .int .i64 m.vo, .int .u64 (m.si : Int), .int .u64 (m.st : Int), .int .u64 (m.sv : Int), .slice sa m.sd.length sc, .slice ea (es : List En).length c], .int .i64 ((u : Nat) : Int)]) ∧ Row w' sa m.sd sc ∧ ERow w' (fun k => w.heap.size ≤ k) (fun k => w.heap.size ≤ k) ea es c ∧ Hid (es.map En.p = m.es) ∧ u ≤ l.length ∧ Fr (fun _ => False) w w' := by
  refine (scan_any ao l cap w ht hr hlen).mono ?_
  rintro e w' ⟨m, u, sa, sc, v, es, h1, rfl, h2, h3, h4, h5, f⟩
  obtain ⟨ea, c, hv, hr⟩ := h3.eroww
  subst hv
  exact ⟨m, u, sa, sc, ea, es, c, h1, rfl, h2, hr, h4, h5, f⟩

set_option maxRecDepth 100000 in
set_option maxHeartbeats 1600000 in
theorem open_full (h : Dk w b base l sure ops v) (ht : Tab w) (hlen : l.length < 1000000) (hall : (scan img0 l).2 = l.length) :
    Calls Tryd.prog 26 #[.pointer (some ⟨b, 0, none⟩)] w fun e w' => ∃ m sa sc ea es c, Hid ((scan img0 l).1 = m) ∧ e = .returned (.tuple #[.agg #[.int .u64 ((m : Img).tm : Int), .int .i64 m.vo, .int .u64 (m.si : Int), .int .u64 (m.st : Int), .int .u64 (m.sv : Int), .slice sa m.sd.length sc, .slice ea (es : List En).length c], .int .i64 0]) ∧ Row w' sa m.sd sc ∧ ERow w' (fun _ => True) (fun _ => True) ea es c ∧ Hid (es.map En.p = m.es) ∧ Fr (fun _ => False) w w' := by
  have HD : Hid (Dk w b base l sure ops v) := h
  have HT : Hid (Tab w) := ht
  have HA : Hid ((scan img0 l).2 = l.length) := hall
  have FA : Hid (Fr (fun _ => False) w (w.alloc (.cells #[.int .u64 0, .int .i64 0, .int .u64 0, .int .u64 0, .int .u64 0, .slice none 0 0, .slice none 0 0] 42))) := (Fr.refl _ w).alloc _
  have HB : Hid (IBox (w.alloc (.cells #[.int .u64 0, .int .i64 0, .int .u64 0, .int .u64 0, .int .u64 0, .slice none 0 0, .slice none 0 0] 42)) w.heap.size ⟨0, 0, 0, 0, 0, [], []⟩ none 0 none 0 0) := by
    refine ⟨?_, ?_, ?_, ?_, ?_, ?_, ?_, fun i hi => ?_⟩
    all_goals simp
  have HN : Hid (∀ i x, (w.alloc (.cells #[.int .u64 0, .int .i64 0, .int .u64 0, .int .u64 0, .int .u64 0, .slice none 0 0, .slice none 0 0] 42)).cell? ⟨w.heap.size, i, none⟩ ≠ some (.int .u8 x)) := by
    intro i x
    rcases i with _ | _ | _ | _ | _ | _ | _ | i <;> simp
  have HS : Hid (w.heap.size < (w.alloc (.cells #[.int .u64 0, .int .i64 0, .int .u64 0, .int .u64 0, .int .u64 0, .slice none 0 0, .slice none 0 0] 42)).heap.size) := by show _ < _; simp
  have K : Hid (Calls _ _ _ _ _) := dread_any (h.fr FA.out (by simp) (by simp)) (by omega)
  obtain ⟨m, Hm⟩ : ∃ m, Hid ((scan img0 l).1 = m) := ⟨_, rfl⟩
  clear h ht hall
  go_enter Tryd.func26, Tryd.ntmps26
  go_wp2_with fail
  refine K.out.mono ?_
  rintro e w1 ⟨v1, rfl, o1, f1⟩
  obtain ⟨a1, c1, hv1, hrow, _⟩ := o1.row
  subst hv1
  have F1 : Hid (Fr (fun _ => False) w w1) := FA.out.trans f1
  have G1 : Hid (Fr (fun _ => False) (w.alloc (.cells #[.int .u64 0, .int .i64 0, .int .u64 0, .int .u64 0, .int .u64 0, .slice none 0 0, .slice none 0 0] 42)) w1) := f1
  have HB1 : Hid (IBox w1 _ _ _ _ _ _ _) := HB.out.fr f1 (by simp)
  have hr1 := hrow.1
  have hr2 := hrow.2.1
  unfold maxLen at hr2
  have K2 : Hid (Calls _ _ _ _ _) := scan_new a1 l c1 w1 (F1.out.tab HT.out (by simp)) hrow hlen
  clear o1 f1 K hrow
  go_wp2_with fail
  refine K2.out.mono ?_
  rintro e w2 ⟨m2, u, sa, sc, ea, es, c, h1, rfl, h2, h3, h4, h5, f2⟩
  have hmu : m2 = m ∧ u = l.length := by
    have := h1.out
    have e1 : m2 = (scan img0 l).1 := by rw [← this]
    have e2 : u = (scan img0 l).2 := by rw [← this]
    exact ⟨e1.trans Hm.out, e2.trans HA.out⟩
  obtain ⟨rfl, rfl⟩ := hmu
  have f3 : Fr (fun _ => False) w2 (w2.alloc (.cells #[.int .u64 (m2.tm : Int), .int .i64 m2.vo, .int .u64 (m2.si : Int), .int .u64 (m2.st : Int), .int .u64 (m2.sv : Int), .slice sa m2.sd.length sc, .slice ea es.length c] 42)) := (Fr.refl _ _).alloc _
  have hb := (HB1.out.fr f2 (by simp)).fr f3 (by simp)
  have F2 : Hid (Fr (fun _ => False) w (w2.alloc (.cells #[.int .u64 (m2.tm : Int), .int .i64 m2.vo, .int .u64 (m2.si : Int), .int .u64 (m2.st : Int), .int .u64 (m2.sv : Int), .slice sa m2.sd.length sc, .slice ea es.length c] 42))) := (F1.out.trans f2).trans f3
  obtain ⟨hst, fst⟩ := IBox.store (m2 := m2) (sa2 := sa) (sc2 := sc) (ea2 := ea) (n2 := es.length) (cc2 := c) hb
  have hsz : w.heap.size < w1.heap.size := Nat.lt_of_lt_of_le HS.out G1.out.size
  have hnb : ∀ i x, w2.cell? ⟨w.heap.size, i, none⟩ ≠ some (.int .u8 x) := fun i x e => HN.out i x (((G1.out.trans f2).cellEq (a := ⟨w.heap.size, i, none⟩) HS.out (by simp)).symm.trans e)
  have h2' : Row (w2.alloc (.cells #[.int .u64 (m2.tm : Int), .int .i64 m2.vo, .int .u64 (m2.si : Int), .int .u64 (m2.st : Int), .int .u64 (m2.sv : Int), .slice sa m2.sd.length sc, .slice ea es.length c] 42)) sa m2.sd sc := f3.row h2 (by simp)
  have H2 : Hid (Row _ sa m2.sd sc) := fst.row h2' (row_notbox hnb h2)
  have H3 : Hid (ERow _ (fun k => w1.heap.size ≤ k) (fun k => w1.heap.size ≤ k) ea es c) := (h3.fr f3 (by simp) (by simp)).fr fst (fun k hk e => by omega) (fun k hk e => by omega)
  have H4 : Hid (Fr (fun _ => False) w _) := ((F2.out.mono (fun _ _ h => h.elim)).trans fst).mono (fun k hk e => by omega)
  obtain ⟨v0, v1, v2, v3, v4, v5, v6, vz⟩ := hb
  obtain ⟨x0, x1, x2, x3, x4, x5, x6, xz⟩ := hst
  have z0 := vz 0 (by omega)
  have z1 := vz 1 (by omega)
  have z2 := vz 2 (by omega)
  have z3 := vz 3 (by omega)
  have z4 := vz 4 (by omega)
  have z5 := vz 5 (by omega)
  have z6 := vz 6 (by omega)
  clear h1 h2 h2' h3 h5 hnb f2 f3 K2 fst vz xz
  go_wp2
  refine bodyPost_ret (v := .tuple #[.agg #[.int .u64 (m2.tm : Int), .int .i64 m2.vo, .int .u64 (m2.si : Int), .int .u64 (m2.st : Int), .int .u64 (m2.sv : Int), .slice sa m2.sd.length sc, .slice ea es.length c], .int .i64 0]) (by simp [results, Tryd.results26, go_sem, x0, x1, x2, x3, x4, x5, x6]) rfl ?_
  exact ⟨m2, sa, sc, ea, es, c, Hm.out, rfl, H2.out, erow_weak H3.out, h4, H4.out⟩
end
end Go.Proofs.YtlcakglmheleeaaDoor
