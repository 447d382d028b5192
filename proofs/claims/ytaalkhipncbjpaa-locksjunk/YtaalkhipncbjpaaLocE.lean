/- A hold is told; are two holds one; nil tables. -/
import Derived.Test.YtaalkhipncbjpaaLocD
import Derived.Laws.BytesString
import Derived.Lib.SlBytesConst
namespace Go.Proofs.Ytaalkhipncbjpaa
open Go.RowKit
attribute [local go_sem] run_store_float
/-- bytes as a string. -/
def strOf (l : List Nat) : ByteArray := ⟨(l.map UInt8.ofNat).toArray⟩
theorem str_fold (ns : List Nat) (s : ByteArray) : (ns.map (fun x : Nat => (x : Int))).foldl (fun r n => r.push (UInt8.ofNat n.toNat)) s = ⟨s.data ++ (ns.map UInt8.ofNat).toArray⟩ := by
  induction ns generalizing s with
  | nil => simp
  | cons x ns ih =>
    simp only [List.map_cons, List.foldl_cons, ih]
    simp [ByteArray.push]
theorem run_str (w : World) (ao : Option Addr) (l : List Nat) (cap : Nat) (h : Row w ao l cap) : (convert 27 9 (.slice ao l.length cap)).run Try.prog w = .ok (.string (strOf l)) w := by
  rw [run_convert_bytes_string w 27 9 5 ao l.length cap Try.underlying27 Try.underlying5 Try.underlying9]
  obtain ⟨h1, h2, h3, h4, h5⟩ := h
  cases ao with
  | none =>
    have := h4 rfl
    have hl : l = [] := List.eq_nil_of_length_eq_zero (by omega)
    subst hl
    simp [Conv.bytesToString, strOf]
    rfl
  | some a =>
    have hload : (loadCells a l.length).run Try.prog w = .ok ((l.map (fun x : Nat => (x : Int))).map (Value.int .u8)).toArray w := by
      have := run_loadCells_list (P := Try.prog) w a (cellsOf l) (by
        intro j u hu
        have hj : j < l.length := by
          have := (List.getElem?_eq_some_iff.1 hu).1
          rwa [cellsOf_length] at this
        obtain ⟨b, off, he, hc⟩ := h5 (fun e => by rw [e] at hj; simp at hj)
        cases he
        rw [cellsOf_get l j hj] at hu
        cases hu
        rw [show (⟨b, off, none⟩ : Addr).add j = ⟨b, off + j, none⟩ from by unfold Addr.add; split <;> simp_all]
        exact hc j hj)
      rw [cellsOf_length] at this
      rw [this]
      simp [cellsOf]
    rw [run_bytesToString w a l.length cap _ hload, str_fold]
    simp [strOf]
theorem strOf_inj (l m : List Nat) (hl : ∀ x ∈ l, x < 256) (hm : ∀ x ∈ m, x < 256) (h : strOf l = strOf m) : l = m := by
  have h2 : l.map UInt8.ofNat = m.map UInt8.ofNat := by
    have := congrArg (fun b : ByteArray => b.data.toList) h
    simpa [strOf] using this
  have h3 : ∀ k : List Nat, (∀ x ∈ k, x < 256) → (k.map UInt8.ofNat).map UInt8.toNat = k := by
    intro k hk
    induction k with
    | nil => rfl
    | cons x k ih =>
      have := hk x (by simp)
      simp only [List.map_cons, ih (fun y hy => hk y (by simp [hy]))]
      congr 1
      simp only [UInt8.toNat_ofNat']
      omega
  rw [← h3 l hl, ← h3 m hm, h2]

theorem run_str' (w : World) (ao : Option Addr) (l : List Nat) (n cap : Nat) (hn : l.length = n) (h : Row w ao l cap) : (convert 27 9 (.slice ao n cap)).run Try.prog w = .ok (.string (strOf l)) w := by
  subst hn; exact run_str w ao l cap h

set_option maxRecDepth 100000 in
set_option maxHeartbeats 4000000 in
theorem get_one (s q e0 p pc x tb g cp : Nat) (da : Option Addr) (l : List Nat) (dc : Nat) (w : World) (hc : w.cell? ⟨tb, 0, none⟩ = some (.slice (some ⟨g, 0, none⟩) 1 cp)) (hg : C7 w g (.int .u64 (s : Int)) (.int .u64 (q : Int)) (.int .u64 (e0 : Int)) (.slice none 0 0) (.slice none 0 0) (.slice (some ⟨p, 0, none⟩) 1 pc) (.slice da l.length dc)) (hp : w.cell? ⟨p, 0, none⟩ = some (.float .f64 x)) (hd : Row w da l dc) (hl : l.length ≤ 1000) :
    Calls Try.prog 26 #[.pointer (some ⟨tb, 0, none⟩), .agg #[.int .u64 (s : Int), .int .u64 (q : Int)]] w fun e w' => ∃ pg gc a1 c1, e = .returned (.tuple #[.agg #[.int .u64 (s : Int), .int .u64 (q : Int), .int .u64 (e0 : Int), .slice none 0 0, .slice none 0 0, .slice (some ⟨pg, 0, none⟩) 1 gc, .slice a1 l.length c1], .bool true]) ∧ w.heap.size ≤ pg ∧ w'.cell? ⟨pg, 0, none⟩ = some (.float .f64 x) ∧ Row w' a1 l c1 ∧ (∀ a, a1 = some a → w.heap.size ≤ a.block) ∧ Fr (fun _ => False) w w' := by
  have F0 : Hid (Fr (fun _ => False) w ((w.alloc (.cells #[.int .u64 (s : Int), .int .u64 (q : Int)] 24)).alloc (.cells #[.int .u64 0, .int .u64 0, .int .u64 0, .slice none 0 0, .slice none 0 0, .slice none 0 0, .slice none 0 0] 29))) := ((Fr.refl (fun _ => False) w).alloc _).alloc _
  have HR : Hid (Z7 ((w.alloc (.cells #[.int .u64 (s : Int), .int .u64 (q : Int)] 24)).alloc (.cells #[.int .u64 0, .int .u64 0, .int .u64 0, .slice none 0 0, .slice none 0 0, .slice none 0 0, .slice none 0 0] 29)) (w.heap.size + 1) (.int .u64 0) (.int .u64 0) (.int .u64 0) (.slice none 0 0) (.slice none 0 0) (.slice none 0 0) (.slice none 0 0)) := (show Z7 _ _ _ _ _ _ _ _ _ by have := Z7.new (w.alloc (.cells #[.int .u64 (s : Int), .int .u64 (q : Int)] 24)) 29 (.int .u64 0) (.int .u64 0) (.int .u64 0) (.slice none 0 0) (.slice none 0 0) (.slice none 0 0) (.slice none 0 0); simpa using this)
  have KP : Hid (∀ W, Fr (fun _ => False) w W → Calls Try.prog 50 #[.pointer (some ⟨tb, 0, none⟩), .agg #[.int .u64 (s : Int), .int .u64 (q : Int)]] W fun e w' => e = .returned (.tuple #[.int .i64 0, .bool true]) ∧ Fr (fun _ => False) W w') := fun W f => place_gen s q tb (some ⟨g, 0, none⟩) 1 cp true W (f.cell hc (by simp)) (fun W2 f2 => search_one s q e0 (some ⟨p, 0, none⟩) 1 pc da l.length dc g cp W2 (hg.fr (f.trans f2) (by simp)))
  have KO : Hid (∀ W, Fr (fun _ => False) w W → Calls Try.prog 54 #[.agg #[.int .u64 (s : Int), .int .u64 (q : Int), .int .u64 (e0 : Int), .slice none 0 0, .slice none 0 0, .slice (some ⟨p, 0, none⟩) 1 pc, .slice da l.length dc]] W fun e w' => ∃ pg gc a1 c1, e = .returned (.agg #[.int .u64 (s : Int), .int .u64 (q : Int), .int .u64 (e0 : Int), .slice none 0 0, .slice none 0 0, .slice (some ⟨pg, 0, none⟩) 1 gc, .slice a1 l.length c1]) ∧ W.heap.size ≤ pg ∧ w'.cell? ⟨pg, 0, none⟩ = some (.float .f64 x) ∧ Row w' a1 l c1 ∧ (∀ a, a1 = some a → W.heap.size ≤ a.block) ∧ Fr (fun _ => False) W w') := fun W f => own_any s q e0 p pc x da l dc W (f.cell hp (by simp)) (f.row hd (by simp)) hl
  have HC : Hid (w.cell? ⟨tb, 0, none⟩ = some (.slice (some ⟨g, 0, none⟩) 1 cp)) := hc
  have HG : Hid (C7 w g (.int .u64 (s : Int)) (.int .u64 (q : Int)) (.int .u64 (e0 : Int)) (.slice none 0 0) (.slice none 0 0) (.slice (some ⟨p, 0, none⟩) 1 pc) (.slice da l.length dc)) := hg
  clear hc hg hp hd
  go_enter Try.func26, Try.ntmps26
  go_wp2_with fail
  refine (KP.out _ F0.out).mono ?_
  rintro e w2 ⟨rfl, f2⟩
  have F2 : Hid (Fr (fun _ => False) w w2) := F0.out.trans f2
  have HR2 : Hid (Z7 w2 (w.heap.size + 1) (.int .u64 0) (.int .u64 0) (.int .u64 0) (.slice none 0 0) (.slice none 0 0) (.slice none 0 0) (.slice none 0 0)) := HR.out.fr f2 (by simp)
  have ht := F2.out.cell HC.out (by simp)
  obtain ⟨k0, k1, k2, k3, k4, k5, k6⟩ := HG.out.fr F2.out (by simp)
  obtain ⟨rx, Hrx⟩ : ∃ rx, Hid (w.heap.size + 1 = rx) := ⟨_, rfl⟩
  rw [Hrx.out] at HR2
  clear f2
  go_wp2_with fail
  refine (KO.out _ F2.out).mono ?_
  rintro e w3 ⟨pg, gc, a1, c1, rfl, hpg, hpc, hrw, hfr, f3⟩
  have HR3 : Hid (Z7 w3 rx (.int .u64 0) (.int .u64 0) (.int .u64 0) (.slice none 0 0) (.slice none 0 0) (.slice none 0 0) (.slice none 0 0)) := HR2.out.fr f3 (by simp)
  have HL : Hid (rx < w2.heap.size ∧ w.heap.size ≤ w2.heap.size ∧ w.heap.size + 1 = rx) := ⟨HR2.out.lt, F2.out.size, Hrx.out⟩
  have HH : Hid (w2.heap.size ≤ pg ∧ w3.cell? ⟨pg, 0, none⟩ = some (.float .f64 x) ∧ Row w3 a1 l c1 ∧ (∀ a, a1 = some a → w2.heap.size ≤ a.block)) := ⟨hpg, hpc, hrw, hfr⟩
  have F3 : Hid (Fr (fun _ => False) w w3) := F2.out.trans f3
  obtain ⟨⟨y0, y1, y2, y3, y4, y5, y6⟩, yz⟩ := HR3.out
  rw [Hrx.out]
  clear hpg hpc hrw hfr f3 k0 k1 k2 k3 k4 k5 k6 ht KP KO
  go_wp2
  obtain ⟨hq, fq⟩ := HR3.out.put7 (.int .u64 (s : Int)) (.int .u64 (q : Int)) (.int .u64 (e0 : Int)) (.slice none 0 0) (.slice none 0 0) (.slice (some ⟨pg, 0, none⟩) 1 gc) (.slice a1 l.length c1)
  clear y0 y1 y2 y3 y4 y5 y6 yz
  refine bodyPost_ret (v := .tuple #[.agg #[.int .u64 (s : Int), .int .u64 (q : Int), .int .u64 (e0 : Int), .slice none 0 0, .slice none 0 0, .slice (some ⟨pg, 0, none⟩) 1 gc, .slice a1 l.length c1], .bool true]) ?_ rfl ⟨pg, gc, a1, c1, rfl, by have := HH.out.1; have := HL.out; omega, fq.cell HH.out.2.1 (show ¬ pg = rx by have := HH.out.1; have := HL.out; omega), fq.row HH.out.2.2.1 (fun _ a ha e => by have := HH.out.2.2.2 a ha; have := HL.out; omega), fun a ha => Nat.le_trans HL.out.2.1 (HH.out.2.2.2 a ha), F3.out.trans' fq (fun i hi h => by have := HL.out; omega)⟩
  revert hq
  generalize (((((((w3.setCell _ _).setCell _ _).setCell _ _).setCell _ _).setCell _ _).setCell _ _).setCell _ _) = WQ
  intro hq
  obtain ⟨⟨d0, d1, d2, d3, d4, d5, d6⟩, _⟩ := hq
  simp [results, Try.results26, go_sem, *]
set_option maxRecDepth 100000 in
set_option maxHeartbeats 4000000 in
theorem samehold_one (s q e0 p pc p2 pc2 x : Nat) (hx : x < 18446744073709551616) (da d2 : Option Addr) (l : List Nat) (dc dc2 : Nat) (w : World) (hp : w.cell? ⟨p, 0, none⟩ = some (.float .f64 x)) (hp2 : w.cell? ⟨p2, 0, none⟩ = some (.float .f64 x)) (hd : Row w da l dc) (hd2 : Row w d2 l dc2) :
    Calls Try.prog 13 #[.agg #[.int .u64 (s : Int), .int .u64 (q : Int), .int .u64 (e0 : Int), .slice none 0 0, .slice none 0 0, .slice (some ⟨p, 0, none⟩) 1 pc, .slice da l.length dc], .agg #[.int .u64 (s : Int), .int .u64 (q : Int), .int .u64 (e0 : Int), .slice none 0 0, .slice none 0 0, .slice (some ⟨p2, 0, none⟩) 1 pc2, .slice d2 l.length dc2]] w fun e w' => e = .returned (.bool true) ∧ Fr (fun _ => False) w w' := by
  obtain ⟨W, HW⟩ : ∃ W, Hid (W = (w.alloc (.cells #[.int .u64 (s : Int), .int .u64 (q : Int), .int .u64 (e0 : Int), .slice none 0 0, .slice none 0 0, .slice (some ⟨p, 0, none⟩) 1 pc, .slice da l.length dc] 29)).alloc (.cells #[.int .u64 (s : Int), .int .u64 (q : Int), .int .u64 (e0 : Int), .slice none 0 0, .slice none 0 0, .slice (some ⟨p2, 0, none⟩) 1 pc2, .slice d2 l.length dc2] 29)) := ⟨_, rfl⟩
  have F0 : Hid (Fr (fun _ => False) w W) := (show Fr _ _ _ by rw [HW.out]; exact ((Fr.refl (fun _ => False) w).alloc _).alloc _)
  have HB1 : Hid (C7 W w.heap.size (.int .u64 (s : Int)) (.int .u64 (q : Int)) (.int .u64 (e0 : Int)) (.slice none 0 0) (.slice none 0 0) (.slice (some ⟨p, 0, none⟩) 1 pc) (.slice da l.length dc)) := (show C7 _ _ _ _ _ _ _ _ _ by rw [HW.out]; exact (C7.new w 29 _ _ _ _ _ _ _).fr ((Fr.refl (fun _ => False) _).alloc (.cells #[.int .u64 (s : Int), .int .u64 (q : Int), .int .u64 (e0 : Int), .slice none 0 0, .slice none 0 0, .slice (some ⟨p2, 0, none⟩) 1 pc2, .slice d2 l.length dc2] 29)) (by simp))
  have HB2 : Hid (C7 W (w.heap.size + 1) (.int .u64 (s : Int)) (.int .u64 (q : Int)) (.int .u64 (e0 : Int)) (.slice none 0 0) (.slice none 0 0) (.slice (some ⟨p2, 0, none⟩) 1 pc2) (.slice d2 l.length dc2)) := (show C7 _ _ _ _ _ _ _ _ _ by rw [HW.out]; have := C7.new (w.alloc (.cells #[.int .u64 (s : Int), .int .u64 (q : Int), .int .u64 (e0 : Int), .slice none 0 0, .slice none 0 0, .slice (some ⟨p, 0, none⟩) 1 pc, .slice da l.length dc] 29)) 29 (.int .u64 (s : Int)) (.int .u64 (q : Int)) (.int .u64 (e0 : Int)) (.slice none 0 0) (.slice none 0 0) (.slice (some ⟨p2, 0, none⟩) 1 pc2) (.slice d2 l.length dc2); simpa using this)
  have HP1 : Hid (W.cell? ⟨p, 0, none⟩ = some (.float .f64 x)) := F0.out.cell hp (by simp)
  have HP2 : Hid (W.cell? ⟨p2, 0, none⟩ = some (.float .f64 x)) := F0.out.cell hp2 (by simp)
  have hs1 := run_str W da l dc (F0.out.row hd (by simp))
  have hs2 := run_str W d2 l dc2 (F0.out.row hd2 (by simp))
  have KS : Hid (∀ W, Calls Try.prog 44 #[.float .f64 x, .float .f64 x] W fun e w' => e = .returned (.bool true) ∧ w' = W) := fun W => by have := refsame_any x x hx hx W; simpa using this
  have hl1 := hd.1
  have hl2 := hd.2.1
  have hl3 := hd2.1
  have hl4 := hd2.2.1
  unfold maxLen at hl2 hl4
  obtain ⟨b1, Hb1⟩ : ∃ b1, Hid (w.heap.size = b1) := ⟨_, rfl⟩
  obtain ⟨b2, Hb2⟩ : ∃ b2, Hid (w.heap.size + 1 = b2) := ⟨_, rfl⟩
  rw [Hb1.out] at HB1
  rw [Hb2.out] at HB2
  clear hp hp2 hd hd2
  rw [HW.out] at hs1 hs2
  go_enter Try.func13, Try.ntmps13
  go_wp2
  rw [← HW.out, Hb2.out, Hb1.out]
  clear hs1 hs2
  obtain ⟨d0, d1, d2', d3, d4, d5, d6⟩ := HB1.out
  obtain ⟨f0, f1, f2, f3, f4, f5, f6⟩ := HB2.out
  refine wp_loop_rounds 1 ?_
  rw [rounds_succ]
  go_wp2
  refine wp_loop_rounds 1 ?_
  rw [rounds_succ]
  go_wp2
  clear d0 d1 d2' d3 d4 d5 d6 f0 f1 f2 f3 f4 f5 f6
  go_loopw [7] (fun iv wr => ∃ k : Nat, k ≤ 1 ∧ iv = .int .i64 (k : Int) ∧ Fr (fun _ => False) W wr) (fun iv _ => 1 - (intOf iv).toNat)
  case atStart => exact ⟨0, by omega, rfl, Fr.refl _ _⟩
  case round =>
    obtain ⟨k, hk, rfl, hfr⟩ := hrel
    have HFR : Hid (Fr (fun _ => False) W wr) := hfr
    replace HB1 : Hid (C7 wr b1 (.int .u64 (s : Int)) (.int .u64 (q : Int)) (.int .u64 (e0 : Int)) (.slice none 0 0) (.slice none 0 0) (.slice (some ⟨p, 0, none⟩) 1 pc) (.slice da l.length dc)) := HB1.out.fr hfr (by simp)
    replace HB2 : Hid (C7 wr b2 (.int .u64 (s : Int)) (.int .u64 (q : Int)) (.int .u64 (e0 : Int)) (.slice none 0 0) (.slice none 0 0) (.slice (some ⟨p2, 0, none⟩) 1 pc2) (.slice d2 l.length dc2)) := HB2.out.fr hfr (by simp)
    replace HP1 : Hid (wr.cell? ⟨p, 0, none⟩ = some (.float .f64 x)) := hfr.cell HP1.out (by simp)
    replace HP2 : Hid (wr.cell? ⟨p2, 0, none⟩ = some (.float .f64 x)) := hfr.cell HP2.out (by simp)
    obtain ⟨e0', e1', e2', e3', e4', e5', e6'⟩ := HB1.out
    clear hfr
    match k, hk with
    | 0, _ =>
      go_wp2_with fail
      clear e0' e1' e2' e3' e4' e5' e6'
      refine wp_region_held_drew (S := (fun W : World => C7 W b1 (.int .u64 (s : Int)) (.int .u64 (q : Int)) (.int .u64 (e0 : Int)) (.slice none 0 0) (.slice none 0 0) (.slice (some ⟨p, 0, none⟩) 1 pc) (.slice da l.length dc) ∧ C7 W b2 (.int .u64 (s : Int)) (.int .u64 (q : Int)) (.int .u64 (e0 : Int)) (.slice none 0 0) (.slice none 0 0) (.slice (some ⟨p2, 0, none⟩) 1 pc2) (.slice d2 l.length dc2) ∧ W.cell? ⟨p, 0, none⟩ = some (.float .f64 x) ∧ W.cell? ⟨p2, 0, none⟩ = some (.float .f64 x))) (by kernel_rfl) ⟨HB1.out.fr ((Fr.refl (fun _ => False) _).drew) (by simp), HB2.out.fr ((Fr.refl (fun _ => False) _).drew) (by simp), ((Fr.refl (fun _ => False) _).drew).cell HP1.out (by simp), ((Fr.refl (fun _ => False) _).drew).cell HP2.out (by simp)⟩ (fun hHeld => ?_)
      refine wpAnyH_take (i := 0) (oi := _) (v := ?_) (by rw [List.getElem?_toArray]; rfl) (by kernel_rfl) (by kernel_rfl) (by kernel_rfl) (fun _ _ _ h => by exact h) (Or.inl ⟨by rfl, ?_⟩) (by assumption) ?_
      rotate_left
      · (intro w hSw; (try dsimp only at hSw); go_simp; (try with_reducible rfl))
      try simp only [Act.put, List.setIfInBounds_toArray, List.set_cons_zero, List.set_cons_succ]
      refine wpAnyH_take (i := 1) (oi := _) (v := ?_) (by rw [List.getElem?_toArray]; rfl) (by kernel_rfl) (by kernel_rfl) (by kernel_rfl) (fun _ _ _ h => by exact h) (Or.inl ⟨by rfl, ?_⟩) (by assumption) ?_
      rotate_left
      · (intro w hSw; (try dsimp only at hSw); obtain ⟨⟨d0, d1, d2, d3, d4, d5, d6⟩, ⟨f0, f1, f2, f3, f4, f5, f6⟩, g1, g2⟩ := hSw; go_simp; (try with_reducible rfl))
      try simp only [Act.put, List.setIfInBounds_toArray, List.set_cons_zero, List.set_cons_succ]
      refine wpAnyH_take (i := 2) (oi := _) (v := ?_) (by rw [List.getElem?_toArray]; rfl) (by kernel_rfl) (by kernel_rfl) (by kernel_rfl) (fun _ _ _ h => by exact h) (Or.inl ⟨by rfl, ?_⟩) (by assumption) ?_
      rotate_left
      · (intro w hSw; (try dsimp only at hSw); go_simp; (try with_reducible rfl))
      try simp only [Act.put, List.setIfInBounds_toArray, List.set_cons_zero, List.set_cons_succ]
      refine wpAnyH_take (i := 3) (oi := _) (v := ?_) (by rw [List.getElem?_toArray]; rfl) (by kernel_rfl) (by kernel_rfl) (by kernel_rfl) (fun _ _ _ h => by exact h) (Or.inl ⟨by rfl, ?_⟩) (by assumption) ?_
      rotate_left
      · (intro w hSw; (try dsimp only at hSw); go_simp; (try with_reducible rfl))
      try simp only [Act.put, List.setIfInBounds_toArray, List.set_cons_zero, List.set_cons_succ]
      refine wpAnyH_take (i := 4) (oi := _) (v := ?_) (by rw [List.getElem?_toArray]; rfl) (by kernel_rfl) (by kernel_rfl) (by kernel_rfl) (fun _ _ _ h => by exact h) (Or.inl ⟨by rfl, ?_⟩) (by assumption) ?_
      rotate_left
      · (intro w hSw; (try dsimp only at hSw); obtain ⟨⟨d0, d1, d2, d3, d4, d5, d6⟩, ⟨f0, f1, f2, f3, f4, f5, f6⟩, g1, g2⟩ := hSw; go_simp; (try with_reducible rfl))
      try simp only [Act.put, List.setIfInBounds_toArray, List.set_cons_zero, List.set_cons_succ]
      refine wpAnyH_take (i := 5) (oi := _) (v := ?_) (by rw [List.getElem?_toArray]; rfl) (by kernel_rfl) (by kernel_rfl) (by kernel_rfl) (fun _ _ _ h => by exact h) (Or.inl ⟨by rfl, ?_⟩) (by assumption) ?_
      rotate_left
      · (intro w hSw; (try dsimp only at hSw); go_simp; (try with_reducible rfl))
      try simp only [Act.put, List.setIfInBounds_toArray, List.set_cons_zero, List.set_cons_succ]
      refine wpAnyH_take (i := 6) (oi := _) (v := ?_) (by rw [List.getElem?_toArray]; rfl) (by kernel_rfl) (by kernel_rfl) (by kernel_rfl) (fun _ _ _ h => by exact h) (Or.inl ⟨by rfl, ?_⟩) (by assumption) ?_
      rotate_left
      · (intro w hSw; (try dsimp only at hSw); obtain ⟨⟨d0, d1, d2, d3, d4, d5, d6⟩, ⟨f0, f1, f2, f3, f4, f5, f6⟩, g1, g2⟩ := hSw; go_simp; (try with_reducible rfl))
      try simp only [Act.put, List.setIfInBounds_toArray, List.set_cons_zero, List.set_cons_succ]
      refine wpAnyH_take (i := 7) (oi := _) (v := ?_) (by rw [List.getElem?_toArray]; rfl) (by kernel_rfl) (by kernel_rfl) (by kernel_rfl) (fun _ _ _ h => by exact h) (Or.inl ⟨by rfl, ?_⟩) (by assumption) ?_
      rotate_left
      · (intro w hSw; (try dsimp only at hSw); go_simp; (try with_reducible rfl))
      try simp only [Act.put, List.setIfInBounds_toArray, List.set_cons_zero, List.set_cons_succ]
      refine wpAnyH_take (i := 8) (oi := _) (v := ?_) (by rw [List.getElem?_toArray]; rfl) (by kernel_rfl) (by kernel_rfl) (by kernel_rfl) (fun _ _ _ h => by exact h) (Or.inl ⟨by rfl, ?_⟩) (by assumption) ?_
      rotate_left
      · (intro w hSw; (try dsimp only at hSw); go_simp; (try with_reducible rfl))
      try simp only [Act.put, List.setIfInBounds_toArray, List.set_cons_zero, List.set_cons_succ]
      refine wpAnyH_take (i := 9) (oi := _) (v := ?_) (by rw [List.getElem?_toArray]; rfl) (by kernel_rfl) (by kernel_rfl) (by kernel_rfl) (fun _ _ _ h => by exact h) (Or.inl ⟨by rfl, ?_⟩) (by assumption) ?_
      rotate_left
      · (intro w hSw; (try dsimp only at hSw); obtain ⟨⟨d0, d1, d2, d3, d4, d5, d6⟩, ⟨f0, f1, f2, f3, f4, f5, f6⟩, g1, g2⟩ := hSw; go_simp; (try with_reducible rfl))
      try simp only [Act.put, List.setIfInBounds_toArray, List.set_cons_zero, List.set_cons_succ]
      refine wpAnyH_ready (rs := [10]) (by kernel_rfl) (by simp) ?_
      refine AllReadyH.cons (o := _) (by rw [List.getElem?_toArray]; rfl) (fun K hK => ?_) ?_
      · go_simp
        go_wp2_with (go_at_call 44; refine (KS.out _).mono ?_; rintro e w5 ⟨rfl, rfl⟩)
        refine hK.out _ _ ⟨HB1.out.fr ((Fr.refl (fun _ => False) _).drew) (by simp), HB2.out.fr ((Fr.refl (fun _ => False) _).drew) (by simp), ((Fr.refl (fun _ => False) _).drew).cell HP1.out (by simp), ((Fr.refl (fun _ => False) _).drew).cell HP2.out (by simp)⟩ (fun hHeld => ?_)
        clear hK K
        try simp only [Act.put, List.setIfInBounds_toArray, List.set_cons_zero, List.set_cons_succ]
        refine wpAnyH_take (i := 11) (oi := _) (v := ?_) (by rw [List.getElem?_toArray]; rfl) (by kernel_rfl) (by kernel_rfl) (by kernel_rfl) (fun _ _ _ h => by exact h) (Or.inl ⟨by rfl, ?_⟩) (by assumption) ?_
        rotate_left
        · (intro w hSw; (try dsimp only at hSw); go_simp; (try with_reducible rfl))
        try simp only [Act.put, List.setIfInBounds_toArray, List.set_cons_zero, List.set_cons_succ]
        refine wpAnyH_done (by kernel_rfl) ?_ _
        go_wp2
        go_roundw
        case rel => exact ⟨1, by omega, by go_num, HFR.out.drew⟩
        case measure => simp [intOf]
      exact AllReadyH.nil
    | 1, _ =>
      go_wp2
      go_ret
      exact ⟨rfl, F0.out.trans HFR.out⟩
set_option maxRecDepth 100000 in
set_option maxHeartbeats 1000000 in
theorem drop_nil (s q : Nat) (w : World) : Calls Try.prog 21 #[.pointer none, .agg #[.int .u64 (s : Int), .int .u64 (q : Int)]] w fun e w' => e = .returned (.bool false) ∧ Fr (fun _ => False) w w' := by
  have F0 : Hid (Fr (fun _ => False) w (w.alloc (.cells #[.int .u64 (s : Int), .int .u64 (q : Int)] 24))) := (Fr.refl (fun _ => False) w).alloc _
  go_enter Try.func21, Try.ntmps21
  go_wp2_with fail
  refine (place_nil s q _).mono ?_
  rintro e w1 ⟨rfl, f1⟩
  go_wp2
  go_ret
  exact ⟨rfl, F0.out.trans f1⟩
set_option maxRecDepth 100000 in
theorem len_nil (w : World) : Calls Try.prog 35 #[.pointer none] w fun e w' => e = .returned (.int .i64 0) ∧ w' = w := by
  go_enter Try.func35, Try.ntmps35
  go_wp2
  go_ret
  exact ⟨rfl, rfl⟩
set_option maxRecDepth 100000 in
theorem len_one (tb g cp : Nat) (w : World) (hc : w.cell? ⟨tb, 0, none⟩ = some (.slice (some ⟨g, 0, none⟩) 1 cp)) : Calls Try.prog 35 #[.pointer (some ⟨tb, 0, none⟩)] w fun e w' => e = .returned (.int .i64 1) ∧ w' = w := by
  go_enter Try.func35, Try.ntmps35
  go_wp2
  go_ret
  exact ⟨rfl, rfl⟩
set_option maxRecDepth 100000 in
theorem all_nil (w : World) : Calls Try.prog 25 #[.pointer none] w fun e w' => e = .returned (.slice none 0 0) ∧ w' = w := by
  go_enter Try.func25, Try.ntmps25
  go_wp2
  go_ret
  exact ⟨rfl, rfl⟩
set_option maxRecDepth 100000 in
theorem until_nil (e0 : Nat) (w : World) : Calls Try.prog 36 #[.pointer none, .int .u64 (e0 : Int)] w fun e w' => e = .returned (.bool false) ∧ Fr (fun _ => False) w w' := by
  have F0 : Hid (Fr (fun _ => False) w (w.alloc (.cells #[.int .u64 (e0 : Int)] 22))) := (Fr.refl (fun _ => False) w).alloc _
  go_enter Try.func36, Try.ntmps36
  go_wp2
  go_ret
  exact ⟨rfl, F0.out⟩
set_option maxRecDepth 100000 in
theorem new_any (w : World) : Calls Try.prog 16 #[] w fun e w' => e = .returned (.pointer (some ⟨w.heap.size, 0, none⟩)) ∧ w' = w.alloc (.cells #[.slice none 0 0] 88) := by
  go_enter Try.func16, Try.ntmps16
  go_wp2
  go_ret
  exact ⟨rfl, rfl⟩
end Go.Proofs.Ytaalkhipncbjpaa
