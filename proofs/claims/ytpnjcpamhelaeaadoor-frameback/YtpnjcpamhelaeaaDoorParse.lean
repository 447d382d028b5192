/- What the program's read tells of a frame's bytes. -/
import Derived.Test.YtpnjcpamhelaeaaDoorRead
namespace Go.Proofs.YtpnjcpamhelaeaaDoor
open Go.RowKit

/-- the numbers of a frame's head. -/
def hFirst (l : List Nat) : Nat := Crc.num (l.take 1)
def hId (l : List Nat) : Nat := Crc.num ((l.drop 1).take 8)
def hAt (l : List Nat) : Nat := Crc.num ((l.drop 9).take 2)
def hOf (l : List Nat) : Nat := Crc.num ((l.drop 11).take 2)
def hN (l : List Nat) : Nat := Crc.num ((l.drop 13).take 2)
/-- do a frame's bytes tell a part? -/
def tells (l : List Nat) : Bool := decide (hFirst l = 1) && decide (hAt l < hOf l) && decide (hN l ≤ l.length - 15) && !(decide (hAt l + 1 < hOf l) && decide (hN l < l.length - 15)) && nz (l.drop (15 + hN l))
/-- the bytes that it carries. -/
def hData (l : List Nat) : List Nat := (l.drop 15).take (hN l)
theorem num_small (l : List Nat) (k : Nat) (hb : ∀ x ∈ l, x < 256) : Crc.num (l.take k) < 256 ^ k := by
  have h := Crc.num_lt (l.take k) (fun x hx => hb x (List.mem_of_mem_take hx))
  refine Nat.lt_of_lt_of_le h (Nat.pow_le_pow_right (by omega) ?_)
  simp
  omega
theorem rnum_step {w : World} {rb : Nat} {ao : Option Addr} {l : List Nat} {cap : Nat} (n : Nat) (h : Rd w rb ao l cap false) (hn : n ≤ l.length) (h8 : n ≤ 8) : Calls Tryd.prog 47 #[.pointer (some ⟨rb, 0, none⟩), .int .i64 (n : Int)] w fun e w' =>
    e = .returned (.int .u64 ((Crc.num (l.take n) : Nat) : Int)) ∧ (∃ a1, Rd w' rb a1 (l.drop n) (cap - n) false) ∧ Fr (fun k => k = rb) w w' :=
  (rnum_ok w rb ao l cap n h hn h8).mono fun _ _ ⟨h1, a1, h2, h3, _⟩ => ⟨h1, ⟨a1, h2⟩, h3⟩
/-- slices.Clone of bytes. -/
theorem cloneB_any (ao : Option Addr) (l : List Nat) (cap : Nat) (w : World) (hr : Row w ao l cap) (hlen : l.length ≤ 10000) :
    Calls Tryd.prog 50 #[.slice ao l.length cap] w fun e w' => ∃ a1 c1, e = .returned (.slice a1 l.length c1) ∧ Row w' a1 l c1 ∧ (∀ a, a1 = some a → w.heap.size ≤ a.block) ∧ Fr (fun _ => False) w w' := by
  have q := fun (w : World) (a : Option Addr) (n c n' c' : Nat) => Lib.run_eql_slice_nil (P := Tryd.prog) w 24 _ a n c n' c' Tryd.underlying24
  cases ao with
  | none =>
    have hc := hr.2.2.2.1 rfl
    subst hc
    have hl : l = [] := List.eq_nil_of_length_eq_zero (by have := hr.1; omega)
    subst hl
    simp only [List.length_nil]
    go_enter Tryd.func50, Tryd.ntmps50
    go_wp2
    go_ret
    exact ⟨none, 0, rfl, row_nil _, fun a ha => (by cases ha), Fr.refl _ _⟩
  | some a =>
    have f0 := (Fr.refl (fun _ => False) w).alloc (.cells #[] 5)
    have hown : Own (w.alloc (.cells #[] 5)) w.heap.size (.slice (some ⟨w.heap.size, 0, none⟩) 0 0) [] := ⟨World.ownsRow_made w #[] 0 (Nat.le_refl _) (Nat.zero_le _) (by simp), by simp⟩
    have hr1 := f0.row hr (by simp)
    have HR : Hid (Row _ _ _ _) := hr1
    clear hr hr1
    go_enter Tryd.func50, Tryd.ntmps50
    go_wp2_with (at_builtin; refine wpList_append_bytes rfl (.tmp 5) (.tmp 6) rfl w.heap.size _ [] rfl hown (some a) l cap rfl HR.out (by simp; omega) (by simp) ?_)
    intro v1 w1 ho1 hg1 _
    have f1 : Fr (fun _ => False) w w1 := f0.grown hg1 (fun k hk => by simp [Value.ownBlock] at hk; omega)
    obtain ⟨a1, c1, hv, hr1, hb1⟩ := ho1.row
    subst hv
    go_wp2
    go_ret
    exact ⟨a1, c1, rfl, hr1, fun a ha => (hb1 a ha).1, f1⟩
set_option maxRecDepth 100000 in
set_option maxHeartbeats 4000000 in
theorem parse_no (ao : Option Addr) (l : List Nat) (cap : Nat) (w : World) (hr : Row w ao l cap) (hl : 60 ≤ l.length ∧ l.length ≤ 5000) (ht : tells l = false) :
    Calls Tryd.prog 35 #[.slice ao l.length cap] w fun e w' => e = .returned (.tuple #[noPart, .bool false]) ∧ Fr (fun _ => False) w w' := by
  have hbt := hr.2.2.1
  have v1 := num_small l 1 hbt
  have v2 := num_small (l.drop 1) 8 (fun x hx => hbt x (List.mem_of_mem_drop hx))
  have v3 := num_small (l.drop 9) 2 (fun x hx => hbt x (List.mem_of_mem_drop hx))
  have v4 := num_small (l.drop 11) 2 (fun x hx => hbt x (List.mem_of_mem_drop hx))
  have v5 := num_small (l.drop 13) 2 (fun x hx => hbt x (List.mem_of_mem_drop hx))
  obtain ⟨b, off, rfl, _⟩ := hr.2.2.2.2 (fun e => by rw [e] at hl; simp at hl)
  obtain ⟨y1, Y1⟩ : ∃ y, Hid (Crc.num (l.take 1) = y) := ⟨_, rfl⟩
  obtain ⟨y2, Y2⟩ : ∃ y, Hid (Crc.num ((l.drop 1).take 8) = y) := ⟨_, rfl⟩
  obtain ⟨y3, Y3⟩ : ∃ y, Hid (Crc.num ((l.drop 9).take 2) = y) := ⟨_, rfl⟩
  obtain ⟨y4, Y4⟩ : ∃ y, Hid (Crc.num ((l.drop 11).take 2) = y) := ⟨_, rfl⟩
  obtain ⟨y5, Y5⟩ : ∃ y, Hid (Crc.num ((l.drop 13).take 2) = y) := ⟨_, rfl⟩
  rw [Y1.out] at v1
  rw [Y2.out] at v2
  rw [Y3.out] at v3
  rw [Y4.out] at v4
  rw [Y5.out] at v5
  have d8 : (l.drop 1).drop 8 = l.drop 9 := by rw [List.drop_drop]
  have d2 : (l.drop 9).drop 2 = l.drop 11 := by rw [List.drop_drop]
  have d3 : (l.drop 11).drop 2 = l.drop 13 := by rw [List.drop_drop]
  have htB : (decide (y1 = 1) && decide (y3 < y4) && decide (y5 ≤ l.length - 15) && !(decide (y3 + 1 < y4) && decide (y5 < l.length - 15)) && nz (l.drop (15 + y5))) = false := by
    unfold tells hFirst hAt hOf hN at ht
    rw [Y1.out, Y3.out, Y4.out, Y5.out] at ht
    exact ht
  have HTB : Hid _ := htB
  clear ht htB
  have f0 := (Fr.refl (fun _ => False) w).alloc (.cells #[.int .u64 0, .int .i64 0, .int .i64 0, .slice none 0 0] 39)
  obtain ⟨W, HW⟩ : ∃ W, Hid (W = w.alloc (.cells #[.int .u64 0, .int .i64 0, .int .i64 0, .slice none 0 0] 39)) := ⟨_, rfl⟩
  have hri : W.rowIs w.heap.size 39 4 (fun i => (#[.int .u64 0, .int .i64 0, .int .i64 0, .slice none 0 0] : Array Value).getD i undef) := by
    rw [HW.out]; exact rowIs_lay w #[.int .u64 0, .int .i64 0, .int .i64 0, .slice none 0 0] 39
  rw [← HW.out] at f0
  have hWs : W.heap.size = w.heap.size + 1 := by rw [HW.out]; simp
  have HRI : Hid (World.rowIs _ _ _ _ _) := hri
  have kr := read_any W (some ⟨b, off, none⟩) l cap (f0.row hr (by simp))
  obtain ⟨rb, Hrb⟩ : ∃ rb, Hid (W.heap.size = rb) := ⟨_, rfl⟩
  have hrb : w.heap.size + 1 = rb := by rw [← Hrb.out, hWs]
  rw [Hrb.out] at kr
  have hrb' : Hid (w.heap.size + 1 = rb) := hrb
  have hlt : w.heap.size < rb := by omega
  have HR : Hid (Row w (some ⟨b, off, none⟩) l cap) := hr
  have hcap : l.length ≤ cap := hr.1
  have hcap2 := hr.2.1
  unfold maxLen at hcap2
  have HBT : Hid (∀ x ∈ l, x < 256) := hbt
  clear hri hr hWs hrb hbt
  go_enter Tryd.func35, Tryd.ntmps35
  go_wp2_with fail
  rw [← HW.out]
  refine kr.mono ?_
  rintro e w1 ⟨rfl, R1, f1⟩
  clear kr
  have F1 : Hid (Fr (fun k => k = rb) W w1) := f1.mono (fun k _ h => h.elim)
  clear f1
  go_wp2_with fail
  refine (rnum_step 1 R1 (by omega) (by omega)).mono ?_
  rintro e w2 ⟨rfl, ⟨a2, R2⟩, f2⟩
  rw [Y1.out]
  have F2 : Hid (Fr (fun k => k = rb) W w2) := F1.out.trans f2
  clear R1 f2 F1
  go_wp2_with fail
  refine (rnum_step 8 R2 (by simp; omega) (by omega)).mono ?_
  rintro e w3 ⟨rfl, ⟨a3, R3⟩, f3⟩
  rw [Y2.out]
  rw [d8] at R3
  have F3 : Hid (Fr (fun k => k = rb) W w3) := F2.out.trans f3
  clear R2 f3 F2
  go_wp2_with fail
  refine (rnum_step 2 R3 (by simp; omega) (by omega)).mono ?_
  rintro e w4 ⟨rfl, ⟨a4, R4⟩, f4⟩
  rw [Y3.out]
  rw [d2] at R4
  have F4 : Hid (Fr (fun k => k = rb) W w4) := F3.out.trans f4
  clear R3 f4 F3
  go_wp2_with fail
  refine (rnum_step 2 R4 (by simp; omega) (by omega)).mono ?_
  rintro e w5 ⟨rfl, ⟨a5, R5⟩, f5⟩
  rw [Y4.out]
  rw [d3] at R5
  have F5 : Hid (Fr (fun k => k = rb) W w5) := F4.out.trans f5
  clear R4 f5 F4
  go_wp2_with fail
  refine (rnum_step 2 R5 (by simp; omega) (by omega)).mono ?_
  rintro e w6 ⟨rfl, _, f6⟩
  rw [Y5.out]
  have F6 : Hid (Fr (fun k => k = rb) W w6) := F5.out.trans f6
  have G6 : Hid (Fr (fun _ => False) w w6) := f0.trans' F6.out (fun i hi e => by omega)
  have hri6 := F6.out.rowIs HRI.out (by omega)
  have c0 : w6.cell? ⟨w.heap.size, 0, none⟩ = some (.int .u64 0) := hri6.cell (i := 0) (by omega)
  have c1 : w6.cell? ⟨w.heap.size, 1, none⟩ = some (.int .i64 0) := hri6.cell (i := 1) (by omega)
  have c2 : w6.cell? ⟨w.heap.size, 2, none⟩ = some (.int .i64 0) := hri6.cell (i := 2) (by omega)
  have c3 : w6.cell? ⟨w.heap.size, 3, none⟩ = some (.slice none 0 0) := hri6.cell (i := 3) (by omega)
  have z0 := hri6.frozen 0
  have z1 := hri6.frozen 1
  have z2 := hri6.frozen 2
  have z3 := hri6.frozen 3
  have HRI6 : Hid (World.rowIs _ _ _ _ _) := hri6
  clear R5 f6 F5 hri6 d8 d2 d3
  have g1 : (15 : Int) ≤ (l.length : Int) := by omega
  have g2 : ¬ cap = 15 := by omega
  by_cases hA : y1 = 1
  · subst hA
    by_cases hB : y3 < y4
    · by_cases hC : y5 ≤ l.length - 15
      · by_cases hD : y3 + 1 < y4 ∧ y5 < l.length - 15
        · obtain ⟨hD1, hD2⟩ := hD
          go_wp2
          refine bodyPost_ret (v := .tuple #[noPart, .bool false]) (by simp [results, Tryd.results35, go_sem, c0, c1, c2, c3, noPart]) rfl ⟨rfl, ?_⟩
          exact (((G6.out.setCell (p := ⟨w.heap.size, 0, none⟩) (Or.inr (Nat.le_refl _)) _).setCell (p := ⟨w.heap.size, 1, none⟩) (Or.inr (Nat.le_refl _)) _).setCell (p := ⟨w.heap.size, 2, none⟩) (Or.inr (Nat.le_refl _)) _).setCell (p := ⟨w.heap.size, 3, none⟩) (Or.inr (Nat.le_refl _)) _
        · have hE : Hid (nz (l.drop (15 + y5)) = false) := by
            have h1 := HTB.out
            rw [decide_eq_true hB, decide_eq_true hC, show (decide (y3 + 1 < y4) && decide (y5 < l.length - 15)) = false by simp; omega] at h1
            show nz (l.drop (15 + y5)) = false
            cases hnz : nz (l.drop (15 + y5)) with
            | false => rfl
            | true => rw [hnz] at h1; simp at h1
          have hlt5 : y5 < l.length - 15 := by
            rcases Nat.lt_or_ge y5 (l.length - 15) with h | h
            · exact h
            · have := hE.out
              rw [List.drop_eq_nil_of_le (by omega)] at this
              simp [nz] at this
          have hD3 : ¬ y3 + 1 < y4 := by omega
          have hr6 : Row w6 (some ⟨b, off, none⟩) l cap := G6.out.row HR.out (by simp)
          have hrd : Row w6 (some ⟨b, off + 15 + y5, none⟩) (l.drop (15 + y5)) (cap - (15 + y5)) := hr6.drop (by omega) _ (fun _ => by unfold Addr.add; split <;> simp_all <;> omega)
          have kn := noughts_any _ _ _ w6 hrd
          rw [hE.out, List.length_drop] at kn
          rw [show l.length - (15 + y5) = l.length - 15 - y5 by omega, show cap - (15 + y5) = cap - 15 - y5 by omega] at kn
          have HKN : Hid (Calls _ _ _ _ _) := kn
          clear hr6 hrd kn
          go_wp2_with fail
          refine HKN.out.mono ?_
          rintro e w7 ⟨rfl, f7⟩
          have hri7 := f7.rowIs HRI6.out (by simp)
          clear c0 c1 c2 c3 z0 z1 z2 z3
          have c0 : w7.cell? ⟨w.heap.size, 0, none⟩ = some (.int .u64 0) := hri7.cell (i := 0) (by omega)
          have c1 : w7.cell? ⟨w.heap.size, 1, none⟩ = some (.int .i64 0) := hri7.cell (i := 1) (by omega)
          have c2 : w7.cell? ⟨w.heap.size, 2, none⟩ = some (.int .i64 0) := hri7.cell (i := 2) (by omega)
          have c3 : w7.cell? ⟨w.heap.size, 3, none⟩ = some (.slice none 0 0) := hri7.cell (i := 3) (by omega)
          have z0 := hri7.frozen 0
          have z1 := hri7.frozen 1
          have z2 := hri7.frozen 2
          have z3 := hri7.frozen 3
          have G7 : Hid (Fr (fun _ => False) w w7) := G6.out.trans f7
          clear hri7
          go_wp2
          refine bodyPost_ret (v := .tuple #[noPart, .bool false]) (by simp [results, Tryd.results35, go_sem, c0, c1, c2, c3, noPart]) rfl ⟨rfl, ?_⟩
          exact (((G7.out.setCell (p := ⟨w.heap.size, 0, none⟩) (Or.inr (Nat.le_refl _)) _).setCell (p := ⟨w.heap.size, 1, none⟩) (Or.inr (Nat.le_refl _)) _).setCell (p := ⟨w.heap.size, 2, none⟩) (Or.inr (Nat.le_refl _)) _).setCell (p := ⟨w.heap.size, 3, none⟩) (Or.inr (Nat.le_refl _)) _
      · have hC' : (l.length : Int) - 15 < (y5 : Int) := by omega
        go_wp2
        refine bodyPost_ret (v := .tuple #[noPart, .bool false]) (by simp [results, Tryd.results35, go_sem, c0, c1, c2, c3, noPart]) rfl ⟨rfl, ?_⟩
        exact (((G6.out.setCell (p := ⟨w.heap.size, 0, none⟩) (Or.inr (Nat.le_refl _)) _).setCell (p := ⟨w.heap.size, 1, none⟩) (Or.inr (Nat.le_refl _)) _).setCell (p := ⟨w.heap.size, 2, none⟩) (Or.inr (Nat.le_refl _)) _).setCell (p := ⟨w.heap.size, 3, none⟩) (Or.inr (Nat.le_refl _)) _
    · go_wp2
      refine bodyPost_ret (v := .tuple #[noPart, .bool false]) (by simp [results, Tryd.results35, go_sem, c0, c1, c2, c3, noPart]) rfl ⟨rfl, ?_⟩
      exact (((G6.out.setCell (p := ⟨w.heap.size, 0, none⟩) (Or.inr (Nat.le_refl _)) _).setCell (p := ⟨w.heap.size, 1, none⟩) (Or.inr (Nat.le_refl _)) _).setCell (p := ⟨w.heap.size, 2, none⟩) (Or.inr (Nat.le_refl _)) _).setCell (p := ⟨w.heap.size, 3, none⟩) (Or.inr (Nat.le_refl _)) _
  · have hA' : ((y1 : Int) != 1) = true := by rw [bne_iff_ne]; omega
    go_wp2
    refine bodyPost_ret (v := .tuple #[noPart, .bool false]) (by simp [results, Tryd.results35, go_sem, c0, c1, c2, c3, noPart]) rfl ⟨rfl, ?_⟩
    exact (((G6.out.setCell (p := ⟨w.heap.size, 0, none⟩) (Or.inr (Nat.le_refl _)) _).setCell (p := ⟨w.heap.size, 1, none⟩) (Or.inr (Nat.le_refl _)) _).setCell (p := ⟨w.heap.size, 2, none⟩) (Or.inr (Nat.le_refl _)) _).setCell (p := ⟨w.heap.size, 3, none⟩) (Or.inr (Nat.le_refl _)) _
set_option maxRecDepth 100000 in
set_option maxHeartbeats 4000000 in
theorem parse_yes (ao : Option Addr) (l : List Nat) (cap : Nat) (w : World) (hr : Row w ao l cap) (hl : 60 ≤ l.length ∧ l.length ≤ 5000) (ht : tells l = true) :
    Calls Tryd.prog 35 #[.slice ao l.length cap] w fun e w' => ∃ a1 c1, e = .returned (.tuple #[.agg #[.int .u64 ((hId l : Nat) : Int), .int .i64 ((hAt l : Nat) : Int), .int .i64 ((hOf l : Nat) : Int), .slice a1 (hN l) c1], .bool true]) ∧ Row w' a1 (hData l) c1 ∧ (∀ a, a1 = some a → w.heap.size ≤ a.block) ∧ Fr (fun _ => False) w w' := by
  have hbt := hr.2.2.1
  have v1 := num_small l 1 hbt
  have v2 := num_small (l.drop 1) 8 (fun x hx => hbt x (List.mem_of_mem_drop hx))
  have v3 := num_small (l.drop 9) 2 (fun x hx => hbt x (List.mem_of_mem_drop hx))
  have v4 := num_small (l.drop 11) 2 (fun x hx => hbt x (List.mem_of_mem_drop hx))
  have v5 := num_small (l.drop 13) 2 (fun x hx => hbt x (List.mem_of_mem_drop hx))
  obtain ⟨b, off, rfl, _⟩ := hr.2.2.2.2 (fun e => by rw [e] at hl; simp at hl)
  obtain ⟨y1, Y1⟩ : ∃ y, Hid (Crc.num (l.take 1) = y) := ⟨_, rfl⟩
  obtain ⟨y2, Y2⟩ : ∃ y, Hid (Crc.num ((l.drop 1).take 8) = y) := ⟨_, rfl⟩
  obtain ⟨y3, Y3⟩ : ∃ y, Hid (Crc.num ((l.drop 9).take 2) = y) := ⟨_, rfl⟩
  obtain ⟨y4, Y4⟩ : ∃ y, Hid (Crc.num ((l.drop 11).take 2) = y) := ⟨_, rfl⟩
  obtain ⟨y5, Y5⟩ : ∃ y, Hid (Crc.num ((l.drop 13).take 2) = y) := ⟨_, rfl⟩
  rw [Y1.out] at v1
  rw [Y2.out] at v2
  rw [Y3.out] at v3
  rw [Y4.out] at v4
  rw [Y5.out] at v5
  have d8 : (l.drop 1).drop 8 = l.drop 9 := by rw [List.drop_drop]
  have d2 : (l.drop 9).drop 2 = l.drop 11 := by rw [List.drop_drop]
  have d3 : (l.drop 11).drop 2 = l.drop 13 := by rw [List.drop_drop]
  have htB : (decide (y1 = 1) && decide (y3 < y4) && decide (y5 ≤ l.length - 15) && !(decide (y3 + 1 < y4) && decide (y5 < l.length - 15)) && nz (l.drop (15 + y5))) = true := by
    unfold tells hFirst hAt hOf hN at ht
    rw [Y1.out, Y3.out, Y4.out, Y5.out] at ht
    exact ht
  simp only [Bool.and_eq_true, decide_eq_true_eq, Bool.not_eq_true'] at htB
  obtain ⟨⟨⟨⟨hA, hB⟩, hC⟩, hD⟩, hE⟩ := htB
  have HE : Hid (nz (l.drop (15 + y5)) = true) := hE
  have hD' : ¬ (y3 + 1 < y4 ∧ y5 < l.length - 15) := fun h => by rw [decide_eq_true h.1, decide_eq_true h.2] at hD; simp at hD
  have hdat : Hid (hData l = (l.drop 15).take y5) := by show _ = _; unfold hData hN; rw [Y5.out]
  have hr1 : hId l = y2 := Y2.out
  have hr2 : hAt l = y3 := Y3.out
  have hr3 : hOf l = y4 := Y4.out
  have hr4 : hN l = y5 := Y5.out
  obtain ⟨D, HD⟩ : ∃ D, Hid ((l.drop 15).take y5 = D) := ⟨_, rfl⟩
  rw [hr1, hr2, hr3, hr4, hdat.out, HD.out]
  clear ht hE hD hr1 hr2 hr3 hr4
  have f0 := (Fr.refl (fun _ => False) w).alloc (.cells #[.int .u64 0, .int .i64 0, .int .i64 0, .slice none 0 0] 39)
  obtain ⟨W, HW⟩ : ∃ W, Hid (W = w.alloc (.cells #[.int .u64 0, .int .i64 0, .int .i64 0, .slice none 0 0] 39)) := ⟨_, rfl⟩
  have hri : W.rowIs w.heap.size 39 4 (fun i => (#[.int .u64 0, .int .i64 0, .int .i64 0, .slice none 0 0] : Array Value).getD i undef) := by
    rw [HW.out]; exact rowIs_lay w #[.int .u64 0, .int .i64 0, .int .i64 0, .slice none 0 0] 39
  rw [← HW.out] at f0
  have hWs : W.heap.size = w.heap.size + 1 := by rw [HW.out]; simp
  have HRI : Hid (World.rowIs _ _ _ _ _) := hri
  have kr := read_any W (some ⟨b, off, none⟩) l cap (f0.row hr (by simp))
  obtain ⟨rb, Hrb⟩ : ∃ rb, Hid (W.heap.size = rb) := ⟨_, rfl⟩
  have hrb : w.heap.size + 1 = rb := by rw [← Hrb.out, hWs]
  rw [Hrb.out] at kr
  have hrb' : Hid (w.heap.size + 1 = rb) := hrb
  have hlt : w.heap.size < rb := by omega
  have HR : Hid (Row w (some ⟨b, off, none⟩) l cap) := hr
  have hcap : l.length ≤ cap := hr.1
  have hcap2 := hr.2.1
  unfold maxLen at hcap2
  have HBT : Hid (∀ x ∈ l, x < 256) := hbt
  clear hri hr hWs hrb hbt
  go_enter Tryd.func35, Tryd.ntmps35
  go_wp2_with fail
  rw [← HW.out]
  refine kr.mono ?_
  rintro e w1 ⟨rfl, R1, f1⟩
  clear kr
  have F1 : Hid (Fr (fun k => k = rb) W w1) := f1.mono (fun k _ h => h.elim)
  clear f1
  go_wp2_with fail
  refine (rnum_step 1 R1 (by omega) (by omega)).mono ?_
  rintro e w2 ⟨rfl, ⟨a2, R2⟩, f2⟩
  rw [Y1.out]
  have F2 : Hid (Fr (fun k => k = rb) W w2) := F1.out.trans f2
  clear R1 f2 F1
  go_wp2_with fail
  refine (rnum_step 8 R2 (by simp; omega) (by omega)).mono ?_
  rintro e w3 ⟨rfl, ⟨a3, R3⟩, f3⟩
  rw [Y2.out]
  rw [d8] at R3
  have F3 : Hid (Fr (fun k => k = rb) W w3) := F2.out.trans f3
  clear R2 f3 F2
  go_wp2_with fail
  refine (rnum_step 2 R3 (by simp; omega) (by omega)).mono ?_
  rintro e w4 ⟨rfl, ⟨a4, R4⟩, f4⟩
  rw [Y3.out]
  rw [d2] at R4
  have F4 : Hid (Fr (fun k => k = rb) W w4) := F3.out.trans f4
  clear R3 f4 F3
  go_wp2_with fail
  refine (rnum_step 2 R4 (by simp; omega) (by omega)).mono ?_
  rintro e w5 ⟨rfl, ⟨a5, R5⟩, f5⟩
  rw [Y4.out]
  rw [d3] at R5
  have F5 : Hid (Fr (fun k => k = rb) W w5) := F4.out.trans f5
  clear R4 f5 F4
  go_wp2_with fail
  refine (rnum_step 2 R5 (by simp; omega) (by omega)).mono ?_
  rintro e w6 ⟨rfl, _, f6⟩
  rw [Y5.out]
  have F6 : Hid (Fr (fun k => k = rb) W w6) := F5.out.trans f6
  have G6 : Hid (Fr (fun _ => False) w w6) := f0.trans' F6.out (fun i hi e => by omega)
  have hri6 := F6.out.rowIs HRI.out (by omega)
  have c0 : w6.cell? ⟨w.heap.size, 0, none⟩ = some (.int .u64 0) := hri6.cell (i := 0) (by omega)
  have c1 : w6.cell? ⟨w.heap.size, 1, none⟩ = some (.int .i64 0) := hri6.cell (i := 1) (by omega)
  have c2 : w6.cell? ⟨w.heap.size, 2, none⟩ = some (.int .i64 0) := hri6.cell (i := 2) (by omega)
  have c3 : w6.cell? ⟨w.heap.size, 3, none⟩ = some (.slice none 0 0) := hri6.cell (i := 3) (by omega)
  have z0 := hri6.frozen 0
  have z1 := hri6.frozen 1
  have z2 := hri6.frozen 2
  have z3 := hri6.frozen 3
  have HRI6 : Hid (World.rowIs _ _ _ _ _) := hri6
  clear R5 f6 F5 hri6 d8 d2 d3
  have g1 : (15 : Int) ≤ (l.length : Int) := by omega
  have g2 : ¬ cap = 15 := by omega
  subst hA
  have hr6 : Row w6 (some ⟨b, off, none⟩) l cap := G6.out.row HR.out (by simp)
  have hrm : Row w6 (some ⟨b, off + 15, none⟩) (l.drop 15) (cap - 15) := hr6.drop (by omega) _ (fun _ => by unfold Addr.add; split <;> simp_all)
  have hrt : Row w6 (some ⟨b, off + 15, none⟩) ((l.drop 15).take y5) (cap - 15) := hrm.takeCap (by simp; omega)
  have hdl : ((l.drop 15).take y5).length = y5 := by simp; omega
  have HRT : Hid (Row w6 (some ⟨b, off + 15, none⟩) ((l.drop 15).take y5) (cap - 15)) := hrt
  rw [HD.out] at HRT hdl
  have HDL : Hid (D.length = y5) := hdl
  clear hrt hdl
  by_cases hcap3 : cap - 15 = y5
  · have kn2 := noughts_any (some ⟨b, off + 15, none⟩) [] 0 w6 ⟨Nat.le_refl _, Nat.zero_le _, by simp, fun e => (by cases e), fun h => absurd rfl h⟩
    rw [List.length_nil, show nz [] = true from rfl] at kn2
    have HKN : Hid (Calls _ _ _ _ _) := kn2
    have hcc : cap = y5 + 15 := by omega
    have hll : y5 + 15 ≤ l.length := by omega
    have hll2 : l.length ≤ y5 + 15 := by omega
    subst hcc
    simp only [Nat.add_sub_cancel] at HRT
    clear hr6 hrm kn2 hcap3
    by_cases hD1 : y3 + 1 < y4
    · have hD2 : ¬ y5 < l.length - 15 := fun h => hD' ⟨hD1, h⟩
      go_wp2_with fail
      refine HKN.out.mono ?_
      rintro e w7 ⟨rfl, f7⟩
      have kc := cloneB_any _ D _ w7 (f7.row HRT.out (by simp)) (by rw [HDL.out]; omega)
      rw [HDL.out] at kc
      have HKC : Hid (Calls _ _ _ _ _) := kc
      have G7 : Hid (Fr (fun _ => False) w w7) := G6.out.trans f7
      have HRI7 : Hid (World.rowIs _ _ _ _ _) := f7.rowIs HRI6.out (by simp)
      clear c0 c1 c2 c3 z0 z1 z2 z3 f7 kc
      go_wp2_with fail
      refine HKC.out.mono ?_
      rintro e w8 ⟨a8, c8, rfl, hr8, hb8, f8⟩
      have hri8 := f8.rowIs HRI7.out (by simp)
      have c0 : w8.cell? ⟨w.heap.size, 0, none⟩ = some (.int .u64 0) := hri8.cell (i := 0) (by omega)
      have c1 : w8.cell? ⟨w.heap.size, 1, none⟩ = some (.int .i64 0) := hri8.cell (i := 1) (by omega)
      have c2 : w8.cell? ⟨w.heap.size, 2, none⟩ = some (.int .i64 0) := hri8.cell (i := 2) (by omega)
      have c3 : w8.cell? ⟨w.heap.size, 3, none⟩ = some (.slice none 0 0) := hri8.cell (i := 3) (by omega)
      have z0 := hri8.frozen 0
      have z1 := hri8.frozen 1
      have z2 := hri8.frozen 2
      have z3 := hri8.frozen 3
      have hgt : w.heap.size < w7.heap.size := HRI7.out.lt
      have HR8 : Hid (Row w8 a8 D c8) := hr8
      have G8 : Hid (Fr (fun _ => False) w w8) := G7.out.trans f8
      clear hri8 hr8
      go_wp2
      refine bodyPost_ret (v := .tuple #[.agg #[.int .u64 (y2 : Int), .int .i64 (y3 : Int), .int .i64 (y4 : Int), .slice a8 y5 c8], .bool true]) (by simp [results, Tryd.results35, go_sem, c0, c1, c2, c3]) rfl ⟨a8, c8, rfl, ?_, fun a ha => by have := hb8 a ha; omega, ?_⟩
      · exact (((((Fr.refl (fun k => k = w.heap.size) w8).setCell (p := ⟨w.heap.size, 0, none⟩) (Or.inl rfl) _).setCell (p := ⟨w.heap.size, 1, none⟩) (Or.inl rfl) _).setCell (p := ⟨w.heap.size, 2, none⟩) (Or.inl rfl) _).setCell (p := ⟨w.heap.size, 3, none⟩) (Or.inl rfl) _).row HR8.out (fun _ a ha e => by have := hb8 a ha; omega)
      · exact (((G8.out.setCell (p := ⟨w.heap.size, 0, none⟩) (Or.inr (Nat.le_refl _)) _).setCell (p := ⟨w.heap.size, 1, none⟩) (Or.inr (Nat.le_refl _)) _).setCell (p := ⟨w.heap.size, 2, none⟩) (Or.inr (Nat.le_refl _)) _).setCell (p := ⟨w.heap.size, 3, none⟩) (Or.inr (Nat.le_refl _)) _
    · go_wp2_with fail
      refine HKN.out.mono ?_
      rintro e w7 ⟨rfl, f7⟩
      have kc := cloneB_any _ D _ w7 (f7.row HRT.out (by simp)) (by rw [HDL.out]; omega)
      rw [HDL.out] at kc
      have HKC : Hid (Calls _ _ _ _ _) := kc
      have G7 : Hid (Fr (fun _ => False) w w7) := G6.out.trans f7
      have HRI7 : Hid (World.rowIs _ _ _ _ _) := f7.rowIs HRI6.out (by simp)
      clear c0 c1 c2 c3 z0 z1 z2 z3 f7 kc
      go_wp2_with fail
      refine HKC.out.mono ?_
      rintro e w8 ⟨a8, c8, rfl, hr8, hb8, f8⟩
      have hri8 := f8.rowIs HRI7.out (by simp)
      have c0 : w8.cell? ⟨w.heap.size, 0, none⟩ = some (.int .u64 0) := hri8.cell (i := 0) (by omega)
      have c1 : w8.cell? ⟨w.heap.size, 1, none⟩ = some (.int .i64 0) := hri8.cell (i := 1) (by omega)
      have c2 : w8.cell? ⟨w.heap.size, 2, none⟩ = some (.int .i64 0) := hri8.cell (i := 2) (by omega)
      have c3 : w8.cell? ⟨w.heap.size, 3, none⟩ = some (.slice none 0 0) := hri8.cell (i := 3) (by omega)
      have z0 := hri8.frozen 0
      have z1 := hri8.frozen 1
      have z2 := hri8.frozen 2
      have z3 := hri8.frozen 3
      have hgt : w.heap.size < w7.heap.size := HRI7.out.lt
      have HR8 : Hid (Row w8 a8 D c8) := hr8
      have G8 : Hid (Fr (fun _ => False) w w8) := G7.out.trans f8
      clear hri8 hr8
      go_wp2
      refine bodyPost_ret (v := .tuple #[.agg #[.int .u64 (y2 : Int), .int .i64 (y3 : Int), .int .i64 (y4 : Int), .slice a8 y5 c8], .bool true]) (by simp [results, Tryd.results35, go_sem, c0, c1, c2, c3]) rfl ⟨a8, c8, rfl, ?_, fun a ha => by have := hb8 a ha; omega, ?_⟩
      · exact (((((Fr.refl (fun k => k = w.heap.size) w8).setCell (p := ⟨w.heap.size, 0, none⟩) (Or.inl rfl) _).setCell (p := ⟨w.heap.size, 1, none⟩) (Or.inl rfl) _).setCell (p := ⟨w.heap.size, 2, none⟩) (Or.inl rfl) _).setCell (p := ⟨w.heap.size, 3, none⟩) (Or.inl rfl) _).row HR8.out (fun _ a ha e => by have := hb8 a ha; omega)
      · exact (((G8.out.setCell (p := ⟨w.heap.size, 0, none⟩) (Or.inr (Nat.le_refl _)) _).setCell (p := ⟨w.heap.size, 1, none⟩) (Or.inr (Nat.le_refl _)) _).setCell (p := ⟨w.heap.size, 2, none⟩) (Or.inr (Nat.le_refl _)) _).setCell (p := ⟨w.heap.size, 3, none⟩) (Or.inr (Nat.le_refl _)) _
  · have hrd : Row w6 (some ⟨b, off + 15 + y5, none⟩) (l.drop (15 + y5)) (cap - (15 + y5)) := hr6.drop (by omega) _ (fun _ => by unfold Addr.add; split <;> simp_all <;> omega)
    have kn := noughts_any _ _ _ w6 hrd
    rw [HE.out, List.length_drop] at kn
    rw [show l.length - (15 + y5) = l.length - 15 - y5 by omega, show cap - (15 + y5) = cap - 15 - y5 by omega] at kn
    have HKN : Hid (Calls _ _ _ _ _) := kn
    have hcc : y5 < cap - 15 := by omega
    clear hr6 hrm hrd kn
    by_cases hD1 : y3 + 1 < y4
    · have hD2 : ¬ y5 < l.length - 15 := fun h => hD' ⟨hD1, h⟩
      go_wp2_with fail
      refine HKN.out.mono ?_
      rintro e w7 ⟨rfl, f7⟩
      have kc := cloneB_any _ D _ w7 (f7.row HRT.out (by simp)) (by rw [HDL.out]; omega)
      rw [HDL.out] at kc
      have HKC : Hid (Calls _ _ _ _ _) := kc
      have G7 : Hid (Fr (fun _ => False) w w7) := G6.out.trans f7
      have HRI7 : Hid (World.rowIs _ _ _ _ _) := f7.rowIs HRI6.out (by simp)
      clear c0 c1 c2 c3 z0 z1 z2 z3 f7 kc
      go_wp2_with fail
      refine HKC.out.mono ?_
      rintro e w8 ⟨a8, c8, rfl, hr8, hb8, f8⟩
      have hri8 := f8.rowIs HRI7.out (by simp)
      have c0 : w8.cell? ⟨w.heap.size, 0, none⟩ = some (.int .u64 0) := hri8.cell (i := 0) (by omega)
      have c1 : w8.cell? ⟨w.heap.size, 1, none⟩ = some (.int .i64 0) := hri8.cell (i := 1) (by omega)
      have c2 : w8.cell? ⟨w.heap.size, 2, none⟩ = some (.int .i64 0) := hri8.cell (i := 2) (by omega)
      have c3 : w8.cell? ⟨w.heap.size, 3, none⟩ = some (.slice none 0 0) := hri8.cell (i := 3) (by omega)
      have z0 := hri8.frozen 0
      have z1 := hri8.frozen 1
      have z2 := hri8.frozen 2
      have z3 := hri8.frozen 3
      have hgt : w.heap.size < w7.heap.size := HRI7.out.lt
      have HR8 : Hid (Row w8 a8 D c8) := hr8
      have G8 : Hid (Fr (fun _ => False) w w8) := G7.out.trans f8
      clear hri8 hr8
      go_wp2
      refine bodyPost_ret (v := .tuple #[.agg #[.int .u64 (y2 : Int), .int .i64 (y3 : Int), .int .i64 (y4 : Int), .slice a8 y5 c8], .bool true]) (by simp [results, Tryd.results35, go_sem, c0, c1, c2, c3]) rfl ⟨a8, c8, rfl, ?_, fun a ha => by have := hb8 a ha; omega, ?_⟩
      · exact (((((Fr.refl (fun k => k = w.heap.size) w8).setCell (p := ⟨w.heap.size, 0, none⟩) (Or.inl rfl) _).setCell (p := ⟨w.heap.size, 1, none⟩) (Or.inl rfl) _).setCell (p := ⟨w.heap.size, 2, none⟩) (Or.inl rfl) _).setCell (p := ⟨w.heap.size, 3, none⟩) (Or.inl rfl) _).row HR8.out (fun _ a ha e => by have := hb8 a ha; omega)
      · exact (((G8.out.setCell (p := ⟨w.heap.size, 0, none⟩) (Or.inr (Nat.le_refl _)) _).setCell (p := ⟨w.heap.size, 1, none⟩) (Or.inr (Nat.le_refl _)) _).setCell (p := ⟨w.heap.size, 2, none⟩) (Or.inr (Nat.le_refl _)) _).setCell (p := ⟨w.heap.size, 3, none⟩) (Or.inr (Nat.le_refl _)) _
    · go_wp2_with fail
      refine HKN.out.mono ?_
      rintro e w7 ⟨rfl, f7⟩
      have kc := cloneB_any _ D _ w7 (f7.row HRT.out (by simp)) (by rw [HDL.out]; omega)
      rw [HDL.out] at kc
      have HKC : Hid (Calls _ _ _ _ _) := kc
      have G7 : Hid (Fr (fun _ => False) w w7) := G6.out.trans f7
      have HRI7 : Hid (World.rowIs _ _ _ _ _) := f7.rowIs HRI6.out (by simp)
      clear c0 c1 c2 c3 z0 z1 z2 z3 f7 kc
      go_wp2_with fail
      refine HKC.out.mono ?_
      rintro e w8 ⟨a8, c8, rfl, hr8, hb8, f8⟩
      have hri8 := f8.rowIs HRI7.out (by simp)
      have c0 : w8.cell? ⟨w.heap.size, 0, none⟩ = some (.int .u64 0) := hri8.cell (i := 0) (by omega)
      have c1 : w8.cell? ⟨w.heap.size, 1, none⟩ = some (.int .i64 0) := hri8.cell (i := 1) (by omega)
      have c2 : w8.cell? ⟨w.heap.size, 2, none⟩ = some (.int .i64 0) := hri8.cell (i := 2) (by omega)
      have c3 : w8.cell? ⟨w.heap.size, 3, none⟩ = some (.slice none 0 0) := hri8.cell (i := 3) (by omega)
      have z0 := hri8.frozen 0
      have z1 := hri8.frozen 1
      have z2 := hri8.frozen 2
      have z3 := hri8.frozen 3
      have hgt : w.heap.size < w7.heap.size := HRI7.out.lt
      have HR8 : Hid (Row w8 a8 D c8) := hr8
      have G8 : Hid (Fr (fun _ => False) w w8) := G7.out.trans f8
      clear hri8 hr8
      go_wp2
      refine bodyPost_ret (v := .tuple #[.agg #[.int .u64 (y2 : Int), .int .i64 (y3 : Int), .int .i64 (y4 : Int), .slice a8 y5 c8], .bool true]) (by simp [results, Tryd.results35, go_sem, c0, c1, c2, c3]) rfl ⟨a8, c8, rfl, ?_, fun a ha => by have := hb8 a ha; omega, ?_⟩
      · exact (((((Fr.refl (fun k => k = w.heap.size) w8).setCell (p := ⟨w.heap.size, 0, none⟩) (Or.inl rfl) _).setCell (p := ⟨w.heap.size, 1, none⟩) (Or.inl rfl) _).setCell (p := ⟨w.heap.size, 2, none⟩) (Or.inl rfl) _).setCell (p := ⟨w.heap.size, 3, none⟩) (Or.inl rfl) _).row HR8.out (fun _ a ha e => by have := hb8 a ha; omega)
      · exact (((G8.out.setCell (p := ⟨w.heap.size, 0, none⟩) (Or.inr (Nat.le_refl _)) _).setCell (p := ⟨w.heap.size, 1, none⟩) (Or.inr (Nat.le_refl _)) _).setCell (p := ⟨w.heap.size, 2, none⟩) (Or.inr (Nat.le_refl _)) _).setCell (p := ⟨w.heap.size, 3, none⟩) (Or.inr (Nat.le_refl _)) _
end Go.Proofs.YtpnjcpamhelaeaaDoor
