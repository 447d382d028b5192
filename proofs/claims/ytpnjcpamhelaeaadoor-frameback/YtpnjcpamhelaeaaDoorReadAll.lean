/- What the program's Read tells of any bytes. -/
import Derived.Test.YtpnjcpamhelaeaaDoorParse
namespace Go.Proofs.YtpnjcpamhelaeaaDoor
open Go.RowKit

/-- are bytes sealed ones? -/
def isSealed (l : List Nat) : Prop := 4 ≤ l.length ∧ Crc.num (l.drop (l.length - 4)) = Crc.sum (l.take (l.length - 4))
/-- THE ENDS OF Read: an error, and nothing. -/
theorem open_any (ao : Option Addr) (l : List Nat) (cap : Nat) (w : World) (ht : Tab w) (hr : Row w ao l cap) (hlen : l.length ≤ 140737488355328) :
    Calls Tryd.prog 33 #[.slice ao l.length cap] w fun e w' => Fr (fun _ => False) w w' ∧
      ((¬ isSealed l ∧ ∃ k : Int, k ≠ 0 ∧ e = .returned (.tuple #[.slice none 0 0, .int .i64 k])) ∨
       (isSealed l ∧ ∃ a1, e = .returned (.tuple #[.slice a1 (l.length - 4) (l.length - 4), .int .i64 0]) ∧ Fresh w w' a1 (l.take (l.length - 4)))) := by
  by_cases h4 : l.length < 4
  · refine (open_short ao l cap w h4).mono ?_
    rintro e w' ⟨rfl, rfl⟩
    exact ⟨Fr.refl _ _, .inl ⟨fun h => by have := h.1; omega, 5, by omega, rfl⟩⟩
  · obtain ⟨b, off, rfl, _⟩ := hr.2.2.2.2 (fun e => by rw [e] at h4; simp at h4)
    have hn : l.length = (l.length - 4) + 4 := by omega
    have := open_long b off l (l.length - 4) cap w ht hr hn hlen
    rw [← hn] at this
    refine this.mono ?_
    rintro e w' ⟨hf, ⟨h1, h2⟩ | ⟨h1, a1, h2, h3⟩⟩
    · exact ⟨hf, .inl ⟨fun h => h1 h.2, 4, by omega, h2⟩⟩
    · exact ⟨hf, .inr ⟨⟨by omega, h1⟩, a1, h2, h3⟩⟩
/-- does Read tell a part of these bytes? -/
def readB (l : List Nat) : Prop := isSealed l ∧ 64 ≤ l.length ∧ l.length ≤ 4096 ∧ nz (l.take (l.length - 4)) = false ∧ tells (l.take (l.length - 4)) = true
set_option maxRecDepth 100000 in
set_option maxHeartbeats 2000000 in
theorem readf_no (ao : Option Addr) (l : List Nat) (cap : Nat) (w : World) (ht : Tab w) (hr : Row w ao l cap) (hlen : l.length ≤ 140737488355328) (h : ¬ readB l) :
    Calls Tryd.prog 18 #[.slice ao l.length cap] w fun e w' => ∃ k : Int, k ≠ 0 ∧ e = .returned (.tuple #[noPart, .int .i64 k]) ∧ Fr (fun _ => False) w w' := by
  have f0 := (Fr.refl (fun _ => False) w).alloc (.cells #[.int .u64 0, .int .i64 0, .int .i64 0, .slice none 0 0] 39)
  have ko := open_any ao l cap _ (f0.tab ht (by simp)) (f0.row hr (by simp)) hlen
  obtain ⟨W, HW⟩ : ∃ W, Hid (W = w.alloc (.cells #[.int .u64 0, .int .i64 0, .int .i64 0, .slice none 0 0] 39)) := ⟨_, rfl⟩
  have hri : W.rowIs w.heap.size 39 4 (fun i => (#[.int .u64 0, .int .i64 0, .int .i64 0, .slice none 0 0] : Array Value).getD i undef) := by
    rw [HW.out]; exact rowIs_lay w #[.int .u64 0, .int .i64 0, .int .i64 0, .slice none 0 0] 39
  rw [← HW.out] at f0 ko
  have HK : Hid (Calls _ _ _ _ _) := ko
  have HRI : Hid (World.rowIs _ _ _ _ _) := hri
  have HT : Hid (Tab w) := ht
  have HB : Hid (∀ x ∈ l, x < 256) := hr.2.2.1
  clear ko hri hr ht
  have ki := isSize_any (l.length : Int)
  go_enter Tryd.func18, Tryd.ntmps18
  go_wp2_with fail
  rw [← HW.out]
  refine HK.out.mono ?_
  rintro e w1 ⟨f1, ⟨hns, k, hk0, rfl⟩ | ⟨hsl, a1, rfl, hF⟩⟩
  · have F1 : Hid (Fr (fun _ => False) w w1) := f0.trans f1
    have hkb : (k != 0) = true := by simpa using hk0
    have HKZ : k ≠ 0 := hk0
    have hri1 := f1.rowIs HRI.out (by simp)
    have c0 : w1.cell? ⟨w.heap.size, 0, none⟩ = some (.int .u64 0) := hri1.cell (i := 0) (by omega)
    have c1 : w1.cell? ⟨w.heap.size, 1, none⟩ = some (.int .i64 0) := hri1.cell (i := 1) (by omega)
    have c2 : w1.cell? ⟨w.heap.size, 2, none⟩ = some (.int .i64 0) := hri1.cell (i := 2) (by omega)
    have c3 : w1.cell? ⟨w.heap.size, 3, none⟩ = some (.slice none 0 0) := hri1.cell (i := 3) (by omega)
    have z0 := hri1.frozen 0
    have z1 := hri1.frozen 1
    have z2 := hri1.frozen 2
    have z3 := hri1.frozen 3
    clear hri1
    clear hk0
    have HKZ' : Hid (k ≠ 0) := HKZ
    clear HKZ
    have HKZ : True := trivial
    go_wp2
    refine bodyPost_ret (v := .tuple #[noPart, .int .i64 k]) (by simp [results, Tryd.results18, go_sem, c0, c1, c2, c3, noPart]) rfl ⟨k, HKZ'.out, rfl, ?_⟩
    exact (((F1.out.setCell (p := ⟨w.heap.size, 0, none⟩) (Or.inr (Nat.le_refl _)) _).setCell (p := ⟨w.heap.size, 1, none⟩) (Or.inr (Nat.le_refl _)) _).setCell (p := ⟨w.heap.size, 2, none⟩) (Or.inr (Nat.le_refl _)) _).setCell (p := ⟨w.heap.size, 3, none⟩) (Or.inr (Nat.le_refl _)) _
  · have F1 : Hid (Fr (fun _ => False) w w1) := f0.trans f1
    by_cases hsz : 64 ≤ l.length ∧ l.length ≤ 4096
    · rw [show (decide (64 ≤ (l.length : Int)) && decide ((l.length : Int) ≤ 4096)) = true by simp; omega] at ki
      obtain ⟨B, HBd⟩ : ∃ B, Hid (l.take (l.length - 4) = B) := ⟨_, rfl⟩
      have hBl : Hid (B.length = l.length - 4) := by show _ = _; rw [← HBd.out]; simp
      rw [HBd.out] at hF
      obtain ⟨m, Hm⟩ : ∃ m, Hid (l.length - 4 = m) := ⟨_, rfl⟩
      have hm1 : 60 ≤ m ∧ m ≤ 4092 := by have := Hm.out; omega
      have hBm : Hid (B.length = m) := by show _ = _; rw [hBl.out, Hm.out]
      rw [Hm.out]
      have hrB : Row w1 a1 B m := by have := hF.1; rwa [hBm.out] at this
      have kn := noughts_any a1 B m w1 hrB
      rw [hBm.out] at kn
      have HKN : Hid (Calls _ _ _ _ _) := kn
      have HRB : Hid (Row w1 a1 B m) := hrB
      have HR1 : Hid (World.rowIs _ _ _ _ _) := f1.rowIs HRI.out (by simp)
      clear kn hrB hF
      go_wp2_with fail
      refine (ki w1).mono ?_
      rintro e w9 ⟨rfl, hw⟩
      subst w9
      go_wp2_with fail
      refine HKN.out.mono ?_
      rintro e w2 ⟨rfl, f2⟩
      have F2 : Hid (Fr (fun _ => False) w w2) := F1.out.trans f2
      have HR2 : Hid (World.rowIs _ _ _ _ _) := f2.rowIs HR1.out (by simp)
      cases hnz : nz B with
      | true =>
        have hri2 := HR2.out
        have c0 : w2.cell? ⟨w.heap.size, 0, none⟩ = some (.int .u64 0) := hri2.cell (i := 0) (by omega)
        have c1 : w2.cell? ⟨w.heap.size, 1, none⟩ = some (.int .i64 0) := hri2.cell (i := 1) (by omega)
        have c2 : w2.cell? ⟨w.heap.size, 2, none⟩ = some (.int .i64 0) := hri2.cell (i := 2) (by omega)
        have c3 : w2.cell? ⟨w.heap.size, 3, none⟩ = some (.slice none 0 0) := hri2.cell (i := 3) (by omega)
        have z0 := hri2.frozen 0
        have z1 := hri2.frozen 1
        have z2 := hri2.frozen 2
        have z3 := hri2.frozen 3
        clear hri2
        have HKZ : (2 : Int) ≠ 0 := by omega
        go_wp2
        refine bodyPost_ret (v := .tuple #[noPart, .int .i64 2]) (by simp [results, Tryd.results18, go_sem, c0, c1, c2, c3, noPart]) rfl ⟨2, HKZ, rfl, ?_⟩
        exact (((F2.out.setCell (p := ⟨w.heap.size, 0, none⟩) (Or.inr (Nat.le_refl _)) _).setCell (p := ⟨w.heap.size, 1, none⟩) (Or.inr (Nat.le_refl _)) _).setCell (p := ⟨w.heap.size, 2, none⟩) (Or.inr (Nat.le_refl _)) _).setCell (p := ⟨w.heap.size, 3, none⟩) (Or.inr (Nat.le_refl _)) _
      | false =>
        have hno : tells B = false := by
          cases ht : tells B with
          | false => rfl
          | true => exact absurd ⟨hsl, hsz.1, hsz.2, by rw [HBd.out]; exact hnz, by rw [HBd.out]; exact ht⟩ h
        have kp := parse_no a1 B m w2 (f2.row HRB.out (by simp)) (by rw [hBm.out]; omega) hno
        rw [hBm.out] at kp
        unfold noPart at kp
        have HKP : Hid (Calls _ _ _ _ _) := kp
        clear kp hno
        go_wp2_with fail
        refine HKP.out.mono ?_
        rintro e w3 ⟨rfl, f3⟩
        have HR3 : Hid (World.rowIs _ _ _ _ _) := f3.rowIs HR2.out (by simp)
        have F3 : Hid (Fr (fun _ => False) w w3) := F2.out.trans f3
        have hne3 : w.heap.size ≠ w3.heap.size := by have := HR3.out.lt; omega
        have HKZ : (5 : Int) ≠ 0 := by omega
        have hri4 := HR3.out.alloc (.cells #[.int .u64 0, .int .i64 0, .int .i64 0, .slice none 0 0] 39)
        have c0 : (w3.alloc (.cells #[.int .u64 0, .int .i64 0, .int .i64 0, .slice none 0 0] 39)).cell? ⟨w.heap.size, 0, none⟩ = some (.int .u64 0) := hri4.cell (i := 0) (by omega)
        have c1 : (w3.alloc (.cells #[.int .u64 0, .int .i64 0, .int .i64 0, .slice none 0 0] 39)).cell? ⟨w.heap.size, 1, none⟩ = some (.int .i64 0) := hri4.cell (i := 1) (by omega)
        have c2 : (w3.alloc (.cells #[.int .u64 0, .int .i64 0, .int .i64 0, .slice none 0 0] 39)).cell? ⟨w.heap.size, 2, none⟩ = some (.int .i64 0) := hri4.cell (i := 2) (by omega)
        have c3 : (w3.alloc (.cells #[.int .u64 0, .int .i64 0, .int .i64 0, .slice none 0 0] 39)).cell? ⟨w.heap.size, 3, none⟩ = some (.slice none 0 0) := hri4.cell (i := 3) (by omega)
        have z0 := hri4.frozen 0
        have z1 := hri4.frozen 1
        have z2 := hri4.frozen 2
        have z3 := hri4.frozen 3
        clear hri4
        go_wp2
        refine bodyPost_ret (v := .tuple #[noPart, .int .i64 5]) (by simp [results, Tryd.results18, go_sem, c0, c1, c2, c3, noPart]) rfl ⟨5, HKZ, rfl, ?_⟩
        exact ((((F3.out.alloc _).setCell (p := ⟨w.heap.size, 0, none⟩) (Or.inr (Nat.le_refl _)) _).setCell (p := ⟨w.heap.size, 1, none⟩) (Or.inr (Nat.le_refl _)) _).setCell (p := ⟨w.heap.size, 2, none⟩) (Or.inr (Nat.le_refl _)) _).setCell (p := ⟨w.heap.size, 3, none⟩) (Or.inr (Nat.le_refl _)) _
    · rw [show (decide (64 ≤ (l.length : Int)) && decide ((l.length : Int) ≤ 4096)) = false by simp; omega] at ki
      have HR1 : Hid (World.rowIs _ _ _ _ _) := f1.rowIs HRI.out (by simp)
      go_wp2_with fail
      refine (ki w1).mono ?_
      rintro e w9 ⟨rfl, hw⟩
      subst w9
      have HKZ : (5 : Int) ≠ 0 := by omega
      have hri1 := HR1.out
      have c0 : w1.cell? ⟨w.heap.size, 0, none⟩ = some (.int .u64 0) := hri1.cell (i := 0) (by omega)
      have c1 : w1.cell? ⟨w.heap.size, 1, none⟩ = some (.int .i64 0) := hri1.cell (i := 1) (by omega)
      have c2 : w1.cell? ⟨w.heap.size, 2, none⟩ = some (.int .i64 0) := hri1.cell (i := 2) (by omega)
      have c3 : w1.cell? ⟨w.heap.size, 3, none⟩ = some (.slice none 0 0) := hri1.cell (i := 3) (by omega)
      have z0 := hri1.frozen 0
      have z1 := hri1.frozen 1
      have z2 := hri1.frozen 2
      have z3 := hri1.frozen 3
      clear hri1
      go_wp2
      refine bodyPost_ret (v := .tuple #[noPart, .int .i64 5]) (by simp [results, Tryd.results18, go_sem, c0, c1, c2, c3, noPart]) rfl ⟨5, HKZ, rfl, ?_⟩
      exact (((F1.out.setCell (p := ⟨w.heap.size, 0, none⟩) (Or.inr (Nat.le_refl _)) _).setCell (p := ⟨w.heap.size, 1, none⟩) (Or.inr (Nat.le_refl _)) _).setCell (p := ⟨w.heap.size, 2, none⟩) (Or.inr (Nat.le_refl _)) _).setCell (p := ⟨w.heap.size, 3, none⟩) (Or.inr (Nat.le_refl _)) _
set_option maxRecDepth 100000 in
set_option maxHeartbeats 2000000 in
theorem readf_yes (ao : Option Addr) (l : List Nat) (cap : Nat) (w : World) (ht : Tab w) (hr : Row w ao l cap) (hlen : l.length ≤ 140737488355328) (h : readB l) :
    Calls Tryd.prog 18 #[.slice ao l.length cap] w fun e w' => ∃ a1 c1, e = .returned (.tuple #[.agg #[.int .u64 ((hId (l.take (l.length - 4)) : Nat) : Int), .int .i64 ((hAt (l.take (l.length - 4)) : Nat) : Int), .int .i64 ((hOf (l.take (l.length - 4)) : Nat) : Int), .slice a1 (hN (l.take (l.length - 4))) c1], .int .i64 0]) ∧ Row w' a1 (hData (l.take (l.length - 4))) c1 ∧ (∀ a, a1 = some a → w.heap.size ≤ a.block) ∧ Fr (fun _ => False) w w' := by
  have f0 := (Fr.refl (fun _ => False) w).alloc (.cells #[.int .u64 0, .int .i64 0, .int .i64 0, .slice none 0 0] 39)
  have ko := open_any ao l cap _ (f0.tab ht (by simp)) (f0.row hr (by simp)) hlen
  obtain ⟨W, HW⟩ : ∃ W, Hid (W = w.alloc (.cells #[.int .u64 0, .int .i64 0, .int .i64 0, .slice none 0 0] 39)) := ⟨_, rfl⟩
  have hri : W.rowIs w.heap.size 39 4 (fun i => (#[.int .u64 0, .int .i64 0, .int .i64 0, .slice none 0 0] : Array Value).getD i undef) := by
    rw [HW.out]; exact rowIs_lay w #[.int .u64 0, .int .i64 0, .int .i64 0, .slice none 0 0] 39
  rw [← HW.out] at f0 ko
  have HK : Hid (Calls _ _ _ _ _) := ko
  have HRI : Hid (World.rowIs _ _ _ _ _) := hri
  have HT : Hid (Tab w) := ht
  have HB : Hid (∀ x ∈ l, x < 256) := hr.2.2.1
  clear ko hri hr ht
  obtain ⟨hsl0, hsz1, hsz2, hnz, hte⟩ := h
  have HSL : Hid (isSealed l) := hsl0
  obtain ⟨B, HBd⟩ : ∃ B, Hid (l.take (l.length - 4) = B) := ⟨_, rfl⟩
  rw [HBd.out] at hnz hte ⊢
  obtain ⟨y2, Y2⟩ : ∃ y, Hid (hId B = y) := ⟨_, rfl⟩
  obtain ⟨y3, Y3⟩ : ∃ y, Hid (hAt B = y) := ⟨_, rfl⟩
  obtain ⟨y4, Y4⟩ : ∃ y, Hid (hOf B = y) := ⟨_, rfl⟩
  obtain ⟨y5, Y5⟩ : ∃ y, Hid (hN B = y) := ⟨_, rfl⟩
  rw [Y2.out, Y3.out, Y4.out, Y5.out]
  clear hsl0
  have ki := isSize_any (l.length : Int)
  go_enter Tryd.func18, Tryd.ntmps18
  go_wp2_with fail
  rw [← HW.out]
  refine HK.out.mono ?_
  rintro e w1 ⟨f1, ⟨hns, _⟩ | ⟨_, a1, rfl, hF⟩⟩
  · exact absurd HSL.out hns
  · have F1 : Hid (Fr (fun _ => False) w w1) := f0.trans f1
    rw [show (decide (64 ≤ (l.length : Int)) && decide ((l.length : Int) ≤ 4096)) = true by simp; omega] at ki
    have hBl : Hid (B.length = l.length - 4) := by show _ = _; rw [← HBd.out]; simp
    rw [HBd.out] at hF
    obtain ⟨m, Hm⟩ : ∃ m, Hid (l.length - 4 = m) := ⟨_, rfl⟩
    have hm1 : 60 ≤ m ∧ m ≤ 4092 := by have := Hm.out; omega
    have hBm : Hid (B.length = m) := by show _ = _; rw [hBl.out, Hm.out]
    rw [Hm.out]
    have hrB : Row w1 a1 B m := by have := hF.1; rwa [hBm.out] at this
    have kn := noughts_any a1 B m w1 hrB
    rw [hBm.out, hnz] at kn
    have HKN : Hid (Calls _ _ _ _ _) := kn
    have HRB : Hid (Row w1 a1 B m) := hrB
    have HR1 : Hid (World.rowIs _ _ _ _ _) := f1.rowIs HRI.out (by simp)
    clear kn hrB hF
    go_wp2_with fail
    refine (ki w1).mono ?_
    rintro e w9 ⟨rfl, hw⟩
    subst w9
    go_wp2_with fail
    refine HKN.out.mono ?_
    rintro e w2 ⟨rfl, f2⟩
    have F2 : Hid (Fr (fun _ => False) w w2) := F1.out.trans f2
    have HR2 : Hid (World.rowIs _ _ _ _ _) := f2.rowIs HR1.out (by simp)
    have kp := parse_yes a1 B m w2 (f2.row HRB.out (by simp)) (by rw [hBm.out]; omega) hte
    rw [hBm.out, Y2.out, Y3.out, Y4.out, Y5.out] at kp
    have HKP : Hid (Calls _ _ _ _ _) := kp
    clear kp
    go_wp2_with fail
    refine HKP.out.mono ?_
    rintro e w3 ⟨a8, c8, rfl, hr8, hb8, f3⟩
    have HR3 : Hid (World.rowIs _ _ _ _ _) := f3.rowIs HR2.out (by simp)
    have F3 : Hid (Fr (fun _ => False) w w3) := F2.out.trans f3
    have hs2 : w.heap.size < w2.heap.size := HR2.out.lt
    have hne3 : w.heap.size ≠ w3.heap.size := by have := HR3.out.lt; omega
    have HR8 : Hid (Row w3 a8 (hData B) c8) := hr8
    have HB8 : Hid (∀ a, a8 = some a → w.heap.size < a.block) := fun a ha => by have := hb8 a ha; omega
    have hri4 := HR3.out.alloc (.cells #[.int .u64 (y2 : Int), .int .i64 (y3 : Int), .int .i64 (y4 : Int), .slice a8 y5 c8] 39)
    have c0 : (w3.alloc (.cells #[.int .u64 (y2 : Int), .int .i64 (y3 : Int), .int .i64 (y4 : Int), .slice a8 y5 c8] 39)).cell? ⟨w.heap.size, 0, none⟩ = some (.int .u64 0) := hri4.cell (i := 0) (by omega)
    have c1 : (w3.alloc (.cells #[.int .u64 (y2 : Int), .int .i64 (y3 : Int), .int .i64 (y4 : Int), .slice a8 y5 c8] 39)).cell? ⟨w.heap.size, 1, none⟩ = some (.int .i64 0) := hri4.cell (i := 1) (by omega)
    have c2 : (w3.alloc (.cells #[.int .u64 (y2 : Int), .int .i64 (y3 : Int), .int .i64 (y4 : Int), .slice a8 y5 c8] 39)).cell? ⟨w.heap.size, 2, none⟩ = some (.int .i64 0) := hri4.cell (i := 2) (by omega)
    have c3 : (w3.alloc (.cells #[.int .u64 (y2 : Int), .int .i64 (y3 : Int), .int .i64 (y4 : Int), .slice a8 y5 c8] 39)).cell? ⟨w.heap.size, 3, none⟩ = some (.slice none 0 0) := hri4.cell (i := 3) (by omega)
    have z0 := hri4.frozen 0
    have z1 := hri4.frozen 1
    have z2 := hri4.frozen 2
    have z3 := hri4.frozen 3
    clear hri4 hr8 hb8
    go_wp2
    refine bodyPost_ret (v := .tuple #[.agg #[.int .u64 (y2 : Int), .int .i64 (y3 : Int), .int .i64 (y4 : Int), .slice a8 y5 c8], .int .i64 0]) (by simp [results, Tryd.results18, go_sem, c0, c1, c2, c3]) rfl ⟨a8, c8, rfl, ?_, fun a ha => Nat.le_of_lt (HB8.out a ha), ?_⟩
    · exact (((((Fr.refl (fun k => k = w.heap.size) w3).alloc _).setCell (p := ⟨w.heap.size, 0, none⟩) (Or.inl rfl) _).setCell (p := ⟨w.heap.size, 1, none⟩) (Or.inl rfl) _).setCell (p := ⟨w.heap.size, 2, none⟩) (Or.inl rfl) _ |>.setCell (p := ⟨w.heap.size, 3, none⟩) (Or.inl rfl) _).row HR8.out (fun _ a ha e => by have := HB8.out a ha; omega)
    · exact ((((F3.out.alloc _).setCell (p := ⟨w.heap.size, 0, none⟩) (Or.inr (Nat.le_refl _)) _).setCell (p := ⟨w.heap.size, 1, none⟩) (Or.inr (Nat.le_refl _)) _).setCell (p := ⟨w.heap.size, 2, none⟩) (Or.inr (Nat.le_refl _)) _).setCell (p := ⟨w.heap.size, 3, none⟩) (Or.inr (Nat.le_refl _)) _
end Go.Proofs.YtpnjcpamhelaeaaDoor
