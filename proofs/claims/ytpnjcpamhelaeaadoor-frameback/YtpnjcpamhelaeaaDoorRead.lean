/- What the program's Read tells of a frame. -/
import Derived.Test.YtpnjcpamhelaeaaDoorDummy
namespace Go.Proofs.YtpnjcpamhelaeaaDoor
open Go.RowKit

theorem open_sealed (ao : Option Addr) (l : List Nat) (cap : Nat) (w : World) (ht : Tab w) (hr : Row w ao (sealed l) cap) (hb : ∀ x ∈ l, x < 256) (hlen : l.length ≤ 1000000) :
    Calls Tryd.prog 33 #[.slice ao (l.length + 4) cap] w fun e w' => ∃ a1, e = .returned (.tuple #[.slice a1 l.length l.length, .int .i64 0]) ∧ Fresh w w' a1 l ∧ Fr (fun _ => False) w w' := by
  have hne : sealed l ≠ [] := fun e => by have := sealed_length l; rw [e] at this; simp at this
  have hl := sealed_length l
  obtain ⟨b, off, rfl, _⟩ := hr.2.2.2.2 hne
  have htk : (sealed l).take l.length = l := by unfold sealed; simp
  refine (open_long b off (sealed l) l.length cap w ht hr hl (by omega)).mono ?_
  rintro e w' ⟨hf, ⟨h1, _⟩ | ⟨_, a1, h1, h2⟩⟩
  · refine absurd ?_ h1
    have := (sealed_iff (sealed l) l.length hl (sealed_lt l hb)).1 (by rw [htk])
    exact this
  · rw [htk] at h2
    exact ⟨a1, h1, h2, hf⟩
theorem rowIs_lay (w : World) (cs : Array Value) (t : TypeId) : (w.alloc (.cells cs t)).rowIs w.heap.size t cs.size (fun i => cs.getD i undef) := World.rowIs_alloc w cs t _ (fun i hi => by simp [hi])
/-- a part of nothing. -/
def noPart : Value := .agg #[.int .u64 0, .int .i64 0, .int .i64 0, .slice none 0 0]
set_option maxRecDepth 100000 in
set_option maxHeartbeats 1000000 in
theorem read_dummy (n : Nat) (ao : Option Addr) (cap : Nat) (w : World) (ht : Tab w) (hr : Row w ao (dum n) cap) (h : 64 ≤ n ∧ n ≤ 4096) :
    Calls Tryd.prog 18 #[.slice ao n cap] w fun e w' => e = .returned (.tuple #[noPart, .int .i64 2]) ∧ Fr (fun _ => False) w w' := by
  obtain ⟨m, hm⟩ : ∃ m, n = m + 4 := ⟨n - 4, by omega⟩
  subst hm
  unfold dum at hr
  rw [show m + 4 - 4 = m by omega] at hr
  have f0 := (Fr.refl (fun _ => False) w).alloc (.cells #[.int .u64 0, .int .i64 0, .int .i64 0, .slice none 0 0] 39)
  have ko := open_sealed ao (List.replicate m 0) cap _ (f0.tab ht (by simp)) (f0.row hr (by simp)) (fun x hx => by have := List.eq_of_mem_replicate hx; omega) (by simp; omega)
  rw [List.length_replicate] at ko
  obtain ⟨W, HW⟩ : ∃ W, Hid (W = w.alloc (.cells #[.int .u64 0, .int .i64 0, .int .i64 0, .slice none 0 0] 39)) := ⟨_, rfl⟩
  have hri : W.rowIs w.heap.size 39 4 (fun i => (#[.int .u64 0, .int .i64 0, .int .i64 0, .slice none 0 0] : Array Value).getD i undef) := by
    rw [HW.out]; exact rowIs_lay w #[.int .u64 0, .int .i64 0, .int .i64 0, .slice none 0 0] 39
  rw [← HW.out] at f0 ko
  have HK : Hid (Calls _ _ _ _ _) := ko
  have HRI : Hid (World.rowIs _ _ _ _ _) := hri
  clear ko hri ht hr
  have ki := isSize_any ((m : Int) + 4)
  rw [show (decide (64 ≤ (m : Int) + 4) && decide ((m : Int) + 4 ≤ 4096)) = true by simp; omega] at ki
  go_enter Tryd.func18, Tryd.ntmps18
  go_wp2_with fail
  rw [← HW.out]
  refine HK.out.mono ?_
  rintro e w1 ⟨a1, rfl, hF, f1⟩
  have kn := noughts_any a1 (List.replicate m 0) m w1 (by have := hF.1; rwa [List.length_replicate] at this)
  rw [List.length_replicate, show nz (List.replicate m 0) = true by simp [nz]] at kn
  have HKN : Hid (Calls _ _ _ _ _) := kn
  have hri1 := f1.rowIs HRI.out (by simp)
  clear kn
  go_wp2_with fail
  refine (ki w1).mono ?_
  rintro e w9 ⟨rfl, hw⟩
  subst w9
  go_wp2_with fail
  refine HKN.out.mono ?_
  rintro e w2 ⟨rfl, f2⟩
  have hri2 := f2.rowIs hri1 (by simp)
  have c0 : w2.cell? ⟨w.heap.size, 0, none⟩ = some (.int .u64 0) := hri2.cell (i := 0) (by omega)
  have c1 : w2.cell? ⟨w.heap.size, 1, none⟩ = some (.int .i64 0) := hri2.cell (i := 1) (by omega)
  have c2 : w2.cell? ⟨w.heap.size, 2, none⟩ = some (.int .i64 0) := hri2.cell (i := 2) (by omega)
  have c3 : w2.cell? ⟨w.heap.size, 3, none⟩ = some (.slice none 0 0) := hri2.cell (i := 3) (by omega)
  have z0 := hri2.frozen 0
  have z1 := hri2.frozen 1
  have z2 := hri2.frozen 2
  have z3 := hri2.frozen 3
  clear hri1 hri2
  have F2 : Hid (Fr (fun _ => False) w w2) := (f0.trans f1).trans f2
  go_wp2
  refine bodyPost_ret (v := .tuple #[noPart, .int .i64 2]) (by simp [results, Tryd.results18, go_sem, c0, c1, c2, c3, noPart]) rfl ⟨rfl, ?_⟩
  exact (((F2.out.setCell (p := ⟨w.heap.size, 0, none⟩) (Or.inr (Nat.le_refl _)) _).setCell (p := ⟨w.heap.size, 1, none⟩) (Or.inr (Nat.le_refl _)) _).setCell (p := ⟨w.heap.size, 2, none⟩) (Or.inr (Nat.le_refl _)) _).setCell (p := ⟨w.heap.size, 3, none⟩) (Or.inr (Nat.le_refl _)) _
end Go.Proofs.YtpnjcpamhelaeaaDoor
