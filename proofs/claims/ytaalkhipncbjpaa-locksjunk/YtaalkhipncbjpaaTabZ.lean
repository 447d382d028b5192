/- The walk of LocksJunk. -/
import Derived.Test.YtaalkhipncbjpaaTabY
import Derived.Test.YtaalkhipncbjpaaTapeD
namespace Go.Proofs.Ytaalkhipncbjpaa
open Go Go.RowKit
attribute [local go_sem] run_store_float
theorem row_setB {w : World} {b off cap i x : Nat} {l : List Nat} (h : Row w (some ⟨b, off, none⟩) l cap) (hi : i < l.length) (hx : x < 256) : Row (w.setCell ⟨b, off + i, none⟩ (.int .u8 (x : Int))) (some ⟨b, off, none⟩) (l.set i x) cap := by
  obtain ⟨h1, h2, h3, h4, h5⟩ := h
  refine ⟨by rw [List.length_set]; exact h1, h2, fun y hy => ?_, h4, fun _ => ⟨b, off, rfl, fun j hj => ?_⟩⟩
  · rcases List.mem_or_eq_of_mem_set hy with hy | rfl
    · exact h3 y hy
    · exact hx
  · rw [List.length_set] at hj
    obtain ⟨b', off', he, hc⟩ := h5 (fun e => by rw [e] at hi; simp at hi)
    cases he
    by_cases hji : j = i
    · subst hji
      rw [World.cell?_setCell_same _ _ _ (hc j hj)]
      simp [List.getD_eq_getElem?_getD, hj]
    · rw [World.cell?_setCell_other _ _ _ _ (by simp), hc j hj]
      simp [List.getD_eq_getElem?_getD, Ne.symm hji]
theorem wrap_u8_smallB (n : Int) (h0 : 0 ≤ n) (h1 : n < 2 ^ 8) : IntKind.u8.wrap n = n := by
  simp [IntKind.wrap, IntKind.bits, IntKind.signed]; omega
theorem xor_u8B (a b : Nat) (ha : a < 256) (hb : b < 256) : bits .xor .u8 (a : Int) (b : Int) = ((a ^^^ b : Nat) : Int) ∧ a ^^^ b < 256 :=
  ⟨bits_xor_nat .u8 8 (by decide) wrap_u8_smallB a b (by simpa using ha) (by simpa using hb), Nat.xor_lt_two_pow (n := 8) ha hb⟩
theorem tiny_sh {x : Hd} (h : x.tiny) : x.sh := by unfold Hd.tiny at h; unfold Hd.sh; omega
theorem tiny_len {x : Hd} (h : x.tiny) : (encX x).length ≤ 370 := by
  unfold Hd.tiny at h
  unfold encX
  simp [Crc.le_length, encFl_len, encS_len]
  omega
theorem tinys_len (l : List Hd) (h : ∀ x ∈ l, x.tiny) : (l.flatMap encX).length ≤ 370 * l.length := by
  induction l with
  | nil => exact Nat.le_refl _
  | cons x l ih =>
    rw [List.flatMap_cons, List.length_append, List.length_cons]
    have := tiny_len (h x List.mem_cons_self)
    have := ih (fun y hy => h y (List.mem_cons_of_mem _ hy))
    omega
/-- a row that came in beside what is made later. -/
structure Ju (w0 w : World) (tp tb : Nat) (la : Option Addr) (l : List Nat) (lc : Nat) (a1 : Option Addr) (c1 : Nat) (ls : List Hd) : Prop where
  lo : w0.heap.size ≤ tp ∧ tp < tb
  tape : ∃ j, Tp w tp la l lc j
  la0 : l ≠ [] → ∀ a, la = some a → a.block < w0.heap.size
  tab : TabP w tb tb a1 c1 ls
  all : ∀ x ∈ ls, x.tiny ∧ x.u
  fr : Fr (fun _ => False) w0 w
theorem Ju.la1 {w0 w : World} {tp tb : Nat} {la : Option Addr} {l : List Nat} {lc : Nat} {a1 : Option Addr} {c1 : Nat} {ls : List Hd} (h : Ju w0 w tp tb la l lc a1 c1 ls) : l ≠ [] → ∀ a, la = some a → a.block < w.heap.size := fun hne a ha => by
  have := h.la0 hne a ha
  have := h.fr.size
  omega
theorem Ju.frT {w0 w w1 : World} {tp tb : Nat} {la : Option Addr} {l : List Nat} {lc : Nat} {a1 : Option Addr} {c1 : Nat} {ls : List Hd} (h : Ju w0 w tp tb la l lc a1 c1 ls) (f : Fr (fun k => k = tp) w w1) (ht : ∃ j, Tp w1 tp la l lc j) : Ju w0 w1 tp tb la l lc a1 c1 ls :=
  ⟨h.lo, ht, h.la0, h.tab.frLow f (fun k e => by have := h.lo; omega), h.all, h.fr.trans' f (fun i hi e => by have := h.lo; omega)⟩
theorem Ju.fr0 {w0 w w1 : World} {tp tb : Nat} {la : Option Addr} {l : List Nat} {lc : Nat} {a1 : Option Addr} {c1 : Nat} {ls : List Hd} (h : Ju w0 w tp tb la l lc a1 c1 ls) (f : Fr (fun _ => False) w w1) : Ju w0 w1 tp tb la l lc a1 c1 ls :=
  ⟨h.lo, by obtain ⟨j, hj⟩ := h.tape; exact ⟨j, hj.fr f (by simp) (by simp)⟩, h.la0, h.tab.fr f, h.all, h.fr.trans f⟩
theorem Ju.put {w0 w w1 : World} {tp tb : Nat} {la : Option Addr} {l : List Nat} {lc : Nat} {a1 a2 : Option Addr} {c1 c2 : Nat} {ls l2 : List Hd} (h : Ju w0 w tp tb la l lc a1 c1 ls) (f : Fr (fun k => k = tb ∨ ∃ a, a1 = some a ∧ a.block = k) w w1) (ht : TabP w1 tb tb a2 c2 l2) (ha : ∀ x ∈ l2, x.tiny ∧ x.u) : Ju w0 w1 tp tb la l lc a2 c2 l2 := by
  have hlo := h.lo
  have hbk := h.tab.blk
  refine ⟨h.lo, ?_, h.la0, ht, ha, h.fr.trans' f (fun i hi e => ?_)⟩
  · obtain ⟨j, hj⟩ := h.tape
    refine ⟨j, hj.fr f (fun e => ?_) (fun hne a ha e => ?_)⟩
    · rcases e with e | ⟨a, ha, e⟩
      · omega
      · have := hbk a ha; omega
    · have := h.la0 hne a ha
      rcases e with e | ⟨b, hb, e⟩
      · omega
      · have := hbk b hb; omega
  · rcases e with e | ⟨b, hb, e⟩
    · omega
    · have := hbk b hb; omega
theorem mem_fm {α : Type} {l : List α} {f : α → List Nat} (h : ∀ a ∈ l, ∀ b ∈ f a, b < 256) : ∀ b ∈ l.flatMap f, b < 256 := fun b hb => by
  obtain ⟨a, ha, hb2⟩ := List.mem_flatMap.1 hb
  exact h a ha b hb2
theorem app_lt {l m : List Nat} (h1 : ∀ b ∈ l, b < 256) (h2 : ∀ b ∈ m, b < 256) : ∀ b ∈ l ++ m, b < 256 := fun b hb => (List.mem_append.1 hb).elim (h1 b) (h2 b)
theorem encFl_lt (l : List Nat) : ∀ b ∈ encFl l, b < 256 := app_lt (Crc.le_lt _ _) (mem_fm fun _ _ => Crc.le_lt _ _)
theorem encS_lt (l : List (Nat × Nat)) : ∀ b ∈ encS l, b < 256 := app_lt (Crc.le_lt _ _) (mem_fm fun _ _ => app_lt (Crc.le_lt _ _) (Crc.le_lt _ _))
theorem encT_lt (ls : List Hd) (h : ∀ x ∈ ls, ∃ W, x.ok W) : ∀ b ∈ encT ls, b < 256 := by
  refine app_lt (Crc.le_lt _ _) (mem_fm fun x hx => ?_)
  obtain ⟨W, hW⟩ := h x hx
  unfold encX
  exact app_lt (app_lt (app_lt (app_lt (app_lt (app_lt (Crc.le_lt _ _) (Crc.le_lt _ _)) (Crc.le_lt _ _)) (encFl_lt _)) (encS_lt _)) (encFl_lt _)) (app_lt (Crc.le_lt _ _) hW.2.2.2.2.2.1)
set_option maxRecDepth 100000 in
set_option maxHeartbeats 40000000 in
theorem junk_walk (pa : Option Addr) (p : List Nat) (pc : Nat) (la : Option Addr) (l : List Nat) (lc at_ turn : Nat) (w : World) (hp : Row w pa p pc) (hl : Row w la l lc) (hat : at_ < 65536) (hturn : turn < 256) :
    Calls Try.prog 7 #[.slice pa p.length pc, .slice la l.length lc, .int .u16 (at_ : Int), .int .u8 (turn : Int)] w fun e w' => e = .returned (.bool true) ∧ Fr (fun _ => False) w w' := by
  have KA : Hid (∀ W, Calls _ _ _ _ _) := awake_any
  have HRL : Hid (Row w la l lc) := hl
  have HRP : Hid (Row w pa p pc) := hp
  have HBL : Hid (l ≠ [] → ∀ x, la = some x → x.block < w.heap.size) := fun hne x hx => by
    obtain ⟨g, off, hg, hc⟩ := hl.2.2.2.2 hne
    rw [hg] at hx
    cases hx
    exact World.block_lt_of_cell? _ _ (hc 0 (List.length_pos_iff.2 hne))
  have HBYT : Hid (∀ ls : List Hd, (∀ x ∈ ls, ∃ W, x.ok W) → ∀ b ∈ encT ls, b < 256) := encT_lt
  have hl1 : l.length ≤ 9223372036854775807 := by have := hl.1; have := hl.2.1; unfold maxLen at this; omega
  have hp1 : p.length ≤ 9223372036854775807 := by have := hp.1; have := hp.2.1; unfold maxLen at this; omega
  clear hl hp
  by_cases h1000 : 1000 < p.length
  · have z0 : (1000 : Int) < (p.length : Int) := by omega
    go_enter Try.func7, Try.ntmps7
    go_wp2_with fail
    refine (KA.out _).mono ?_
    rintro e w1 ⟨rfl, f1⟩
    have F1 : Hid (Fr (fun _ => False) w w1) := f1
    clear f1
    go_wp2_with fail
    refine (KA.out _).mono ?_
    rintro e w2 ⟨rfl, f2⟩
    go_wp2
    go_ret
    exact ⟨rfl, F1.out.trans f2⟩
  have z0 : ¬ (1000 : Int) < (p.length : Int) := by omega
  by_cases h300 : 300 < l.length
  · have z1 : (300 : Int) < (l.length : Int) := by omega
    go_enter Try.func7, Try.ntmps7
    go_wp2_with fail
    refine (KA.out _).mono ?_
    rintro e w1 ⟨rfl, f1⟩
    have F1 : Hid (Fr (fun _ => False) w w1) := f1
    clear f1
    go_wp2_with fail
    refine (KA.out _).mono ?_
    rintro e w2 ⟨rfl, f2⟩
    go_wp2
    go_ret
    exact ⟨rfl, F1.out.trans f2⟩
  have z1 : ¬ (300 : Int) < (l.length : Int) := by omega
  go_enter Try.func7, Try.ntmps7
  go_wp2_with fail
  refine (KA.out _).mono ?_
  rintro e w1 ⟨rfl, f1⟩
  have F1 : Hid (Fr (fun _ => False) w w1) := f1
  have KD : Hid (Calls _ _ _ _ _) := dec_any pa p pc w1 (f1.row HRP.out (by simp)) (by omega)
  clear f1 KA
  go_wp2_with fail
  refine KD.out.mono ?_
  rintro e w2 ⟨f2, rfl | ⟨td, ad, cd, ds, rfl, HD⟩⟩
  · have F2 : Hid (Fr (fun _ => False) w w2.drew) := (F1.out.trans f2).drew
    clear f2 KD
    go_wp2_with fail
    refine wp_region_held_drew (S := (fun _ : World => True)) (by kernel_rfl) trivial (fun hHeld => ?_)
    refine wpAnyH_take (i := 0) (oi := _) (v := ?_) (by rw [List.getElem?_toArray]; rfl) (by kernel_rfl) (by kernel_rfl) (by kernel_rfl) (fun _ _ _ h => by exact h) (Or.inl ⟨by rfl, ?_⟩) (by assumption) ?_
    rotate_left
    · (intro w hSw; (try dsimp only at hSw); go_simp; (try with_reducible rfl))
    try simp only [Act.put, List.setIfInBounds_toArray, List.set_cons_zero, List.set_cons_succ]
    refine wpAnyH_take (i := 1) (oi := _) (v := ?_) (by rw [List.getElem?_toArray]; rfl) (by kernel_rfl) (by kernel_rfl) (by kernel_rfl) (fun _ _ _ h => by exact h) (Or.inl ⟨by rfl, ?_⟩) (by assumption) ?_
    rotate_left
    · (intro w hSw; (try dsimp only at hSw); go_simp; (try with_reducible rfl))
    try simp only [Act.put, List.setIfInBounds_toArray, List.set_cons_zero, List.set_cons_succ]
    refine wpAnyH_take (i := 2) (oi := _) (v := ?_) (by rw [List.getElem?_toArray]; rfl) (by kernel_rfl) (by kernel_rfl) (by kernel_rfl) (fun _ _ _ h => by exact h) (Or.inl ⟨by rfl, ?_⟩) (by assumption) ?_
    rotate_left
    · (intro w hSw; (try dsimp only at hSw); go_simp; (try with_reducible rfl))
    try simp only [Act.put, List.setIfInBounds_toArray, List.set_cons_zero, List.set_cons_succ]
    refine wpAnyH_take (i := 3) (oi := _) (v := undef) (by rw [List.getElem?_toArray]; rfl) (by kernel_rfl) (by kernel_rfl) (by kernel_rfl) (fun _ _ _ h => by exact h) (Or.inr ⟨by rfl, rfl⟩) (by assumption) ?_
    try simp only [Act.put, List.setIfInBounds_toArray, List.set_cons_zero, List.set_cons_succ]
    refine wpAnyH_take (i := 4) (oi := _) (v := undef) (by rw [List.getElem?_toArray]; rfl) (by kernel_rfl) (by kernel_rfl) (by kernel_rfl) (fun _ _ _ h => by exact h) (Or.inr ⟨by rfl, rfl⟩) (by assumption) ?_
    try simp only [Act.put, List.setIfInBounds_toArray, List.set_cons_zero, List.set_cons_succ]
    refine wpAnyH_take (i := 5) (oi := _) (v := undef) (by rw [List.getElem?_toArray]; rfl) (by kernel_rfl) (by kernel_rfl) (by kernel_rfl) (fun _ _ _ h => by exact h) (Or.inr ⟨by rfl, rfl⟩) (by assumption) ?_
    try simp only [Act.put, List.setIfInBounds_toArray, List.set_cons_zero, List.set_cons_succ]
    refine wpAnyH_take (i := 6) (oi := _) (v := undef) (by rw [List.getElem?_toArray]; rfl) (by kernel_rfl) (by kernel_rfl) (by kernel_rfl) (fun _ _ _ h => by exact h) (Or.inr ⟨by rfl, rfl⟩) (by assumption) ?_
    try simp only [Act.put, List.setIfInBounds_toArray, List.set_cons_zero, List.set_cons_succ]
    refine wpAnyH_take (i := 7) (oi := _) (v := undef) (by rw [List.getElem?_toArray]; rfl) (by kernel_rfl) (by kernel_rfl) (by kernel_rfl) (fun _ _ _ h => by exact h) (Or.inr ⟨by rfl, rfl⟩) (by assumption) ?_
    try simp only [Act.put, List.setIfInBounds_toArray, List.set_cons_zero, List.set_cons_succ]
    refine wpAnyH_take (i := 8) (oi := _) (v := undef) (by rw [List.getElem?_toArray]; rfl) (by kernel_rfl) (by kernel_rfl) (by kernel_rfl) (fun _ _ _ h => by exact h) (Or.inr ⟨by rfl, rfl⟩) (by assumption) ?_
    try simp only [Act.put, List.setIfInBounds_toArray, List.set_cons_zero, List.set_cons_succ]
    refine wpAnyH_take (i := 9) (oi := _) (v := ?_) (by rw [List.getElem?_toArray]; rfl) (by kernel_rfl) (by kernel_rfl) (by kernel_rfl) (fun _ _ _ h => by exact h) (Or.inl ⟨by rfl, ?_⟩) (by assumption) ?_
    rotate_left
    · (intro w hSw; (try dsimp only at hSw); go_simp; (try with_reducible rfl))
    try simp only [Act.put, List.setIfInBounds_toArray, List.set_cons_zero, List.set_cons_succ]
    refine wpAnyH_take (i := 10) (oi := _) (v := ?_) (by rw [List.getElem?_toArray]; rfl) (by kernel_rfl) (by kernel_rfl) (by kernel_rfl) (fun _ _ _ h => by exact h) (Or.inl ⟨by rfl, ?_⟩) (by assumption) ?_
    rotate_left
    · (intro w hSw; (try dsimp only at hSw); go_simp; (try with_reducible rfl))
    try simp only [Act.put, List.setIfInBounds_toArray, List.set_cons_zero, List.set_cons_succ]
    refine wpAnyH_take (i := 11) (oi := _) (v := ?_) (by rw [List.getElem?_toArray]; rfl) (by kernel_rfl) (by kernel_rfl) (by kernel_rfl) (fun _ _ _ h => by exact h) (Or.inl ⟨by rfl, ?_⟩) (by assumption) ?_
    rotate_left
    · (intro w hSw; (try dsimp only at hSw); go_simp; (try with_reducible rfl))
    try simp only [Act.put, List.setIfInBounds_toArray, List.set_cons_zero, List.set_cons_succ]
    refine wpAnyH_take (i := 12) (oi := _) (v := ?_) (by rw [List.getElem?_toArray]; rfl) (by kernel_rfl) (by kernel_rfl) (by kernel_rfl) (fun _ _ _ h => by exact h) (Or.inl ⟨by rfl, ?_⟩) (by assumption) ?_
    rotate_left
    · (intro w hSw; (try dsimp only at hSw); go_simp; (try with_reducible rfl))
    try simp only [Act.put, List.setIfInBounds_toArray, List.set_cons_zero, List.set_cons_succ]
    refine wpAnyH_take (i := 13) (oi := _) (v := ?_) (by rw [List.getElem?_toArray]; rfl) (by kernel_rfl) (by kernel_rfl) (by kernel_rfl) (fun _ _ _ h => by exact h) (Or.inl ⟨by rfl, ?_⟩) (by assumption) ?_
    rotate_left
    · (intro w hSw; (try dsimp only at hSw); go_simp; (try with_reducible rfl))
    try simp only [Act.put, List.setIfInBounds_toArray, List.set_cons_zero, List.set_cons_succ]
    refine wpAnyH_take (i := 14) (oi := _) (v := ?_) (by rw [List.getElem?_toArray]; rfl) (by kernel_rfl) (by kernel_rfl) (by kernel_rfl) (fun _ _ _ h => by exact h) (Or.inl ⟨by rfl, ?_⟩) (by assumption) ?_
    rotate_left
    · (intro w hSw; (try dsimp only at hSw); go_simp; (try with_reducible rfl))
    try simp only [Act.put, List.setIfInBounds_toArray, List.set_cons_zero, List.set_cons_succ]
    refine wpAnyH_take (i := 15) (oi := _) (v := ?_) (by rw [List.getElem?_toArray]; rfl) (by kernel_rfl) (by kernel_rfl) (by kernel_rfl) (fun _ _ _ h => by exact h) (Or.inl ⟨by rfl, ?_⟩) (by assumption) ?_
    rotate_left
    · (intro w hSw; (try dsimp only at hSw); go_simp; (try with_reducible rfl))
    try simp only [Act.put, List.setIfInBounds_toArray, List.set_cons_zero, List.set_cons_succ]
    refine wpAnyH_take (i := 16) (oi := _) (v := ?_) (by rw [List.getElem?_toArray]; rfl) (by kernel_rfl) (by kernel_rfl) (by kernel_rfl) (fun _ _ _ h => by exact h) (Or.inl ⟨by rfl, ?_⟩) (by assumption) ?_
    rotate_left
    · (intro w hSw; (try dsimp only at hSw); go_simp; (try with_reducible rfl))
    try simp only [Act.put, List.setIfInBounds_toArray, List.set_cons_zero, List.set_cons_succ]
    refine wpAnyH_take (i := 17) (oi := _) (v := ?_) (by rw [List.getElem?_toArray]; rfl) (by kernel_rfl) (by kernel_rfl) (by kernel_rfl) (fun _ _ _ h => by exact h) (Or.inl ⟨by rfl, ?_⟩) (by assumption) ?_
    rotate_left
    · (intro w hSw; (try dsimp only at hSw); go_simp; (try with_reducible rfl))
    try simp only [Act.put, List.setIfInBounds_toArray, List.set_cons_zero, List.set_cons_succ]
    refine wpAnyH_take (i := 18) (oi := _) (v := ?_) (by rw [List.getElem?_toArray]; rfl) (by kernel_rfl) (by kernel_rfl) (by kernel_rfl) (fun _ _ _ h => by exact h) (Or.inl ⟨by rfl, ?_⟩) (by assumption) ?_
    rotate_left
    · (intro w hSw; (try dsimp only at hSw); go_simp; (try with_reducible rfl))
    try simp only [Act.put, List.setIfInBounds_toArray, List.set_cons_zero, List.set_cons_succ]
    refine wpAnyH_take (i := 19) (oi := _) (v := ?_) (by rw [List.getElem?_toArray]; rfl) (by kernel_rfl) (by kernel_rfl) (by kernel_rfl) (fun _ _ _ h => by exact h) (Or.inl ⟨by rfl, ?_⟩) (by assumption) ?_
    rotate_left
    · (intro w hSw; (try dsimp only at hSw); go_simp; (try with_reducible rfl))
    try simp only [Act.put, List.setIfInBounds_toArray, List.set_cons_zero, List.set_cons_succ]
    refine wpAnyH_take (i := 20) (oi := _) (v := ?_) (by rw [List.getElem?_toArray]; rfl) (by kernel_rfl) (by kernel_rfl) (by kernel_rfl) (fun _ _ _ h => by exact h) (Or.inl ⟨by rfl, ?_⟩) (by assumption) ?_
    rotate_left
    · (intro w hSw; (try dsimp only at hSw); go_simp; (try with_reducible rfl))
    try simp only [Act.put, List.setIfInBounds_toArray, List.set_cons_zero, List.set_cons_succ]
    refine wpAnyH_take (i := 21) (oi := _) (v := ?_) (by rw [List.getElem?_toArray]; rfl) (by kernel_rfl) (by kernel_rfl) (by kernel_rfl) (fun _ _ _ h => by exact h) (Or.inl ⟨by rfl, ?_⟩) (by assumption) ?_
    rotate_left
    · (intro w hSw; (try dsimp only at hSw); go_simp; (try with_reducible rfl))
    try simp only [Act.put, List.setIfInBounds_toArray, List.set_cons_zero, List.set_cons_succ]
    refine wpAnyH_done (by kernel_rfl) ?_ _
    obtain ⟨W0, HW0⟩ : ∃ W, Hid (w2.drew = W) := ⟨_, rfl⟩
    rw [HW0.out] at F2 ⊢
    have FN : Hid (Fr (fun _ => False) w ((W0.alloc (.cells #[.slice la l.length lc, .int .i64 0] 34)).alloc (.cells #[.slice none 0 0] 88))) := (F2.out.alloc _).alloc _
    have HT0 : Hid (TabP ((W0.alloc (.cells #[.slice la l.length lc, .int .i64 0] 34)).alloc (.cells #[.slice none 0 0] 88)) (W0.heap.size + 1) (W0.heap.size + 1) none 0 []) := (show TabP _ _ _ _ _ _ by have := tab_new (W0.alloc (.cells #[.slice la l.length lc, .int .i64 0] 34)) 88; simpa using this)
    have HTP : Hid (Tp ((W0.alloc (.cells #[.slice la l.length lc, .int .i64 0] 34)).alloc (.cells #[.slice none 0 0] 88)) W0.heap.size la l lc 0) := (show Tp _ _ _ _ _ _ by
      have h1 : Tp (W0.alloc (.cells #[.slice la l.length lc, .int .i64 0] 34)) W0.heap.size la l lc 0 := ⟨by simp, by simp, by simp, (F2.out.alloc _).row HRL.out (by simp), Nat.zero_le _, fun hne x hx e => by have := HBL.out hne x hx; have := F2.out.size; omega⟩
      exact h1.fr ((Fr.refl (fun _ => False) _).alloc _) (by simp) (by simp))
    have HSZ : Hid (w.heap.size ≤ W0.heap.size) := F2.out.size
    go_wp2_with (go_at_call 16; refine (new_any _).mono ?_; rintro e w6 ⟨rfl, rfl⟩)
    have hsz1 : (W0.alloc (.cells #[.slice la l.length lc, .int .i64 0] 34)).heap.size = W0.heap.size + 1 := by simp
    try rw [hsz1]
    clear hsz1
    obtain ⟨tp, Htp⟩ : ∃ t, Hid (W0.heap.size = t) := ⟨_, rfl⟩
    rw [Htp.out] at HT0 HTP HSZ ⊢
    obtain ⟨tb, Htb⟩ : ∃ t, Hid (tp + 1 = t) := ⟨_, rfl⟩
    rw [Htb.out] at HT0 ⊢
    obtain ⟨W1, HW1⟩ : ∃ W, Hid ((W0.alloc (.cells #[.slice la l.length lc, .int .i64 0] 34)).alloc (.cells #[.slice none 0 0] 88) = W) := ⟨_, rfl⟩
    rw [HW1.out] at HT0 HTP FN ⊢
    have HJU : Hid (Ju w W1 tp tb la l lc none 0 []) := ⟨⟨HSZ.out, by have := Htb.out; omega⟩, ⟨0, HTP.out⟩, HBL.out, HT0.out, fun x hx => (by cases hx), FN.out⟩
    clear HT0 HTP FN
    go_wp2
    go_loopw [13] (fun iv wr => ∃ (k : Nat) (a1 : Option Addr) (c1 : Nat) (ls : List Hd), k ≤ 6 ∧ iv = .int .i64 (k : Int) ∧ Hid (ls.length ≤ k) ∧ Hid (Ju w wr tp tb la l lc a1 c1 ls)) (fun iv _ => 6 - (intOf iv).toNat)
    case atStart => exact ⟨0, none, 0, [], by omega, rfl, Nat.le_refl _, HJU.out⟩
    case round =>
      obtain ⟨k, a1, c1, ls, hk, rfl, HLL, HJ⟩ := hrel
      by_cases hk6 : k < 6
      · have y1 : (k : Int) < 6 := by omega
        have KH : Hid (Calls _ _ _ _ _) := hold_u HJ.out.tape.choose_spec HJ.out.la1
        go_wp2_with fail
        refine KH.out.mono ?_
        rintro e w3 ⟨x, rfl, hxt, hxu, hxo, _, hj3, f3⟩
        have HJ3 : Hid (Ju w w3 tp tb la l lc a1 c1 ls) := HJ.out.frT f3 hj3
        have HXT : Hid (x.tiny ∧ x.u) := ⟨hxt, hxu⟩
        have KT : Hid (Calls _ _ _ _ _) := take_any x tb tb a1 c1 ls w3 HJ3.out.tab hxo (tiny_sh hxt) (by have := HLL.out; omega)
        clear hxt hxu hxo hj3 f3 KH
        go_wp2_with fail
        refine KT.out.mono ?_
        rintro e w4 (⟨_, rfl, f4⟩ | ⟨_, rfl, q, y, a2, c2, hq, hlk, hT4, f4⟩)
        · have HJ4 : Hid (Ju w w4 tp tb la l lc a1 c1 ls) := HJ3.out.fr0 f4
          clear f4 KT
          go_wp2
          go_roundw
          case rel => exact ⟨k + 1, a1, c1, ls, by omega, by go_num, Nat.le_succ_of_le HLL.out, HJ4.out⟩
          case measure => simp [intOf]; omega
        · have HJ4 : Hid (Ju w w4 tp tb la l lc a2 c2 (putH ls q y)) := HJ3.out.put f4 hT4 (fun z hz => by
            rcases mem_put hz with rfl | hz
            · have h8 := HXT.out
              unfold Hd.tiny Hd.u at h8 ⊢
              obtain ⟨e0, e1, e2, e3, e4, e5, e6⟩ := hlk
              rw [e0, e1, e2, e3, e4, e5, e6]
              exact h8
            · exact HJ3.out.all z hz)
          have HL4 : Hid ((putH ls q y).length ≤ k + 1) := (show _ ≤ _ by have := put_len (x := y) hq.le; have := HLL.out; omega)
          clear hq hlk hT4 f4 KT
          go_wp2
          go_roundw
          case rel => exact ⟨k + 1, a2, c2, _, by omega, by go_num, HL4.out, HJ4.out⟩
          case measure => simp [intOf]; omega
      · have y1 : ¬ (k : Int) < 6 := by omega
        have HSL : Hid ((encT ls).length ≤ 3000) := (show _ ≤ _ by unfold encT; rw [List.length_append, Crc.le_length]; have := tinys_len ls (fun x hx => (HJ.out.all x hx).1); have := HLL.out; omega)
        have KE : Hid (Calls _ _ _ _ _) := enc_any tb tb a1 c1 ls wr HJ.out.tab (fun x hx => (HJ.out.all x hx).2) (by have := HSL.out; omega) (by have := HLL.out; omega)
        have HFR : Hid (Fr (fun _ => False) w wr) := HJ.out.fr
        have HNE : Hid (0 < (encT ls).length) := (show _ < _ by unfold encT; rw [List.length_append, Crc.le_length]; omega)
        have HBY : Hid (∀ x ∈ encT ls, x < 256) := HBYT.out ls (fun x hx => ⟨_, HJ.out.tab.ok x hx⟩)
        obtain ⟨qs, Hqs⟩ : ∃ q, Hid (encT ls = q) := ⟨_, rfl⟩
        obtain ⟨n, Hn⟩ : ∃ n, Hid (qs.length = n) := ⟨_, rfl⟩
        rw [Hqs.out] at HSL KE HNE HBY
        rw [Hn.out] at HSL HNE
        go_wp2_with fail
        refine KE.out.mono ?_
        rintro e w10 ⟨a10, rfl, hf10, f10⟩
        have HF10 : Hid (Fr (fun _ => False) w w10) := HFR.out.trans f10
        have HWR : Hid (w.heap.size ≤ wr.heap.size) := HFR.out.size
        obtain ⟨hq, hqa⟩ := hf10
        obtain ⟨g, o, rfl, hcell⟩ := hq.2.2.2.2 (by intro e; have h := HNE.out; rw [← Hn.out, e] at h; simp at h)
        obtain ⟨hg1, hg2, ho, _, cur, hcur⟩ := hqa _ rfl
        simp only at ho hg1 hg2 hcur
        subst ho
        have HQ : Hid (Row w10 (some ⟨g, 0, none⟩) qs n) := (by have h := hq; rw [Hn.out] at h; exact h)
        have hn0 := HNE.out
        have hnS := HSL.out
        obtain ⟨i, Hi⟩ : ∃ i, Hid (at_ % n = i) := ⟨_, rfl⟩
        have hi : i < n := by rw [← Hi.out]; exact Nat.mod_lt _ hn0
        have em2 : (at_ : Int) % (n : Int) = (i : Int) := by rw [← Hi.out]; rfl
        have em : (at_ : Int).tmod (n : Int) = (i : Int) := by rw [← Hi.out]; rfl
        have en0 : ¬ ((n : Int) = 0) := by omega
        have en1 : ((n : Int) == 0) = false := by simpa using (show ¬ n = 0 by omega)
        obtain ⟨z, Hz⟩ : ∃ z, Hid (qs.getD i 0 = z) := ⟨_, rfl⟩
        have cz := hcell i (by rw [Hn.out]; exact hi)
        rw [Hz.out, Nat.zero_add] at cz
        have hz8 : z < 256 := by rw [← Hz.out, List.getD_eq_getElem?_getD, List.getElem?_eq_getElem (by rw [Hn.out]; exact hi)]; exact HBY.out _ (List.getElem_mem _)
        obtain ⟨y, ey, hy8⟩ : ∃ y : Nat, bits .xor .u8 (z : Int) (turn : Int) = (y : Int) ∧ y < 256 := ⟨_, xor_u8B z turn hz8 hturn⟩
        have fz : w10.frozen? ⟨g, i, none⟩ = false := by simp [World.frozen?, hcur]
        have i0 : (0 : Int) ≤ (i : Int) := by omega
        have il : (i : Int) < (n : Int) := by omega
        have hgw : w.heap.size ≤ g := by have := HWR.out; omega
        rw [Hn.out]
        clear hq hqa hcell hcur f10 KE HWR
        go_wp2_with fail
        have HFS : Hid (Fr (fun _ => False) w (w10.setCell ⟨g, i, none⟩ (.int .u8 (y : Int)))) := HF10.out.setCell (.inr hgw) _
        obtain ⟨q, Hq⟩ : ∃ q, Hid (qs.set i y = q) := ⟨_, rfl⟩
        have HQS : Hid (Row (w10.setCell ⟨g, i, none⟩ (.int .u8 (y : Int))) (some ⟨g, 0, none⟩) q n) := (by have h := row_setB HQ.out (by rw [Hn.out]; exact hi) hy8; rw [Nat.zero_add, Hq.out] at h; exact h)
        have HQL : Hid (q.length = n) := (by show _ = _; rw [← Hq.out, List.length_set]; exact Hn.out)
        have K3 := dec_any (some ⟨g, 0, none⟩) q n (w10.setCell ⟨g, i, none⟩ (.int .u8 (y : Int))) HQS.out (by have h := HQL.out; omega)
        rw [HQL.out] at K3
        have HK3 : Hid (Calls _ _ _ _ _) := K3
        clear K3
        go_wp2_with fail
        refine HK3.out.mono ?_
        rintro e w12 ⟨f12, rfl | ⟨te, ae, ce, es, rfl, HE⟩⟩
        · have F12 : Hid (Fr (fun _ => False) w w12.drew) := (HFS.out.trans f12).drew
          clear f12
          go_wp2_with fail
          refine wp_region_held_drew (S := (fun _ : World => True)) (by kernel_rfl) trivial (fun hHeld => ?_)
          refine wpAnyH_take (i := 0) (oi := _) (v := ?_) (by rw [List.getElem?_toArray]; rfl) (by kernel_rfl) (by kernel_rfl) (by kernel_rfl) (fun _ _ _ h => by exact h) (Or.inl ⟨by rfl, ?_⟩) (by assumption) ?_
          rotate_left
          · (intro w hSw; (try dsimp only at hSw); go_simp; (try with_reducible rfl))
          try simp only [Act.put, List.setIfInBounds_toArray, List.set_cons_zero, List.set_cons_succ]
          refine wpAnyH_take (i := 1) (oi := _) (v := ?_) (by rw [List.getElem?_toArray]; rfl) (by kernel_rfl) (by kernel_rfl) (by kernel_rfl) (fun _ _ _ h => by exact h) (Or.inl ⟨by rfl, ?_⟩) (by assumption) ?_
          rotate_left
          · (intro w hSw; (try dsimp only at hSw); go_simp; (try with_reducible rfl))
          try simp only [Act.put, List.setIfInBounds_toArray, List.set_cons_zero, List.set_cons_succ]
          refine wpAnyH_take (i := 2) (oi := _) (v := ?_) (by rw [List.getElem?_toArray]; rfl) (by kernel_rfl) (by kernel_rfl) (by kernel_rfl) (fun _ _ _ h => by exact h) (Or.inl ⟨by rfl, ?_⟩) (by assumption) ?_
          rotate_left
          · (intro w hSw; (try dsimp only at hSw); go_simp; (try with_reducible rfl))
          try simp only [Act.put, List.setIfInBounds_toArray, List.set_cons_zero, List.set_cons_succ]
          refine wpAnyH_take (i := 3) (oi := _) (v := undef) (by rw [List.getElem?_toArray]; rfl) (by kernel_rfl) (by kernel_rfl) (by kernel_rfl) (fun _ _ _ h => by exact h) (Or.inr ⟨by rfl, rfl⟩) (by assumption) ?_
          try simp only [Act.put, List.setIfInBounds_toArray, List.set_cons_zero, List.set_cons_succ]
          refine wpAnyH_take (i := 4) (oi := _) (v := undef) (by rw [List.getElem?_toArray]; rfl) (by kernel_rfl) (by kernel_rfl) (by kernel_rfl) (fun _ _ _ h => by exact h) (Or.inr ⟨by rfl, rfl⟩) (by assumption) ?_
          try simp only [Act.put, List.setIfInBounds_toArray, List.set_cons_zero, List.set_cons_succ]
          refine wpAnyH_take (i := 5) (oi := _) (v := undef) (by rw [List.getElem?_toArray]; rfl) (by kernel_rfl) (by kernel_rfl) (by kernel_rfl) (fun _ _ _ h => by exact h) (Or.inr ⟨by rfl, rfl⟩) (by assumption) ?_
          try simp only [Act.put, List.setIfInBounds_toArray, List.set_cons_zero, List.set_cons_succ]
          refine wpAnyH_take (i := 6) (oi := _) (v := undef) (by rw [List.getElem?_toArray]; rfl) (by kernel_rfl) (by kernel_rfl) (by kernel_rfl) (fun _ _ _ h => by exact h) (Or.inr ⟨by rfl, rfl⟩) (by assumption) ?_
          try simp only [Act.put, List.setIfInBounds_toArray, List.set_cons_zero, List.set_cons_succ]
          refine wpAnyH_take (i := 7) (oi := _) (v := undef) (by rw [List.getElem?_toArray]; rfl) (by kernel_rfl) (by kernel_rfl) (by kernel_rfl) (fun _ _ _ h => by exact h) (Or.inr ⟨by rfl, rfl⟩) (by assumption) ?_
          try simp only [Act.put, List.setIfInBounds_toArray, List.set_cons_zero, List.set_cons_succ]
          refine wpAnyH_take (i := 8) (oi := _) (v := undef) (by rw [List.getElem?_toArray]; rfl) (by kernel_rfl) (by kernel_rfl) (by kernel_rfl) (fun _ _ _ h => by exact h) (Or.inr ⟨by rfl, rfl⟩) (by assumption) ?_
          try simp only [Act.put, List.setIfInBounds_toArray, List.set_cons_zero, List.set_cons_succ]
          refine wpAnyH_take (i := 9) (oi := _) (v := ?_) (by rw [List.getElem?_toArray]; rfl) (by kernel_rfl) (by kernel_rfl) (by kernel_rfl) (fun _ _ _ h => by exact h) (Or.inl ⟨by rfl, ?_⟩) (by assumption) ?_
          rotate_left
          · (intro w hSw; (try dsimp only at hSw); go_simp; (try with_reducible rfl))
          try simp only [Act.put, List.setIfInBounds_toArray, List.set_cons_zero, List.set_cons_succ]
          refine wpAnyH_take (i := 10) (oi := _) (v := ?_) (by rw [List.getElem?_toArray]; rfl) (by kernel_rfl) (by kernel_rfl) (by kernel_rfl) (fun _ _ _ h => by exact h) (Or.inl ⟨by rfl, ?_⟩) (by assumption) ?_
          rotate_left
          · (intro w hSw; (try dsimp only at hSw); go_simp; (try with_reducible rfl))
          try simp only [Act.put, List.setIfInBounds_toArray, List.set_cons_zero, List.set_cons_succ]
          refine wpAnyH_take (i := 11) (oi := _) (v := ?_) (by rw [List.getElem?_toArray]; rfl) (by kernel_rfl) (by kernel_rfl) (by kernel_rfl) (fun _ _ _ h => by exact h) (Or.inl ⟨by rfl, ?_⟩) (by assumption) ?_
          rotate_left
          · (intro w hSw; (try dsimp only at hSw); go_simp; (try with_reducible rfl))
          try simp only [Act.put, List.setIfInBounds_toArray, List.set_cons_zero, List.set_cons_succ]
          refine wpAnyH_take (i := 12) (oi := _) (v := ?_) (by rw [List.getElem?_toArray]; rfl) (by kernel_rfl) (by kernel_rfl) (by kernel_rfl) (fun _ _ _ h => by exact h) (Or.inl ⟨by rfl, ?_⟩) (by assumption) ?_
          rotate_left
          · (intro w hSw; (try dsimp only at hSw); go_simp; (try with_reducible rfl))
          try simp only [Act.put, List.setIfInBounds_toArray, List.set_cons_zero, List.set_cons_succ]
          refine wpAnyH_take (i := 13) (oi := _) (v := ?_) (by rw [List.getElem?_toArray]; rfl) (by kernel_rfl) (by kernel_rfl) (by kernel_rfl) (fun _ _ _ h => by exact h) (Or.inl ⟨by rfl, ?_⟩) (by assumption) ?_
          rotate_left
          · (intro w hSw; (try dsimp only at hSw); go_simp; (try with_reducible rfl))
          try simp only [Act.put, List.setIfInBounds_toArray, List.set_cons_zero, List.set_cons_succ]
          refine wpAnyH_take (i := 14) (oi := _) (v := ?_) (by rw [List.getElem?_toArray]; rfl) (by kernel_rfl) (by kernel_rfl) (by kernel_rfl) (fun _ _ _ h => by exact h) (Or.inl ⟨by rfl, ?_⟩) (by assumption) ?_
          rotate_left
          · (intro w hSw; (try dsimp only at hSw); go_simp; (try with_reducible rfl))
          try simp only [Act.put, List.setIfInBounds_toArray, List.set_cons_zero, List.set_cons_succ]
          refine wpAnyH_take (i := 15) (oi := _) (v := ?_) (by rw [List.getElem?_toArray]; rfl) (by kernel_rfl) (by kernel_rfl) (by kernel_rfl) (fun _ _ _ h => by exact h) (Or.inl ⟨by rfl, ?_⟩) (by assumption) ?_
          rotate_left
          · (intro w hSw; (try dsimp only at hSw); go_simp; (try with_reducible rfl))
          try simp only [Act.put, List.setIfInBounds_toArray, List.set_cons_zero, List.set_cons_succ]
          refine wpAnyH_take (i := 16) (oi := _) (v := ?_) (by rw [List.getElem?_toArray]; rfl) (by kernel_rfl) (by kernel_rfl) (by kernel_rfl) (fun _ _ _ h => by exact h) (Or.inl ⟨by rfl, ?_⟩) (by assumption) ?_
          rotate_left
          · (intro w hSw; (try dsimp only at hSw); go_simp; (try with_reducible rfl))
          try simp only [Act.put, List.setIfInBounds_toArray, List.set_cons_zero, List.set_cons_succ]
          refine wpAnyH_take (i := 17) (oi := _) (v := ?_) (by rw [List.getElem?_toArray]; rfl) (by kernel_rfl) (by kernel_rfl) (by kernel_rfl) (fun _ _ _ h => by exact h) (Or.inl ⟨by rfl, ?_⟩) (by assumption) ?_
          rotate_left
          · (intro w hSw; (try dsimp only at hSw); go_simp; (try with_reducible rfl))
          try simp only [Act.put, List.setIfInBounds_toArray, List.set_cons_zero, List.set_cons_succ]
          refine wpAnyH_take (i := 18) (oi := _) (v := ?_) (by rw [List.getElem?_toArray]; rfl) (by kernel_rfl) (by kernel_rfl) (by kernel_rfl) (fun _ _ _ h => by exact h) (Or.inl ⟨by rfl, ?_⟩) (by assumption) ?_
          rotate_left
          · (intro w hSw; (try dsimp only at hSw); go_simp; (try with_reducible rfl))
          try simp only [Act.put, List.setIfInBounds_toArray, List.set_cons_zero, List.set_cons_succ]
          refine wpAnyH_done (by kernel_rfl) ?_ _
          go_wp2
          go_ret
          exact ⟨rfl, F12.out⟩
        · obtain ⟨HTE, hee, HUE, hel, _⟩ := HE.out
          have HTE2 : Hid (TabP w12 te te ae ce es) := HTE
          have HUE2 : Hid (∀ x ∈ es, x.u) := HUE
          have F12 : Hid (Fr (fun _ => False) (w10.setCell ⟨g, i, none⟩ (.int .u8 (y : Int))) w12) := f12
          have HQD : Hid (Row w12.drew (some ⟨g, 0, none⟩) q n) := F12.out.drew.row HQS.out (by simp)
          have KQ := enc_any te te ae ce es w12.drew (HTE2.out.fr (Fr.refl _ _).drew) HUE2.out (by rw [hee, HQL.out]; omega) (by omega)
          rw [hee] at KQ
          have HKQ : Hid (Calls _ _ _ _ _) := KQ
          clear KQ f12 HE HTE HUE hee HK3
          go_wp2_with fail
          refine wp_region_held_drew (S := (fun W => Row W (some ⟨g, 0, none⟩) q n)) (by kernel_rfl) HQD.out (fun hHeld => ?_)
          refine wpAnyH_take (i := 0) (oi := _) (v := ?_) (by rw [List.getElem?_toArray]; rfl) (by kernel_rfl) (by kernel_rfl) (by kernel_rfl) (fun _ _ _ h => by exact h) (Or.inl ⟨by rfl, ?_⟩) (by assumption) ?_
          rotate_left
          · (intro w hSw; (try dsimp only at hSw); go_simp; (try with_reducible rfl))
          try simp only [Act.put, List.setIfInBounds_toArray, List.set_cons_zero, List.set_cons_succ]
          refine wpAnyH_take (i := 1) (oi := _) (v := ?_) (by rw [List.getElem?_toArray]; rfl) (by kernel_rfl) (by kernel_rfl) (by kernel_rfl) (fun _ _ _ h => by exact h) (Or.inl ⟨by rfl, ?_⟩) (by assumption) ?_
          rotate_left
          · (intro w hSw; (try dsimp only at hSw); go_simp; (try with_reducible rfl))
          try simp only [Act.put, List.setIfInBounds_toArray, List.set_cons_zero, List.set_cons_succ]
          refine wpAnyH_take (i := 2) (oi := _) (v := ?_) (by rw [List.getElem?_toArray]; rfl) (by kernel_rfl) (by kernel_rfl) (by kernel_rfl) (fun _ _ _ h => by exact h) (Or.inl ⟨by rfl, ?_⟩) (by assumption) ?_
          rotate_left
          · (intro w hSw; (try dsimp only at hSw); go_simp; (try with_reducible rfl))
          try simp only [Act.put, List.setIfInBounds_toArray, List.set_cons_zero, List.set_cons_succ]
          refine wpAnyH_take (i := 3) (oi := _) (v := ?_) (by rw [List.getElem?_toArray]; rfl) (by kernel_rfl) (by kernel_rfl) (by kernel_rfl) (fun _ _ _ h => by exact h) (Or.inl ⟨by rfl, ?_⟩) (by assumption) ?_
          rotate_left
          · (intro w hSw; (try dsimp only at hSw); go_simp; (try with_reducible rfl))
          try simp only [Act.put, List.setIfInBounds_toArray, List.set_cons_zero, List.set_cons_succ]
          refine wpAnyH_take (i := 6) (oi := _) (v := ?_) (by rw [List.getElem?_toArray]; rfl) (by kernel_rfl) (by kernel_rfl) (by kernel_rfl) (fun _ _ _ h => by exact h) (Or.inl ⟨by rfl, ?_⟩) (by assumption) ?_
          rotate_left
          · (intro w hSw; (try dsimp only at hSw); go_simp; (try with_reducible rfl))
          try simp only [Act.put, List.setIfInBounds_toArray, List.set_cons_zero, List.set_cons_succ]
          refine wpAnyH_take (i := 7) (oi := _) (v := ?_) (by rw [List.getElem?_toArray]; rfl) (by kernel_rfl) (by kernel_rfl) (by kernel_rfl) (fun _ _ _ h => by exact h) (Or.inl ⟨by rfl, ?_⟩) (by assumption) ?_
          rotate_left
          · (intro w hSw; (try dsimp only at hSw); have hstr := run_str' _ _ _ n _ HQL.out hSw; go_simp; (try with_reducible rfl))
          try simp only [Act.put, List.setIfInBounds_toArray, List.set_cons_zero, List.set_cons_succ]
          refine wpAnyH_ready (rs := [4]) (by kernel_rfl) (by simp) ?_
          refine AllReadyH.cons (o := _) (by rw [List.getElem?_toArray]; rfl) (fun K hK => ?_) ?_
          · go_simp
            go_wp2_with (go_at_call 34; refine HKQ.out.mono ?_; rintro e w13 ⟨a13, rfl, hf13, f13⟩; have F13 : Hid (Fr (fun _ => False) w12 w13) := (Fr.refl _ w12).drew.trans f13; have hs13 := run_str _ _ _ _ hf13.1; have hHeldN : Row w13 (some ⟨g, 0, none⟩) q n := F13.out.row (F12.out.row HQS.out (by simp)) (by simp); clear hf13 f13)
            refine hK.out _ _ hHeldN (fun hHeld => ?_)
            clear hK K
            try simp only [Act.put, List.setIfInBounds_toArray, List.set_cons_zero, List.set_cons_succ]
            refine wpAnyH_ready (rs := [5]) (by kernel_rfl) (by simp) ?_
            refine AllReadyH.cons (o := _) (by rw [List.getElem?_toArray]; rfl) (fun K hK => ?_) ?_
            · go_simp
              refine hK.out _ _ hHeld (fun hHeld => ?_)
              clear hK K
              try simp only [Act.put, List.setIfInBounds_toArray, List.set_cons_zero, List.set_cons_succ]
              refine wpAnyH_take (i := 8) (oi := _) (v := ?_) (by rw [List.getElem?_toArray]; rfl) (by kernel_rfl) (by kernel_rfl) (by kernel_rfl) (fun _ _ _ h => by exact h) (Or.inl ⟨by rfl, ?_⟩) (by assumption) ?_
              rotate_left
              · (intro w hSw; (try dsimp only at hSw); go_simp; (try with_reducible rfl))
              try simp only [Act.put, List.setIfInBounds_toArray, List.set_cons_zero, List.set_cons_succ]
              refine wpAnyH_take (i := 9) (oi := _) (v := ?_) (by rw [List.getElem?_toArray]; rfl) (by kernel_rfl) (by kernel_rfl) (by kernel_rfl) (fun _ _ _ h => by exact h) (Or.inl ⟨by rfl, ?_⟩) (by assumption) ?_
              rotate_left
              · (intro w hSw; (try dsimp only at hSw); go_simp; (try with_reducible rfl))
              try simp only [Act.put, List.setIfInBounds_toArray, List.set_cons_zero, List.set_cons_succ]
              refine wpAnyH_take (i := 10) (oi := _) (v := ?_) (by rw [List.getElem?_toArray]; rfl) (by kernel_rfl) (by kernel_rfl) (by kernel_rfl) (fun _ _ _ h => by exact h) (Or.inl ⟨by rfl, ?_⟩) (by assumption) ?_
              rotate_left
              · (intro w hSw; (try dsimp only at hSw); go_simp; (try with_reducible rfl))
              try simp only [Act.put, List.setIfInBounds_toArray, List.set_cons_zero, List.set_cons_succ]
              refine wpAnyH_take (i := 11) (oi := _) (v := undef) (by rw [List.getElem?_toArray]; rfl) (by kernel_rfl) (by kernel_rfl) (by kernel_rfl) (fun _ _ _ h => by exact h) (Or.inr ⟨by rfl, rfl⟩) (by assumption) ?_
              try simp only [Act.put, List.setIfInBounds_toArray, List.set_cons_zero, List.set_cons_succ]
              refine wpAnyH_take (i := 12) (oi := _) (v := undef) (by rw [List.getElem?_toArray]; rfl) (by kernel_rfl) (by kernel_rfl) (by kernel_rfl) (fun _ _ _ h => by exact h) (Or.inr ⟨by rfl, rfl⟩) (by assumption) ?_
              try simp only [Act.put, List.setIfInBounds_toArray, List.set_cons_zero, List.set_cons_succ]
              refine wpAnyH_take (i := 13) (oi := _) (v := undef) (by rw [List.getElem?_toArray]; rfl) (by kernel_rfl) (by kernel_rfl) (by kernel_rfl) (fun _ _ _ h => by exact h) (Or.inr ⟨by rfl, rfl⟩) (by assumption) ?_
              try simp only [Act.put, List.setIfInBounds_toArray, List.set_cons_zero, List.set_cons_succ]
              refine wpAnyH_take (i := 14) (oi := _) (v := undef) (by rw [List.getElem?_toArray]; rfl) (by kernel_rfl) (by kernel_rfl) (by kernel_rfl) (fun _ _ _ h => by exact h) (Or.inr ⟨by rfl, rfl⟩) (by assumption) ?_
              try simp only [Act.put, List.setIfInBounds_toArray, List.set_cons_zero, List.set_cons_succ]
              refine wpAnyH_take (i := 15) (oi := _) (v := undef) (by rw [List.getElem?_toArray]; rfl) (by kernel_rfl) (by kernel_rfl) (by kernel_rfl) (fun _ _ _ h => by exact h) (Or.inr ⟨by rfl, rfl⟩) (by assumption) ?_
              try simp only [Act.put, List.setIfInBounds_toArray, List.set_cons_zero, List.set_cons_succ]
              refine wpAnyH_take (i := 16) (oi := _) (v := undef) (by rw [List.getElem?_toArray]; rfl) (by kernel_rfl) (by kernel_rfl) (by kernel_rfl) (fun _ _ _ h => by exact h) (Or.inr ⟨by rfl, rfl⟩) (by assumption) ?_
              try simp only [Act.put, List.setIfInBounds_toArray, List.set_cons_zero, List.set_cons_succ]
              refine wpAnyH_take (i := 17) (oi := _) (v := ?_) (by rw [List.getElem?_toArray]; rfl) (by kernel_rfl) (by kernel_rfl) (by kernel_rfl) (fun _ _ _ h => by exact h) (Or.inl ⟨by rfl, ?_⟩) (by assumption) ?_
              rotate_left
              · (intro w hSw; (try dsimp only at hSw); go_simp; (try with_reducible rfl))
              try simp only [Act.put, List.setIfInBounds_toArray, List.set_cons_zero, List.set_cons_succ]
              refine wpAnyH_take (i := 18) (oi := _) (v := ?_) (by rw [List.getElem?_toArray]; rfl) (by kernel_rfl) (by kernel_rfl) (by kernel_rfl) (fun _ _ _ h => by exact h) (Or.inl ⟨by rfl, ?_⟩) (by assumption) ?_
              rotate_left
              · (intro w hSw; (try dsimp only at hSw); go_simp; (try with_reducible rfl))
              try simp only [Act.put, List.setIfInBounds_toArray, List.set_cons_zero, List.set_cons_succ]
              refine wpAnyH_done (by kernel_rfl) ?_ _
              go_wp2
              go_ret
              exact ⟨rfl, HFS.out.trans (F12.out.trans F13.out)⟩
            exact AllReadyH.nil
          exact AllReadyH.nil
  · obtain ⟨HTD, hde, HUD, hdl, _⟩ := HD.out
    have HTD2 : Hid (TabP w2 td td ad cd ds) := HTD
    have HUD2 : Hid (∀ x ∈ ds, x.u) := HUD
    have hde2 : p = encT ds := hde.symm
    subst hde2
    have F2 : Hid (Fr (fun _ => False) w w2) := F1.out.trans f2
    have HPD : Hid (Row w2.drew pa (encT ds) pc) := F2.out.drew.row HRP.out (by simp)
    have KQ : Hid (Calls _ _ _ _ _) := enc_any td td ad cd ds w2.drew (HTD2.out.fr (Fr.refl _ _).drew) HUD2.out (by omega) (by omega)
    clear f2 HD HTD HUD hde KD
    go_wp2_with fail
    refine wp_region_held_drew (S := (fun W => Row W pa (encT ds) pc)) (by kernel_rfl) HPD.out (fun hHeld => ?_)
    refine wpAnyH_take (i := 0) (oi := _) (v := ?_) (by rw [List.getElem?_toArray]; rfl) (by kernel_rfl) (by kernel_rfl) (by kernel_rfl) (fun _ _ _ h => by exact h) (Or.inl ⟨by rfl, ?_⟩) (by assumption) ?_
    rotate_left
    · (intro w hSw; (try dsimp only at hSw); go_simp; (try with_reducible rfl))
    try simp only [Act.put, List.setIfInBounds_toArray, List.set_cons_zero, List.set_cons_succ]
    refine wpAnyH_take (i := 1) (oi := _) (v := ?_) (by rw [List.getElem?_toArray]; rfl) (by kernel_rfl) (by kernel_rfl) (by kernel_rfl) (fun _ _ _ h => by exact h) (Or.inl ⟨by rfl, ?_⟩) (by assumption) ?_
    rotate_left
    · (intro w hSw; (try dsimp only at hSw); go_simp; (try with_reducible rfl))
    try simp only [Act.put, List.setIfInBounds_toArray, List.set_cons_zero, List.set_cons_succ]
    refine wpAnyH_take (i := 2) (oi := _) (v := ?_) (by rw [List.getElem?_toArray]; rfl) (by kernel_rfl) (by kernel_rfl) (by kernel_rfl) (fun _ _ _ h => by exact h) (Or.inl ⟨by rfl, ?_⟩) (by assumption) ?_
    rotate_left
    · (intro w hSw; (try dsimp only at hSw); go_simp; (try with_reducible rfl))
    try simp only [Act.put, List.setIfInBounds_toArray, List.set_cons_zero, List.set_cons_succ]
    refine wpAnyH_take (i := 3) (oi := _) (v := ?_) (by rw [List.getElem?_toArray]; rfl) (by kernel_rfl) (by kernel_rfl) (by kernel_rfl) (fun _ _ _ h => by exact h) (Or.inl ⟨by rfl, ?_⟩) (by assumption) ?_
    rotate_left
    · (intro w hSw; (try dsimp only at hSw); go_simp; (try with_reducible rfl))
    try simp only [Act.put, List.setIfInBounds_toArray, List.set_cons_zero, List.set_cons_succ]
    refine wpAnyH_take (i := 6) (oi := _) (v := ?_) (by rw [List.getElem?_toArray]; rfl) (by kernel_rfl) (by kernel_rfl) (by kernel_rfl) (fun _ _ _ h => by exact h) (Or.inl ⟨by rfl, ?_⟩) (by assumption) ?_
    rotate_left
    · (intro w hSw; (try dsimp only at hSw); go_simp; (try with_reducible rfl))
    try simp only [Act.put, List.setIfInBounds_toArray, List.set_cons_zero, List.set_cons_succ]
    refine wpAnyH_take (i := 7) (oi := _) (v := ?_) (by rw [List.getElem?_toArray]; rfl) (by kernel_rfl) (by kernel_rfl) (by kernel_rfl) (fun _ _ _ h => by exact h) (Or.inl ⟨by rfl, ?_⟩) (by assumption) ?_
    rotate_left
    · (intro w hSw; (try dsimp only at hSw); have hstr := run_str _ _ _ _ hSw; go_simp; (try with_reducible rfl))
    try simp only [Act.put, List.setIfInBounds_toArray, List.set_cons_zero, List.set_cons_succ]
    refine wpAnyH_ready (rs := [4]) (by kernel_rfl) (by simp) ?_
    refine AllReadyH.cons (o := _) (by rw [List.getElem?_toArray]; rfl) (fun K hK => ?_) ?_
    · go_simp
      go_wp2_with (go_at_call 34; refine KQ.out.mono ?_; rintro e w9 ⟨a9, rfl, hf9, f9⟩; have F9 : Hid (Fr (fun _ => False) w w9) := F2.out.drew.trans f9; have hs9 := run_str _ _ _ _ hf9.1; have hHeldN : Row w9 pa (encT ds) pc := F9.out.row HRP.out (by simp); clear hf9 f9)
      refine hK.out _ _ hHeldN (fun hHeld => ?_)
      clear hK K
      try simp only [Act.put, List.setIfInBounds_toArray, List.set_cons_zero, List.set_cons_succ]
      refine wpAnyH_ready (rs := [5]) (by kernel_rfl) (by simp) ?_
      refine AllReadyH.cons (o := _) (by rw [List.getElem?_toArray]; rfl) (fun K hK => ?_) ?_
      · go_simp
        refine hK.out _ _ hHeld (fun hHeld => ?_)
        clear hK K
        try simp only [Act.put, List.setIfInBounds_toArray, List.set_cons_zero, List.set_cons_succ]
        refine wpAnyH_take (i := 8) (oi := _) (v := ?_) (by rw [List.getElem?_toArray]; rfl) (by kernel_rfl) (by kernel_rfl) (by kernel_rfl) (fun _ _ _ h => by exact h) (Or.inl ⟨by rfl, ?_⟩) (by assumption) ?_
        rotate_left
        · (intro w hSw; (try dsimp only at hSw); go_simp; (try with_reducible rfl))
        try simp only [Act.put, List.setIfInBounds_toArray, List.set_cons_zero, List.set_cons_succ]
        refine wpAnyH_take (i := 9) (oi := _) (v := ?_) (by rw [List.getElem?_toArray]; rfl) (by kernel_rfl) (by kernel_rfl) (by kernel_rfl) (fun _ _ _ h => by exact h) (Or.inl ⟨by rfl, ?_⟩) (by assumption) ?_
        rotate_left
        · (intro w hSw; (try dsimp only at hSw); go_simp; (try with_reducible rfl))
        try simp only [Act.put, List.setIfInBounds_toArray, List.set_cons_zero, List.set_cons_succ]
        refine wpAnyH_take (i := 10) (oi := _) (v := ?_) (by rw [List.getElem?_toArray]; rfl) (by kernel_rfl) (by kernel_rfl) (by kernel_rfl) (fun _ _ _ h => by exact h) (Or.inl ⟨by rfl, ?_⟩) (by assumption) ?_
        rotate_left
        · (intro w hSw; (try dsimp only at hSw); go_simp; (try with_reducible rfl))
        try simp only [Act.put, List.setIfInBounds_toArray, List.set_cons_zero, List.set_cons_succ]
        refine wpAnyH_take (i := 11) (oi := _) (v := ?_) (by rw [List.getElem?_toArray]; rfl) (by kernel_rfl) (by kernel_rfl) (by kernel_rfl) (fun _ _ _ h => by exact h) (Or.inl ⟨by rfl, ?_⟩) (by assumption) ?_
        rotate_left
        · (intro w hSw; (try dsimp only at hSw); go_simp; (try with_reducible rfl))
        try simp only [Act.put, List.setIfInBounds_toArray, List.set_cons_zero, List.set_cons_succ]
        refine wpAnyH_take (i := 12) (oi := _) (v := ?_) (by rw [List.getElem?_toArray]; rfl) (by kernel_rfl) (by kernel_rfl) (by kernel_rfl) (fun _ _ _ h => by exact h) (Or.inl ⟨by rfl, ?_⟩) (by assumption) ?_
        rotate_left
        · (intro w hSw; (try dsimp only at hSw); go_simp; (try with_reducible rfl))
        try simp only [Act.put, List.setIfInBounds_toArray, List.set_cons_zero, List.set_cons_succ]
        refine wpAnyH_take (i := 13) (oi := _) (v := ?_) (by rw [List.getElem?_toArray]; rfl) (by kernel_rfl) (by kernel_rfl) (by kernel_rfl) (fun _ _ _ h => by exact h) (Or.inl ⟨by rfl, ?_⟩) (by assumption) ?_
        rotate_left
        · (intro w hSw; (try dsimp only at hSw); go_simp; (try with_reducible rfl))
        try simp only [Act.put, List.setIfInBounds_toArray, List.set_cons_zero, List.set_cons_succ]
        refine wpAnyH_take (i := 14) (oi := _) (v := undef) (by rw [List.getElem?_toArray]; rfl) (by kernel_rfl) (by kernel_rfl) (by kernel_rfl) (fun _ _ _ h => by exact h) (Or.inr ⟨by rfl, rfl⟩) (by assumption) ?_
        try simp only [Act.put, List.setIfInBounds_toArray, List.set_cons_zero, List.set_cons_succ]
        refine wpAnyH_take (i := 15) (oi := _) (v := undef) (by rw [List.getElem?_toArray]; rfl) (by kernel_rfl) (by kernel_rfl) (by kernel_rfl) (fun _ _ _ h => by exact h) (Or.inr ⟨by rfl, rfl⟩) (by assumption) ?_
        try simp only [Act.put, List.setIfInBounds_toArray, List.set_cons_zero, List.set_cons_succ]
        refine wpAnyH_take (i := 16) (oi := _) (v := undef) (by rw [List.getElem?_toArray]; rfl) (by kernel_rfl) (by kernel_rfl) (by kernel_rfl) (fun _ _ _ h => by exact h) (Or.inr ⟨by rfl, rfl⟩) (by assumption) ?_
        try simp only [Act.put, List.setIfInBounds_toArray, List.set_cons_zero, List.set_cons_succ]
        refine wpAnyH_take (i := 17) (oi := _) (v := undef) (by rw [List.getElem?_toArray]; rfl) (by kernel_rfl) (by kernel_rfl) (by kernel_rfl) (fun _ _ _ h => by exact h) (Or.inr ⟨by rfl, rfl⟩) (by assumption) ?_
        try simp only [Act.put, List.setIfInBounds_toArray, List.set_cons_zero, List.set_cons_succ]
        refine wpAnyH_take (i := 18) (oi := _) (v := undef) (by rw [List.getElem?_toArray]; rfl) (by kernel_rfl) (by kernel_rfl) (by kernel_rfl) (fun _ _ _ h => by exact h) (Or.inr ⟨by rfl, rfl⟩) (by assumption) ?_
        try simp only [Act.put, List.setIfInBounds_toArray, List.set_cons_zero, List.set_cons_succ]
        refine wpAnyH_take (i := 19) (oi := _) (v := undef) (by rw [List.getElem?_toArray]; rfl) (by kernel_rfl) (by kernel_rfl) (by kernel_rfl) (fun _ _ _ h => by exact h) (Or.inr ⟨by rfl, rfl⟩) (by assumption) ?_
        try simp only [Act.put, List.setIfInBounds_toArray, List.set_cons_zero, List.set_cons_succ]
        refine wpAnyH_take (i := 20) (oi := _) (v := ?_) (by rw [List.getElem?_toArray]; rfl) (by kernel_rfl) (by kernel_rfl) (by kernel_rfl) (fun _ _ _ h => by exact h) (Or.inl ⟨by rfl, ?_⟩) (by assumption) ?_
        rotate_left
        · (intro w hSw; (try dsimp only at hSw); go_simp; (try with_reducible rfl))
        try simp only [Act.put, List.setIfInBounds_toArray, List.set_cons_zero, List.set_cons_succ]
        refine wpAnyH_take (i := 21) (oi := _) (v := ?_) (by rw [List.getElem?_toArray]; rfl) (by kernel_rfl) (by kernel_rfl) (by kernel_rfl) (fun _ _ _ h => by exact h) (Or.inl ⟨by rfl, ?_⟩) (by assumption) ?_
        rotate_left
        · (intro w hSw; (try dsimp only at hSw); go_simp; (try with_reducible rfl))
        try simp only [Act.put, List.setIfInBounds_toArray, List.set_cons_zero, List.set_cons_succ]
        refine wpAnyH_done (by kernel_rfl) ?_ _
        clear hs9
        obtain ⟨W0, HW0⟩ : ∃ W, Hid (w9 = W) := ⟨_, rfl⟩
        rw [HW0.out] at F9 ⊢
        have FN : Hid (Fr (fun _ => False) w ((W0.alloc (.cells #[.slice la l.length lc, .int .i64 0] 34)).alloc (.cells #[.slice none 0 0] 88))) := (F9.out.alloc _).alloc _
        have HT0 : Hid (TabP ((W0.alloc (.cells #[.slice la l.length lc, .int .i64 0] 34)).alloc (.cells #[.slice none 0 0] 88)) (W0.heap.size + 1) (W0.heap.size + 1) none 0 []) := (show TabP _ _ _ _ _ _ by have := tab_new (W0.alloc (.cells #[.slice la l.length lc, .int .i64 0] 34)) 88; simpa using this)
        have HTP : Hid (Tp ((W0.alloc (.cells #[.slice la l.length lc, .int .i64 0] 34)).alloc (.cells #[.slice none 0 0] 88)) W0.heap.size la l lc 0) := (show Tp _ _ _ _ _ _ by
          have h1 : Tp (W0.alloc (.cells #[.slice la l.length lc, .int .i64 0] 34)) W0.heap.size la l lc 0 := ⟨by simp, by simp, by simp, (F9.out.alloc _).row HRL.out (by simp), Nat.zero_le _, fun hne x hx e => by have := HBL.out hne x hx; have := F9.out.size; omega⟩
          exact h1.fr ((Fr.refl (fun _ => False) _).alloc _) (by simp) (by simp))
        have HSZ : Hid (w.heap.size ≤ W0.heap.size) := F9.out.size
        go_wp2_with (go_at_call 16; refine (new_any _).mono ?_; rintro e w6 ⟨rfl, rfl⟩)
        have hsz1 : (W0.alloc (.cells #[.slice la l.length lc, .int .i64 0] 34)).heap.size = W0.heap.size + 1 := by simp
        try rw [hsz1]
        clear hsz1
        obtain ⟨tp, Htp⟩ : ∃ t, Hid (W0.heap.size = t) := ⟨_, rfl⟩
        rw [Htp.out] at HT0 HTP HSZ ⊢
        obtain ⟨tb, Htb⟩ : ∃ t, Hid (tp + 1 = t) := ⟨_, rfl⟩
        rw [Htb.out] at HT0 ⊢
        obtain ⟨W1, HW1⟩ : ∃ W, Hid ((W0.alloc (.cells #[.slice la l.length lc, .int .i64 0] 34)).alloc (.cells #[.slice none 0 0] 88) = W) := ⟨_, rfl⟩
        rw [HW1.out] at HT0 HTP FN ⊢
        have HJU : Hid (Ju w W1 tp tb la l lc none 0 []) := ⟨⟨HSZ.out, by have := Htb.out; omega⟩, ⟨0, HTP.out⟩, HBL.out, HT0.out, fun x hx => (by cases hx), FN.out⟩
        clear HT0 HTP FN
        go_wp2
        go_loopw [13] (fun iv wr => ∃ (k : Nat) (a1 : Option Addr) (c1 : Nat) (ls : List Hd), k ≤ 6 ∧ iv = .int .i64 (k : Int) ∧ Hid (ls.length ≤ k) ∧ Hid (Ju w wr tp tb la l lc a1 c1 ls)) (fun iv _ => 6 - (intOf iv).toNat)
        case atStart => exact ⟨0, none, 0, [], by omega, rfl, Nat.le_refl _, HJU.out⟩
        case round =>
          obtain ⟨k, a1, c1, ls, hk, rfl, HLL, HJ⟩ := hrel
          by_cases hk6 : k < 6
          · have y1 : (k : Int) < 6 := by omega
            have KH : Hid (Calls _ _ _ _ _) := hold_u HJ.out.tape.choose_spec HJ.out.la1
            go_wp2_with fail
            refine KH.out.mono ?_
            rintro e w3 ⟨x, rfl, hxt, hxu, hxo, _, hj3, f3⟩
            have HJ3 : Hid (Ju w w3 tp tb la l lc a1 c1 ls) := HJ.out.frT f3 hj3
            have HXT : Hid (x.tiny ∧ x.u) := ⟨hxt, hxu⟩
            have KT : Hid (Calls _ _ _ _ _) := take_any x tb tb a1 c1 ls w3 HJ3.out.tab hxo (tiny_sh hxt) (by have := HLL.out; omega)
            clear hxt hxu hxo hj3 f3 KH
            go_wp2_with fail
            refine KT.out.mono ?_
            rintro e w4 (⟨_, rfl, f4⟩ | ⟨_, rfl, q, y, a2, c2, hq, hlk, hT4, f4⟩)
            · have HJ4 : Hid (Ju w w4 tp tb la l lc a1 c1 ls) := HJ3.out.fr0 f4
              clear f4 KT
              go_wp2
              go_roundw
              case rel => exact ⟨k + 1, a1, c1, ls, by omega, by go_num, Nat.le_succ_of_le HLL.out, HJ4.out⟩
              case measure => simp [intOf]; omega
            · have HJ4 : Hid (Ju w w4 tp tb la l lc a2 c2 (putH ls q y)) := HJ3.out.put f4 hT4 (fun z hz => by
                rcases mem_put hz with rfl | hz
                · have h8 := HXT.out
                  unfold Hd.tiny Hd.u at h8 ⊢
                  obtain ⟨e0, e1, e2, e3, e4, e5, e6⟩ := hlk
                  rw [e0, e1, e2, e3, e4, e5, e6]
                  exact h8
                · exact HJ3.out.all z hz)
              have HL4 : Hid ((putH ls q y).length ≤ k + 1) := (show _ ≤ _ by have := put_len (x := y) hq.le; have := HLL.out; omega)
              clear hq hlk hT4 f4 KT
              go_wp2
              go_roundw
              case rel => exact ⟨k + 1, a2, c2, _, by omega, by go_num, HL4.out, HJ4.out⟩
              case measure => simp [intOf]; omega
          · have y1 : ¬ (k : Int) < 6 := by omega
            have HSL : Hid ((encT ls).length ≤ 3000) := (show _ ≤ _ by unfold encT; rw [List.length_append, Crc.le_length]; have := tinys_len ls (fun x hx => (HJ.out.all x hx).1); have := HLL.out; omega)
            have KE : Hid (Calls _ _ _ _ _) := enc_any tb tb a1 c1 ls wr HJ.out.tab (fun x hx => (HJ.out.all x hx).2) (by have := HSL.out; omega) (by have := HLL.out; omega)
            have HFR : Hid (Fr (fun _ => False) w wr) := HJ.out.fr
            have HNE : Hid (0 < (encT ls).length) := (show _ < _ by unfold encT; rw [List.length_append, Crc.le_length]; omega)
            have HBY : Hid (∀ x ∈ encT ls, x < 256) := HBYT.out ls (fun x hx => ⟨_, HJ.out.tab.ok x hx⟩)
            obtain ⟨qs, Hqs⟩ : ∃ q, Hid (encT ls = q) := ⟨_, rfl⟩
            obtain ⟨n, Hn⟩ : ∃ n, Hid (qs.length = n) := ⟨_, rfl⟩
            rw [Hqs.out] at HSL KE HNE HBY
            rw [Hn.out] at HSL HNE
            go_wp2_with fail
            refine KE.out.mono ?_
            rintro e w10 ⟨a10, rfl, hf10, f10⟩
            have HF10 : Hid (Fr (fun _ => False) w w10) := HFR.out.trans f10
            have HWR : Hid (w.heap.size ≤ wr.heap.size) := HFR.out.size
            obtain ⟨hq, hqa⟩ := hf10
            obtain ⟨g, o, rfl, hcell⟩ := hq.2.2.2.2 (by intro e; have h := HNE.out; rw [← Hn.out, e] at h; simp at h)
            obtain ⟨hg1, hg2, ho, _, cur, hcur⟩ := hqa _ rfl
            simp only at ho hg1 hg2 hcur
            subst ho
            have HQ : Hid (Row w10 (some ⟨g, 0, none⟩) qs n) := (by have h := hq; rw [Hn.out] at h; exact h)
            have hn0 := HNE.out
            have hnS := HSL.out
            obtain ⟨i, Hi⟩ : ∃ i, Hid (at_ % n = i) := ⟨_, rfl⟩
            have hi : i < n := by rw [← Hi.out]; exact Nat.mod_lt _ hn0
            have em2 : (at_ : Int) % (n : Int) = (i : Int) := by rw [← Hi.out]; rfl
            have em : (at_ : Int).tmod (n : Int) = (i : Int) := by rw [← Hi.out]; rfl
            have en0 : ¬ ((n : Int) = 0) := by omega
            have en1 : ((n : Int) == 0) = false := by simpa using (show ¬ n = 0 by omega)
            obtain ⟨z, Hz⟩ : ∃ z, Hid (qs.getD i 0 = z) := ⟨_, rfl⟩
            have cz := hcell i (by rw [Hn.out]; exact hi)
            rw [Hz.out, Nat.zero_add] at cz
            have hz8 : z < 256 := by rw [← Hz.out, List.getD_eq_getElem?_getD, List.getElem?_eq_getElem (by rw [Hn.out]; exact hi)]; exact HBY.out _ (List.getElem_mem _)
            obtain ⟨y, ey, hy8⟩ : ∃ y : Nat, bits .xor .u8 (z : Int) (turn : Int) = (y : Int) ∧ y < 256 := ⟨_, xor_u8B z turn hz8 hturn⟩
            have fz : w10.frozen? ⟨g, i, none⟩ = false := by simp [World.frozen?, hcur]
            have i0 : (0 : Int) ≤ (i : Int) := by omega
            have il : (i : Int) < (n : Int) := by omega
            have hgw : w.heap.size ≤ g := by have := HWR.out; omega
            rw [Hn.out]
            clear hq hqa hcell hcur f10 KE HWR
            go_wp2_with fail
            have HFS : Hid (Fr (fun _ => False) w (w10.setCell ⟨g, i, none⟩ (.int .u8 (y : Int)))) := HF10.out.setCell (.inr hgw) _
            obtain ⟨q, Hq⟩ : ∃ q, Hid (qs.set i y = q) := ⟨_, rfl⟩
            have HQS : Hid (Row (w10.setCell ⟨g, i, none⟩ (.int .u8 (y : Int))) (some ⟨g, 0, none⟩) q n) := (by have h := row_setB HQ.out (by rw [Hn.out]; exact hi) hy8; rw [Nat.zero_add, Hq.out] at h; exact h)
            have HQL : Hid (q.length = n) := (by show _ = _; rw [← Hq.out, List.length_set]; exact Hn.out)
            have K3 := dec_any (some ⟨g, 0, none⟩) q n (w10.setCell ⟨g, i, none⟩ (.int .u8 (y : Int))) HQS.out (by have h := HQL.out; omega)
            rw [HQL.out] at K3
            have HK3 : Hid (Calls _ _ _ _ _) := K3
            clear K3
            go_wp2_with fail
            refine HK3.out.mono ?_
            rintro e w12 ⟨f12, rfl | ⟨te, ae, ce, es, rfl, HE⟩⟩
            · have F12 : Hid (Fr (fun _ => False) w w12.drew) := (HFS.out.trans f12).drew
              clear f12
              go_wp2_with fail
              refine wp_region_held_drew (S := (fun _ : World => True)) (by kernel_rfl) trivial (fun hHeld => ?_)
              refine wpAnyH_take (i := 0) (oi := _) (v := ?_) (by rw [List.getElem?_toArray]; rfl) (by kernel_rfl) (by kernel_rfl) (by kernel_rfl) (fun _ _ _ h => by exact h) (Or.inl ⟨by rfl, ?_⟩) (by assumption) ?_
              rotate_left
              · (intro w hSw; (try dsimp only at hSw); go_simp; (try with_reducible rfl))
              try simp only [Act.put, List.setIfInBounds_toArray, List.set_cons_zero, List.set_cons_succ]
              refine wpAnyH_take (i := 1) (oi := _) (v := ?_) (by rw [List.getElem?_toArray]; rfl) (by kernel_rfl) (by kernel_rfl) (by kernel_rfl) (fun _ _ _ h => by exact h) (Or.inl ⟨by rfl, ?_⟩) (by assumption) ?_
              rotate_left
              · (intro w hSw; (try dsimp only at hSw); go_simp; (try with_reducible rfl))
              try simp only [Act.put, List.setIfInBounds_toArray, List.set_cons_zero, List.set_cons_succ]
              refine wpAnyH_take (i := 2) (oi := _) (v := ?_) (by rw [List.getElem?_toArray]; rfl) (by kernel_rfl) (by kernel_rfl) (by kernel_rfl) (fun _ _ _ h => by exact h) (Or.inl ⟨by rfl, ?_⟩) (by assumption) ?_
              rotate_left
              · (intro w hSw; (try dsimp only at hSw); go_simp; (try with_reducible rfl))
              try simp only [Act.put, List.setIfInBounds_toArray, List.set_cons_zero, List.set_cons_succ]
              refine wpAnyH_take (i := 3) (oi := _) (v := undef) (by rw [List.getElem?_toArray]; rfl) (by kernel_rfl) (by kernel_rfl) (by kernel_rfl) (fun _ _ _ h => by exact h) (Or.inr ⟨by rfl, rfl⟩) (by assumption) ?_
              try simp only [Act.put, List.setIfInBounds_toArray, List.set_cons_zero, List.set_cons_succ]
              refine wpAnyH_take (i := 4) (oi := _) (v := undef) (by rw [List.getElem?_toArray]; rfl) (by kernel_rfl) (by kernel_rfl) (by kernel_rfl) (fun _ _ _ h => by exact h) (Or.inr ⟨by rfl, rfl⟩) (by assumption) ?_
              try simp only [Act.put, List.setIfInBounds_toArray, List.set_cons_zero, List.set_cons_succ]
              refine wpAnyH_take (i := 5) (oi := _) (v := undef) (by rw [List.getElem?_toArray]; rfl) (by kernel_rfl) (by kernel_rfl) (by kernel_rfl) (fun _ _ _ h => by exact h) (Or.inr ⟨by rfl, rfl⟩) (by assumption) ?_
              try simp only [Act.put, List.setIfInBounds_toArray, List.set_cons_zero, List.set_cons_succ]
              refine wpAnyH_take (i := 6) (oi := _) (v := undef) (by rw [List.getElem?_toArray]; rfl) (by kernel_rfl) (by kernel_rfl) (by kernel_rfl) (fun _ _ _ h => by exact h) (Or.inr ⟨by rfl, rfl⟩) (by assumption) ?_
              try simp only [Act.put, List.setIfInBounds_toArray, List.set_cons_zero, List.set_cons_succ]
              refine wpAnyH_take (i := 7) (oi := _) (v := undef) (by rw [List.getElem?_toArray]; rfl) (by kernel_rfl) (by kernel_rfl) (by kernel_rfl) (fun _ _ _ h => by exact h) (Or.inr ⟨by rfl, rfl⟩) (by assumption) ?_
              try simp only [Act.put, List.setIfInBounds_toArray, List.set_cons_zero, List.set_cons_succ]
              refine wpAnyH_take (i := 8) (oi := _) (v := undef) (by rw [List.getElem?_toArray]; rfl) (by kernel_rfl) (by kernel_rfl) (by kernel_rfl) (fun _ _ _ h => by exact h) (Or.inr ⟨by rfl, rfl⟩) (by assumption) ?_
              try simp only [Act.put, List.setIfInBounds_toArray, List.set_cons_zero, List.set_cons_succ]
              refine wpAnyH_take (i := 9) (oi := _) (v := ?_) (by rw [List.getElem?_toArray]; rfl) (by kernel_rfl) (by kernel_rfl) (by kernel_rfl) (fun _ _ _ h => by exact h) (Or.inl ⟨by rfl, ?_⟩) (by assumption) ?_
              rotate_left
              · (intro w hSw; (try dsimp only at hSw); go_simp; (try with_reducible rfl))
              try simp only [Act.put, List.setIfInBounds_toArray, List.set_cons_zero, List.set_cons_succ]
              refine wpAnyH_take (i := 10) (oi := _) (v := ?_) (by rw [List.getElem?_toArray]; rfl) (by kernel_rfl) (by kernel_rfl) (by kernel_rfl) (fun _ _ _ h => by exact h) (Or.inl ⟨by rfl, ?_⟩) (by assumption) ?_
              rotate_left
              · (intro w hSw; (try dsimp only at hSw); go_simp; (try with_reducible rfl))
              try simp only [Act.put, List.setIfInBounds_toArray, List.set_cons_zero, List.set_cons_succ]
              refine wpAnyH_take (i := 11) (oi := _) (v := ?_) (by rw [List.getElem?_toArray]; rfl) (by kernel_rfl) (by kernel_rfl) (by kernel_rfl) (fun _ _ _ h => by exact h) (Or.inl ⟨by rfl, ?_⟩) (by assumption) ?_
              rotate_left
              · (intro w hSw; (try dsimp only at hSw); go_simp; (try with_reducible rfl))
              try simp only [Act.put, List.setIfInBounds_toArray, List.set_cons_zero, List.set_cons_succ]
              refine wpAnyH_take (i := 12) (oi := _) (v := ?_) (by rw [List.getElem?_toArray]; rfl) (by kernel_rfl) (by kernel_rfl) (by kernel_rfl) (fun _ _ _ h => by exact h) (Or.inl ⟨by rfl, ?_⟩) (by assumption) ?_
              rotate_left
              · (intro w hSw; (try dsimp only at hSw); go_simp; (try with_reducible rfl))
              try simp only [Act.put, List.setIfInBounds_toArray, List.set_cons_zero, List.set_cons_succ]
              refine wpAnyH_take (i := 13) (oi := _) (v := ?_) (by rw [List.getElem?_toArray]; rfl) (by kernel_rfl) (by kernel_rfl) (by kernel_rfl) (fun _ _ _ h => by exact h) (Or.inl ⟨by rfl, ?_⟩) (by assumption) ?_
              rotate_left
              · (intro w hSw; (try dsimp only at hSw); go_simp; (try with_reducible rfl))
              try simp only [Act.put, List.setIfInBounds_toArray, List.set_cons_zero, List.set_cons_succ]
              refine wpAnyH_take (i := 14) (oi := _) (v := ?_) (by rw [List.getElem?_toArray]; rfl) (by kernel_rfl) (by kernel_rfl) (by kernel_rfl) (fun _ _ _ h => by exact h) (Or.inl ⟨by rfl, ?_⟩) (by assumption) ?_
              rotate_left
              · (intro w hSw; (try dsimp only at hSw); go_simp; (try with_reducible rfl))
              try simp only [Act.put, List.setIfInBounds_toArray, List.set_cons_zero, List.set_cons_succ]
              refine wpAnyH_take (i := 15) (oi := _) (v := ?_) (by rw [List.getElem?_toArray]; rfl) (by kernel_rfl) (by kernel_rfl) (by kernel_rfl) (fun _ _ _ h => by exact h) (Or.inl ⟨by rfl, ?_⟩) (by assumption) ?_
              rotate_left
              · (intro w hSw; (try dsimp only at hSw); go_simp; (try with_reducible rfl))
              try simp only [Act.put, List.setIfInBounds_toArray, List.set_cons_zero, List.set_cons_succ]
              refine wpAnyH_take (i := 16) (oi := _) (v := ?_) (by rw [List.getElem?_toArray]; rfl) (by kernel_rfl) (by kernel_rfl) (by kernel_rfl) (fun _ _ _ h => by exact h) (Or.inl ⟨by rfl, ?_⟩) (by assumption) ?_
              rotate_left
              · (intro w hSw; (try dsimp only at hSw); go_simp; (try with_reducible rfl))
              try simp only [Act.put, List.setIfInBounds_toArray, List.set_cons_zero, List.set_cons_succ]
              refine wpAnyH_take (i := 17) (oi := _) (v := ?_) (by rw [List.getElem?_toArray]; rfl) (by kernel_rfl) (by kernel_rfl) (by kernel_rfl) (fun _ _ _ h => by exact h) (Or.inl ⟨by rfl, ?_⟩) (by assumption) ?_
              rotate_left
              · (intro w hSw; (try dsimp only at hSw); go_simp; (try with_reducible rfl))
              try simp only [Act.put, List.setIfInBounds_toArray, List.set_cons_zero, List.set_cons_succ]
              refine wpAnyH_take (i := 18) (oi := _) (v := ?_) (by rw [List.getElem?_toArray]; rfl) (by kernel_rfl) (by kernel_rfl) (by kernel_rfl) (fun _ _ _ h => by exact h) (Or.inl ⟨by rfl, ?_⟩) (by assumption) ?_
              rotate_left
              · (intro w hSw; (try dsimp only at hSw); go_simp; (try with_reducible rfl))
              try simp only [Act.put, List.setIfInBounds_toArray, List.set_cons_zero, List.set_cons_succ]
              refine wpAnyH_done (by kernel_rfl) ?_ _
              go_wp2
              go_ret
              exact ⟨rfl, F12.out⟩
            · obtain ⟨HTE, hee, HUE, hel, _⟩ := HE.out
              have HTE2 : Hid (TabP w12 te te ae ce es) := HTE
              have HUE2 : Hid (∀ x ∈ es, x.u) := HUE
              have F12 : Hid (Fr (fun _ => False) (w10.setCell ⟨g, i, none⟩ (.int .u8 (y : Int))) w12) := f12
              have HQD : Hid (Row w12.drew (some ⟨g, 0, none⟩) q n) := F12.out.drew.row HQS.out (by simp)
              have KQ := enc_any te te ae ce es w12.drew (HTE2.out.fr (Fr.refl _ _).drew) HUE2.out (by rw [hee, HQL.out]; omega) (by omega)
              rw [hee] at KQ
              have HKQ : Hid (Calls _ _ _ _ _) := KQ
              clear KQ f12 HE HTE HUE hee HK3
              go_wp2_with fail
              refine wp_region_held_drew (S := (fun W => Row W (some ⟨g, 0, none⟩) q n)) (by kernel_rfl) HQD.out (fun hHeld => ?_)
              refine wpAnyH_take (i := 0) (oi := _) (v := ?_) (by rw [List.getElem?_toArray]; rfl) (by kernel_rfl) (by kernel_rfl) (by kernel_rfl) (fun _ _ _ h => by exact h) (Or.inl ⟨by rfl, ?_⟩) (by assumption) ?_
              rotate_left
              · (intro w hSw; (try dsimp only at hSw); go_simp; (try with_reducible rfl))
              try simp only [Act.put, List.setIfInBounds_toArray, List.set_cons_zero, List.set_cons_succ]
              refine wpAnyH_take (i := 1) (oi := _) (v := ?_) (by rw [List.getElem?_toArray]; rfl) (by kernel_rfl) (by kernel_rfl) (by kernel_rfl) (fun _ _ _ h => by exact h) (Or.inl ⟨by rfl, ?_⟩) (by assumption) ?_
              rotate_left
              · (intro w hSw; (try dsimp only at hSw); go_simp; (try with_reducible rfl))
              try simp only [Act.put, List.setIfInBounds_toArray, List.set_cons_zero, List.set_cons_succ]
              refine wpAnyH_take (i := 2) (oi := _) (v := ?_) (by rw [List.getElem?_toArray]; rfl) (by kernel_rfl) (by kernel_rfl) (by kernel_rfl) (fun _ _ _ h => by exact h) (Or.inl ⟨by rfl, ?_⟩) (by assumption) ?_
              rotate_left
              · (intro w hSw; (try dsimp only at hSw); go_simp; (try with_reducible rfl))
              try simp only [Act.put, List.setIfInBounds_toArray, List.set_cons_zero, List.set_cons_succ]
              refine wpAnyH_take (i := 3) (oi := _) (v := ?_) (by rw [List.getElem?_toArray]; rfl) (by kernel_rfl) (by kernel_rfl) (by kernel_rfl) (fun _ _ _ h => by exact h) (Or.inl ⟨by rfl, ?_⟩) (by assumption) ?_
              rotate_left
              · (intro w hSw; (try dsimp only at hSw); go_simp; (try with_reducible rfl))
              try simp only [Act.put, List.setIfInBounds_toArray, List.set_cons_zero, List.set_cons_succ]
              refine wpAnyH_take (i := 6) (oi := _) (v := ?_) (by rw [List.getElem?_toArray]; rfl) (by kernel_rfl) (by kernel_rfl) (by kernel_rfl) (fun _ _ _ h => by exact h) (Or.inl ⟨by rfl, ?_⟩) (by assumption) ?_
              rotate_left
              · (intro w hSw; (try dsimp only at hSw); go_simp; (try with_reducible rfl))
              try simp only [Act.put, List.setIfInBounds_toArray, List.set_cons_zero, List.set_cons_succ]
              refine wpAnyH_take (i := 7) (oi := _) (v := ?_) (by rw [List.getElem?_toArray]; rfl) (by kernel_rfl) (by kernel_rfl) (by kernel_rfl) (fun _ _ _ h => by exact h) (Or.inl ⟨by rfl, ?_⟩) (by assumption) ?_
              rotate_left
              · (intro w hSw; (try dsimp only at hSw); have hstr := run_str' _ _ _ n _ HQL.out hSw; go_simp; (try with_reducible rfl))
              try simp only [Act.put, List.setIfInBounds_toArray, List.set_cons_zero, List.set_cons_succ]
              refine wpAnyH_ready (rs := [4]) (by kernel_rfl) (by simp) ?_
              refine AllReadyH.cons (o := _) (by rw [List.getElem?_toArray]; rfl) (fun K hK => ?_) ?_
              · go_simp
                go_wp2_with (go_at_call 34; refine HKQ.out.mono ?_; rintro e w13 ⟨a13, rfl, hf13, f13⟩; have F13 : Hid (Fr (fun _ => False) w12 w13) := (Fr.refl _ w12).drew.trans f13; have hs13 := run_str _ _ _ _ hf13.1; have hHeldN : Row w13 (some ⟨g, 0, none⟩) q n := F13.out.row (F12.out.row HQS.out (by simp)) (by simp); clear hf13 f13)
                refine hK.out _ _ hHeldN (fun hHeld => ?_)
                clear hK K
                try simp only [Act.put, List.setIfInBounds_toArray, List.set_cons_zero, List.set_cons_succ]
                refine wpAnyH_ready (rs := [5]) (by kernel_rfl) (by simp) ?_
                refine AllReadyH.cons (o := _) (by rw [List.getElem?_toArray]; rfl) (fun K hK => ?_) ?_
                · go_simp
                  refine hK.out _ _ hHeld (fun hHeld => ?_)
                  clear hK K
                  try simp only [Act.put, List.setIfInBounds_toArray, List.set_cons_zero, List.set_cons_succ]
                  refine wpAnyH_take (i := 8) (oi := _) (v := ?_) (by rw [List.getElem?_toArray]; rfl) (by kernel_rfl) (by kernel_rfl) (by kernel_rfl) (fun _ _ _ h => by exact h) (Or.inl ⟨by rfl, ?_⟩) (by assumption) ?_
                  rotate_left
                  · (intro w hSw; (try dsimp only at hSw); go_simp; (try with_reducible rfl))
                  try simp only [Act.put, List.setIfInBounds_toArray, List.set_cons_zero, List.set_cons_succ]
                  refine wpAnyH_take (i := 9) (oi := _) (v := ?_) (by rw [List.getElem?_toArray]; rfl) (by kernel_rfl) (by kernel_rfl) (by kernel_rfl) (fun _ _ _ h => by exact h) (Or.inl ⟨by rfl, ?_⟩) (by assumption) ?_
                  rotate_left
                  · (intro w hSw; (try dsimp only at hSw); go_simp; (try with_reducible rfl))
                  try simp only [Act.put, List.setIfInBounds_toArray, List.set_cons_zero, List.set_cons_succ]
                  refine wpAnyH_take (i := 10) (oi := _) (v := ?_) (by rw [List.getElem?_toArray]; rfl) (by kernel_rfl) (by kernel_rfl) (by kernel_rfl) (fun _ _ _ h => by exact h) (Or.inl ⟨by rfl, ?_⟩) (by assumption) ?_
                  rotate_left
                  · (intro w hSw; (try dsimp only at hSw); go_simp; (try with_reducible rfl))
                  try simp only [Act.put, List.setIfInBounds_toArray, List.set_cons_zero, List.set_cons_succ]
                  refine wpAnyH_take (i := 11) (oi := _) (v := undef) (by rw [List.getElem?_toArray]; rfl) (by kernel_rfl) (by kernel_rfl) (by kernel_rfl) (fun _ _ _ h => by exact h) (Or.inr ⟨by rfl, rfl⟩) (by assumption) ?_
                  try simp only [Act.put, List.setIfInBounds_toArray, List.set_cons_zero, List.set_cons_succ]
                  refine wpAnyH_take (i := 12) (oi := _) (v := undef) (by rw [List.getElem?_toArray]; rfl) (by kernel_rfl) (by kernel_rfl) (by kernel_rfl) (fun _ _ _ h => by exact h) (Or.inr ⟨by rfl, rfl⟩) (by assumption) ?_
                  try simp only [Act.put, List.setIfInBounds_toArray, List.set_cons_zero, List.set_cons_succ]
                  refine wpAnyH_take (i := 13) (oi := _) (v := undef) (by rw [List.getElem?_toArray]; rfl) (by kernel_rfl) (by kernel_rfl) (by kernel_rfl) (fun _ _ _ h => by exact h) (Or.inr ⟨by rfl, rfl⟩) (by assumption) ?_
                  try simp only [Act.put, List.setIfInBounds_toArray, List.set_cons_zero, List.set_cons_succ]
                  refine wpAnyH_take (i := 14) (oi := _) (v := undef) (by rw [List.getElem?_toArray]; rfl) (by kernel_rfl) (by kernel_rfl) (by kernel_rfl) (fun _ _ _ h => by exact h) (Or.inr ⟨by rfl, rfl⟩) (by assumption) ?_
                  try simp only [Act.put, List.setIfInBounds_toArray, List.set_cons_zero, List.set_cons_succ]
                  refine wpAnyH_take (i := 15) (oi := _) (v := undef) (by rw [List.getElem?_toArray]; rfl) (by kernel_rfl) (by kernel_rfl) (by kernel_rfl) (fun _ _ _ h => by exact h) (Or.inr ⟨by rfl, rfl⟩) (by assumption) ?_
                  try simp only [Act.put, List.setIfInBounds_toArray, List.set_cons_zero, List.set_cons_succ]
                  refine wpAnyH_take (i := 16) (oi := _) (v := undef) (by rw [List.getElem?_toArray]; rfl) (by kernel_rfl) (by kernel_rfl) (by kernel_rfl) (fun _ _ _ h => by exact h) (Or.inr ⟨by rfl, rfl⟩) (by assumption) ?_
                  try simp only [Act.put, List.setIfInBounds_toArray, List.set_cons_zero, List.set_cons_succ]
                  refine wpAnyH_take (i := 17) (oi := _) (v := ?_) (by rw [List.getElem?_toArray]; rfl) (by kernel_rfl) (by kernel_rfl) (by kernel_rfl) (fun _ _ _ h => by exact h) (Or.inl ⟨by rfl, ?_⟩) (by assumption) ?_
                  rotate_left
                  · (intro w hSw; (try dsimp only at hSw); go_simp; (try with_reducible rfl))
                  try simp only [Act.put, List.setIfInBounds_toArray, List.set_cons_zero, List.set_cons_succ]
                  refine wpAnyH_take (i := 18) (oi := _) (v := ?_) (by rw [List.getElem?_toArray]; rfl) (by kernel_rfl) (by kernel_rfl) (by kernel_rfl) (fun _ _ _ h => by exact h) (Or.inl ⟨by rfl, ?_⟩) (by assumption) ?_
                  rotate_left
                  · (intro w hSw; (try dsimp only at hSw); go_simp; (try with_reducible rfl))
                  try simp only [Act.put, List.setIfInBounds_toArray, List.set_cons_zero, List.set_cons_succ]
                  refine wpAnyH_done (by kernel_rfl) ?_ _
                  go_wp2
                  go_ret
                  exact ⟨rfl, HFS.out.trans (F12.out.trans F13.out)⟩
                exact AllReadyH.nil
              exact AllReadyH.nil
      exact AllReadyH.nil
    exact AllReadyH.nil
end Go.Proofs.Ytaalkhipncbjpaa
