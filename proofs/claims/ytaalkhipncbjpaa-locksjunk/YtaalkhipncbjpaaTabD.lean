/- Copies of any rows of numbers, of spans; a hold of one's own, of any hold. -/
import Derived.Test.YtaalkhipncbjpaaTabC
import Derived.Test.YtaalkhipncbjpaaTapeC
import Derived.Test.YtaalkhipncbjpaaTill
namespace Go.Proofs.Ytaalkhipncbjpaa
open Go.RowKit
theorem FRow.toF {w : World} {a : Addr} {l : List Nat} {cap : Nat} (h : FRow w (some a) l cap) : RowF w (some a) l cap := ⟨h.1, h.2.1, fun e => (by cases e), fun hne => by
  obtain ⟨b, off, e, hc⟩ := h.2.2.2 hne
  refine ⟨b, off, e, fun i hi f hf => ?_⟩
  have hf0 : f = 0 := by simp only [Enc.sz] at hf; omega
  subst hf0
  have := hc i hi
  simpa [Enc.sz, Enc.cells, Enc.dflt] using this⟩
theorem GRow.toF {w : World} {a : Addr} {l : List (Nat × Nat)} {cap : Nat} (h : GRow w (some a) l cap) : RowF w (some a) l cap := ⟨h.1, h.2.1, fun e => (by cases e), fun hne => by
  obtain ⟨b, off, e, hc⟩ := h.2.2.2 hne
  refine ⟨b, off, e, fun i hi f hf => ?_⟩
  have hf2 : f = 0 ∨ f = 1 := by simp only [Enc.sz] at hf; omega
  have := hc i hi
  rcases hf2 with rfl | rfl
  · simpa [Enc.sz, Enc.cells, Enc.dflt] using this.1
  · have h2 := this.2; rw [Nat.add_assoc] at h2; simpa [Enc.sz, Enc.cells, Enc.dflt] using h2⟩
set_option maxRecDepth 100000 in
set_option maxHeartbeats 1000000 in
theorem cloneF_any (ao : Option Addr) (l : List Nat) (cap : Nat) (w : World) (hr : FRow w ao l cap) (hlen : l.length ≤ 1000) :
    Calls Try.prog 90 #[.slice ao l.length cap] w fun e w' => ∃ a1 c1, e = .returned (.slice a1 l.length c1) ∧ FRow w' a1 l c1 ∧ (l ≠ [] → ∀ a, a1 = some a → w.heap.size ≤ a.block) ∧ Fr (fun _ => False) w w' := by
  cases ao with
  | none =>
    have hn : l = [] := by
      by_cases h : l = []
      · exact h
      · obtain ⟨b, off, e, _⟩ := hr.2.2.2 h; cases e
    subst hn
    refine (cloneF_nil w _ cap).mono ?_
    rintro e w1 ⟨rfl, rfl⟩
    exact ⟨none, 0, rfl, ⟨Nat.le_refl _, Nat.zero_le _, by simp, fun h => absurd rfl h⟩, fun h => absurd rfl h, Fr.refl _ _⟩
  | some a =>
    have q := fun (w : World) (a : Option Addr) (n c n' c' : Nat) => Lib.run_eql_slice_nil (P := Try.prog) w 25 _ a n c n' c' Try.underlying25
    have hO : OwnF (w.alloc (.cells #[] 71)) w.heap.size 71 (.slice (some ⟨w.heap.size, 0, none⟩) 0 0) ([] : List Nat) := World.ownsRow_made w #[] 0 (Nat.le_refl _) (Nat.zero_le _) (by simp)
    have hb : ∀ z ∈ l, z < 18446744073709551616 := hr.2.2.1
    have hcl : RowF (w.alloc (.cells #[] 71)) (some a) l cap := (FRow.toF hr).fr ((Fr.refl (fun _ => False) w).alloc _) (by simp)
    have HO : Hid (OwnF _ _ _ _ ([] : List Nat)) := hO
    have HC : Hid (∀ j u, (flat l)[j]? = some u → _) := hcl.cells
    have HB : Hid (∀ z ∈ l, z < 18446744073709551616) := hb
    clear hr hO hcl hb
    obtain ⟨ab, ao, asp⟩ := a
    go_enter Try.func90, Try.ntmps90
    go_wp2_with (at_builtin; refine wpList_append_f rfl _ _ 25 71 rfl Try.underlying25 (.float .f64 0) 8 Try.info71 rfl (by decide) w.heap.size _ [] rfl HO.out ⟨ab, ao, asp⟩ l cap rfl HC.out (by simp) (by simp; omega) ?_)
    intro v1 w1 ho hg hat
    obtain ⟨a1, c1, hv, _⟩ := ho.form
    subst hv
    have HR1 : Hid (FRow w1 a1 l c1 ∧ ∀ a, a1 = some a → w.heap.size ≤ a.block ∧ a.block < w1.heap.size) := OwnF.frow ho HB.out
    have HF1 : Hid (Fr (fun _ => False) w w1) := ((Fr.refl (fun _ => False) w).alloc _).grown hg (fun j hj => by simp [Value.ownBlock] at hj; omega)
    clear ho hg hat
    go_wp2
    go_ret
    exact ⟨a1, c1, rfl, HR1.out.1, fun _ a ha => (HR1.out.2 a ha).1, HF1.out⟩
set_option maxRecDepth 100000 in
set_option maxHeartbeats 1000000 in
theorem cloneG_any (ao : Option Addr) (l : List (Nat × Nat)) (cap : Nat) (w : World) (hr : GRow w ao l cap) (hlen : l.length ≤ 1000) :
    Calls Try.prog 91 #[.slice ao l.length cap] w fun e w' => ∃ a1 c1, e = .returned (.slice a1 l.length c1) ∧ GRow w' a1 l c1 ∧ (l ≠ [] → ∀ a, a1 = some a → w.heap.size ≤ a.block) ∧ Fr (fun _ => False) w w' := by
  cases ao with
  | none =>
    have hn : l = [] := by
      by_cases h : l = []
      · exact h
      · obtain ⟨b, off, e, _⟩ := hr.2.2.2 h; cases e
    subst hn
    refine (cloneG_nil w _ cap).mono ?_
    rintro e w1 ⟨rfl, rfl⟩
    exact ⟨none, 0, rfl, ⟨Nat.le_refl _, Nat.zero_le _, by simp, fun h => absurd rfl h⟩, fun h => absurd rfl h, Fr.refl _ _⟩
  | some a =>
    have q := fun (w : World) (a : Option Addr) (n c n' c' : Nat) => Lib.run_eql_slice_nil (P := Try.prog) w 26 _ a n c n' c' Try.underlying26
    have hO : OwnF (w.alloc (.cells #[] 75)) w.heap.size 75 (.slice (some ⟨w.heap.size, 0, none⟩) 0 0) ([] : List (Nat × Nat)) := World.ownsRow_made w #[] 0 (Nat.le_refl _) (Nat.zero_le _) (by simp)
    have hb : ∀ z ∈ l, z.1 < 18446744073709551616 ∧ z.2 < 18446744073709551616 := hr.2.2.1
    have hcl : RowF (w.alloc (.cells #[] 75)) (some a) l cap := (GRow.toF hr).fr ((Fr.refl (fun _ => False) w).alloc _) (by simp)
    have HO : Hid (OwnF _ _ _ _ ([] : List (Nat × Nat))) := hO
    have HC : Hid (∀ j u, (flat l)[j]? = some u → _) := hcl.cells
    have HB : Hid (∀ z ∈ l, z.1 < 18446744073709551616 ∧ z.2 < 18446744073709551616) := hb
    clear hr hO hcl hb
    obtain ⟨ab, ao, asp⟩ := a
    go_enter Try.func91, Try.ntmps91
    go_wp2_with (at_builtin; refine wpList_append_f rfl _ _ 26 75 rfl Try.underlying26 (.agg #[.float .f64 0, .float .f64 0]) 16 Try.info75 rfl (by decide) w.heap.size _ [] rfl HO.out ⟨ab, ao, asp⟩ l cap rfl HC.out (by simp) (by simp; omega) ?_)
    intro v1 w1 ho hg hat
    obtain ⟨a1, c1, hv, _⟩ := ho.form
    subst hv
    have HR1 : Hid (GRow w1 a1 l c1 ∧ ∀ a, a1 = some a → w.heap.size ≤ a.block ∧ a.block < w1.heap.size) := OwnF.grow ho HB.out
    have HF1 : Hid (Fr (fun _ => False) w w1) := ((Fr.refl (fun _ => False) w).alloc _).grown hg (fun j hj => by simp [Value.ownBlock] at hj; omega)
    clear ho hg hat
    go_wp2
    go_ret
    exact ⟨a1, c1, rfl, HR1.out.1, fun _ a ha => (HR1.out.2 a ha).1, HF1.out⟩

/-- two holds hold the same, wherever it lies. -/
def Hd.like (x h : Hd) : Prop := x.a0 = h.a0 ∧ x.a1 = h.a1 ∧ x.a2 = h.a2 ∧ x.g = h.g ∧ x.s = h.s ∧ x.p = h.p ∧ x.dl = h.dl
/-- where a hold's rows lie. -/
def Hd.ins (D : Nat → Prop) (x : Hd) : Prop := (x.g ≠ [] → ∀ a, x.ga = some a → D a.block) ∧ (x.s ≠ [] → ∀ a, x.sa = some a → D a.block) ∧ (x.p ≠ [] → ∀ a, x.pa = some a → D a.block) ∧ (x.dl ≠ [] → ∀ a, x.da = some a → D a.block)
theorem Hd.ins.mono {D E : Nat → Prop} {x : Hd} (h : x.ins D) (hd : ∀ k, D k → E k) : x.ins E := ⟨fun n a e => hd _ (h.1 n a e), fun n a e => hd _ (h.2.1 n a e), fun n a e => hd _ (h.2.2.1 n a e), fun n a e => hd _ (h.2.2.2 n a e)⟩
theorem Hd.ok.frD {S D : Nat → Prop} {w w1 : World} {x : Hd} (h : x.ok w) (f : Fr S w w1) (hd : x.ins D) (hs : ∀ k, D k → ¬ S k) : x.ok w1 :=
  ⟨h.1.fr f (fun n a e => hs _ (hd.1 n a e)), h.2.1.fr f (fun n a e => hs _ (hd.2.1 n a e)), h.2.2.1.fr f (fun n a e => hs _ (hd.2.2.1 n a e)), f.row h.2.2.2 (fun n a e => hs _ (hd.2.2.2 n a e))⟩
attribute [local go_sem] run_store_float
set_option maxRecDepth 100000 in
set_option maxHeartbeats 20000000 in
theorem own_h (h : Hd) (w : World) (hh : h.ok w) (hl : h.g.length ≤ 1000 ∧ h.s.length ≤ 1000 ∧ h.p.length ≤ 1000 ∧ h.dl.length ≤ 1000) :
    Calls Try.prog 54 #[.agg #[.int .u64 (h.a0 : Int), .int .u64 (h.a1 : Int), .int .u64 (h.a2 : Int), .slice h.ga h.g.length h.gc, .slice h.sa h.s.length h.sc, .slice h.pa h.p.length h.pc, .slice h.da h.dl.length h.dc]] w fun e w' => ∃ x : Hd, e = .returned (.agg #[.int .u64 (x.a0 : Int), .int .u64 (x.a1 : Int), .int .u64 (x.a2 : Int), .slice x.ga x.g.length x.gc, .slice x.sa x.s.length x.sc, .slice x.pa x.p.length x.pc, .slice x.da x.dl.length x.dc]) ∧ x.ok w' ∧ x.like h ∧ x.ins (fun k => w.heap.size ≤ k) ∧ Fr (fun _ => False) w w' := by
  obtain ⟨w0, HW⟩ : ∃ W0, Hid (W0 = ((w.alloc (.cells #[.int .u64 (h.a0 : Int), .int .u64 (h.a1 : Int), .int .u64 (h.a2 : Int), .slice h.ga h.g.length h.gc, .slice h.sa h.s.length h.sc, .slice h.pa h.p.length h.pc, .slice h.da h.dl.length h.dc] 29)).alloc (.cells #[.int .u64 0, .int .u64 0, .int .u64 0, .slice none 0 0, .slice none 0 0, .slice none 0 0, .slice none 0 0] 29)).drew) := ⟨_, rfl⟩
  have HF0 : Hid (Fr (fun _ => False) w w0) := (show Fr _ _ _ by rw [HW.out]; exact (((Fr.refl (fun _ => False) w).alloc _).alloc _).drew)
  have HB0 : Hid (Z7 w0 w.heap.size (.int .u64 (h.a0 : Int)) (.int .u64 (h.a1 : Int)) (.int .u64 (h.a2 : Int)) (.slice h.ga h.g.length h.gc) (.slice h.sa h.s.length h.sc) (.slice h.pa h.p.length h.pc) (.slice h.da h.dl.length h.dc)) := (show Z7 _ _ _ _ _ _ _ _ _ by rw [HW.out]; exact (Z7.new w 29 _ _ _ _ _ _ _).fr (((Fr.refl (fun _ => False) _).alloc (.cells #[.int .u64 0, .int .u64 0, .int .u64 0, .slice none 0 0, .slice none 0 0, .slice none 0 0, .slice none 0 0] 29)).drew) (by simp))
  have HR0 : Hid (Z7 w0 (w.heap.size + 1) (.int .u64 0) (.int .u64 0) (.int .u64 0) (.slice none 0 0) (.slice none 0 0) (.slice none 0 0) (.slice none 0 0)) := (show Z7 _ _ _ _ _ _ _ _ _ by rw [HW.out]; have := (Z7.new (w.alloc (.cells #[.int .u64 (h.a0 : Int), .int .u64 (h.a1 : Int), .int .u64 (h.a2 : Int), .slice h.ga h.g.length h.gc, .slice h.sa h.s.length h.sc, .slice h.pa h.p.length h.pc, .slice h.da h.dl.length h.dc] 29)) 29 (.int .u64 0) (.int .u64 0) (.int .u64 0) (.slice none 0 0) (.slice none 0 0) (.slice none 0 0) (.slice none 0 0)).fr ((Fr.refl (fun _ => False) _).drew) (by simp); simpa using this)
  have KG : Hid (∀ W, Fr (fun _ => False) w W → Calls _ _ _ _ _) := fun W f => cloneF_any h.ga h.g h.gc W (hh.1.fr f (by simp)) hl.1
  have KS : Hid (∀ W, Fr (fun _ => False) w W → Calls _ _ _ _ _) := fun W f => cloneG_any h.sa h.s h.sc W (hh.2.1.fr f (by simp)) hl.2.1
  have KP : Hid (∀ W, Fr (fun _ => False) w W → Calls _ _ _ _ _) := fun W f => cloneF_any h.pa h.p h.pc W (hh.2.2.1.fr f (by simp)) hl.2.2.1
  have KD : Hid (∀ W, Fr (fun _ => False) w W → Calls Try.prog 92 #[.slice h.da h.dl.length h.dc] W fun e w' => ∃ a1 c1, e = .returned (.slice a1 h.dl.length c1) ∧ Row w' a1 h.dl c1 ∧ (h.dl ≠ [] → ∀ a, a1 = some a → W.heap.size ≤ a.block) ∧ Fr (fun _ => False) W w') := fun W f => (cloneB_any h.da h.dl h.dc W (f.row hh.2.2.2 (by simp)) (by have := hl.2.2.2; omega)).mono (by rintro e w1 ⟨a1, c1, h1, h2, h3, h4⟩; exact ⟨a1, c1, h1, h2, fun _ => h3, h4⟩)
  obtain ⟨bx, Hbx⟩ : ∃ bx, Hid (w.heap.size = bx) := ⟨_, rfl⟩
  obtain ⟨rx, Hrx⟩ : ∃ rx, Hid (w.heap.size + 1 = rx) := ⟨_, rfl⟩
  have HBX : Hid (w.heap.size = bx ∧ rx = bx + 1) := ⟨Hbx.out, by have := Hbx.out; have := Hrx.out; omega⟩
  rw [Hbx.out] at HB0
  rw [Hrx.out] at HR0
  clear hh hl
  go_enter Try.func54, Try.ntmps54
  go_wp2_with fail
  rw [Hrx.out, Hbx.out]
  refine till_begin 13 (fun W : World => W.cell? ⟨bx, 3, none⟩ = some (.slice h.ga h.g.length h.gc) ∧ W.cell? ⟨bx, 4, none⟩ = some (.slice h.sa h.s.length h.sc) ∧ W.cell? ⟨bx, 5, none⟩ = some (.slice h.pa h.p.length h.pc) ∧ W.cell? ⟨bx, 6, none⟩ = some (.slice h.da h.dl.length h.dc)) (by kernel_rfl) (by rw [← HW.out]; exact ⟨HB0.out.c3, HB0.out.c4, HB0.out.c5, HB0.out.c6⟩) (fun hHeld => ?_)
  rw [← HW.out] at hHeld ⊢
  refine till_takeA (i := 0) (oi := _) (v := ?_) (by rw [List.getElem?_toArray]; rfl) (by decide) (by kernel_rfl) (by kernel_rfl) (by kernel_rfl) (fun _ _ _ h => by exact h) (Or.inl ⟨by rfl, ?_⟩) (fun _ => by assumption) ?_
  rotate_left
  · (intro w hSw; go_simp; (try with_reducible rfl))
  try simp only [Act.put, List.setIfInBounds_toArray, List.set_cons_zero, List.set_cons_succ]
  refine till_take (i := 1) (oi := _) (v := ?_) (by rw [List.getElem?_toArray]; rfl) (by decide) (by kernel_rfl) (by kernel_rfl) (by kernel_rfl) (by kernel_rfl) (by kernel_rfl) (fun _ _ _ h => by exact h) (Or.inl ⟨by rfl, ?_⟩) (by assumption) ?_
  rotate_left
  · (intro w hSw; (try dsimp only at hSw); obtain ⟨s1, s2, s3, s4⟩ := hSw; go_simp; (try with_reducible rfl))
  try simp only [Act.put, List.setIfInBounds_toArray, List.set_cons_zero, List.set_cons_succ]
  refine till_takeA (i := 3) (oi := _) (v := ?_) (by rw [List.getElem?_toArray]; rfl) (by decide) (by kernel_rfl) (by kernel_rfl) (by kernel_rfl) (fun _ _ _ h => by exact h) (Or.inl ⟨by rfl, ?_⟩) (fun _ => by assumption) ?_
  rotate_left
  · (intro w hSw; go_simp; (try with_reducible rfl))
  try simp only [Act.put, List.setIfInBounds_toArray, List.set_cons_zero, List.set_cons_succ]
  refine till_take (i := 4) (oi := _) (v := ?_) (by rw [List.getElem?_toArray]; rfl) (by decide) (by kernel_rfl) (by kernel_rfl) (by kernel_rfl) (by kernel_rfl) (by kernel_rfl) (fun _ _ _ h => by exact h) (Or.inl ⟨by rfl, ?_⟩) (by assumption) ?_
  rotate_left
  · (intro w hSw; (try dsimp only at hSw); obtain ⟨s1, s2, s3, s4⟩ := hSw; go_simp; (try with_reducible rfl))
  try simp only [Act.put, List.setIfInBounds_toArray, List.set_cons_zero, List.set_cons_succ]
  refine till_takeA (i := 6) (oi := _) (v := ?_) (by rw [List.getElem?_toArray]; rfl) (by decide) (by kernel_rfl) (by kernel_rfl) (by kernel_rfl) (fun _ _ _ h => by exact h) (Or.inl ⟨by rfl, ?_⟩) (fun _ => by assumption) ?_
  rotate_left
  · (intro w hSw; go_simp; (try with_reducible rfl))
  try simp only [Act.put, List.setIfInBounds_toArray, List.set_cons_zero, List.set_cons_succ]
  refine till_take (i := 7) (oi := _) (v := ?_) (by rw [List.getElem?_toArray]; rfl) (by decide) (by kernel_rfl) (by kernel_rfl) (by kernel_rfl) (by kernel_rfl) (by kernel_rfl) (fun _ _ _ h => by exact h) (Or.inl ⟨by rfl, ?_⟩) (by assumption) ?_
  rotate_left
  · (intro w hSw; (try dsimp only at hSw); obtain ⟨s1, s2, s3, s4⟩ := hSw; go_simp; (try with_reducible rfl))
  try simp only [Act.put, List.setIfInBounds_toArray, List.set_cons_zero, List.set_cons_succ]
  refine till_takeA (i := 9) (oi := _) (v := ?_) (by rw [List.getElem?_toArray]; rfl) (by decide) (by kernel_rfl) (by kernel_rfl) (by kernel_rfl) (fun _ _ _ h => by exact h) (Or.inl ⟨by rfl, ?_⟩) (fun _ => by assumption) ?_
  rotate_left
  · (intro w hSw; go_simp; (try with_reducible rfl))
  try simp only [Act.put, List.setIfInBounds_toArray, List.set_cons_zero, List.set_cons_succ]
  refine till_take (i := 10) (oi := _) (v := ?_) (by rw [List.getElem?_toArray]; rfl) (by decide) (by kernel_rfl) (by kernel_rfl) (by kernel_rfl) (by kernel_rfl) (by kernel_rfl) (fun _ _ _ h => by exact h) (Or.inl ⟨by rfl, ?_⟩) (by assumption) ?_
  rotate_left
  · (intro w hSw; (try dsimp only at hSw); obtain ⟨s1, s2, s3, s4⟩ := hSw; go_simp; (try with_reducible rfl))
  try simp only [Act.put, List.setIfInBounds_toArray, List.set_cons_zero, List.set_cons_succ]
  refine till_oneB (i := 2) (o := _) (by kernel_rfl) (by rw [List.getElem?_toArray]; rfl) (fun K hK => ?_)
  go_simp
  go_wp2_with (go_at_call 90; refine (KG.out _ HF0.out).mono ?_; rintro e wA ⟨ga, gc, rfl, hrow, hblk, gA⟩)
  have GA : Hid (Fr (fun _ => False) w0 wA) := gA
  have HFA : Hid (Fr (fun _ => False) w wA) := HF0.out.trans gA
  have HBA : Hid (Z7 wA bx (.int .u64 (h.a0 : Int)) (.int .u64 (h.a1 : Int)) (.int .u64 (h.a2 : Int)) (.slice h.ga h.g.length h.gc) (.slice h.sa h.s.length h.sc) (.slice h.pa h.p.length h.pc) (.slice h.da h.dl.length h.dc)) := HB0.out.fr gA (by simp)
  have HRA : Hid (Z7 wA rx (.int .u64 0) (.int .u64 0) (.int .u64 0) (.slice none 0 0) (.slice none 0 0) (.slice none 0 0) (.slice none 0 0)) := HR0.out.fr gA (by simp)
  have HWg : Hid (FRow wA ga h.g gc ∧ (h.g ≠ [] → ∀ a, ga = some a → w0.heap.size ≤ a.block)) := ⟨hrow, hblk⟩
  clear gA hrow hblk
  refine hK.out _ _ ⟨HBA.out.c3, HBA.out.c4, HBA.out.c5, HBA.out.c6⟩ (fun hHeld => ?_)
  clear hK K
  try simp only [Act.put, List.setIfInBounds_toArray, List.set_cons_zero, List.set_cons_succ]
  refine till_takeA (i := 12) (oi := _) (v := ?_) (by rw [List.getElem?_toArray]; rfl) (by decide) (by kernel_rfl) (by kernel_rfl) (by kernel_rfl) (fun _ _ _ h => by exact h) (Or.inl ⟨by rfl, ?_⟩) (fun _ => by assumption) ?_
  rotate_left
  · (intro w hSw; go_simp; (try with_reducible rfl))
  try simp only [Act.put, List.setIfInBounds_toArray, List.set_cons_zero, List.set_cons_succ]
  refine till_oneB (i := 5) (o := _) (by kernel_rfl) (by rw [List.getElem?_toArray]; rfl) (fun K hK => ?_)
  go_simp
  go_wp2_with (go_at_call 91; refine (KS.out _ HFA.out).mono ?_; rintro e wB ⟨sa, sc, rfl, hrow, hblk, gB⟩)
  have GB : Hid (Fr (fun _ => False) wA wB) := gB
  have HFB : Hid (Fr (fun _ => False) w wB) := HFA.out.trans gB
  have HBB : Hid (Z7 wB bx (.int .u64 (h.a0 : Int)) (.int .u64 (h.a1 : Int)) (.int .u64 (h.a2 : Int)) (.slice h.ga h.g.length h.gc) (.slice h.sa h.s.length h.sc) (.slice h.pa h.p.length h.pc) (.slice h.da h.dl.length h.dc)) := HBA.out.fr gB (by simp)
  have HRB : Hid (Z7 wB rx (.int .u64 0) (.int .u64 0) (.int .u64 0) (.slice none 0 0) (.slice none 0 0) (.slice none 0 0) (.slice none 0 0)) := HRA.out.fr gB (by simp)
  have HWs : Hid (GRow wB sa h.s sc ∧ (h.s ≠ [] → ∀ a, sa = some a → wA.heap.size ≤ a.block)) := ⟨hrow, hblk⟩
  clear gB hrow hblk
  refine hK.out _ _ ⟨HBB.out.c3, HBB.out.c4, HBB.out.c5, HBB.out.c6⟩ (fun hHeld => ?_)
  clear hK K
  try simp only [Act.put, List.setIfInBounds_toArray, List.set_cons_zero, List.set_cons_succ]
  refine till_oneB (i := 8) (o := _) (by kernel_rfl) (by rw [List.getElem?_toArray]; rfl) (fun K hK => ?_)
  go_simp
  go_wp2_with (go_at_call 90; refine (KP.out _ HFB.out).mono ?_; rintro e wC ⟨pa, pc, rfl, hrow, hblk, gC⟩)
  have GC : Hid (Fr (fun _ => False) wB wC) := gC
  have HFC : Hid (Fr (fun _ => False) w wC) := HFB.out.trans gC
  have HBC : Hid (Z7 wC bx (.int .u64 (h.a0 : Int)) (.int .u64 (h.a1 : Int)) (.int .u64 (h.a2 : Int)) (.slice h.ga h.g.length h.gc) (.slice h.sa h.s.length h.sc) (.slice h.pa h.p.length h.pc) (.slice h.da h.dl.length h.dc)) := HBB.out.fr gC (by simp)
  have HRC : Hid (Z7 wC rx (.int .u64 0) (.int .u64 0) (.int .u64 0) (.slice none 0 0) (.slice none 0 0) (.slice none 0 0) (.slice none 0 0)) := HRB.out.fr gC (by simp)
  have HWp : Hid (FRow wC pa h.p pc ∧ (h.p ≠ [] → ∀ a, pa = some a → wB.heap.size ≤ a.block)) := ⟨hrow, hblk⟩
  clear gC hrow hblk
  refine hK.out _ _ ⟨HBC.out.c3, HBC.out.c4, HBC.out.c5, HBC.out.c6⟩ (fun hHeld => ?_)
  clear hK K
  try simp only [Act.put, List.setIfInBounds_toArray, List.set_cons_zero, List.set_cons_succ]
  refine till_oneB (i := 11) (o := _) (by kernel_rfl) (by rw [List.getElem?_toArray]; rfl) (fun K hK => ?_)
  go_simp
  go_wp2_with (go_at_call 92; refine (KD.out _ HFC.out).mono ?_; rintro e wD ⟨da, dc, rfl, hrow, hblk, gD⟩)
  have GD : Hid (Fr (fun _ => False) wC wD) := gD
  have HFD : Hid (Fr (fun _ => False) w wD) := HFC.out.trans gD
  have HBD : Hid (Z7 wD bx (.int .u64 (h.a0 : Int)) (.int .u64 (h.a1 : Int)) (.int .u64 (h.a2 : Int)) (.slice h.ga h.g.length h.gc) (.slice h.sa h.s.length h.sc) (.slice h.pa h.p.length h.pc) (.slice h.da h.dl.length h.dc)) := HBC.out.fr gD (by simp)
  have HRD : Hid (Z7 wD rx (.int .u64 0) (.int .u64 0) (.int .u64 0) (.slice none 0 0) (.slice none 0 0) (.slice none 0 0) (.slice none 0 0)) := HRC.out.fr gD (by simp)
  have HWd : Hid (Row wD da h.dl dc ∧ (h.dl ≠ [] → ∀ a, da = some a → wC.heap.size ≤ a.block)) := ⟨hrow, hblk⟩
  clear gD hrow hblk
  refine hK.out _ _ ⟨HBD.out.c3, HBD.out.c4, HBD.out.c5, HBD.out.c6⟩ (fun hHeld => ?_)
  clear hK K
  try simp only [Act.put, List.setIfInBounds_toArray, List.set_cons_zero, List.set_cons_succ]
  obtain ⟨⟨k0, k1, k2, k3, k4, k5, k6⟩, kz⟩ := HBD.out
  refine till_oneA (i := 13) (o := _) (by kernel_rfl) (by rw [List.getElem?_toArray]; rfl) (by kernel_rfl) (fun K hK => ?_)
  go_simp
  refine hK.out _ _ ?_
  clear hK K
  try simp only [Act.put, List.setIfInBounds_toArray, List.set_cons_zero, List.set_cons_succ]
  refine till_takeB (i := 14) (oi := _) (v := ?_) (by rw [List.getElem?_toArray]; rfl) (by decide) (by kernel_rfl) (by kernel_rfl) (by kernel_rfl) (by kernel_rfl) (fun _ _ _ h => by exact h) (Or.inl ⟨by rfl, ?_⟩) ?_
  rotate_left
  · (intro w hSw; go_simp; (try with_reducible rfl))
  try simp only [Act.put, List.setIfInBounds_toArray, List.set_cons_zero, List.set_cons_succ]
  refine till_oneA (i := 15) (o := _) (by kernel_rfl) (by rw [List.getElem?_toArray]; rfl) (by kernel_rfl) (fun K hK => ?_)
  go_simp
  refine hK.out _ _ ?_
  clear hK K
  try simp only [Act.put, List.setIfInBounds_toArray, List.set_cons_zero, List.set_cons_succ]
  refine till_takeB (i := 16) (oi := _) (v := ?_) (by rw [List.getElem?_toArray]; rfl) (by decide) (by kernel_rfl) (by kernel_rfl) (by kernel_rfl) (by kernel_rfl) (fun _ _ _ h => by exact h) (Or.inl ⟨by rfl, ?_⟩) ?_
  rotate_left
  · (intro w hSw; go_simp; (try with_reducible rfl))
  try simp only [Act.put, List.setIfInBounds_toArray, List.set_cons_zero, List.set_cons_succ]
  refine till_oneA (i := 17) (o := _) (by kernel_rfl) (by rw [List.getElem?_toArray]; rfl) (by kernel_rfl) (fun K hK => ?_)
  go_simp
  refine hK.out _ _ ?_
  clear hK K
  try simp only [Act.put, List.setIfInBounds_toArray, List.set_cons_zero, List.set_cons_succ]
  refine till_takeB (i := 18) (oi := _) (v := ?_) (by rw [List.getElem?_toArray]; rfl) (by decide) (by kernel_rfl) (by kernel_rfl) (by kernel_rfl) (by kernel_rfl) (fun _ _ _ h => by exact h) (Or.inl ⟨by rfl, ?_⟩) ?_
  rotate_left
  · (intro w hSw; go_simp; (try with_reducible rfl))
  try simp only [Act.put, List.setIfInBounds_toArray, List.set_cons_zero, List.set_cons_succ]
  refine till_oneA (i := 19) (o := _) (by kernel_rfl) (by rw [List.getElem?_toArray]; rfl) (by kernel_rfl) (fun K hK => ?_)
  go_simp
  refine hK.out _ _ ?_
  clear hK K
  try simp only [Act.put, List.setIfInBounds_toArray, List.set_cons_zero, List.set_cons_succ]
  refine till_done (by kernel_rfl) ?_ _
  clear k0 k1 k2 k3 k4 k5 k6 kz
  obtain ⟨hz, fz⟩ := HBD.out.put4 (.slice ga h.g.length gc) (.slice sa h.s.length sc) (.slice pa h.p.length pc) (.slice da h.dl.length dc)
  have HE : Hid (Z7 ((((wD.setCell ⟨bx, 3, none⟩ (.slice ga h.g.length gc)).setCell ⟨bx, 4, none⟩ (.slice sa h.s.length sc)).setCell ⟨bx, 5, none⟩ (.slice pa h.p.length pc)).setCell ⟨bx, 6, none⟩ (.slice da h.dl.length dc)) bx (.int .u64 (h.a0 : Int)) (.int .u64 (h.a1 : Int)) (.int .u64 (h.a2 : Int)) (.slice ga h.g.length gc) (.slice sa h.s.length sc) (.slice pa h.p.length pc) (.slice da h.dl.length dc)) := hz
  have FE : Hid (Fr (fun k => k = bx) wD ((((wD.setCell ⟨bx, 3, none⟩ (.slice ga h.g.length gc)).setCell ⟨bx, 4, none⟩ (.slice sa h.s.length sc)).setCell ⟨bx, 5, none⟩ (.slice pa h.p.length pc)).setCell ⟨bx, 6, none⟩ (.slice da h.dl.length dc))) := fz
  clear hz fz
  obtain ⟨WE, HWE⟩ : ∃ WE, Hid ((((wD.setCell ⟨bx, 3, none⟩ (.slice ga h.g.length gc)).setCell ⟨bx, 4, none⟩ (.slice sa h.s.length sc)).setCell ⟨bx, 5, none⟩ (.slice pa h.p.length pc)).setCell ⟨bx, 6, none⟩ (.slice da h.dl.length dc) = WE) := ⟨_, rfl⟩
  rw [HWE.out] at HE FE ⊢
  have HRE : Hid (Z7 WE rx (.int .u64 0) (.int .u64 0) (.int .u64 0) (.slice none 0 0) (.slice none 0 0) (.slice none 0 0) (.slice none 0 0)) := HRD.out.fr FE.out (by have := HBX.out; omega)
  obtain ⟨⟨k0, k1, k2, k3, k4, k5, k6⟩, kz⟩ := HE.out
  obtain ⟨⟨y0, y1, y2, y3, y4, y5, y6⟩, yz⟩ := HRE.out
  go_wp2
  obtain ⟨hq, fq⟩ := HRE.out.put7 (.int .u64 (h.a0 : Int)) (.int .u64 (h.a1 : Int)) (.int .u64 (h.a2 : Int)) (.slice ga h.g.length gc) (.slice sa h.s.length sc) (.slice pa h.p.length pc) (.slice da h.dl.length dc)
  clear k0 k1 k2 k3 k4 k5 k6 kz y0 y1 y2 y3 y4 y5 y6 yz
  have FQ : Hid (Fr (fun k => k = bx ∨ k = rx) wD (((((((WE.setCell _ _).setCell _ _).setCell _ _).setCell _ _).setCell _ _).setCell _ _).setCell _ _)) := Fr.trans (Fr.mono (T := fun k => k = bx ∨ k = rx) FE.out (fun _ _ h => .inl h)) (Fr.mono (T := fun k => k = bx ∨ k = rx) fq (fun _ _ h => .inr h))
  have HSZ : Hid (bx < w0.heap.size ∧ rx < w0.heap.size ∧ w0.heap.size ≤ wA.heap.size ∧ wA.heap.size ≤ wB.heap.size ∧ wB.heap.size ≤ wC.heap.size ∧ w.heap.size ≤ w0.heap.size) := ⟨HB0.out.lt, HR0.out.lt, GA.out.size, GB.out.size, GC.out.size, HF0.out.size⟩
  have NB : ∀ (frm : Nat), w0.heap.size ≤ frm → ∀ k, frm ≤ k → ¬ (k = bx ∨ k = rx) := fun frm hf k hk hx => by have := HSZ.out; omega
  have GAD : Fr (fun _ => False) wA wD := GB.out.trans (GC.out.trans GD.out)
  have GBD : Fr (fun _ => False) wB wD := GC.out.trans GD.out
  refine bodyPost_ret (v := .agg #[.int .u64 (h.a0 : Int), .int .u64 (h.a1 : Int), .int .u64 (h.a2 : Int), .slice ga h.g.length gc, .slice sa h.s.length sc, .slice pa h.p.length pc, .slice da h.dl.length dc]) ?_ rfl ⟨⟨h.a0, h.a1, h.a2, ga, h.g, gc, sa, h.s, sc, pa, h.p, pc, da, h.dl, dc⟩, rfl, ?_, ?_, ?_, ?_⟩
  rotate_left
  · exact ⟨((HWg.out.1.fr GAD (by simp)).fr FQ.out (fun hne a ha => NB _ (by have := HSZ.out; omega) _ (HWg.out.2 hne a ha))), ((HWs.out.1.fr GBD (by simp)).fr FQ.out (fun hne a ha => NB _ (by have := HSZ.out; omega) _ (HWs.out.2 hne a ha))), ((HWp.out.1.fr GD.out (by simp)).fr FQ.out (fun hne a ha => NB _ (by have := HSZ.out; omega) _ (HWp.out.2 hne a ha))), FQ.out.row HWd.out.1 (fun hne a ha => NB _ (by have := HSZ.out; omega) _ (HWd.out.2 hne a ha))⟩
  · exact ⟨rfl, rfl, rfl, rfl, rfl, rfl, rfl⟩
  · exact ⟨fun hne a ha => by have := HWg.out.2 hne a ha; have := HSZ.out; show w.heap.size ≤ _; omega, fun hne a ha => by have := HWs.out.2 hne a ha; have := HSZ.out; show w.heap.size ≤ _; omega, fun hne a ha => by have := HWp.out.2 hne a ha; have := HSZ.out; show w.heap.size ≤ _; omega, fun hne a ha => by have := HWd.out.2 hne a ha; have := HSZ.out; show w.heap.size ≤ _; omega⟩
  · exact HFD.out.trans' FQ.out (fun i hi h => show False by have := HBX.out; rcases h with h | h <;> omega)
  clear FQ NB GAD GBD
  revert hq
  generalize (((((((WE.setCell _ _).setCell _ _).setCell _ _).setCell _ _).setCell _ _).setCell _ _).setCell _ _) = WQ
  intro hq
  obtain ⟨⟨d0, d1, d2, d3, d4, d5, d6⟩, _⟩ := hq
  simp [results, Try.results54, go_sem, *]
end Go.Proofs.Ytaalkhipncbjpaa
