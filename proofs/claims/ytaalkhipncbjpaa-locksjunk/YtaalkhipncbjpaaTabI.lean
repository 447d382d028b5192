/- Get and All, of any table. -/
import Derived.Test.YtaalkhipncbjpaaTabH
namespace Go.Proofs.Ytaalkhipncbjpaa
open Go Go.RowKit
/-- a transaction. -/
structure Idn where
  s : Nat
  q : Nat
instance encI : Enc Idn := ⟨fun x => [.int .u64 (x.s : Int), .int .u64 (x.q : Int)], 2, ⟨0, 0⟩, by decide, fun _ => rfl, fun x u hu => by
  simp only [List.mem_cons, List.not_mem_nil, or_false] at hu
  rcases hu with rfl | rfl <;> rfl⟩
def Hd.idn (x : Hd) : Idn := ⟨x.a0, x.a1⟩
theorem Try.info24 : (Try.prog.info? 24).map (fun i => (i.zero, i.size, i.bytes)) = some (some (.agg #[.int .u64 0, .int .u64 0]), 2, 16) := by kernel_rfl
theorem at_uniq {l : List Hd} {i p : Nat} (hs : Srt l) (hi : i < l.length) (hp : At l (l.getD i dH).a0 (l.getD i dH).a1 p) : p = i ∧ heldAt l (l.getD i dH).a0 (l.getD i dH).a1 p = true := by
  have h1 : ¬ i < p := fun h => by
    have := hp.lo i h
    unfold Hd.lt at this
    omega
  have h2 : ¬ p < i := fun h => hp.hi p (Nat.le_refl _) (by omega) (hs p i h hi)
  have e : p = i := by omega
  subst e
  exact ⟨rfl, decide_eq_true ⟨hi, rfl, rfl⟩⟩
attribute [local go_sem] run_store_float
set_option maxRecDepth 100000 in
set_option maxHeartbeats 8000000 in
theorem get_any (s q : Nat) (base tb : Nat) (ao : Option Addr) (cap : Nat) (l : List Hd) (w : World) (hT : TabP w base tb ao cap l) (hlen : l.length ≤ 1000) :
    Calls Try.prog 26 #[.pointer (some ⟨tb, 0, none⟩), .agg #[.int .u64 (s : Int), .int .u64 (q : Int)]] w fun e w' => ∃ (p : Nat) (bb : Bool) (x : Hd), e = .returned (.tuple #[.agg #[.int .u64 (x.a0 : Int), .int .u64 (x.a1 : Int), .int .u64 (x.a2 : Int), .slice x.ga x.g.length x.gc, .slice x.sa x.s.length x.sc, .slice x.pa x.p.length x.pc, .slice x.da x.dl.length x.dc], .bool bb]) ∧ Hid (bb = heldAt l s q p) ∧ At l s q p ∧ x.ok w' ∧ (bb = true → x.like (l.getD p dH)) ∧ x.ins (fun k => w.heap.size ≤ k) ∧ Fr (fun _ => False) w w' := by
  have F0 : Hid (Fr (fun _ => False) w ((w.alloc (.cells #[.int .u64 (s : Int), .int .u64 (q : Int)] 24)).alloc (.cells #[.int .u64 0, .int .u64 0, .int .u64 0, .slice none 0 0, .slice none 0 0, .slice none 0 0, .slice none 0 0] 29))) := ((Fr.refl (fun _ => False) w).alloc _).alloc _
  have HR : Hid (Z7 ((w.alloc (.cells #[.int .u64 (s : Int), .int .u64 (q : Int)] 24)).alloc (.cells #[.int .u64 0, .int .u64 0, .int .u64 0, .slice none 0 0, .slice none 0 0, .slice none 0 0, .slice none 0 0] 29)) (w.heap.size + 1) (.int .u64 0) (.int .u64 0) (.int .u64 0) (.slice none 0 0) (.slice none 0 0) (.slice none 0 0) (.slice none 0 0)) := (show Z7 _ _ _ _ _ _ _ _ _ by have := Z7.new (w.alloc (.cells #[.int .u64 (s : Int), .int .u64 (q : Int)] 24)) 29 (.int .u64 0) (.int .u64 0) (.int .u64 0) (.slice none 0 0) (.slice none 0 0) (.slice none 0 0) (.slice none 0 0); simpa using this)
  have KP : Hid (Calls _ _ _ _ _) := place_any s q tb ao l cap _ (hT.fr F0.out).cell (hT.fr F0.out).row hT.srt (by omega)
  have HT : Hid (TabP w base tb ao cap l) := hT
  clear hT
  go_enter Try.func26, Try.ntmps26
  go_wp2_with fail
  refine KP.out.mono ?_
  rintro e w2 ⟨p, bb, rfl, HBB, hp1, hp2, hp3, f2⟩
  have F2 : Hid (Fr (fun _ => False) w w2) := F0.out.trans f2
  have HP : Hid (At l s q p) := ⟨hp1, hp2, hp3⟩
  have HR2 : Hid (Z7 w2 (w.heap.size + 1) (.int .u64 0) (.int .u64 0) (.int .u64 0) (.slice none 0 0) (.slice none 0 0) (.slice none 0 0) (.slice none 0 0)) := HR.out.fr f2 (by simp)
  obtain ⟨rx, Hrx⟩ : ∃ rx, Hid (w.heap.size + 1 = rx) := ⟨_, rfl⟩
  rw [Hrx.out] at HR2
  clear f2 hp1 hp2 hp3 KP
  cases bb with
  | false =>
    obtain ⟨⟨y0, y1, y2, y3, y4, y5, y6⟩, yz⟩ := HR2.out
    rw [Hrx.out]
    go_wp2
    obtain ⟨hq, fq⟩ := HR2.out.put7 (.int .u64 0) (.int .u64 0) (.int .u64 0) (.slice none 0 0) (.slice none 0 0) (.slice none 0 0) (.slice none 0 0)
    clear y0 y1 y2 y3 y4 y5 y6 yz
    refine bodyPost_ret (v := .tuple #[.agg #[.int .u64 0, .int .u64 0, .int .u64 0, .slice none 0 0, .slice none 0 0, .slice none 0 0, .slice none 0 0], .bool false]) ?_ rfl ⟨p, false, dH, rfl, HBB, HP.out, ⟨⟨Nat.le_refl _, Nat.zero_le _, by simp [dH], fun h => absurd rfl h⟩, ⟨Nat.le_refl _, Nat.zero_le _, by simp [dH], fun h => absurd rfl h⟩, ⟨Nat.le_refl _, Nat.zero_le _, by simp [dH], fun h => absurd rfl h⟩, row_nil _⟩, fun h => (by cases h), ⟨fun h => absurd rfl h, fun h => absurd rfl h, fun h => absurd rfl h, fun h => absurd rfl h⟩, F2.out.trans' fq (fun i hi h => by have := Hrx.out; omega)⟩
    revert hq
    generalize (((((((w2.setCell _ _).setCell _ _).setCell _ _).setCell _ _).setCell _ _).setCell _ _).setCell _ _) = WQ
    intro hq
    obtain ⟨⟨d0, d1, d2, d3, d4, d5, d6⟩, _⟩ := hq
    simp [results, Try.results26, go_sem, *]
  | true =>
    have HH := of_decide_eq_true HBB.out.symm
    have HT2 : Hid (TabP w2 base tb ao cap l) := HT.out.fr F2.out
    have ht := HT2.out.cell
    obtain ⟨b, off, y, hao, Hy, hmem, d0, d1, d2, d3, d4, d5, d6⟩ := HT2.out.row.seven HH.1
    have KO : Hid (Calls _ _ _ _ _) := own_h y w2 (HT2.out.ok y hmem) (HT2.out.sh y hmem)
    subst hao
    have z1 : (0 : Int) ≤ (p : Int) := by omega
    have z2 : (p : Int) < (l.length : Int) := by omega
    clear HH hmem
    go_wp2_with fail
    refine KO.out.mono ?_
    rintro e w3 ⟨x, rfl, hxo, hxk, hxi, f3⟩
    have HR3 : Hid (Z7 w3 rx (.int .u64 0) (.int .u64 0) (.int .u64 0) (.slice none 0 0) (.slice none 0 0) (.slice none 0 0) (.slice none 0 0)) := HR2.out.fr f3 (by simp)
    have HX : Hid (x.ok w3 ∧ x.like y ∧ x.ins (fun k => w2.heap.size ≤ k)) := ⟨hxo, hxk, hxi⟩
    have F3 : Hid (Fr (fun _ => False) w w3) := F2.out.trans f3
    have HL : Hid (rx < w2.heap.size ∧ w.heap.size ≤ w2.heap.size ∧ w.heap.size + 1 = rx) := ⟨HR2.out.lt, F2.out.size, Hrx.out⟩
    obtain ⟨⟨y0, y1, y2, y3, y4, y5, y6⟩, yz⟩ := HR3.out
    rw [Hrx.out]
    clear hxo hxk hxi f3 d0 d1 d2 d3 d4 d5 d6 ht KO
    go_wp2
    obtain ⟨hq, fq⟩ := HR3.out.put7 (.int .u64 (x.a0 : Int)) (.int .u64 (x.a1 : Int)) (.int .u64 (x.a2 : Int)) (.slice x.ga x.g.length x.gc) (.slice x.sa x.s.length x.sc) (.slice x.pa x.p.length x.pc) (.slice x.da x.dl.length x.dc)
    clear y0 y1 y2 y3 y4 y5 y6 yz
    refine bodyPost_ret (v := .tuple #[.agg #[.int .u64 (x.a0 : Int), .int .u64 (x.a1 : Int), .int .u64 (x.a2 : Int), .slice x.ga x.g.length x.gc, .slice x.sa x.s.length x.sc, .slice x.pa x.p.length x.pc, .slice x.da x.dl.length x.dc], .bool true]) ?_ rfl ⟨p, true, x, rfl, HBB, HP.out, HX.out.1.frD fq HX.out.2.2 (fun k hk e => by have := HL.out; omega), fun _ => by rw [Hy.out]; exact HX.out.2.1, HX.out.2.2.mono (fun k hk => by have := HL.out; omega), F3.out.trans' fq (fun i hi h => by have := HL.out; omega)⟩
    revert hq
    generalize (((((((w3.setCell _ _).setCell _ _).setCell _ _).setCell _ _).setCell _ _).setCell _ _).setCell _ _) = WQ
    intro hq
    obtain ⟨⟨d0, d1, d2, d3, d4, d5, d6⟩, _⟩ := hq
    simp [results, Try.results26, go_sem, *]
set_option maxRecDepth 100000 in
set_option maxHeartbeats 8000000 in
theorem all_any (base tb : Nat) (ao : Option Addr) (cap : Nat) (l : List Hd) (w : World) (hT : TabP w base tb ao cap l) (hlen : l.length ≤ 1000) :
    Calls Try.prog 25 #[.pointer (some ⟨tb, 0, none⟩)] w fun e w' => ∃ a1 c1, e = .returned (.slice a1 l.length c1) ∧ OwnF w' w.heap.size 24 (.slice a1 l.length c1) (l.map Hd.idn) ∧ Fr (fun _ => False) w w' := by
  have HT : Hid (TabP w base tb ao cap l) := hT
  have ht := hT.cell
  obtain ⟨B, HB⟩ : ∃ B, Hid (w.heap.size = B) := ⟨_, rfl⟩
  rw [HB.out]
  clear hT
  go_enter Try.func25, Try.ntmps25
  go_wp2
  clear ht
  go_loopw [3, 13] (fun lv iv wr => ∃ (k : Nat) (a1 : Option Addr) (c1 : Nat), k ≤ l.length ∧ iv = .int .i64 (k : Int) ∧ lv = .slice a1 k c1 ∧ Hid (OwnF wr B 24 (.slice a1 k c1) ((l.map Hd.idn).take k)) ∧ Hid (Fr (fun _ => False) w wr)) (fun _ iv _ => l.length - (intOf iv).toNat)
  case atStart => exact ⟨0, none, 0, Nat.zero_le _, rfl, rfl, (show OwnF _ _ _ _ _ by simpa using OwnF.nil (α := Idn) w B 24), Fr.refl _ _⟩
  case round =>
    obtain ⟨k, a1, c1, hk, rfl, rfl, HO, HF⟩ := hrel
    by_cases hlt : k < l.length
    · obtain ⟨b, off, x, hao, Hx, _, d0, d1, d2, d3, d4, d5, d6⟩ := (HT.out.fr HF.out).row.seven hlt
      have hlm : ((l.map Hd.idn).take k).length = k := by simp; omega
      have htake : (l.map Hd.idn).take (k + 1) = (l.map Hd.idn).take k ++ [x.idn] := by
        rw [← List.map_take, ← List.map_take, List.take_succ_eq_append_getElem hlt, List.map_append, ← gd hlt, Hx.out]; rfl
      have HTK : Hid (((l.map Hd.idn).take k).length = k ∧ (l.map Hd.idn).take (k + 1) = (l.map Hd.idn).take k ++ [x.idn]) := ⟨hlm, htake⟩
      subst hao
      have z1 : (0 : Int) ≤ (k : Int) := by omega
      have z2 : (k : Int) < (l.length : Int) := by omega
      have FA : Hid (Fr (fun _ => False) wr ((wr.alloc (.cells #[.int .u64 (x.a0 : Int), .int .u64 (x.a1 : Int), .int .u64 (x.a2 : Int), .slice x.ga x.g.length x.gc, .slice x.sa x.s.length x.sc, .slice x.pa x.p.length x.pc, .slice x.da x.dl.length x.dc] 29)).alloc (.cells #[.int .u64 (x.a0 : Int), .int .u64 (x.a1 : Int)] 24))) := ((Fr.refl (fun _ => False) wr).alloc _).alloc _
      have HC : Hid (∀ j u, (flat [x.idn])[j]? = some u → ((wr.alloc (.cells #[.int .u64 (x.a0 : Int), .int .u64 (x.a1 : Int), .int .u64 (x.a2 : Int), .slice x.ga x.g.length x.gc, .slice x.sa x.s.length x.sc, .slice x.pa x.p.length x.pc, .slice x.da x.dl.length x.dc] 29)).alloc (.cells #[.int .u64 (x.a0 : Int), .int .u64 (x.a1 : Int)] 24)).cell? ((⟨wr.heap.size + 1, 0, none⟩ : Addr).add j) = some u) := fun j u hu => by
        have := one_f (wr.alloc (.cells #[.int .u64 (x.a0 : Int), .int .u64 (x.a1 : Int), .int .u64 (x.a2 : Int), .slice x.ga x.g.length x.gc, .slice x.sa x.s.length x.sc, .slice x.pa x.p.length x.pc, .slice x.da x.dl.length x.dc] 29)) x.idn 24 #[.int .u64 (x.a0 : Int), .int .u64 (x.a1 : Int)] rfl j u hu
        simpa using this
      have HOA : Hid (OwnF _ B 24 (.slice a1 k c1) ((l.map Hd.idn).take k)) := HO.out.fr FA.out (by simp)
      have hbase : B ≤ ((wr.alloc (.cells #[.int .u64 (x.a0 : Int), .int .u64 (x.a1 : Int), .int .u64 (x.a2 : Int), .slice x.ga x.g.length x.gc, .slice x.sa x.s.length x.sc, .slice x.pa x.p.length x.pc, .slice x.da x.dl.length x.dc] 29)).alloc (.cells #[.int .u64 (x.a0 : Int), .int .u64 (x.a1 : Int)] 24)).heap.size := by have := HF.out.size; have := FA.out.size; have := HB.out; omega
      have hbnd : ((l.map Hd.idn).take k).length + 1 ≤ 1000000 := by have := HTK.out.1; omega
      clear hlm htake
      go_wp2_with (at_builtin; refine wpList_append_f rfl _ _ 53 24 rfl Try.underlying53 (.agg #[.int .u64 0, .int .u64 0]) 16 Try.info24 rfl (by decide) B _ ((l.map Hd.idn).take k) rfl HOA.out ⟨wr.heap.size + 1, 0, none⟩ [x.idn] 1 rfl HC.out hbase hbnd ?_)
      all_goals
        intro v7 w7 ho7 hg7 hat7
        obtain ⟨a7, c7, hv7, _⟩ := ho7.form
        rw [show ((l.map Hd.idn).take k ++ [x.idn]).length = k + 1 by rw [List.length_append, HTK.out.1]; rfl] at hv7
        rw [← HTK.out.2] at ho7
        subst hv7
        have HO7 : Hid (OwnF w7 B 24 (.slice a7 (k + 1) c7) ((l.map Hd.idn).take (k + 1))) := ho7
        have HF7 : Hid (Fr (fun _ => False) w w7) := (HF.out.trans FA.out).grown hg7 (fun j hj => .inr (by have := (HOA.out.lt j hj).1; have := HB.out; omega))
        clear ho7 hg7 hat7 d0 d1 d2 d3 d4 d5 d6
        go_wp2
        go_roundw
        case rel => exact ⟨k + 1, a7, c7, by omega, by go_num, rfl, HO7.out, HF7.out⟩
        case measure => simp [intOf]; omega
    · have z2 : ¬ (k : Int) < (l.length : Int) := by omega
      have e : k = l.length := by omega
      subst e
      go_wp2
      go_ret
      exact ⟨a1, c1, rfl, (show OwnF _ _ _ _ _ by have := HO.out; rwa [List.take_of_length_le (by simp)] at this), HF.out⟩
end Go.Proofs.Ytaalkhipncbjpaa
