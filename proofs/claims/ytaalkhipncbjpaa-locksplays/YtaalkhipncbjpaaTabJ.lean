/- A slice of holds that came in; the walk of LocksApart. -/
import Derived.Test.YtaalkhipncbjpaaTabI
import Derived.Test.YtaalkhipncbjpaaHoldF
namespace Go.Proofs.Ytaalkhipncbjpaa
open Go Go.RowKit
instance : Inhabited Hd := ⟨dH⟩
theorem hrow_of_arg {H : Type} {enc : TypeId × Value → H} {W : World} {a0 : Option Addr} {len0 cap0 : Nat} {d : DataW H} {p : List MemPlace} (h : DataW.Trod enc Try.prog W 0 (fun _ => true) true 40 (.slice a0 len0 cap0) d p) :
    ∃ l : List Hd, l.length = len0 ∧ RowF W a0 l cap0 ∧ ∀ x ∈ l, x.ok W := by
  obtain ⟨fuel, hf⟩ := h
  have c29 : Try.prog.cellsOf 29 = 7 := by kernel_rfl
  rcases Deep.open_slice Try.underlying40 hf with ⟨hcs, _⟩ | ⟨a, len, cap, m, n, Dd, Pl, hcs, _, hl, hm, hmm, _, hx⟩
  · simp [Value.cells] at hcs
    obtain ⟨rfl, rfl, rfl⟩ := hcs
    exact ⟨[], rfl, RowF.nil _, fun _ h => by cases h⟩
  · simp [Value.cells] at hcs
    obtain ⟨rfl, rfl, rfl⟩ := hcs
    have hmc : m = cap0 := by simpa using hmm
    subst hmc
    rw [c29] at hx
    have hall : ∀ i, i < len0 → ∃ y : Hd, (∀ f, f < 7 → W.cell? ((a.add (i * 7)).add f) = (Enc.cells y)[f]?) ∧ y.ok W := fun i hi => by
      obtain ⟨cs, h1, h2⟩ := hx i (by omega)
      obtain ⟨_, hlen, hc⟩ := World.cells?_some h1
      obtain ⟨y, hy, hok⟩ := hold_of_arg (enc := enc) (cs := cs.toArray) (d := Dd i) (p := Pl i) (by simpa using hlen) ⟨_, h2⟩
      refine ⟨y, fun f hf => ?_, hok⟩
      have e : cs = Enc.cells y := by have := congrArg Array.toList hy; simpa [Enc.cells] using this
      rw [← e]
      exact hc f hf
    obtain ⟨F, hF⟩ := Deep.choose_lt (p := fun i (y : Hd) => (∀ f, f < 7 → W.cell? ((a.add (i * 7)).add f) = (Enc.cells y)[f]?) ∧ y.ok W) hall
    refine ⟨(List.range len0).map F, by simp, ⟨by simpa using hl, hm, fun e => (by cases e), fun hne => ?_⟩, fun y hy => ?_⟩
    · have hpos : 0 < len0 := by
        rcases Nat.eq_zero_or_pos len0 with h0 | h0
        · subst h0; simp at hne
        · exact h0
      obtain ⟨b, off, spot⟩ := a
      have h0 := (hF 0 hpos).1 0 (by omega)
      have hspot : spot = none := by
        have h0' : W.cell? (((⟨b, off, spot⟩ : Addr).add (0 * 7)).add 0) = some (.int .u64 ((F 0).a0 : Int)) := h0
        simpa [Addr.add] using World.cell?_spot h0'
      subst hspot
      refine ⟨b, off, rfl, fun i hi f hf => ?_⟩
      have hi' : i < len0 := by simpa using hi
      have hg : ((List.range len0).map F).getD i (Enc.dflt : Hd) = F i := by simp [List.getD, hi']
      rw [hg, ← (hF i hi').1 f hf, addr_addH, addr_addH, Nat.add_assoc]
      rfl
    · obtain ⟨i, hi, rfl⟩ := List.mem_map.1 hy
      exact (hF i (by simpa using hi)).2
theorem meets_no {m : List Hd} (ha : Alone m) {i k : Nat} (hk : k < i) (hi : i < m.length) {x y : Hd} (hx : x.like (m.getD i dH)) (hy : y.like (m.getD k dH)) : x.meets y = false := by
  rw [hy.meets, Hd.meets_comm, hx.meets, gd hi, gd (Nat.lt_trans hk hi)]
  exact (List.pairwise_iff_getElem.1 ha) k i _ hi hk
theorem RowF.two {w : World} {ao : Option Addr} {m : List Hd} {cap : Nat} (h : RowF w ao (m.map Hd.idn) cap) {k : Nat} (hk : k < m.length) : ∃ (b off : Nat), ao = some ⟨b, off, none⟩ ∧ w.cell? ⟨b, off + k * 2, none⟩ = some (.int .u64 ((m.getD k dH).a0 : Int)) ∧ w.cell? ⟨b, off + k * 2 + 1, none⟩ = some (.int .u64 ((m.getD k dH).a1 : Int)) := by
  obtain ⟨b, off, he, hc⟩ := h.2.2.2 (fun e => by have := congrArg List.length e; simp at this; subst this; simp at hk)
  have hc2 := hc k (by simpa using hk)
  have hg : (m.map Hd.idn).getD k (Enc.dflt : Idn) = (m.getD k dH).idn := by
    rw [gd hk, List.getD_eq_getElem?_getD, List.getElem?_map, List.getElem?_eq_getElem hk]; rfl
  rw [hg] at hc2
  exact ⟨b, off, he, hc2 0 (by decide), hc2 1 (by decide)⟩
theorem get_at (base tb : Nat) (ao : Option Addr) (cap : Nat) (m : List Hd) (w : World) (hT : TabP w base tb ao cap m) (hlen : m.length ≤ 1000) (i : Nat) (hi : i < m.length) :
    Calls Try.prog 26 #[.pointer (some ⟨tb, 0, none⟩), .agg #[.int .u64 ((m.getD i dH).a0 : Int), .int .u64 ((m.getD i dH).a1 : Int)]] w fun e w' => ∃ x : Hd, e = .returned (.tuple #[.agg #[.int .u64 (x.a0 : Int), .int .u64 (x.a1 : Int), .int .u64 (x.a2 : Int), .slice x.ga x.g.length x.gc, .slice x.sa x.s.length x.sc, .slice x.pa x.p.length x.pc, .slice x.da x.dl.length x.dc], .bool true]) ∧ x.ok w' ∧ x.like (m.getD i dH) ∧ Fr (fun _ => False) w w' := by
  refine (get_any (m.getD i dH).a0 (m.getD i dH).a1 base tb ao cap m w hT hlen).mono ?_
  rintro e w1 ⟨p, bb, x, rfl, hbb, hp, hok, hl, _, f⟩
  obtain ⟨rfl, hh⟩ := at_uniq hT.srt hi hp
  rw [hh] at hbb
  have hb := hbb.out
  subst hb
  exact ⟨x, rfl, hok, hl rfl, f⟩
theorem short_sh {x : Hd} (h : x.short = true) : x.sh := by
  unfold Hd.short at h
  simp only [Bool.and_eq_true, decide_eq_true_eq] at h
  unfold Hd.sh
  omega
set_option maxRecDepth 100000 in
set_option maxHeartbeats 20000000 in
theorem apart_walk (ao : Option Addr) (l : List Hd) (cap : Nat) (w : World) (hr : RowF w ao l cap) (hok : ∀ x ∈ l, x.ok w) :
    Calls Try.prog 5 #[.slice ao l.length cap] w fun e w' => e = .returned (.bool true) ∧ Fr (fun _ => False) w w' := by
  have KA : Hid (∀ W, Calls _ _ _ _ _) := awake_any
  have HR : Hid (RowF w ao l cap) := hr
  have HOK : Hid (∀ x ∈ l, x.ok w) := hok
  have hl1 : l.length ≤ 9223372036854775807 := hr.lens.1
  clear hr hok
  by_cases h30 : 30 < l.length
  · have z0 : (30 : Int) < (l.length : Int) := by omega
    go_enter Try.func5, Try.ntmps5
    go_wp2_with fail
    refine (KA.out _).mono ?_
    rintro e w1 ⟨rfl, f1⟩
    have F1 : Hid (Fr (fun _ => False) w w1) := f1
    clear f1
    go_wp2_with fail
    refine (KA.out _).mono ?_
    rintro e w2 ⟨rfl, f2⟩
    go_wp2
    go_ret
    exact ⟨rfl, F1.out.trans f2⟩
  · have z0 : ¬ (30 : Int) < (l.length : Int) := by omega
    go_enter Try.func5, Try.ntmps5
    go_wp2_with (go_at_call 9; refine (KA.out _).mono ?_; rintro e w1 ⟨rfl, f1⟩)
    have F1 : Hid (Fr (fun _ => False) w w1) := f1
    have HT0 : Hid (TabP (w1.alloc (.cells #[.slice none 0 0] 88)) w1.heap.size w1.heap.size none 0 []) := tab_new w1 88
    have FN : Hid (Fr (fun _ => False) w (w1.alloc (.cells #[.slice none 0 0] 88))) := f1.alloc _
    clear f1 KA
    go_wp2_with (go_at_call 16; refine (new_any w1).mono ?_; rintro e w2 ⟨rfl, rfl⟩)
    obtain ⟨tb, Htb⟩ : ∃ t, Hid (w1.heap.size = t) := ⟨_, rfl⟩
    obtain ⟨W2, HW2⟩ : ∃ W, Hid (w1.alloc (.cells #[.slice none 0 0] 88) = W) := ⟨_, rfl⟩
    have HTB : Hid (w.heap.size ≤ tb) := (show _ ≤ _ by have := F1.out.size; have := Htb.out; omega)
    rw [HW2.out, Htb.out] at HT0
    rw [HW2.out] at FN
    rw [HW2.out, Htb.out]
    go_wp2
    go_loopw [4] (fun iv wr => ∃ (k : Nat) (ao1 : Option Addr) (cap1 : Nat) (m : List Hd), k ≤ l.length ∧ iv = .int .i64 (k : Int) ∧ Hid (m.length ≤ k) ∧ Hid (TabP wr tb tb ao1 cap1 m) ∧ Hid (Fr (fun _ => False) w wr)) (fun iv _ => l.length - (intOf iv).toNat)
    case atStart => exact ⟨0, none, 0, [], Nat.zero_le _, rfl, Nat.le_refl _, HT0.out, FN.out⟩
    case round =>
      obtain ⟨k, ao1, cap1, m, hk, rfl, HM, HT, HF⟩ := hrel
      by_cases hlt : k < l.length
      · obtain ⟨b, off, x, hao, Hx, hmem, d0, d1, d2, d3, d4, d5, d6⟩ := (HR.out.fr HF.out (by simp)).seven hlt
        have KS : Hid (∀ W, Calls _ _ _ _ _) := short_any x
        have HXO : Hid (x.ok wr) := (HOK.out x hmem).fr HF.out
        subst hao
        have z1 : (0 : Int) ≤ (k : Int) := by omega
        have z2 : (k : Int) < (l.length : Int) := by omega
        have zk : (k : Int) + 1 ≤ 9223372036854775807 := by omega
        clear hmem
        obtain ⟨sh, Hsh⟩ : ∃ s, Hid (x.short = s) := ⟨_, rfl⟩
        rw [Hsh.out] at KS
        go_wp2_with fail
        refine (KS.out _).mono ?_
        rintro e w3 ⟨rfl, f3⟩
        have F3 : Hid (Fr (fun _ => False) wr w3) := f3
        clear f3
        cases sh with
        | false =>
          go_wp2
          go_ret
          exact ⟨rfl, HF.out.trans F3.out⟩
        | true =>
          have KT : Hid (Calls _ _ _ _ _) := take_any x tb tb ao1 cap1 m w3 (HT.out.fr F3.out) (HXO.out.fr F3.out) (short_sh Hsh.out) (by have := HM.out; omega)
          replace d0 := F3.out.cell d0 (by simp)
          replace d1 := F3.out.cell d1 (by simp)
          replace d2 := F3.out.cell d2 (by simp)
          replace d3 := F3.out.cell d3 (by simp)
          replace d4 := F3.out.cell d4 (by simp)
          replace d5 := F3.out.cell d5 (by simp)
          replace d6 := F3.out.cell d6 (by simp)
          go_wp2_with fail
          refine KT.out.mono ?_
          rintro e w4 (⟨_, rfl, f4⟩ | ⟨_, rfl, p, y, a1, c1, hat, hlike, hT4, f4⟩)
          · have HF4 : Hid (Fr (fun _ => False) w w4) := (HF.out.trans F3.out).trans f4
            have HT4 : Hid (TabP w4 tb tb ao1 cap1 m) := HT.out.fr (F3.out.trans f4)
            clear f4 d0 d1 d2 d3 d4 d5 d6 KS KT
            go_wp2
            go_roundw
            case rel => exact ⟨k + 1, ao1, cap1, m, by omega, by go_num, (show _ ≤ _ by have := HM.out; omega), HT4.out, HF4.out⟩
            case measure => simp [intOf]; omega
          · have HF4 : Hid (Fr (fun _ => False) w w4) := (HF.out.trans F3.out).trans' f4 (fun j hj e => by
              rcases e with e | ⟨a, ha, e⟩
              · have := HTB.out; omega
              · have := (HT.out.blk a ha).2.1; have := HTB.out; omega)
            have HT4 : Hid (TabP w4 tb tb a1 c1 (putH m p y)) := hT4
            have HM4 : Hid ((putH m p y).length ≤ k + 1) := (show _ ≤ _ by have := put_len (x := y) hat.le; have := HM.out; omega)
            clear f4 hT4 hat hlike d0 d1 d2 d3 d4 d5 d6 KS KT
            go_wp2
            go_roundw
            case rel => exact ⟨k + 1, a1, c1, _, by omega, by go_num, HM4.out, HT4.out, HF4.out⟩
            case measure => simp [intOf]; omega
      · have z2 : ¬ (k : Int) < (l.length : Int) := by omega
        have KL : Hid (Calls _ _ _ _ _) := all_any tb tb ao1 cap1 m wr HT.out (by have := HM.out; omega)
        have hml : m.length ≤ 30 := by have := HM.out; omega
        go_wp2_with fail
        refine KL.out.mono ?_
        rintro e wA ⟨ai, ci, rfl, hoi, fA⟩
        obtain ⟨ao9, c9, e9, hri, _⟩ := hoi.row
        rw [List.length_map] at e9
        cases e9
        have HI : Hid (RowF wA ai (m.map Hd.idn) ci) := hri
        have HTA : Hid (TabP wA tb tb ao1 cap1 m) := HT.out.fr fA
        have HFA : Hid (Fr (fun _ => False) w wA) := HF.out.trans fA
        clear hoi hri fA
        go_wp2
        go_loopw [7] (fun iv wr2 => ∃ i : Nat, i ≤ m.length ∧ iv = .int .i64 (i : Int) ∧ Hid (Fr (fun _ => False) wA wr2)) (fun iv _ => m.length - (intOf iv).toNat)
        case atStart => exact ⟨0, Nat.zero_le _, rfl, Fr.refl _ _⟩
        case round =>
          obtain ⟨i, hi, rfl, HG⟩ := hrel
          by_cases him : i < m.length
          · obtain ⟨bi, oi, hai, e0, e1⟩ := (HI.out.fr HG.out (by simp)).two him
            have KG : Hid (Calls _ _ _ _ _) := get_at tb tb ao1 cap1 m _ (HTA.out.fr HG.out) (by omega) i him
            obtain ⟨hI, HI2⟩ : ∃ h, Hid (m.getD i dH = h) := ⟨_, rfl⟩
            rw [HI2.out] at e0 e1 KG
            subst hai
            have z3 : (0 : Int) ≤ (i : Int) := by omega
            have z4 : (i : Int) < (m.length : Int) := by omega
            go_wp2_with fail
            refine KG.out.mono ?_
            rintro e w5 ⟨x, rfl, hxo, hxl, f5⟩
            have HX : Hid (x.ok w5 ∧ x.like hI) := ⟨hxo, hxl⟩
            have HG5 : Hid (Fr (fun _ => False) wA w5) := HG.out.trans f5
            have HB5 : Hid (C7 (w5.alloc (.cells #[.int .u64 (x.a0 : Int), .int .u64 (x.a1 : Int), .int .u64 (x.a2 : Int), .slice x.ga x.g.length x.gc, .slice x.sa x.s.length x.sc, .slice x.pa x.p.length x.pc, .slice x.da x.dl.length x.dc] 29)) w5.heap.size (.int .u64 (x.a0 : Int)) (.int .u64 (x.a1 : Int)) (.int .u64 (x.a2 : Int)) (.slice x.ga x.g.length x.gc) (.slice x.sa x.s.length x.sc) (.slice x.pa x.p.length x.pc) (.slice x.da x.dl.length x.dc)) := C7.new w5 29 _ _ _ _ _ _ _
            have HG6 : Hid (Fr (fun _ => False) wA (w5.alloc (.cells #[.int .u64 (x.a0 : Int), .int .u64 (x.a1 : Int), .int .u64 (x.a2 : Int), .slice x.ga x.g.length x.gc, .slice x.sa x.s.length x.sc, .slice x.pa x.p.length x.pc, .slice x.da x.dl.length x.dc] 29))) := HG5.out.alloc _
            have HX6 : Hid (x.ok (w5.alloc (.cells #[.int .u64 (x.a0 : Int), .int .u64 (x.a1 : Int), .int .u64 (x.a2 : Int), .slice x.ga x.g.length x.gc, .slice x.sa x.s.length x.sc, .slice x.pa x.p.length x.pc, .slice x.da x.dl.length x.dc] 29)) ∧ x.like hI) := ⟨hxo.fr ((Fr.refl _ _).alloc _), hxl⟩
            clear hxo hxl f5 e0 e1 KG
            go_wp2
            obtain ⟨bx, Hbx⟩ : ∃ b, Hid (w5.heap.size = b) := ⟨_, rfl⟩
            obtain ⟨W6, HW6⟩ : ∃ W, Hid (w5.alloc (.cells #[.int .u64 (x.a0 : Int), .int .u64 (x.a1 : Int), .int .u64 (x.a2 : Int), .slice x.ga x.g.length x.gc, .slice x.sa x.s.length x.sc, .slice x.pa x.p.length x.pc, .slice x.da x.dl.length x.dc] 29) = W) := ⟨_, rfl⟩
            rw [HW6.out] at HB5 HG6 HX6 ⊢
            rw [Hbx.out] at HB5 ⊢
            go_loopw [10] (fun kv wr3 => ∃ k2 : Nat, k2 ≤ i ∧ kv = .int .i64 (k2 : Int) ∧ Hid (Fr (fun _ => False) W6 wr3)) (fun kv _ => i - (intOf kv).toNat)
            case atStart => exact ⟨0, Nat.zero_le _, rfl, Fr.refl _ _⟩
            case round =>
              obtain ⟨k2, hk2, rfl, HK⟩ := hrel
              by_cases hki : k2 < i
              · obtain ⟨bj, oj, haj, e0, e1⟩ := (HI.out.fr (HG6.out.trans HK.out) (by simp)).two (show k2 < m.length by omega)
                have KG : Hid (Calls _ _ _ _ _) := get_at tb tb ao1 cap1 m _ (HTA.out.fr (HG6.out.trans HK.out)) (by omega) k2 (by omega)
                have HNO : Hid (∀ y : Hd, y.like (m.getD k2 dH) → x.meets y = false) := fun y hy => meets_no HTA.out.alone hki him (by rw [HI2.out]; exact HX6.out.2) hy
                obtain ⟨hJ, HJ2⟩ : ∃ h, Hid (m.getD k2 dH = h) := ⟨_, rfl⟩
                rw [HJ2.out] at e0 e1 KG HNO
                cases haj
                have z5 : (k2 : Int) < (i : Int) := by omega
                have z6 : (0 : Int) ≤ (k2 : Int) := by omega
                have z7 : (k2 : Int) < (m.length : Int) := by omega
                go_wp2_with fail
                refine KG.out.mono ?_
                rintro e w7 ⟨y, rfl, hyo, hyl, f7⟩
                have HK7 : Hid (Fr (fun _ => False) W6 w7) := HK.out.trans f7
                have HK8 : Hid (Fr (fun _ => False) W6 (w7.alloc (.cells #[.int .u64 (y.a0 : Int), .int .u64 (y.a1 : Int), .int .u64 (y.a2 : Int), .slice y.ga y.g.length y.gc, .slice y.sa y.s.length y.sc, .slice y.pa y.p.length y.pc, .slice y.da y.dl.length y.dc] 29))) := HK7.out.alloc _
                obtain ⟨q0, q1, q2, q3, q4, q5, q6⟩ := HB5.out.fr HK8.out (by simp)
                obtain ⟨r0, r1, r2, r3, r4, r5, r6⟩ := C7.new w7 29 (.int .u64 (y.a0 : Int)) (.int .u64 (y.a1 : Int)) (.int .u64 (y.a2 : Int)) (.slice y.ga y.g.length y.gc) (.slice y.sa y.s.length y.sc) (.slice y.pa y.p.length y.pc) (.slice y.da y.dl.length y.dc)
                have KM : Hid (Calls _ _ _ _ _) := refmeet_any x y (w7.alloc (.cells #[.int .u64 (y.a0 : Int), .int .u64 (y.a1 : Int), .int .u64 (y.a2 : Int), .slice y.ga y.g.length y.gc, .slice y.sa y.s.length y.sc, .slice y.pa y.p.length y.pc, .slice y.da y.dl.length y.dc] 29)) (HX6.out.1.fr HK8.out) (hyo.fr ((Fr.refl _ _).alloc _))
                rw [HNO.out y hyl] at KM
                clear hyo hyl f7 e0 e1 KG HNO
                go_wp2_with fail
                refine KM.out.mono ?_
                rintro e w8 ⟨rfl, f8⟩
                have HK9 : Hid (Fr (fun _ => False) W6 w8) := HK8.out.trans f8
                clear f8 q0 q1 q2 q3 q4 q5 q6 r0 r1 r2 r3 r4 r5 r6 KM
                go_wp2
                go_roundw
                case rel => exact ⟨k2 + 1, by omega, by go_num, HK9.out⟩
                case measure => simp [intOf]; omega
              · have z5 : ¬ (k2 : Int) < (i : Int) := by omega
                have HGE : Hid (Fr (fun _ => False) wA _) := HG6.out.trans HK.out
                go_wp2
                go_roundw
                case rel => exact ⟨i + 1, by omega, by go_num, HGE.out⟩
                case measure => simp [intOf]; omega
          · have z4 : ¬ (i : Int) < (m.length : Int) := by omega
            go_wp2
            go_ret
            exact ⟨rfl, HFA.out.trans HG.out⟩
end Go.Proofs.Ytaalkhipncbjpaa
