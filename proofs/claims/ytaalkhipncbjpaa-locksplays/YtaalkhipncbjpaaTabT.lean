/- The walk of LocksPlays. -/
import Derived.Test.YtaalkhipncbjpaaTabS
namespace Go.Proofs.Ytaalkhipncbjpaa
open Go Go.RowKit
attribute [local go_sem] run_store_float
set_option maxRecDepth 100000 in
set_option maxHeartbeats 20000000 in
theorem plays_walk (ta : Option Addr) (tl : List Nat) (tc : Nat) (w : World) (hl : Row w ta tl tc) :
    Calls Try.prog 4 #[.slice ta tl.length tc] w fun e w' => e = .returned (.bool true) ∧ Fr (fun _ => False) w w' := by
  have KA : Hid (∀ W, Calls _ _ _ _ _) := awake_any
  have HRL : Hid (Row w ta tl tc) := hl
  have HBL : Hid (tl ≠ [] → ∀ x, ta = some x → x.block < w.heap.size) := fun hne x hx => by
    obtain ⟨g, off, hg, hc⟩ := hl.2.2.2.2 hne
    rw [hg] at hx
    cases hx
    exact World.block_lt_of_cell? _ _ (hc 0 (by cases tl with | nil => exact absurd rfl hne | cons => simp))
  have hl1 : tl.length ≤ 9223372036854775807 := by have := hl.1; have := hl.2.1; unfold maxLen at this; omega
  clear hl
  by_cases h500 : 500 < tl.length
  · have z0 : (500 : Int) < (tl.length : Int) := by omega
    go_enter Try.func4, Try.ntmps4
    go_wp2_with fail
    refine (KA.out _).mono ?_
    rintro e w1 ⟨rfl, f1⟩
    have F1 : Hid (Fr (fun _ => False) w w1) := f1
    clear f1
    go_wp2_with fail
    refine (KA.out _).mono ?_
    rintro e w2 ⟨rfl, f2⟩
    go_wp2
    go_ret
    exact ⟨rfl, F1.out.trans f2⟩
  · have z0 : ¬ (500 : Int) < (tl.length : Int) := by omega
    go_enter Try.func4, Try.ntmps4
    go_wp2_with (go_at_call 9; refine (KA.out _).mono ?_; rintro e w1 ⟨rfl, f1⟩)
    have HT0 : Hid (TabP ((w1.alloc (.cells #[.slice ta tl.length tc, .int .i64 0] 34)).alloc (.cells #[.slice none 0 0] 88)) (w1.heap.size + 1) (w1.heap.size + 1) none 0 []) := (show TabP _ _ _ _ _ _ by have := tab_new (w1.alloc (.cells #[.slice ta tl.length tc, .int .i64 0] 34)) 88; simpa using this)
    have FN : Hid (Fr (fun _ => False) w ((w1.alloc (.cells #[.slice ta tl.length tc, .int .i64 0] 34)).alloc (.cells #[.slice none 0 0] 88))) := (f1.alloc _).alloc _
    have FN1 : Hid (Fr (fun _ => False) w1 ((w1.alloc (.cells #[.slice ta tl.length tc, .int .i64 0] 34)).alloc (.cells #[.slice none 0 0] 88))) := ((Fr.refl _ _).alloc _).alloc _
    have HTP : Hid (Tp ((w1.alloc (.cells #[.slice ta tl.length tc, .int .i64 0] 34)).alloc (.cells #[.slice none 0 0] 88)) w1.heap.size ta tl tc 0) := (show Tp _ _ _ _ _ _ by
      have h1 : Tp (w1.alloc (.cells #[.slice ta tl.length tc, .int .i64 0] 34)) w1.heap.size ta tl tc 0 := ⟨by simp, by simp, by simp, (f1.alloc _).row HRL.out (by simp), Nat.zero_le _, fun hne x hx e => by have := HBL.out hne x hx; have := f1.size; omega⟩
      exact h1.fr ((Fr.refl (fun _ => False) _).alloc _) (by simp) (by simp))
    have HSZ : Hid (w.heap.size ≤ w1.heap.size) := f1.size
    clear f1 KA
    go_wp2_with (go_at_call 16; refine (new_any _).mono ?_; rintro e w2 ⟨rfl, rfl⟩)
    have hsz1 : (w1.alloc (.cells #[.slice ta tl.length tc, .int .i64 0] 34)).heap.size = w1.heap.size + 1 := by simp
    try rw [hsz1]
    clear hsz1
    obtain ⟨tp, Htp⟩ : ∃ t, Hid (w1.heap.size = t) := ⟨_, rfl⟩
    rw [Htp.out] at HT0 HTP HSZ ⊢
    obtain ⟨tb, Htb⟩ : ∃ t, Hid (tp + 1 = t) := ⟨_, rfl⟩
    rw [Htb.out] at HT0 ⊢
    obtain ⟨W1, HW1⟩ : ∃ W, Hid ((w1.alloc (.cells #[.slice ta tl.length tc, .int .i64 0] 34)).alloc (.cells #[.slice none 0 0] 88) = W) := ⟨_, rfl⟩
    rw [HW1.out] at HT0 HTP FN FN1 ⊢
    have HPL : Hid (Pl w W1 tp tb ta tl tc none 0 [] none [] 0) := ⟨⟨HSZ.out, by have := Htb.out; omega⟩, ⟨0, HTP.out⟩, HBL.out, HT0.out, RowF.nil _, fun a ha => (by cases ha), fun x hx => (by cases hx), fun x hx => (by cases hx), FN.out⟩
    clear HT0 HTP FN1
    go_wp2
    go_loopw [5, 6] (fun mv iv wr => ∃ (i : Nat) (ao : Option Addr) (cap : Nat) (l : List Hd) (am : Option Addr) (m : List Hd) (cm : Nat), i ≤ 25 ∧ iv = .int .i64 (i : Int) ∧ mv = .slice am m.length cm ∧ Hid (m.length ≤ i) ∧ Hid (Rel l m) ∧ Hid (Pl w wr tp tb ta tl tc ao cap l am m cm)) (fun _ iv _ => 25 - (intOf iv).toNat)
    case atStart => exact ⟨0, none, 0, [], none, [], 0, by omega, rfl, rfl, Nat.le_refl _, List.Perm.refl _, HPL.out⟩
    case round =>
      obtain ⟨i, ao, cap, l, am, m, cm, hi, rfl, rfl, HM, HR, HP⟩ := hrel
      by_cases hi25 : i < 25
      · have y1 : (i : Int) < 25 := by omega
        have KN : Hid (Calls _ _ _ _ _) := next_any HP.out.tape.choose_spec 3 (by omega) (by omega)
        go_wp2_with fail
        refine KN.out.mono ?_
        rintro e w1 ⟨r, rfl, hr, hj1, f1⟩
        have HP1 : Hid (Pl w w1 tp tb ta tl tc ao cap l am m cm) := HP.out.frT f1 hj1
        clear hj1 f1 KN
        by_cases hr0 : r = 0
        · subst hr0
          have KO : Hid (Calls _ _ _ _ _) := of_any HP1.out.tape.choose_spec HP1.out.ta1
          go_wp2_with fail
          refine KO.out.mono ?_
          rintro e w2 ⟨s, q, rfl, hj2, f2⟩
          have HP2 : Hid (Pl w w2 tp tb ta tl tc ao cap l am m cm) := HP1.out.frT f2 hj2
          clear hj2 f2 KO
          have HP3 : Hid (Pl w (w2.alloc (.cells #[.int .u64 (s : Int), .int .u64 (q : Int)] 24)) tp tb ta tl tc ao cap l am m cm) := HP2.out.fr0 ((Fr.refl _ _).alloc _)
          have HB3 : Hid (C2 (w2.alloc (.cells #[.int .u64 (s : Int), .int .u64 (q : Int)] 24)) w2.heap.size (.int .u64 (s : Int)) (.int .u64 (q : Int))) := C2.new w2 24 _ _
          have KH : Hid (Calls _ _ _ _ _) := held_any s q am m cm (w2.alloc (.cells #[.int .u64 (s : Int), .int .u64 (q : Int)] 24)) HP3.out.row HP3.out.ok
          obtain ⟨u, Hu⟩ : ∃ u, Hid ((m.any fun x => x.is s q) = u) := ⟨_, rfl⟩
          rw [Hu.out] at KH
          go_wp2_with fail
          refine KH.out.mono ?_
          rintro e w4 ⟨x, rfl, _, _, f4⟩
          have HP4 : Hid (Pl w w4 tp tb ta tl tc ao cap l am m cm) := HP3.out.fr0 f4
          have HP5 : Hid (Pl w (w4.alloc (.cells #[.int .u64 (x.a0 : Int), .int .u64 (x.a1 : Int), .int .u64 (x.a2 : Int), .slice x.ga x.g.length x.gc, .slice x.sa x.s.length x.sc, .slice x.pa x.p.length x.pc, .slice x.da x.dl.length x.dc] 29)) tp tb ta tl tc ao cap l am m cm) := HP4.out.fr0 ((Fr.refl _ _).alloc _)
          have HB5 : Hid (C2 (w4.alloc (.cells #[.int .u64 (x.a0 : Int), .int .u64 (x.a1 : Int), .int .u64 (x.a2 : Int), .slice x.ga x.g.length x.gc, .slice x.sa x.s.length x.sc, .slice x.pa x.p.length x.pc, .slice x.da x.dl.length x.dc] 29)) w2.heap.size (.int .u64 (s : Int)) (.int .u64 (q : Int))) := HB3.out.fr (f4.alloc _) (by simp)
          obtain ⟨xb, Hxb⟩ : ∃ b, Hid (w2.heap.size = b) := ⟨_, rfl⟩
          rw [Hxb.out] at HB5 ⊢
          have KD : Hid (Calls _ _ _ _ _) := refdrop_any s q am m cm (w4.alloc (.cells #[.int .u64 (x.a0 : Int), .int .u64 (x.a1 : Int), .int .u64 (x.a2 : Int), .slice x.ga x.g.length x.gc, .slice x.sa x.s.length x.sc, .slice x.pa x.p.length x.pc, .slice x.da x.dl.length x.dc] 29)) HP5.out.row (by have := HM.out; omega)
          clear f4 KH
          obtain ⟨c0, c1⟩ := HB5.out
          go_wp2_with fail
          refine KD.out.mono ?_
          rintro e w6 ⟨a1, c2, rfl, ho6, f6⟩
          have HB6 : Hid (C2 w6 xb (.int .u64 (s : Int)) (.int .u64 (q : Int))) := HB5.out.fr f6 (by simp)
          have HP6 : Hid (Pl w w6 tp tb ta tl tc ao cap l a1 (m.filter fun x => !x.is s q) c2) := HP5.out.newm f6 ho6 (fun y hy => ⟨HP5.out.ok y (List.mem_filter.1 hy).1, HP5.out.ins y (List.mem_filter.1 hy).1⟩)
          have HR9 : Hid (Rel (l.filter fun x => !x.is s q) (m.filter fun x => !x.is s q)) := HR.out.drop s q
          have HM9 : Hid ((m.filter fun x => !x.is s q).length ≤ i + 1) := (show _ ≤ _ by have := List.length_filter_le (fun x : Hd => !x.is s q) m; have := HM.out; omega)
          have KX : Hid (Calls _ _ _ _ _) := drop_any s q tb tb ao cap l w6 HP6.out.tab (by have := HR.out.len; have := HM.out; omega)
          rw [HR.out.any (f := fun x => x.is s q) (fun x y e => key_is e _ _), Hu.out] at KX
          clear ho6 f6 KD c0 c1
          obtain ⟨c0, c1⟩ := HB6.out
          go_wp2_with fail
          refine KX.out.mono ?_
          rintro e w9 ⟨rfl, hT9, f9⟩
          have HP9 : Hid (Pl w w9 tp tb ta tl tc ao cap (l.filter fun x => !x.is s q) a1 (m.filter fun x => !x.is s q) c2) := HP6.out.newt f9 hT9 (fun a ha => .inl ⟨a, ha, rfl⟩)
          clear hT9 f9 KX c0 c1
          cases u with
          | true =>
            have KT : Hid (Calls _ _ _ _ _) := told_any tb tb ao cap (l.filter fun x => !x.is s q) a1 (m.filter fun x => !x.is s q) c2 w9 HP9.out.tab HP9.out.row HP9.out.ok HR9.out (by have := HR9.out.len; have := HM9.out; omega)
            go_wp2_with fail
            refine KT.out.mono ?_
            rintro e wT ⟨rfl, fT⟩
            have HPT : Hid (Pl w wT tp tb ta tl tc ao cap (l.filter fun x => !x.is s q) a1 (m.filter fun x => !x.is s q) c2) := HP9.out.fr0 fT
            clear fT KT
            go_wp2
            go_roundw
            case rel => exact ⟨i + 1, ao, cap, (l.filter fun x => !x.is s q), a1, (m.filter fun x => !x.is s q), c2, by omega, by go_num, rfl, HM9.out, HR9.out, HPT.out⟩
            case measure => simp [intOf]; omega
          | false =>
            have KT : Hid (Calls _ _ _ _ _) := told_any tb tb ao cap (l.filter fun x => !x.is s q) a1 (m.filter fun x => !x.is s q) c2 w9 HP9.out.tab HP9.out.row HP9.out.ok HR9.out (by have := HR9.out.len; have := HM9.out; omega)
            go_wp2_with fail
            refine KT.out.mono ?_
            rintro e wT ⟨rfl, fT⟩
            have HPT : Hid (Pl w wT tp tb ta tl tc ao cap (l.filter fun x => !x.is s q) a1 (m.filter fun x => !x.is s q) c2) := HP9.out.fr0 fT
            clear fT KT
            go_wp2
            go_roundw
            case rel => exact ⟨i + 1, ao, cap, (l.filter fun x => !x.is s q), a1, (m.filter fun x => !x.is s q), c2, by omega, by go_num, rfl, HM9.out, HR9.out, HPT.out⟩
            case measure => simp [intOf]; omega
        · have e0 : ¬ ((r : Int) = 0) := by omega
          have KO : Hid (Calls _ _ _ _ _) := hold_sh HP1.out.tape.choose_spec HP1.out.ta1
          go_wp2_with fail
          refine KO.out.mono ?_
          rintro e w2 ⟨x, rfl, hxs, hxo, hxf, hj2, f2⟩
          have HP2 : Hid (Pl w w2 tp tb ta tl tc ao cap l am m cm) := HP1.out.frT f2 hj2
          have HXS : Hid x.sh := hxs
          have HXO : Hid (x.ok w2) := hxo
          have HXI : Hid (x.ins (fun k => k ≠ tb ∧ k ≠ tp ∧ ∀ b, ao = some b → k ≠ b.block)) := (show Hd.ins _ _ by
            have h1 := HP1.out.tab.lt
            have h2 := HP1.out.lo
            have h3 : ∀ k, w1.heap.size ≤ k → k ≠ tb ∧ k ≠ tp ∧ ∀ b, ao = some b → k ≠ b.block := fun k hk => ⟨by omega, by omega, fun b hb => by have := HP1.out.tab.blk b hb; omega⟩
            exact ⟨fun _ a e => h3 _ (hxf.1 a e), fun _ a e => h3 _ (hxf.2.1 a e), fun _ a e => h3 _ (hxf.2.2.1 a e), fun _ a e => h3 _ (hxf.2.2.2 a e)⟩)
          clear hxs hxo hxf hj2 f2 KO
          have FA : Hid (Fr (fun _ => False) w2 (w2.alloc (.cells #[.int .u64 (x.a0 : Int), .int .u64 (x.a1 : Int), .int .u64 (x.a2 : Int), .slice x.ga x.g.length x.gc, .slice x.sa x.s.length x.sc, .slice x.pa x.p.length x.pc, .slice x.da x.dl.length x.dc] 29))) := (Fr.refl _ _).alloc _
          have HP3 : Hid (Pl w (w2.alloc (.cells #[.int .u64 (x.a0 : Int), .int .u64 (x.a1 : Int), .int .u64 (x.a2 : Int), .slice x.ga x.g.length x.gc, .slice x.sa x.s.length x.sc, .slice x.pa x.p.length x.pc, .slice x.da x.dl.length x.dc] 29)) tp tb ta tl tc ao cap l am m cm) := HP2.out.fr0 FA.out
          have HB3 : Hid (C7 (w2.alloc (.cells #[.int .u64 (x.a0 : Int), .int .u64 (x.a1 : Int), .int .u64 (x.a2 : Int), .slice x.ga x.g.length x.gc, .slice x.sa x.s.length x.sc, .slice x.pa x.p.length x.pc, .slice x.da x.dl.length x.dc] 29)) w2.heap.size (.int .u64 (x.a0 : Int)) (.int .u64 (x.a1 : Int)) (.int .u64 (x.a2 : Int)) (.slice x.ga x.g.length x.gc) (.slice x.sa x.s.length x.sc) (.slice x.pa x.p.length x.pc) (.slice x.da x.dl.length x.dc)) := C7.new w2 29 _ _ _ _ _ _ _
          obtain ⟨xb, Hxb⟩ : ∃ b, Hid (w2.heap.size = b) := ⟨_, rfl⟩
          have HX3 : Hid (x.ok (w2.alloc (.cells #[.int .u64 (x.a0 : Int), .int .u64 (x.a1 : Int), .int .u64 (x.a2 : Int), .slice x.ga x.g.length x.gc, .slice x.sa x.s.length x.sc, .slice x.pa x.p.length x.pc, .slice x.da x.dl.length x.dc] 29))) := HXO.out.fr FA.out
          have KR : Hid (Calls _ _ _ _ _) := reftake_any x am m cm (w2.alloc (.cells #[.int .u64 (x.a0 : Int), .int .u64 (x.a1 : Int), .int .u64 (x.a2 : Int), .slice x.ga x.g.length x.gc, .slice x.sa x.s.length x.sc, .slice x.pa x.p.length x.pc, .slice x.da x.dl.length x.dc] 29)) HP3.out.row HP3.out.ok HX3.out (by have := HM.out; omega)
          rw [Hxb.out] at HB3
          clear FA
          go_wp2_with fail
          refine KR.out.mono ?_
          rw [Hxb.out]
          rintro e w4 (⟨hcf, rfl, f4⟩ | ⟨hcf, a1, c1, rfl, ho4, f4⟩)
          · have HP4 : Hid (Pl w w4 tp tb ta tl tc ao cap l am m cm) := HP3.out.fr0 f4
            have HB4 : Hid (C7 w4 xb (.int .u64 (x.a0 : Int)) (.int .u64 (x.a1 : Int)) (.int .u64 (x.a2 : Int)) (.slice x.ga x.g.length x.gc) (.slice x.sa x.s.length x.sc) (.slice x.pa x.p.length x.pc) (.slice x.da x.dl.length x.dc)) := HB3.out.fr f4 (by simp)
            have HX4 : Hid (x.ok w4) := HX3.out.fr f4
            have HCF : Hid ((l.any fun y => !y.id x && y.meets x) = true) := (show _ = _ by rw [HR.out.any (f := fun y => !y.id x && y.meets x) (fun y z e => key_conf e x)]; exact hcf)
            have KX : Hid (Calls _ _ _ _ _) := take_at x tb tb ao cap l w4 HP4.out.tab HX4.out HXS.out (by have := HR.out.len; have := HM.out; omega)
            have HR9 : Hid (Rel l m) := HR.out
            have HM9 : Hid (m.length ≤ i + 1) := Nat.le_succ_of_le HM.out
            clear f4 hcf KR
            obtain ⟨d0, d1, d2, d3, d4, d5, d6⟩ := HB4.out
            go_wp2_with fail
            refine KX.out.mono ?_
            rintro e w9 (⟨_, rfl, f9⟩ | ⟨hno, _⟩)
            · have HP9 : Hid (Pl w w9 tp tb ta tl tc ao cap l am m cm) := HP4.out.fr0 f9
              clear f9 KX d0 d1 d2 d3 d4 d5 d6
              have KT : Hid (Calls _ _ _ _ _) := told_any tb tb ao cap l am m cm w9 HP9.out.tab HP9.out.row HP9.out.ok HR9.out (by have := HR9.out.len; have := HM9.out; omega)
              go_wp2_with fail
              refine KT.out.mono ?_
              rintro e wT ⟨rfl, fT⟩
              have HPT : Hid (Pl w wT tp tb ta tl tc ao cap l am m cm) := HP9.out.fr0 fT
              clear fT KT
              go_wp2
              go_roundw
              case rel => exact ⟨i + 1, ao, cap, l, am, m, cm, by omega, by go_num, rfl, HM9.out, HR9.out, HPT.out⟩
              case measure => simp [intOf]; omega
            · rw [HCF.out] at hno
              exact absurd hno (by simp)
          · have HOM : Hid (∀ y ∈ (m.filter fun y => !y.is x.a0 x.a1) ++ [x], y.ok (w2.alloc (.cells #[.int .u64 (x.a0 : Int), .int .u64 (x.a1 : Int), .int .u64 (x.a2 : Int), .slice x.ga x.g.length x.gc, .slice x.sa x.s.length x.sc, .slice x.pa x.p.length x.pc, .slice x.da x.dl.length x.dc] 29)) ∧ y.ins (fun k => k ≠ tb ∧ k ≠ tp ∧ ∀ b, ao = some b → k ≠ b.block)) := fun y hy => by
              rcases List.mem_append.1 hy with hy | hy
              · exact ⟨HP3.out.ok y (List.mem_filter.1 hy).1, HP3.out.ins y (List.mem_filter.1 hy).1⟩
              · rw [List.mem_singleton] at hy
                subst hy
                exact ⟨HX3.out, HXI.out⟩
            have HP4 : Hid (Pl w w4 tp tb ta tl tc ao cap l a1 ((m.filter fun y => !y.is x.a0 x.a1) ++ [x]) c1) := HP3.out.newm f4 ho4 HOM.out
            have HB4 : Hid (C7 w4 xb (.int .u64 (x.a0 : Int)) (.int .u64 (x.a1 : Int)) (.int .u64 (x.a2 : Int)) (.slice x.ga x.g.length x.gc) (.slice x.sa x.s.length x.sc) (.slice x.pa x.p.length x.pc) (.slice x.da x.dl.length x.dc)) := HB3.out.fr f4 (by simp)
            have HX4 : Hid (x.ok w4) := HX3.out.fr f4
            have HCF : Hid ((l.any fun y => !y.id x && y.meets x) = false) := (show _ = _ by rw [HR.out.any (f := fun y => !y.id x && y.meets x) (fun y z e => key_conf e x)]; exact hcf)
            have KX : Hid (Calls _ _ _ _ _) := take_at x tb tb ao cap l w4 HP4.out.tab HX4.out HXS.out (by have := HR.out.len; have := HM.out; omega)
            have HM9 : Hid (((m.filter fun y => !y.is x.a0 x.a1) ++ [x]).length ≤ i + 1) := (show _ ≤ _ by have := List.length_filter_le (fun y : Hd => !y.is x.a0 x.a1) m; have := HM.out; simp; omega)
            obtain ⟨M, HMM⟩ : ∃ M, Hid ((m.filter fun y => !y.is x.a0 x.a1) ++ [x] = M) := ⟨_, rfl⟩
            rw [HMM.out] at HP4 HM9 ⊢
            clear f4 hcf ho4 HOM KR
            obtain ⟨d0, d1, d2, d3, d4, d5, d6⟩ := HB4.out
            go_wp2_with fail
            refine KX.out.mono ?_
            rintro e w9 (⟨hno, _⟩ | ⟨_, rfl, p, y, a9, c9, hat, hlk, hT9, hnw, f9⟩)
            · rw [HCF.out] at hno
              exact absurd hno (by simp)
            · have HP9 : Hid (Pl w w9 tp tb ta tl tc a9 c9 (putH l p y) a1 M c1) := HP4.out.newt f9 hT9 hnw.out
              have HR9 : Hid (Rel (putH l p y) M) := (show Rel _ _ by
                rw [← HMM.out]
                exact HR.out.put (x := y) (y := x) HP1.out.tab.srt (by rw [hlk.1, hlk.2.1]; exact hat) ((like_iff _ _).1 hlk))
              clear f9 hT9 hat hlk hnw KX d0 d1 d2 d3 d4 d5 d6
              have KT : Hid (Calls _ _ _ _ _) := told_any tb tb a9 c9 (putH l p y) a1 M c1 w9 HP9.out.tab HP9.out.row HP9.out.ok HR9.out (by have := HR9.out.len; have := HM9.out; omega)
              go_wp2_with fail
              refine KT.out.mono ?_
              rintro e wT ⟨rfl, fT⟩
              have HPT : Hid (Pl w wT tp tb ta tl tc a9 c9 (putH l p y) a1 M c1) := HP9.out.fr0 fT
              clear fT KT
              go_wp2
              go_roundw
              case rel => exact ⟨i + 1, a9, c9, putH l p y, a1, M, c1, by omega, by go_num, rfl, HM9.out, HR9.out, HPT.out⟩
              case measure => simp [intOf]; omega
      · have y1 : ¬ (i : Int) < 25 := by omega
        go_wp2
        go_ret
        exact ⟨rfl, HP.out.fr⟩
end Go.Proofs.Ytaalkhipncbjpaa
