/- The statement OctetWrites, walked: whatever came in, it answers true and writes nothing that was there. -/
import Derived.Test.YtonhkmcjfggnlaaDoorWriteRead
import Derived.Test.YtonhkmcjfggnlaaDoorReadAll
import Derived.Test.YtonhkmcjfggnlaaDoorAwake
import Derived.Test.YtonhkmcjfggnlaaDoorOpen
import Derived.Deep.QuietTactic
import Derived.BigQuiet
import Derived.Deep.RegionHeld
namespace Go.Proofs.YtonhkmcjfggnlaaDoor
open Go.RowKit
set_option maxRecDepth 100000 in
set_option maxHeartbeats 2000000 in
theorem writes_B (a0 a1 a2 : Option Addr) (ns s : List Nat) (ps : List (List Nat)) (c0 c1 c2 : Nat) (b : Bool) (w : World) (ht : Tab w) (h0 : NRow w a0 ns c0) (h1 : Row w a1 s c1) (h2 : PRow w a2 ps c2) (hn : ns.length ≤ 40) (hp : ps.length ≤ 20) (hs : s.length < 9223372036854775808) (hcmp : s.length < ns.length) :
    Calls Tryd.prog 3 #[.slice a0 ns.length c0, .slice a1 s.length c1, .slice a2 ps.length c2, .bool b] w fun e w' => e = .returned (.bool true) ∧ Fr (fun _ => False) w w' := by
  have HNl : Hid ((nums ns s).length = s.length) := by show _ = _; rw [nums_length]; omega
  go_enter Tryd.func3, Tryd.ntmps3
  go_wp2_with fail
  refine (awake_any w ht).mono ?_
  rintro e w1 ⟨rfl, f1⟩
  have hwr := wr_new w1 w1.heap.size
  have f2 := f1.alloc (.cells #[.slice none 0 0] 28)
  have hwb : w.heap.size ≤ w1.heap.size := f1.size
  go_wp2
  generalize w1.alloc (.cells #[.slice none 0 0] 28) = w2 at *
  generalize w1.heap.size = wb at *
  go_loopw [9, 10, 11] (fun p t i wr => ∃ (k : Nat) (L : List Nat) (v vw : Value) (B : Nat), p = .pointer (some ⟨wb, 0, none⟩) ∧ t = vw ∧ i = .int .i64 (k : Int) ∧ k ≤ s.length ∧ Hid (L = upto (nums ns s) k) ∧ L.length ≤ 8 * k ∧ Wr wr wb wb v L ∧ Own wr B vw L ∧ wb < B ∧ (∀ j, v.ownBlock = some j → j < B) ∧ Fr (fun _ => False) w wr) (fun _ _ i _ => s.length - (intOf i).toNat)
  case atStart => exact ⟨0, [], .slice none 0 0, .slice none 0 0, wb + 1, rfl, rfl, rfl, Nat.zero_le _, rfl, by simp, hwr, Own.nil _ _, by omega, (fun j hj => by cases hj), f2⟩
  case round =>
    obtain ⟨k, L, v, vw, B, rfl, rfl, rfl, hk, HL, hLl, hW, hO, hB, hvB, hf⟩ := hrel
    clear hwr f2
    have hbase : wb < wr.heap.size := World.block_lt_of_cell? _ _ hW.cell
    by_cases hlt : k < s.length
    · obtain ⟨b0, o0, x, hao, hx, hcx, Hx⟩ := h0.at (k := k) (Fr.refl _ w) (by omega)
      obtain ⟨b1, o1, y, hao1, hy, hcy, Hy⟩ := h1.at (k := k) (Fr.refl _ w) (by omega)
      obtain ⟨nb, enb, hnb, Hnb⟩ : ∃ nb : Nat, (y : Int) % 9 = (nb : Int) ∧ nb ≤ 8 ∧ Hid (nb = y % 9) := ⟨y % 9, by omega, by omega, rfl⟩
      have HN : Hid (L ++ Crc.le nb x = upto (nums ns s) (k + 1)) := by show _ = _; rw [upto_succ (by rw [HNl.out]; exact hlt), nums_at ns s k (by omega) (by omega), ← HL.out, ← Hx.out, ← Hy.out, ← Hnb.out]
      have hcx' := hf.cell hcx (by simp)
      have hcy' := hf.cell hcy (by simp)
      subst hao
      subst hao1
      as_aux_lemma =>
        go_wp2_with fail
        refine (wnum_any wb wb v L x nb wr hW (by omega) hx hnb (by omega)).mono ?_
        rintro e w3 ⟨rfl, v3, hW3, k3⟩
        have f3 : Fr (fun _ => False) w w3 := hf.trans' k3.fr (fun i hi ht => by rcases ht with rfl | ht; omega; have := hW.own.lt i ht; omega)
        have hO3 := hO.fr k3.fr (fun j hj ht => by have := hO.lt j hj; rcases ht with rfl | ht; omega; have := hvB j ht; omega)
        obtain ⟨a3, c3, hv3, hr3, _⟩ := hO3.row
        subst hv3
        have hcx3 := f3.cell hcx (by simp)
        have hll : (L ++ Crc.le nb x).length ≤ 8 * (k + 1) := by rw [List.length_append, Crc.le_length]; omega
        go_wp2_with fail
        refine (refnum_any w3 a3 L c3 x nb hr3 hx hnb (by omega)).mono ?_
        rintro e w4 ⟨v4, rfl, hO4, f4⟩
        have f04 := f3.trans f4
        have hW4 := hW3.fr f4
        have hb4 := World.block_lt_of_cell? _ _ hW3.cell
        have hv4 := hW3.own.lt
        generalize L ++ Crc.le nb x = L1 at *
        go_wp2
        go_round
        case rel => exact ⟨k + 1, L1, v3, v4, w3.heap.size, rfl, rfl, by go_num, by omega, HN, hll, hW4, hO4, hb4, fun j hj => (hv4 j hj).2, f04⟩
        case measure => simp [intOf]; omega
    · have hke : k = s.length := by omega
      have HL1 : Hid (L = from' (nums ns s) 0) := by show _ = _; rw [HL.out, hke, ← HNl.out, upto_all]
      have hx1 : (k : Int) < (ns.length : Int) := by omega
      have hx2 : ¬ (k : Int) < (s.length : Int) := by omega
      have hLl' : L.length ≤ 320 := by omega
      clear hLl HL hlt
      go_wp2
      generalize hLe : L = L0 at HL1
      go_loopw [9, 10, 13] (fun p t i wr => ∃ (k : Nat) (L : List Nat) (v vw : Value) (B : Nat), p = .pointer (some ⟨wb, 0, none⟩) ∧ t = vw ∧ i = .int .i64 (k : Int) ∧ k ≤ ps.length ∧ Hid (L = L0 ++ upto (parts b ps) k) ∧ Hid (∀ j, j < k → (ps.getD j []).length ≤ 2000) ∧ L.length ≤ 320 + 2005 * k ∧ Wr wr wb wb v L ∧ Own wr B vw L ∧ wb < B ∧ (∀ j, v.ownBlock = some j → j < B) ∧ Fr (fun _ => False) w wr) (fun _ _ i _ => ps.length - (intOf i).toNat)
      case atStart => exact ⟨0, L, v, _, B, rfl, rfl, rfl, Nat.zero_le _, (by show _ = _; rw [hLe]; simp [upto]), (fun j hj => absurd hj (Nat.not_lt_zero _)), by omega, hW, hO, hB, hvB, hf⟩
      case round =>
        clear hW hO hB hvB hf hbase hLl' hLe hx1 hx2
        obtain ⟨i, L, v, vw, B, rfl, rfl, rfl, hi, HL, Hall, hLl, hW, hO, hB, hvB, hf⟩ := hrel
        have hbase : wb < wr.heap.size := World.block_lt_of_cell? _ _ hW.cell
        by_cases hlt : i < ps.length
        · obtain ⟨b2, o2, am, m, cm, hao, hcm, hrm, Hm⟩ := h2.at (k := i) (Fr.refl _ w) hlt
          have hcm' := hf.cell hcm (by simp)
          have hrm2 := hrm.2.1
          have hrm1 := hrm.1
          subst hao
          by_cases hbig : 2000 < m.length
          · as_aux_lemma =>
              unfold maxLen at hrm2
              go_wp2
              go_ret
              exact ⟨rfl, hf⟩
          · have HP : Hid (L ++ Crc.le 4 m.length ++ m ++ Crc.le 1 (bit b) = L0 ++ upto (parts b ps) (i + 1)) := by
              show _ = _
              rw [upto_succ (by rw [parts_length]; exact hlt), parts_at b ps i hlt, ← Hm.out, HL.out]
              simp only [List.append_assoc]
            have Hall' : Hid (∀ j, j < i + 1 → (ps.getD j []).length ≤ 2000) := fun j hj => by
              by_cases hji : j < i
              · exact Hall.out j hji
              · have : j = i := by omega
                subst this; rw [← Hm.out]; omega
            as_aux_lemma =>
              unfold maxLen at hrm2
              go_wp2_with fail
              refine (wbytes_any wb wb v L am m cm wr hW (hf.row hrm (by simp)) (fun hm a ha => by have := hrm.lt hm a ha; omega) (Nat.le_refl _) (by omega) (by omega)).mono ?_
              rintro e w3 ⟨rfl, v3, hW3, k3⟩
              have hl3 : (L ++ Crc.le 4 m.length ++ m).length = L.length + 4 + m.length := by rw [List.length_append, List.length_append, Crc.le_length]
              go_wp2_with fail
              refine (wflag_any wb wb v3 (L ++ Crc.le 4 m.length ++ m) b w3 hW3 (by have := k3.fr.size; omega) (by omega)).mono ?_
              rintro e w4 ⟨rfl, v4, hW4, k4⟩
              have k04 := k3.trans k4
              have f4 : Fr (fun _ => False) w w4 := hf.trans' k04.fr (fun i hi ht => by rcases ht with rfl | ht; omega; have := hW.own.lt i ht; omega)
              have hO4 := hO.fr k04.fr (fun j hj ht => by have := hO.lt j hj; rcases ht with rfl | ht; omega; have := hvB j ht; omega)
              obtain ⟨a3, c3, hv3, hr3, _⟩ := hO4.row
              subst hv3
              have hcm4 := f4.cell hcm (by simp)
              clear hl3
              go_wp2_with fail
              refine (refbytes_any w4 a3 am L m c3 cm hr3 (f4.row hrm (by simp)) (by omega)).mono ?_
              rintro e w5 ⟨v5, rfl, hO5, f5⟩
              have hl3 : (L ++ Crc.le 4 m.length ++ m).length ≤ L.length + 4 + m.length := by rw [List.length_append, List.length_append, Crc.le_length]; exact Nat.le_refl _
              generalize L ++ Crc.le 4 m.length ++ m = L3 at *
              obtain ⟨a5, c5, hv5, hr5, _⟩ := hO5.row
              subst hv5
              go_wp2_with fail
              refine (refflag_any w5 a5 L3 c5 b hr5 (by omega)).mono ?_
              rintro e w6 ⟨v6, rfl, hO6, f6⟩
              have hl4 : (L3 ++ Crc.le 1 (bit b)).length ≤ 320 + 2005 * (i + 1) := by rw [List.length_append, Crc.le_length]; omega
              have f06 := (f4.trans f5).trans f6
              have hW6 := (hW4.fr f5).fr f6
              have hb6 : wb < w5.heap.size := Nat.lt_of_lt_of_le (World.block_lt_of_cell? _ _ hW4.cell) f5.size
              have hv6 : ∀ j, v4.ownBlock = some j → j < w5.heap.size := fun j hj => Nat.lt_of_lt_of_le (hW4.own.lt j hj).2 f5.size
              generalize L3 ++ Crc.le 1 (bit b) = L4 at *
              go_wp2
              go_round
              case rel => exact ⟨i + 1, L4, v4, v6, w5.heap.size, rfl, rfl, by go_num, by omega, HP, Hall', hl4, hW6, hO6, hb6, hv6, f06⟩
              case measure => simp [intOf]; omega
        · have hie : i = ps.length := by omega
          have hx3 : ¬ (i : Int) < (ps.length : Int) := by omega
          have HL2 : Hid (L = L0 ++ from' (parts b ps) 0) := by show _ = _; rw [HL.out, hie, ← parts_length b ps, upto_all]
          have Hall2 : Hid (∀ j, j < ps.length → (ps.getD j []).length ≤ 2000) := by show ∀ j, j < ps.length → _; rw [← hie]; exact Hall.out
          have hLl' : L.length ≤ 40420 := by omega
          clear hlt HL Hall hLl
          obtain ⟨a3, c3, hv3, hr3, _⟩ := hO.row
          subst hv3
          go_wp2_with fail
          refine (done_any wb wb v L wr hW (by omega)).mono ?_
          rintro e w3 ⟨a4, rfl, hF4, f3⟩
          have f03 := hf.trans f3
          have s1 := run_str' w3 a4 L L.length L.length rfl hF4.1
          have s2 := run_str' w3 a3 L L.length c3 rfl (f3.row hr3 (by simp))
          go_wp2_with fail
          refine (read_any w3 a4 L L.length hF4.1).mono ?_
          rintro e w4 ⟨rfl, hR4, f4⟩
          have f04 := f03.trans f4
          have hrb : w.heap.size ≤ w3.heap.size := f03.size
          clear s1 s2 hF4 hr3 hW hO hB hvB hbase f3 f4 f03 hf hx3
          generalize w3.heap.size = rb at *
          go_wp2
          go_loopw [16] (fun i wr => ∃ (k : Nat) (ar : Option Addr) (lr : List Nat) (cr : Nat), i = .int .i64 (k : Int) ∧ k ≤ s.length ∧ Rd wr rb ar lr cr false ∧ Hid (lr = from' (nums ns s) k ++ from' (parts b ps) 0) ∧ Fr (fun _ => False) w wr) (fun i _ => s.length - (intOf i).toNat)
          case atStart => exact ⟨0, a4, L, L.length, rfl, Nat.zero_le _, hR4, (by show _ = _; rw [HL2.out, HL1.out]), f04⟩
          case round =>
            clear hR4 f04
            obtain ⟨k, ar, lr, cr, rfl, hk, hR, Hlr, hf⟩ := hrel
            by_cases hlt : k < s.length
            · obtain ⟨b0, o0, x, hao, hx, hcx, Hx⟩ := h0.at (k := k) hf (by omega)
              obtain ⟨b1, o1, y, hao1, hy, hcy, Hy⟩ := h1.at (k := k) hf (by omega)
              obtain ⟨nb, enb, hnb, Hnb⟩ : ∃ nb : Nat, (y : Int) % 9 = (nb : Int) ∧ nb ≤ 8 ∧ Hid (nb = y % 9) := ⟨y % 9, by omega, by omega, rfl⟩
              have hN := piece_num wr rb ar lr (from' (nums ns s) (k + 1) ++ from' (parts b ps) 0) cr nb x hR (by rw [Hlr.out, from_succ (by rw [HNl.out]; exact hlt), nums_at ns s k (by omega) (by omega), ← Hx.out, ← Hy.out, ← Hnb.out, List.append_assoc]) hnb
              subst hao
              subst hao1
              obtain ⟨z, hz⟩ : ∃ z, x % 256 ^ nb = z := ⟨_, rfl⟩
              rw [hz] at hN
              by_cases h8 : nb < 8
              · have em := mask_u64 x nb z hx h8 hz
                clear hz
                as_aux_lemma =>
                  go_wp2_with fail
                  refine hN.mono ?_
                  rintro e w5 ⟨rfl, ar5, cr5, hR5, f5⟩
                  have f05 := hf.trans' f5 (by intro i hi e; omega)
                  go_wp2
                  go_round
                  case rel => exact ⟨k + 1, _, _, _, by go_num, by omega, hR5, rfl, f05⟩
                  case measure => simp [intOf]; omega
              · have hn8 : nb = 8 := by omega
                have hzx : z = x := by rw [← hz, hn8]; exact Nat.mod_eq_of_lt hx
                subst hzx
                have hge : ¬ (nb : Int) < 8 := by omega
                clear hz hn8 h8
                as_aux_lemma =>
                  go_wp2_with fail
                  refine hN.mono ?_
                  rintro e w5 ⟨rfl, ar5, cr5, hR5, f5⟩
                  have f05 := hf.trans' f5 (by intro i hi e; omega)
                  go_wp2
                  go_round
                  case rel => exact ⟨k + 1, _, _, _, by go_num, by omega, hR5, rfl, f05⟩
                  case measure => simp [intOf]; omega
            · have hke : k = s.length := by omega
              have Hlr2 : Hid (lr = from' (parts b ps) 0) := by show _ = _; rw [Hlr.out, hke, ← HNl.out, from_end, List.nil_append]
              have hx1 : (k : Int) < (ns.length : Int) := by omega
              have hx2 : ¬ (k : Int) < (s.length : Int) := by omega
              clear Hlr
              go_wp2
              go_loopw [19] (fun i wr => ∃ (k : Nat) (ar : Option Addr) (lr : List Nat) (cr : Nat), i = .int .i64 (k : Int) ∧ k ≤ ps.length ∧ Rd wr rb ar lr cr false ∧ Hid (lr = from' (parts b ps) k) ∧ Fr (fun _ => False) w wr) (fun i _ => ps.length - (intOf i).toNat)
              case atStart => exact ⟨0, ar, lr, cr, rfl, Nat.zero_le _, hR, Hlr2, hf⟩
              case round =>
                clear hR hf Hlr2
                obtain ⟨i, ar, lr, cr, rfl, hi, hR, Hlr, hf⟩ := hrel
                by_cases hlt : i < ps.length
                · obtain ⟨b2, o2, am, m, cm, hao, hcm, hrm, Hm⟩ := h2.at (k := i) hf hlt
                  have hm : m.length ≤ 2000 := by rw [Hm.out]; exact Hall2.out i hlt
                  have Hl : Hid (lr = Crc.le 4 m.length ++ (m ++ (Crc.le 1 (bit b) ++ from' (parts b ps) (i + 1)))) := by show _ = _; rw [Hlr.out, from_succ (by rw [parts_length]; exact hlt), parts_at b ps i hlt, ← Hm.out]; simp only [List.append_assoc]
                  have hRd := hR.fr ((Fr.refl (fun _ => False) wr).drew) (by simp) (by simp)
                  have fd := hf.drew
                  have hcw : w.cell? ⟨b2, o2 + i, none⟩ = some (.slice am m.length cm) := (hf.cellEq (by
                    obtain ⟨b3, o3, am3, m3, cm3, hao3, hcm3, _, _⟩ := h2.at (k := i) (Fr.refl _ w) hlt
                    rw [hao] at hao3
                    cases hao3
                    exact World.block_lt_of_cell? _ _ hcm3) (by simp)).symm.trans hcm
                  have s0 := run_str' wr.drew am m m.length cm rfl (fd.row hrm (by simp))
                  have hcd : wr.drew.cell? ⟨b2, o2 + i, none⟩ = some (.slice am m.length cm) := fd.cell hcw (by simp)
                  subst hao
                  as_aux_lemma =>
                    go_wp2_with fail
                    go_region_held (fun w' => w'.cell? ⟨b2, o2 + i, none⟩ = some (.slice am m.length cm) ∧ Sem.run Tryd.prog (convert 23 9 (.slice am m.length cm)) w' = .ok (.string (strOf m)) w') (first | exact ⟨hcd, s0⟩ | exact ⟨hcm6, s3⟩ | exact ⟨hcm5, s2⟩ | go_keep) (first
                      | (go_at_call 19; refine (piece_bytes _ rb ar lr m (Crc.le 1 (bit b) ++ from' (parts b ps) (i + 1)) cr ?_ Hl.out hm).mono ?_; exact hRd; rintro e w5 ⟨a5, rfl, hr5, ar5, cr5, hR5, f5⟩; have f05 := fd.trans' f5 (by intro i hi e; omega); have s1 := run_str' w5 a5 m m.length m.length rfl hr5; have s2 := run_str' w5 am m m.length cm rfl (f05.row hrm (by simp)); have hcm5 := f05.cell hcw (by simp))
                      | (go_at_call 20; refine (piece_flag _ rb ar5 _ (from' (parts b ps) (i + 1)) cr5 b ?_ rfl).mono ?_; exact hR5; rintro e w6 ⟨rfl, ar6, cr6, hR6, f6⟩; have f06 := f05.trans' f6 (by intro i hi e; omega); have s3 := run_str' w6 am m m.length cm rfl (f06.row hrm (by simp)); have hcm6 := f06.cell hcw (by simp)))
                    all_goals
                      go_wp2
                      go_round
                      case rel => exact ⟨i + 1, _, _, _, by go_num, by omega, hR6, rfl, f06⟩
                      case measure => simp [intOf]; omega
                · have hie : i = ps.length := by omega
                  have hx4 : ¬ (i : Int) < (ps.length : Int) := by omega
                  have hl0 : lr = [] := by rw [Hlr.out, hie, ← parts_length b ps, from_end]
                  subst hl0
                  as_aux_lemma =>
                    go_wp2_with fail
                    refine (end_any wr rb ar [] cr false hR).mono ?_
                    rintro e w5 ⟨rfl, hw5⟩
                    subst w5
                    go_wp2_with fail
                    refine (bad_any wr rb false hR.c1).mono ?_
                    rintro e w5 ⟨rfl, hw5⟩
                    subst w5
                    go_wp2_with fail
                    refine (left_any wr rb _ ar 0 cr hR.c0 rfl).mono ?_
                    rintro e w5 ⟨rfl, hw5⟩
                    subst w5
                    go_wp2
                    go_ret
                    exact ⟨rfl, hf⟩
end Go.Proofs.YtonhkmcjfggnlaaDoor
