/- Does a lattice tell what the document tells? It does. -/
import Derived.Test.YtggcfhebidjajaaNew
import Derived.Deep.Cut
import Derived.Deep.CutRange
namespace Go.Proofs.Ytggcfhebidjajaa
open Go.RowKit

theorem rank_order (l : List Nat) (i : Nat) (hi : i < l.length) : rankI l (((Lat.order l).getD i 0 : Nat) : Int) = (i : Int) := by
  have ho := Lat.order_length l
  have hget : ∀ j, j < l.length → (Lat.order l)[j]? = some ((Lat.order l).getD j 0) := fun j hj => by rw [List.getD_eq_getElem?_getD, List.getElem?_eq_getElem (by omega)]; rfl
  have hmem : (Lat.order l).getD i 0 ∈ Lat.order l := List.mem_of_getElem? (hget i hi)
  have hlt := (Lat.order_mem l _).1 hmem
  unfold rankI
  rw [isI_in l _ hlt, if_pos rfl, Int.toNat_natCast]
  refine Lat.first_at hi (by simp) fun j hj => ?_
  have hne : (Lat.order l).getD j 0 ≠ (Lat.order l).getD i 0 := by
    have hn := List.pairwise_iff_getElem.1 (Lat.order_nodup l) j i (by omega) (by omega) hj
    rw [List.getD_eq_getElem?_getD, List.getD_eq_getElem?_getD, List.getElem?_eq_getElem (show j < (Lat.order l).length by omega), List.getElem?_eq_getElem (show i < (Lat.order l).length by omega)]
    exact hn
  simpa using hne
/-- those below a that stand ahead of b. -/
def belowTo (l : List Nat) (a b : Int) : List Nat := (List.range b.toNat).filter fun x => Lat.leq l (x : Int) a
theorem belowTo_step (l : List Nat) (a b : Int) (hb : -1 ≤ b) : belowTo l a (b + 1) = belowTo l a b ++ (if Lat.leq l b a then [b.toNat] else []) := by
  unfold belowTo
  by_cases h : b < 0
  · have : b = -1 := by omega
    subst this
    rw [leq_out l (-1) a (.inl (by omega))]
    rfl
  · obtain ⟨n, rfl⟩ : ∃ n : Nat, b = n := ⟨b.toNat, by omega⟩
    rw [show ((n : Int) + 1).toNat = n + 1 by omega, filter_step, Int.toNat_natCast]
theorem belowTo_end (l : List Nat) (a : Int) : belowTo l a ((l.length : Int) + 1) = belowL l a := by
  rw [belowTo_step l a _ (by omega), leq_out l _ a (.inr (.inr (.inl (Int.le_refl _))))]
  simp [belowTo, belowL]
theorem belowTo_len (l : List Nat) (a b : Int) : (belowTo l a b).length ≤ b.toNat := filter_len _ _
theorem LatAt.drewN {w : World} {p bu cu bd bo : Nat} {l : List Nat} (h : LatAt w p bu cu bd bo l) (q : Nat) : LatAt (w.drewN q) p bu cu bd bo l := h.fr ((Fr.refl _ _).drewN q)
theorem Own.some {k : IntKind} {e : TypeId} {w : World} {base : Nat} {v : Value} {l : List Nat} (h : Own k e w base v l) (hl : 0 < l.length) : ∃ g cap, v = .slice (some ⟨g, 0, none⟩) l.length cap ∧ base ≤ g ∧ At k w g 0 l := by
  obtain ⟨ao, cap, rfl, hr⟩ := h.row
  obtain ⟨g, rfl, hg, hA, _⟩ := hr (fun e => by rw [e] at hl; simp at hl)
  exact ⟨g, cap, rfl, hg, hA⟩

set_option maxHeartbeats 4000000 in
set_option maxRecDepth 100000 in
theorem told_any (b off cap p bu cu bd bo : Nat) (l : List Nat) (w : World) (hf : Fine l) (hc : At .u64 w b off l) (h : LatAt w p bu cu bd bo l) :
    Calls Try.prog 12 #[.pointer (some ⟨p, 0, none⟩), .slice (some ⟨b, off, none⟩) l.length cap] w fun e w' => e = .returned (.bool true) ∧ Fr (fun _ => False) w w' := by
  have hle := hf.le
  have hpos := hf.pos
  have h1 := len_any w p bu cu l h.c0
  have h2 := reforder_any b off cap l w hle hf.lt hc
  go_enter Try.func12, Try.ntmps12
  go_wp2_with fail
  refine h1.mono ?_
  rintro e w2 ⟨rfl, hw⟩
  subst w2
  go_wp2_with fail
  refine h2.mono ?_
  rintro e w2 ⟨v1, rfl, ho1, f1⟩
  obtain ⟨g1, c1, rfl, hg1, hA1⟩ := ho1.some (by rw [Lat.order_length]; exact hpos)
  rw [Lat.order_length]
  have h3 := order_any w2 p bu cu bd bo l hf (h.fr f1)
  clear h1 h2 ho1
  go_wp2_with fail
  refine h3.mono ?_
  rintro e w3 ⟨g2, c2, rfl, hg2, hA2, _, f2⟩
  have hA1 := hA1.fr f2 (by simp)
  have f3 := f1.trans f2
  have hL3 := h.fr f3
  clear h3
  obtain ⟨n, hn, Hn⟩ : ∃ n : Nat, (l.length : Int) - 1 = (n : Int) ∧ Hid (n = l.length - 1) := ⟨l.length - 1, by omega, rfl⟩
  have hcell0 := hA1 0 (by rw [Lat.order_length]; exact hpos)
  have hcelln := hA1 n (by rw [Lat.order_length]; have := Hn.out; omega)
  rw [Nat.zero_add] at hcell0 hcelln
  have hin0 : (n : Int) < (l.length : Int) := by omega
  have hin1 : 0 ≤ (n : Int) := by omega
  have h4 := fun q => bottom_any (w3.drewN q) p bu cu bd bo l hf (hL3.drewN q)
  have h5 := fun q => top_any (w3.drewN q) p bu cu bd bo l hf (hL3.drewN q)
  rw [← Hn.out] at h5
  obtain ⟨x0, Hx0⟩ : ∃ x, Hid ((Lat.order l).getD 0 0 = x) := ⟨_, rfl⟩
  obtain ⟨xn, Hxn⟩ : ∃ x, Hid ((Lat.order l).getD n 0 = x) := ⟨_, rfl⟩
  rw [Hx0.out] at hcell0 h4
  rw [Hxn.out] at hcelln h5
  have HA1 : Hid (At .i64 w3 g1 0 (Lat.order l)) := hA1
  have HA2 : Hid (At .i64 w3 g2 0 (Lat.order l)) := hA2
  have HC : Hid (At .u64 w b off l) := hc
  have HL : Hid (LatAt w p bu cu bd bo l) := h
  clear hA1 hA2 hc h hL3
  go_wp2
  go_quiet (first | (go_at_call 19; refine Calls.quiet_of_same (h4 _)) | (go_at_call 20; refine Calls.quiet_of (h5 _)))
  clear hcell0 hcelln h4 h5
  go_wp2
  have f4 : Fr (fun _ => False) w (w3.drewN nq) := f3.drewN nq
  have HA1 : Hid (At .i64 (w3.drewN nq) g1 0 (Lat.order l)) := HA1.out.fr ((Fr.refl (fun _ => False) w3).drewN nq) (by simp)
  have HA2 : Hid (At .i64 (w3.drewN nq) g2 0 (Lat.order l)) := HA2.out.fr ((Fr.refl (fun _ => False) w3).drewN nq) (by simp)
  clear f3 hin0 hin1 hn Hn
  generalize w3.drewN nq = w4 at *
  go_loopw [8] (fun i wr => ∃ k : Nat, k ≤ l.length ∧ i = .int .i64 (k : Int) ∧ Fr (fun _ => False) w4 wr) (fun i _ => l.length - (intOf i).toNat)
  case atStart => exact ⟨0, Nat.zero_le _, rfl, Fr.refl _ _⟩
  case round =>
    obtain ⟨k, hk, rfl, f5⟩ := hrel
    by_cases hlt : k < l.length
    · have hcell1 := HA1.out.fr f5 (by simp) k (by rw [Lat.order_length]; exact hlt)
      have hcell2 := HA2.out.fr f5 (by simp) k (by rw [Lat.order_length]; exact hlt)
      rw [Nat.zero_add] at hcell1 hcell2
      have h6 := fun q => rank_any (wr.drewN q) p bu cu bd bo l (((Lat.order l).getD k 0 : Nat) : Int) hf (((HL.out.fr f4).fr f5).drewN q)
      rw [rank_order l k hlt] at h6
      obtain ⟨x, Hx⟩ : ∃ x, Hid ((Lat.order l).getD k 0 = x) := ⟨_, rfl⟩
      rw [Hx.out] at hcell1 hcell2 h6
      go_wp2
      go_quiet (first | (go_at_call 21; refine Calls.quiet_of_same (h6 _)))
      go_wp2
      go_roundw
      case rel => exact ⟨k + 1, by omega, by go_num, f5.drewN _⟩
      case measure => simp [intOf]; omega
    · clear HA1 HA2
      have f6 := f4.trans f5
      clear f4 f5 f1 f2
      go_wp2
      go_loopw [9, 10, 11, 12, 13, 14] (fun t _ _ _ _ _ wx => ∃ A : Int, -1 ≤ A ∧ A ≤ (l.length : Int) + 1 ∧ t = .int .i64 A ∧ Fr (fun _ => False) w wx) (fun t _ _ _ _ _ _ => ((l.length : Int) + 1 - intOf t).toNat)
      case atStart => exact ⟨-1, by omega, by omega, rfl, f6⟩
      case round =>
        clear f6
        obtain ⟨A, hA0, hA1, rfl, f7⟩ := hrel
        by_cases hltA : A ≤ (l.length : Int)
        · go_wp2
          go_loopw [10, 11, 12] (fun v t _ wy => ∃ B : Int, -1 ≤ B ∧ B ≤ (l.length : Int) + 1 ∧ t = .int .i64 B ∧ Own .i64 3 wy wr.heap.size v (belowTo l A B) ∧ Fr (fun _ => False) wr wy) (fun _ t _ _ => ((l.length : Int) + 1 - intOf t).toNat)
          case atStart => exact ⟨-1, by omega, by omega, rfl, Own.nil _ _ _ _, Fr.refl _ _⟩
          case round =>
            obtain ⟨B, hB0, hB1, rfl, ho, f8⟩ := hrel
            by_cases hltB : B ≤ (l.length : Int)
            · have f9 := f7.trans f8
              obtain ⟨m, Hm⟩ : ∃ m, Hid ((isI l A && isI l B) = m) := ⟨_, rfl⟩
              go_upto_region 20 with fail
              go_cut [12] from 76 to 156 (fun s wz => s = .bool m ∧ wz = wr)
              case first =>
                go_wp2_with fail
                all_goals
                  go_meet
                  refine ⟨?_, rfl⟩
                  rw [← Hm.out]
                  congr 1
                  rw [Bool.eq_iff_iff]
                  simp only [isI, Bool.and_eq_true, decide_eq_true_eq, Bool.false_eq_true, false_iff]
                  omega
              case rest =>
                obtain ⟨rfl, rfl⟩ := hcut
                go_upto_region 21 with fail
                have hL := HL.out.fr f9
                have hC := HC.out.fr f9 (by simp)
                have k1 := leq_any _ p bu cu bd bo l A B hf hL
                have k2 := refleq_any b off cap l A B _ (by omega) hf.lt hC
                obtain ⟨t, Ht⟩ : ∃ t, Hid (Lat.leq l A B = t) := ⟨_, rfl⟩
                rw [Ht.out] at k1 k2
                go_cut [148] from 76 to 156 (fun s wz => s = .bool false ∧ Fr (fun _ => False) wc wz)
                case first =>
                  cases m with
                  | true =>
                    have hAB : isI l A = true ∧ isI l B = true := by simpa using Hm.out
                    obtain ⟨x, hx, hxl⟩ := isI_nat hAB.1
                    obtain ⟨y, hy, hyl⟩ := isI_nat hAB.2
                    have k3 := join_any _ p bu cu bd bo l A B hf hL
                    have k4 := fun q => refjoin_nat b off cap l x y (wc.drewN q) (by omega) hf.lt hC hxl hyl
                    have k5 := fun q => meet_any (wc.drewN q) p bu cu bd bo l A B hf (hL.drewN q)
                    have k6 := fun q => refmeet_nat b off cap l x y (wc.drewN q) (by omega) hf.lt hC hxl hyl
                    have ej : joinI l A B = Lat.join l x y := by unfold joinI; rw [hAB.1, hAB.2, hx, hy]; rfl
                    have em : meetI l A B = Lat.meet l x y := by unfold meetI; rw [hAB.1, hAB.2, hx, hy]; rfl
                    rw [ej] at k3
                    rw [em] at k5
                    rw [← hx, ← hy] at k4 k6
                    generalize Lat.join l x y = rj at *
                    generalize Lat.meet l x y = rm at *
                    clear ej em hx hy hAB
                    go_wp2_with fail
                    refine k1.mono ?_
                    rintro e w2 ⟨rfl, hw⟩
                    subst w2
                    go_wp2_with fail
                    refine k2.mono ?_
                    rintro e w2 ⟨rfl, hw⟩
                    subst w2
                    clear k1 k2
                    go_wp2_with fail
                    refine k3.mono ?_
                    rintro e w2 ⟨rfl, q, hw⟩
                    subst w2
                    clear k3
                    go_wp2_with fail
                    refine (k4 q).mono ?_
                    rintro e w2 ⟨rfl, hw⟩
                    subst w2
                    clear k4
                    go_wp2_with fail
                    refine (k5 q).mono ?_
                    rintro e w2 ⟨rfl, r, hw⟩
                    subst w2
                    clear k5
                    go_wp2_with fail
                    refine (k6 _).mono ?_
                    rintro e w2 ⟨rfl, hw⟩
                    subst w2
                    clear k6
                    go_wp2_with fail
                    go_meet
                    exact ⟨rfl, (Fr.refl _ _).drewN _⟩
                  | false =>
                    have k3 := join_any _ p bu cu bd bo l A B hf hL
                    have k5 := fun q => meet_any (wc.drewN q) p bu cu bd bo l A B hf (hL.drewN q)
                    have ej : joinI l A B = -1 := by unfold joinI; rw [Hm.out]; rfl
                    have em : meetI l A B = -1 := by unfold meetI; rw [Hm.out]; rfl
                    rw [ej] at k3
                    rw [em] at k5
                    clear ej em
                    go_wp2_with fail
                    refine k1.mono ?_
                    rintro e w2 ⟨rfl, hw⟩
                    subst w2
                    go_wp2_with fail
                    refine k2.mono ?_
                    rintro e w2 ⟨rfl, hw⟩
                    subst w2
                    clear k1 k2
                    go_wp2_with fail
                    refine k3.mono ?_
                    rintro e w2 ⟨rfl, q, hw⟩
                    subst w2
                    clear k3
                    go_wp2_with fail
                    refine (k5 q).mono ?_
                    rintro e w2 ⟨rfl, r, hw⟩
                    subst w2
                    clear k5
                    go_wp2_with fail
                    go_meet
                    exact ⟨rfl, (Fr.refl _ _).drewN _⟩
                case rest =>
                  obtain ⟨rfl, f10⟩ := hcut
                  have f11 := f9.trans f10
                  have f12 := f8.trans f10
                  have ho1 := ho.fr f10 (by simp)
                  have hC := HC.out.fr f11 (by simp)
                  have k2 := refleq_any b off cap l B A _ (by omega) hf.lt hC
                  have hst := belowTo_step l A B (by omega)
                  have hln := belowTo_len l A B
                  clear Ht Hm hL k1 f8 f9 f10 ho
                  cases ht : Lat.leq l B A with
                  | false =>
                    rw [ht] at k2 hst
                    have HS : Hid (belowTo l A (B + 1) = belowTo l A B) := by show _ = _; rw [hst]; simp
                    clear ht hst
                    go_wp2_with fail
                    refine k2.mono ?_
                    rintro e w2 ⟨rfl, hw⟩
                    subst w2
                    go_wp2
                    go_roundw
                    case rel => exact ⟨B + 1, by omega, by omega, by go_num, by rw [HS.out]; exact ho1, f12⟩
                    case measure => simp [intOf]; omega
                  | true =>
                    rw [ht] at k2 hst
                    have hBn : 0 ≤ B := by
                      apply Classical.byContradiction
                      intro hn
                      rw [leq_out l B A (.inl (by omega))] at ht
                      cases ht
                    obtain ⟨y, rfl⟩ : ∃ y : Nat, B = y := ⟨B.toNat, by omega⟩
                    rw [Int.toNat_natCast] at hst hln
                    obtain ⟨L, HL2⟩ : ∃ L, Hid (belowTo l A (y : Int) = L) := ⟨_, rfl⟩
                    rw [HL2.out] at hst hln ho1
                    have HS : Hid (belowTo l A ((y : Int) + 1) = L ++ [y]) := by show _ = _; rw [hst]; rfl
                    clear ht hst HL2
                    obtain ⟨ao, cp, rfl, hrow⟩ := ho1.row
                    have hsz := f12.size
                    have f13 := f12.alloc (.cells #[.int .i64 (y : Int)] 3)
                    have ho2 := ho1.fr ((Fr.refl (fun _ => False) _).alloc (.cells #[.int .i64 (y : Int)] 3)) (by simp)
                    clear hrow ho1
                    go_wp2_with fail
                    refine k2.mono ?_
                    rintro e w2 ⟨rfl, hw⟩
                    subst w2
                    go_wp2_with (refine wpList_append .i64 41 3 kindI rfl _ _ rfl _ _ L rfl ho2 _ 0 [y] 1 rfl (at_one .i64 _ y 3) (by simp; omega) (by simp; omega) ?_)
                    intro v' w' ho3 hg
                    go_wp2
                    go_roundw
                    case rel => exact ⟨(y : Int) + 1, by omega, by omega, by go_num, by rw [HS.out]; exact ho3, f13.own hg (fun j hj => (ho2.lt j hj).1) (fun j hj => .inr hj)⟩
                    case measure => simp [intOf]; omega
            · have hBe : B = (l.length : Int) + 1 := by omega
              rw [hBe, belowTo_end] at ho
              clear hBe
              have f9 := f7.trans f8
              have kb := below_any _ p bu cu bd bo l A hf (HL.out.fr f9)
              have hln : (belowL l A).length ≤ l.length := filter_len _ _
              obtain ⟨L, HL2⟩ : ∃ L, Hid (belowL l A = L) := ⟨_, rfl⟩
              rw [HL2.out] at ho kb hln
              clear HL2
              go_wp2_with fail
              refine kb.mono ?_
              rintro e w5 ⟨v5, rfl, ho5, f10⟩
              have ho6 := ho.fr f10 (by simp)
              have f11 := f9.trans f10
              clear kb ho f8 f9
              obtain ⟨ao5, cp5, rfl, hr5⟩ := ho5.row
              obtain ⟨ao6, cp6, rfl, hr6⟩ := ho6.row
              clear ho5 ho6
              have k1 := is_any w5 p bu cu l A (HL.out.fr f11).c0
              have k2 := rank_any w5 p bu cu bd bo l A hf (HL.out.fr f11)
              go_upto_region 26 with fail
              go_cut [189] from 71 to 204 (fun s wz => s = .bool false ∧ wz = w5)
              case first =>
                have HR5 : Hid _ := hr5
                have HR6 : Hid _ := hr6
                clear hr5 hr6
                cases hi : isI l A with
                | true =>
                  rw [hi] at k1
                  obtain ⟨x, rfl, hxl⟩ := isI_nat hi
                  clear hi k2
                  go_wp2_with fail
                  refine k1.mono ?_
                  rintro e w2 ⟨rfl, hw⟩
                  subst w2
                  go_wp2_with fail
                  refine k1.mono ?_
                  rintro e w2 ⟨rfl, hw⟩
                  subst w2
                  go_wp2_with fail
                  go_meet
                  exact ⟨rfl, rfl⟩
                | false =>
                  rw [hi] at k1
                  have hr : rankI l A = -1 := by unfold rankI; rw [hi]; rfl
                  rw [hr] at k2
                  have hcase : A < 0 ∨ (0 ≤ A ∧ (l.length : Int) ≤ A) := by simp [isI] at hi; omega
                  clear hi hr
                  rcases hcase with hcase | ⟨hcase, hcase2⟩
                  all_goals
                    go_wp2_with fail
                    refine k1.mono ?_
                    rintro e w2 ⟨rfl, hw⟩
                    subst w2
                    go_wp2_with fail
                    refine k1.mono ?_
                    rintro e w2 ⟨rfl, hw⟩
                    subst w2
                    go_wp2_with fail
                    refine k2.mono ?_
                    rintro e w2 ⟨rfl, hw⟩
                    subst w2
                    go_wp2_with fail
                    go_meet
                    exact ⟨by first | rfl | (rw [decide_eq_false (by omega)]), rfl⟩
              case rest =>
                obtain ⟨rfl, rfl⟩ := hcut
                clear k1 k2
                rcases Nat.eq_zero_or_pos L.length with hz | hz
                · clear hr5 hr6
                  rw [hz]
                  go_wp2
                  go_loopw [14] (fun t wz => t = .int .i64 0 ∧ wz = wc) (fun _ _ => 0)
                  case atStart => exact ⟨rfl, rfl⟩
                  case round =>
                    obtain ⟨rfl, rfl⟩ := hrel
                    go_wp2
                    go_roundw
                    case rel => exact ⟨A + 1, by omega, by omega, by go_num, f11⟩
                    case measure => simp [intOf]; omega
                · obtain ⟨g5, rfl, _, hA5, _⟩ := hr5 (fun e => by rw [e] at hz; simp at hz)
                  obtain ⟨g6, rfl, _, hA6, _⟩ := hr6 (fun e => by rw [e] at hz; simp at hz)
                  have HA5 : Hid (At .i64 wc g5 0 L) := hA5
                  have HA6 : Hid (At .i64 wc g6 0 L) := hA6
                  clear hA5 hA6 hr5 hr6
                  go_wp2
                  go_loopw [14] (fun t wz => ∃ j : Nat, j ≤ L.length ∧ t = .int .i64 (j : Int) ∧ Fr (fun _ => False) wc wz) (fun t _ => L.length - (intOf t).toNat)
                  case atStart => exact ⟨0, Nat.zero_le _, rfl, Fr.refl _ _⟩
                  case round =>
                    obtain ⟨j, hj, rfl, f12⟩ := hrel
                    by_cases hltj : j < L.length
                    · have hc5 := HA5.out.fr f12 (by simp) j hltj
                      have hc6 := HA6.out.fr f12 (by simp) j hltj
                      rw [Nat.zero_add] at hc5 hc6
                      generalize L.getD j 0 = z at hc5 hc6
                      go_wp2
                      go_quiet (fail)
                      go_wp2
                      go_roundw
                      case rel => exact ⟨j + 1, by omega, by go_num, f12.drewN _⟩
                      case measure => simp [intOf]; omega
                    · go_wp2
                      go_roundw
                      case rel => exact ⟨A + 1, by omega, by omega, by go_num, f11.trans f12⟩
                      case measure => simp [intOf]; omega
        · go_wp2
          go_ret
          exact ⟨rfl, f7⟩
end Go.Proofs.Ytggcfhebidjajaa
