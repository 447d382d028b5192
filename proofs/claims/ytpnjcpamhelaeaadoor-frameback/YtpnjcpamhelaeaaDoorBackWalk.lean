/- The statement FrameBack, walked. -/
import Derived.Test.YtpnjcpamhelaeaaDoorLast
import Derived.Test.YtpnjcpamhelaeaaDoorLaw5
namespace Go.Proofs.YtpnjcpamhelaeaaDoor
open Go.RowKit

/-- which part comes at a turn. -/
def turnAt (t : Bool) (of k : Nat) : Nat := if t then of - 1 - k else k
/-- has a part come ahead of a turn? -/
def came (t : Bool) (of k j : Nat) : Prop := if t then of - k ≤ j ∧ j < of else j < k
theorem turnAt_lt {t : Bool} {of k : Nat} (h : k < of) : turnAt t of k < of := by unfold turnAt; split <;> omega
theorem came_not {t : Bool} {of k : Nat} (h : k < of) : ¬ came t of k (turnAt t of k) := by unfold came turnAt; cases t <;> simp; omega
theorem came_next {t : Bool} {of k j : Nat} (h : k < of) : came t of (k + 1) j ↔ came t of k j ∨ j = turnAt t of k := by unfold came turnAt; cases t <;> simp <;> omega
theorem came_all {t : Bool} {of j : Nat} (h : j < of) : came t of of j := by unfold came; cases t <;> simp <;> omega
theorem came_none {t : Bool} {of j : Nat} : ¬ came t of 0 j := by
  unfold came
  cases t <;> simp
set_option maxHeartbeats 400000 in
theorem jlen_none (jb g2 c2 : Nat) (w : World) (hc : w.cell? ⟨jb, 0, none⟩ = some (.slice (some ⟨g2, 0, none⟩) 0 c2)) : Calls Tryd.prog 21 #[.pointer (some ⟨jb, 0, none⟩)] w fun e w' => e = .returned (.int .i64 0) ∧ w' = w := by
  go_enter Tryd.func21, Tryd.ntmps21
  go_wp2
  go_ret
  exact ⟨rfl, rfl⟩
theorem back_next {w3 wr w5 : World} {jb id of k kk : Nat} {t : Bool} {D : Nat → List Nat} {es : List (Nat × Value)} {v : Value} (f : Fr (fun k => jb ≤ k) w3 wr) (f5 : Fr (fun k => jb ≤ k) wr w5) (hJ : Jn w5 jb jb id of D (es ++ [(kk, v)])) (hlt : k < of) (hkk : turnAt t of k = kk) (hel : es.length = k) (hno : ∀ q ∈ es, q.1 ≠ kk) (hcm : ∀ q ∈ es, came t of k q.1) (hca : ∀ j, came t of k j → ∃ q ∈ es, q.1 = j) (hun : ∀ q ∈ es, ∀ r ∈ es, q.1 = r.1 → q.2 = r.2) :
    Fr (fun k => jb ≤ k) w3 w5 ∧ ∃ es, Jn w5 jb jb id of D es ∧ es.length = k + 1 ∧ (∀ q ∈ es, came t of (k + 1) q.1) ∧ (∀ j, came t of (k + 1) j → ∃ q ∈ es, q.1 = j) ∧ (∀ q ∈ es, ∀ r ∈ es, q.1 = r.1 → q.2 = r.2) := by
  refine ⟨f.trans f5, es ++ [(kk, v)], hJ, by simp [hel], fun q hq => ?_, fun j hj => ?_, fun q hq r hr e => ?_⟩
  · rcases List.mem_append.1 hq with h | h
    · exact (came_next hlt).2 (.inl (hcm q h))
    · simp at h; rw [h]; exact (came_next hlt).2 (.inr hkk.symm)
  · rcases (came_next hlt).1 hj with h | h
    · obtain ⟨q, hq, e⟩ := hca j h
      exact ⟨q, by simp [hq], e⟩
    · exact ⟨(kk, v), by simp, by rw [h, hkk]⟩
  · rcases List.mem_append.1 hq with h1 | h1 <;> rcases List.mem_append.1 hr with h2 | h2
    · exact hun q h1 r h2 e
    · simp at h2; exact absurd (by rw [e, h2]) (hno q h1)
    · simp at h1; exact absurd (by rw [← e, h1]) (hno r h2)
    · simp at h1 h2; rw [h1, h2]
set_option maxRecDepth 100000 in
set_option maxHeartbeats 4000000 in
theorem back_walk (ao : Option Addr) (p : List Nat) (cap id small : Nat) (turned : Bool) (w : World) (ht : Tab w) (hr : Row w ao p cap) (hsm : small < 65536) (hid : id < 18446744073709551616) :
    Calls Tryd.prog 6 #[.slice ao p.length cap, .int .u64 (id : Int), .int .u16 (small : Int), .bool turned] w fun e w' => e = .returned (.bool true) ∧ Fr (fun _ => False) w w' := by
  have hml : p.length ≤ 9223372036854775807 := by have := hr.1; have := hr.2.1; unfold maxLen at this; omega
  have HT : Hid (Tab w) := ht
  have HR : Hid (Row w ao p cap) := hr
  clear ht hr
  by_cases hlong : 3000 < p.length
  · go_enter Tryd.func6, Tryd.ntmps6
    go_wp2_with fail
    refine (awake5_any w HT.out).mono ?_
    rintro e w1 ⟨rfl, f1⟩
    go_wp2_with fail
    refine (awake5_any w1 (f1.tab HT.out (by simp))).mono ?_
    rintro e w2 ⟨rfl, f2⟩
    go_wp2
    go_ret
    exact ⟨rfl, f1.trans f2⟩
  obtain ⟨size, Hsize⟩ : ∃ s, Hid (64 + small % 300 = s) := ⟨_, rfl⟩
  have hs : 64 ≤ size ∧ size ≤ 4096 := by have := Hsize.out; omega
  have ksz := fun w => size_any small w hsm
  rw [Hsize.out] at ksz
  obtain ⟨of, Hof⟩ : ∃ of, Hid (parts size p.length = of) := ⟨_, rfl⟩
  have hof1 : 1 ≤ of := by rw [← Hof.out]; exact parts_pos _ _
  have hof2 : of < 65536 := by have := parts_le size p.length hs.1 (by omega); rw [Hof.out] at this; omega
  go_enter Tryd.func6, Tryd.ntmps6
  go_wp2_with fail
  refine (awake5_any w HT.out).mono ?_
  rintro e w1 ⟨rfl, f1⟩
  have KS := split_ok size id ao p cap w1 (f1.tab HT.out (by simp)) (f1.row HR.out (by simp)) hs (by omega) hid
  rw [Hof.out] at KS
  have HKS : Hid (Calls _ _ _ _ _) := KS
  have F1 : Hid (Fr (fun _ => False) w w1) := f1
  clear KS f1
  go_wp2_with fail
  refine (ksz _).mono ?_
  rintro e w2 ⟨rfl, hw⟩
  subst w2
  go_wp2_with fail
  refine HKS.out.mono ?_
  rintro e w3 ⟨g, rfl, hg, ⟨f, hri, hh⟩, f3⟩
  have HRI : Hid (World.rowIs _ _ _ _ _) := hri
  have HH : Hid (Held w3 g size id of of p f) := hh
  have F3 : Hid (Fr (fun _ => False) w w3) := F1.out.trans f3
  obtain ⟨jb, Hjb⟩ : ∃ jb, Hid (w3.heap.size = jb) := ⟨_, rfl⟩
  clear hri hh f3 HKS
  have F4 : Hid (Fr (fun k => jb ≤ k) w3 (w3.alloc (.cells #[.slice none 0 0] 47))) := (Fr.refl _ _).alloc _
  have HJ4 : Hid (Jn (w3.alloc (.cells #[.slice none 0 0] 47)) jb jb id of (fun i => chunk size i p) []) := by
    refine ⟨Nat.le_refl _, .inl ⟨rfl, ?_, ?_⟩⟩
    · rw [← Hjb.out]; simp
    · rw [← Hjb.out]; simp
  have hgj : Hid (g < jb) := by have := HRI.out.lt; have := Hjb.out; show g < jb; omega
  clear hg
  go_wp2_with fail
  rw [Hjb.out]
  go_loopw [12] (fun i wr => ∃ k : Nat, k ≤ of ∧ i = .int .i64 (k : Int) ∧ Fr (fun k => jb ≤ k) w3 wr ∧ ((k < of ∧ ∃ es, Jn wr jb jb id of (fun i => chunk size i p) es ∧ es.length = k ∧ (∀ q ∈ es, came turned of k q.1) ∧ (∀ j, came turned of k j → ∃ q ∈ es, q.1 = j) ∧ (∀ q ∈ es, ∀ r ∈ es, q.1 = r.1 → q.2 = r.2)) ∨ (k = of ∧ ∃ g2 c2, wr.cell? ⟨jb, 0, none⟩ = some (.slice (some ⟨g2, 0, none⟩) 0 c2)))) (fun i _ => of - (intOf i).toNat)
  case atStart => exact ⟨0, Nat.zero_le _, rfl, F4.out, .inl ⟨hof1, [], HJ4.out, rfl, by simp, fun j h => absurd h came_none, by simp⟩⟩
  case round =>
    clear F4 HJ4
    obtain ⟨k, hk, rfl, hfr, hst⟩ := hrel
    have HFR : Hid (Fr (fun k => jb ≤ k) w3 wr) := hfr
    rcases hst with ⟨hlt, es, hJn, hel, hcm, hca, hun⟩ | ⟨rfl, g2, c2, hcell⟩
    · have hta := turnAt_lt (t := turned) hlt
      obtain ⟨kk, Hkk⟩ : ∃ kk, Hid (turnAt turned of k = kk) := ⟨_, rfl⟩
      rw [Hkk.out] at hta
      obtain ⟨ai, hf1, hrow, _⟩ := HH.out kk hta
      have hcell := HRI.out.cell (i := kk) hta
      rw [hf1] at hcell
      have hfl : (fr1 size id of kk p).length = size := fr1_length size id of kk p (by omega)
      have hlc := HFR.out.cell hcell (show ¬ jb ≤ g by have := hgj.out; omega)
      have hbl : ∀ x ∈ p, x < 256 := HR.out.2.2.1
      obtain ⟨hrd, htk⟩ := fr1_read size id kk p hs (by omega) hbl (by rw [Hof.out]; exact hta)
      rw [Hof.out] at hrd htk
      have hrw : Row wr ai (fr1 size id of kk p) size := HFR.out.row hrow (fun hn a ha e => by have := row_blk hrow hn a ha; have := Hjb.out; omega)
      have hchl := chunk_le size kk p (by omega)
      have hno : ∀ q ∈ es, q.1 ≠ kk := fun q hq e => by
        have := hcm q hq
        rw [e, ← Hkk.out] at this
        exact came_not hlt this
      have hbase : jb ≤ wr.heap.size := Nat.le_of_lt hJn.lt
      have htab : Tab wr := HFR.out.tab (F3.out.tab HT.out (by simp)) (by have := HT.out.pos; have := F3.out.size; have := Hjb.out; omega)
      have b1 : hId (body size id kk of (chunk size kk p)) = id := body_id _ _ _ _ _ hid
      have b2 : hAt (body size id kk of (chunk size kk p)) = kk := body_at _ _ _ _ _ (by omega)
      have b3 : hOf (body size id kk of (chunk size kk p)) = of := body_of _ _ _ _ _ hof2
      have b4 : hN (body size id kk of (chunk size kk p)) = (chunk size kk p).length := body_n _ _ _ _ _ (by omega)
      have b5 : hData (body size id kk of (chunk size kk p)) = chunk size kk p := body_data _ _ _ _ _ (by omega)
      rw [← htk] at b1 b2 b3 b4 b5
      have hzk : (0 : Int) ≤ (kk : Int) := by omega
      have hzk2 : (kk : Int) < (of : Int) := by omega
      have hzl : (k : Int) < (of : Int) := by omega
      have ekk : Hid (turned = true → (of : Int) - 1 - (k : Int) = (kk : Int)) := fun h => by
        have := Hkk.out; unfold turnAt at this; rw [h] at this; simp at this; omega
      have ekk2 : Hid (turned = false → kk = k) := fun h => by
        have := Hkk.out; unfold turnAt at this; rw [h] at this; simp at this; omega
      by_cases hlast : k + 1 < of
      · have KT := take_more hJn hbase htab ai (fr1 size id of kk p) size kk hrw (by omega) hrd b1 b2 b3 b4 b5 hno hta hof2 (by omega)
        rw [hfl] at KT
        have HKT : Hid (Calls _ _ _ _ _) := KT
        have HEL : Hid (es.length = k) := hel
        have HNO : Hid (∀ q ∈ es, q.1 ≠ kk) := hno
        have HCM : Hid (∀ q ∈ es, came turned of k q.1) := hcm
        have HCA : Hid (∀ j, came turned of k j → ∃ q ∈ es, q.1 = j) := hca
        have HUN : Hid (∀ q ∈ es, ∀ r ∈ es, q.1 = r.1 → q.2 = r.2) := hun
        clear KT b1 b2 b3 b4 b5 hrd htk hrw hrow hno hcm hca hun hel hJn hf1 hcell htab hchl hbl hfl hfr
        have hne : ¬ (k : Int) = (of : Int) - 1 := by omega
        cases turned with
        | true =>
          as_aux_lemma =>
            have ek := ekk.out rfl
            clear ekk ekk2
            go_wp2_with fail
            refine HKT.out.mono ?_
            rintro e w5 ⟨rfl, ⟨v, hJ5⟩, f5⟩
            have HREL : Hid (Fr (fun k => jb ≤ k) w3 w5 ∧ ∃ es, Jn w5 jb jb id of (fun i => chunk size i p) es ∧ es.length = k + 1 ∧ (∀ q ∈ es, came true of (k + 1) q.1) ∧ (∀ j, came true of (k + 1) j → ∃ q ∈ es, q.1 = j) ∧ (∀ q ∈ es, ∀ r ∈ es, q.1 = r.1 → q.2 = r.2)) :=
              back_next HFR.out f5 hJ5 hlt Hkk.out HEL.out HNO.out HCM.out HCA.out HUN.out
            clear hJ5 f5 HKT hlc
            go_wp2
            go_roundw
            case rel => exact ⟨k + 1, by omega, by go_num, HREL.out.1, .inl ⟨hlast, HREL.out.2⟩⟩
            case measure => simp [intOf]; omega
        | false =>
          as_aux_lemma =>
            obtain rfl := ekk2.out rfl
            clear ekk ekk2
            go_wp2_with fail
            refine HKT.out.mono ?_
            rintro e w5 ⟨rfl, ⟨v, hJ5⟩, f5⟩
            have HREL : Hid (Fr (fun k => jb ≤ k) w3 w5 ∧ ∃ es, Jn w5 jb jb id of (fun i => chunk size i p) es ∧ es.length = kk + 1 ∧ (∀ q ∈ es, came false of (kk + 1) q.1) ∧ (∀ j, came false of (kk + 1) j → ∃ q ∈ es, q.1 = j) ∧ (∀ q ∈ es, ∀ r ∈ es, q.1 = r.1 → q.2 = r.2)) :=
              back_next HFR.out f5 hJ5 hlt Hkk.out HEL.out HNO.out HCM.out HCA.out HUN.out
            clear hJ5 f5 HKT hlc
            go_wp2
            go_roundw
            case rel => exact ⟨kk + 1, by omega, by go_num, HREL.out.1, .inl ⟨hlast, HREL.out.2⟩⟩
            case measure => simp [intOf]; omega
      · obtain rfl : of = k + 1 := by omega
        have KT := take_last hJn hbase htab ai (fr1 size id (k + 1) kk p) size kk hrw (by omega) hrd b1 b2 b3 b4 b5 hno hta hof2 (by omega) (fun i hi => by
          rcases (came_next (t := turned) hlt).1 (came_all hi) with h | h
          · exact .inr (hca i h)
          · exact .inl (h.trans Hkk.out)) hun (fun i => by have := chunk_le size i p (by omega); show (chunk size i p).length ≤ 4096; omega)
        rw [hfl] at KT
        have hjo : flat (fun i => chunk size i p) (k + 1) = p := by
          have := joined_all size p (by omega)
          rw [Hof.out] at this
          exact this
        rw [hjo] at KT
        have HKT : Hid (Calls _ _ _ _ _) := KT
        obtain ⟨t, Ht⟩ : ∃ t, Hid (strOf p = t) := ⟨_, rfl⟩
        have hbt : (t.toList == t.toList) = true := by simp
        have hsub : (((k + 1 : Nat) : Int) - 1) = (k : Int) := by omega
        clear KT b1 b2 b3 b4 b5 hrd htk hrw hrow hno hcm hca hun hel hJn hf1 hcell htab hchl hbl hfl hfr hjo hlast
        cases turned with
        | true =>
          as_aux_lemma =>
            obtain rfl : kk = 0 := by have := ekk.out rfl; omega
            clear ekk ekk2
            go_wp2_with fail
            refine HKT.out.mono ?_
            rintro e w5 ⟨⟨v, rfl, ho5⟩, ⟨g2, c2, hc5⟩, f5⟩
            obtain ⟨a5, c5, rfl, hr5, _⟩ := ho5.row
            have t5 := run_str w5 a5 p c5 hr5
            have FR5 : Hid (Fr (fun k => jb ≤ k) w3 w5) := HFR.out.trans f5
            have t6 := run_str w5 ao p cap (FR5.out.row (F3.out.row HR.out (by simp)) (fun hn a ha e => by have := row_blk HR.out hn a ha; have := F3.out.size; have := Hjb.out; omega))
            rw [Ht.out] at t5 t6
            have HC5 : Hid (Cell1 w5 ⟨jb, 0, none⟩ (.slice (some ⟨g2, 0, none⟩) 0 c2)) := hc5
            clear hc5 hr5 ho5 f5 HKT hlc
            go_wp2
            go_roundw
            case rel => exact ⟨k + 1, by omega, by go_num, FR5.out, .inr ⟨rfl, g2, c2, HC5.out⟩⟩
            case measure => simp [intOf]
        | false =>
          as_aux_lemma =>
            obtain rfl := ekk2.out rfl
            clear ekk ekk2
            go_wp2_with fail
            refine HKT.out.mono ?_
            rintro e w5 ⟨⟨v, rfl, ho5⟩, ⟨g2, c2, hc5⟩, f5⟩
            obtain ⟨a5, c5, rfl, hr5, _⟩ := ho5.row
            have t5 := run_str w5 a5 p c5 hr5
            have FR5 : Hid (Fr (fun k => jb ≤ k) w3 w5) := HFR.out.trans f5
            have t6 := run_str w5 ao p cap (FR5.out.row (F3.out.row HR.out (by simp)) (fun hn a ha e => by have := row_blk HR.out hn a ha; have := F3.out.size; have := Hjb.out; omega))
            rw [Ht.out] at t5 t6
            have HC5 : Hid (Cell1 w5 ⟨jb, 0, none⟩ (.slice (some ⟨g2, 0, none⟩) 0 c2)) := hc5
            clear hc5 hr5 ho5 f5 HKT hlc
            go_wp2
            go_roundw
            case rel => exact ⟨kk + 1, by omega, by go_num, FR5.out, .inr ⟨rfl, g2, c2, HC5.out⟩⟩
            case measure => simp [intOf]
    · have K21 := jlen_none jb g2 c2 wr hcell
      go_wp2_with fail
      refine K21.mono ?_
      rintro e w9 ⟨rfl, hw⟩
      subst w9
      go_wp2
      go_ret
      exact ⟨rfl, F3.out.trans' HFR.out (fun i hi e => by have := F3.out.size; have := Hjb.out; omega)⟩
end Go.Proofs.YtpnjcpamhelaeaaDoor
