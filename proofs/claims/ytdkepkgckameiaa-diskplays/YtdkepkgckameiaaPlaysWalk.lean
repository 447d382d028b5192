/- The statement DiskPlays, walked. -/
import Derived.Test.YtdkepkgckameiaaAwake
import Derived.Test.YtdkepkgckameiaaFrame
import Derived.Deep.RegionWith
import Derived.Deep.DrawnRows
import Derived.Deep.CutRange
import Derived.Deep.CutBlock
namespace Go.Proofs.Ytdkepkgckameiaa
open Go.RowKit

/-- WHERE A PLAY STANDS: the disk, and the document's bytes. -/
structure Play (w wr : World) (db : Nat) (l : List Nat) (sure ops : Nat) (vl : Value) : Prop where
  ex : ∃ v, Dk wr db w.heap.size l sure ops v ∧ (∀ k, vl.ownBlock = some k → v.ownBlock ≠ some k)
  own : Own wr w.heap.size vl l
  apart : vl.ownBlock ≠ some db
  fr : Fr (fun _ => False) w wr
theorem Play.step {w wr w1 : World} {db : Nat} {l : List Nat} {sure ops : Nat} {vl : Value} (h : Play w wr db l sure ops vl) (f : Fr (fun _ => False) wr w1) : Play w w1 db l sure ops vl := by
  obtain ⟨⟨v, d, hd⟩, ho, ha, hf⟩ := h
  exact ⟨⟨v, d.fr f (by simp) (by simp), hd⟩, ho.fr f (by simp), ha, hf.trans f⟩
theorem Row.nil (w : World) : Row w none [] 0 := ⟨Nat.le_refl _, Nat.zero_le _, by simp, fun _ => rfl, fun h => absurd rfl h⟩
theorem row_old {w : World} {ao : Option Addr} {l : List Nat} {cap : Nat} (h : Row w ao l cap) (hn : l ≠ []) (a : Addr) (ha : ao = some a) : a.block < w.heap.size := by
  obtain ⟨b, off, he, hc⟩ := h.2.2.2.2 hn
  rw [he] at ha
  cases ha
  have hpos : 0 < l.length := by
    rcases Nat.eq_zero_or_pos l.length with h0 | h0
    · exact absurd (List.eq_nil_of_length_eq_zero h0) hn
    · exact h0
  exact World.block_lt_of_cell? _ _ (hc 0 hpos)
set_option maxRecDepth 100000 in
set_option maxHeartbeats 16000000 in
theorem plays_walk (ao : Option Addr) (ps : List (List Nat)) (cap : Nat) (a2 : Option Addr) (acts : List Nat) (c2 : Nat) (a3 : Option Addr) (ks : List Int) (c3 : Nat) (w : World) (hps : PRow w ao ps cap) (hac : Row w a2 acts c2) (hks : IRow w a3 ks) :
    Calls Try.prog 3 #[.slice ao ps.length cap, .slice a2 acts.length c2, .slice a3 ks.length c3] w fun e w' => e = .returned (.bool true) ∧ Fr (fun _ => False) w w' := by
  have HP : Hid (PRow w ao ps cap) := hps
  have HA : Hid (Row w a2 acts c2) := hac
  have HK : Hid (IRow w a3 ks) := hks
  have hl1 : ps.length ≤ 9223372036854775807 := by have := hps.1; have := hps.2.1; unfold maxLen at this; omega
  have hl2 : acts.length ≤ 9223372036854775807 := by have := hac.1; have := hac.2.1; unfold maxLen at this; omega
  have hl3 : ks.length ≤ 9223372036854775807 := by have := hks.1; unfold maxLen at this; omega
  clear hps hac hks
  by_cases h40 : 40 < ps.length
  · go_enter Try.func3, Try.ntmps3
    go_wp2_with fail
    refine (awake_any w).mono ?_
    rintro e w1 ⟨rfl, f1⟩
    go_wp2_with fail
    refine (awake_any w1).mono ?_
    rintro e w2 ⟨rfl, f2⟩
    go_wp2
    go_ret
    exact ⟨rfl, f1.trans f2⟩
  by_cases h60 : 60 < acts.length
  · go_enter Try.func3, Try.ntmps3
    go_wp2_with fail
    refine (awake_any w).mono ?_
    rintro e w1 ⟨rfl, f1⟩
    go_wp2_with fail
    refine (awake_any w1).mono ?_
    rintro e w2 ⟨rfl, f2⟩
    go_wp2
    go_ret
    exact ⟨rfl, f1.trans f2⟩
  go_enter Try.func3, Try.ntmps3
  go_wp2_with fail
  refine (awake_any w).mono ?_
  rintro e w1 ⟨rfl, f1⟩
  go_wp2_with fail
  refine (new_any w1 w.heap.size f1.size).mono ?_
  rintro e w2 ⟨rfl, d2, f2⟩
  have HP0 : Hid (Play w w2 w1.heap.size [] 0 0 (.slice none 0 0)) := ⟨⟨_, d2, by simp [Value.ownBlock]⟩, Own.nil _ _, by simp [Value.ownBlock], f1.trans f2⟩
  have hdb : Hid (w.heap.size ≤ w1.heap.size) := f1.size
  obtain ⟨db, Hdb⟩ : ∃ db, Hid (w1.heap.size = db) := ⟨_, rfl⟩
  rw [Hdb.out] at HP0 hdb ⊢
  clear d2 f1 f2
  go_wp2
  go_loopw [8, 9, 10, 11] (fun al su op i wr => ∃ (k : Nat) (l : List Nat) (sure ops : Nat), k ≤ acts.length ∧ i = .int .i64 (k : Int) ∧ su = .int .i64 (sure : Int) ∧ op = .int .i64 (ops : Int) ∧ ops ≤ k ∧ l.length ≤ 500 * k ∧ sure ≤ l.length ∧ Play w wr db l sure ops al) (fun _ _ _ i _ => acts.length - (intOf i).toNat)
  case atStart => exact ⟨0, [], 0, 0, Nat.zero_le _, rfl, rfl, rfl, Nat.le_refl _, by simp, Nat.le_refl _, HP0.out⟩
  case round =>
    obtain ⟨k, l, sure, ops, hk, rfl, rfl, rfl, hops, hll, hsl, hplay⟩ := hrel
    obtain ⟨al, cl, hvl, hcl⟩ := hplay.own.form
    subst hvl
    have HPL : Hid (Play w wr db l sure ops (.slice al l.length cl)) := hplay
    have hsure : sure ≤ 9223372036854775807 := by omega
    clear HP0 hplay
    by_cases hlt : k < acts.length
    · have hz1 : (0 : Int) ≤ (k : Int) := by omega
      go_upto_if 38 with fail
      go_cut [12] from 29 to 140 (fun pv wx => (∃ ai p ci, pv = .slice ai p.length ci ∧ Row wr ai p ci ∧ Row w ai p ci) ∧ wx = wr)
      case first =>
        by_cases hp : k < ps.length
        · obtain ⟨b2, o2, hao, hc2⟩ := HP.out.2.2 (fun e => by rw [e] at hp; simp at hp)
          obtain ⟨ai, ci, hpc0, hpr0⟩ := hc2 k hp
          subst hao
          obtain ⟨p, Hp⟩ : ∃ p, Hid (ps.getD k [] = p) := ⟨_, rfl⟩
          rw [Hp.out] at hpc0 hpr0
          have hpc := HPL.out.fr.cell hpc0 (by simp)
          have HPR : Hid (Row w ai p ci) := hpr0
          have hz2 : (k : Int) < (ps.length : Int) := by omega
          clear hc2 hpc0 hpr0
          go_wp2_with fail
          go_meet
          exact ⟨⟨ai, p, ci, rfl, HPL.out.fr.row HPR.out (by simp), HPR.out⟩, rfl⟩
        · have hp' : ¬ (k : Int) < (ps.length : Int) := by omega
          go_wp2_with fail
          go_meet
          exact ⟨⟨none, [], 0, rfl, Row.nil _, Row.nil _⟩, rfl⟩
      case rest =>
        obtain ⟨⟨ai, p, ci, rfl, hpr, hpr0⟩, rfl⟩ := hcut
        have hpl : p.length ≤ 9223372036854775807 := by have := hpr.1; have := hpr.2.1; unfold maxLen at this; omega
        have HPR : Hid (Row wc ai p ci) := hpr
        have HPO : Hid (p ≠ [] → ∀ a, ai = some a → a.block < w.heap.size) := fun hn a ha => row_old hpr0 hn a ha
        clear hpr hpr0
        by_cases h500 : 500 < p.length
        · go_wp2
          go_ret
          exact ⟨rfl, HPL.out.fr⟩
        · have h500' : ¬ (500 < (p.length : Int)) := by omega
          obtain ⟨b, off, ha2, hcell⟩ := HA.out.2.2.2.2 (fun e => by rw [e] at hlt; simp at hlt)
          obtain ⟨x, hx, hxc⟩ : ∃ x : Nat, x < 256 ∧ wc.cell? ⟨b, off + k, none⟩ = some (.int .u8 (x : Int)) := ⟨acts.getD k 0, by rw [List.getD_eq_getElem?_getD, List.getElem?_eq_getElem hlt]; exact HA.out.2.2.1 _ (List.getElem_mem hlt), HPL.out.fr.cell (hcell k hlt) (by simp)⟩
          subst ha2
          clear hcell
          have hz3 : (k : Int) < (acts.length : Int) := by omega
          obtain ⟨x6, hx6, hx6'⟩ : ∃ y : Nat, (x : Int) % 6 = (y : Int) ∧ y < 6 := ⟨x % 6, by omega, by omega⟩
          have hx7 : (x : Int).tmod 6 = (x6 : Int) := by rw [Int.tmod_eq_emod_of_nonneg (by omega)]; exact hx6
          go_upto_block 2 with fail
          go_cut [8, 9, 10, 13, 14] from 29 to 140 (fun al su op e kk wx => e = .int .i64 0 ∧ (∃ (l2 : List Nat) (sure2 ops2 : Nat), su = .int .i64 (sure2 : Int) ∧ op = .int .i64 (ops2 : Int) ∧ ops2 ≤ k + 1 ∧ l2.length ≤ 500 * (k + 1) ∧ sure2 ≤ l2.length ∧ Play w wx db l2 sure2 ops2 al))
          case first =>
            clear hxc hx6
            obtain ⟨v, d, hdv⟩ := HPL.out.ex
            have HDV : Hid (∀ k, (Value.slice al l.length cl).ownBlock = some k → v.ownBlock ≠ some k) := hdv
            have HAL : Hid (∀ k, (Value.slice al l.length cl).ownBlock = some k → w.heap.size ≤ k ∧ k < wc.heap.size) := HPL.out.own.lt
            have HV : Hid (∀ k, v.ownBlock = some k → w.heap.size ≤ k ∧ k < wc.heap.size) := d.own.lt
            have HNB : Hid (p ≠ [] → ∀ a, ai = some a → ¬ (a.block = db ∨ v.ownBlock = some a.block)) := fun hn a ha e => by
              have h1 := HPO.out hn a ha
              rcases e with e | e
              · have := hdb.out; omega
              · have := (HV.out _ e).1; omega
            have HDL : Hid (db < wc.heap.size) := d.lt
            by_cases c0 : x6 ≤ 2
            · as_aux_lemma =>
                have K1 : Hid (Calls _ _ _ _ _) := append_any d (by omega) ai p ci HPR.out (fun hn a ha e => HNB.out hn a ha (.inl e)) (by omega)
                clear d hdv
                rcases (by omega : x6 = 0 ∨ x6 = 1 ∨ x6 = 2) with rfl | rfl | rfl
                all_goals
                  go_wp2_with fail
                  refine K1.out.mono ?_
                  rintro e w2 ⟨rfl, ⟨v', d', hv'⟩, f2⟩
                  have hs2 := f2.size
                  have o2 := HPL.out.own.fr f2 (fun k hk e => by
                    rcases e with e | e
                    · exact HPL.out.apart (by rw [hk, e])
                    · exact HDV.out k hk e)
                  have r2 := f2.row HPR.out HNB.out
                  have HO2 : Hid (Own w2 w.heap.size (.slice al l.length cl) l) := o2
                  have HR2 : Hid (Row w2 ai p ci) := r2
                  have HD2 : Hid (Dk w2 db w.heap.size (l ++ p) sure (ops + 1) v') := d'
                  have HV2 : Hid (∀ k, v'.ownBlock = some k → v.ownBlock = some k ∨ wc.heap.size ≤ k) := hv'
                  have F2 : Hid (Fr (fun _ => False) w w2) := HPL.out.fr.trans' f2 (fun i hi e => by
                    rcases e with e | e
                    · have := hdb.out; omega
                    · have := (HV.out i e).1; omega)
                  clear o2 r2 d' hv' f2
                  go_wp2_with (refine wpList_append_bytes rfl _ _ rfl w.heap.size _ l rfl HO2.out ai p ci rfl HR2.out (by omega) F2.out.size ?_)
                  intro v3 w3 ho3 hg3 hk3
                  have f3 : Fr (fun k => (Value.slice al l.length cl).ownBlock = some k) w2 w3 := (Fr.refl _ _).grown hg3 (fun k e => .inl e)
                  have hPL : Play w w3 db (l ++ p) sure (ops + 1) v3 := by
                    refine ⟨⟨v', HD2.out.fr f3 (fun e => HPL.out.apart e) (fun k hk e => ?_), fun k hk e => ?_⟩, ho3, fun e => ?_, F2.out.trans' f3 (fun i hi e => by have := (HAL.out i e).1; omega)⟩
                    · rcases HV2.out k hk with h | h
                      · exact HDV.out k e h
                      · have := (HAL.out k e).2; omega
                    · rcases hk3 k hk with h | h
                      · rcases HV2.out k e with h2 | h2
                        · exact HDV.out k h h2
                        · have := (HAL.out k h).2; omega
                      · have := (HD2.out.own.lt k e).2; omega
                    · rcases hk3 db e with h | h
                      · exact HPL.out.apart h
                      · have := HDL.out; omega
                  obtain ⟨LP, HLP⟩ : ∃ LP, Hid (l ++ p = LP) := ⟨_, rfl⟩
                  have hlp : LP.length = l.length + p.length := by rw [← HLP.out]; simp
                  rw [HLP.out] at ho3 hPL
                  have HPL3 : Hid (Play w w3 db LP sure (ops + 1) v3) := hPL
                  obtain ⟨al3, cl3, hv3, _⟩ := ho3.form
                  subst hv3
                  clear hPL ho3 hg3 hk3 f3 K1 HD2 HR2 HO2
                  go_wp2_with fail
                  go_meet
                  exact ⟨rfl, LP, sure, ops + 1, rfl, congrArg (Value.int .i64) (by omega), by omega, by omega, by omega, HPL3.out⟩
            by_cases c3 : x6 = 3
            · as_aux_lemma =>
                have K1 : Hid (Calls _ _ _ _ _) := sync_any d (by omega)
                clear d hdv
                obtain rfl : x6 = 3 := c3
                go_wp2_with fail
                refine K1.out.mono ?_
                rintro e w2 ⟨rfl, d', f2⟩
                have HPL3 : Hid (Play w w2 db l l.length (ops + 1) (.slice al l.length cl)) := ⟨⟨v, d', HDV.out⟩, HPL.out.own.fr f2 (fun k hk e => HPL.out.apart (by rw [hk, e])), HPL.out.apart, HPL.out.fr.trans' f2 (fun i hi e => by have := hdb.out; omega)⟩
                clear d' f2 K1
                go_wp2_with fail
                go_meet
                exact ⟨rfl, l, l.length, ops + 1, rfl, congrArg (Value.int .i64) (by omega), by omega, by omega, by omega, HPL3.out⟩
            by_cases c4 : x6 = 4
            · as_aux_lemma =>
                have K1 : Hid (Calls _ _ _ _ _) := put_any d (by omega) ai p ci HPR.out (fun hn a ha e => HNB.out hn a ha (.inl e)) (by omega)
                clear d hdv
                obtain rfl : x6 = 4 := c4
                go_wp2_with fail
                refine K1.out.mono ?_
                rintro e w2 ⟨rfl, ⟨v', d', hv'⟩, f2⟩
                have hs2 := f2.size
                have HR2 : Hid (Row w2 ai p ci) := f2.row HPR.out (fun hn a ha e => HNB.out hn a ha (.inl e))
                have HD2 : Hid (Dk w2 db w.heap.size p p.length (ops + 1) v') := d'
                have F2 : Hid (Fr (fun _ => False) w w2) := HPL.out.fr.trans' f2 (fun i hi e => by have := hdb.out; omega)
                clear d' hv' f2
                go_wp2_with (refine wpList_append_bytes rfl _ _ rfl w.heap.size _ [] rfl (Own.nil _ _) ai p ci rfl HR2.out (by simp; omega) F2.out.size ?_)
                intro v3 w3 ho3 hg3 hk3
                have f3 : Fr (fun _ => False) w2 w3 := (Fr.refl _ _).grown hg3 (fun k e => by simp [Value.ownBlock] at e)
                have hk4 : ∀ k, v3.ownBlock = some k → w2.heap.size ≤ k := fun k hk => by
                  rcases hk3 k hk with h | h
                  · simp [Value.ownBlock] at h
                  · exact h
                have HPL3 : Hid (Play w w3 db p p.length (ops + 1) v3) := ⟨⟨v', HD2.out.fr f3 (by simp) (by simp), fun k hk e => by have := hk4 k hk; have := (HD2.out.own.lt k e).2; omega⟩, ho3, fun e => by have := hk4 db e; have := HDL.out; omega, F2.out.trans f3⟩
                have ho3' : Own w3 w.heap.size v3 p := ho3
                obtain ⟨al3, cl3, hv3, _⟩ := ho3'.form
                subst hv3
                clear ho3 ho3' hg3 hk3 hk4 f3 K1 HD2 HR2
                go_wp2_with fail
                go_meet
                exact ⟨rfl, p, p.length, ops + 1, rfl, congrArg (Value.int .i64) (by omega), by omega, by omega, by omega, HPL3.out⟩
            clear HPR HPO HNB
            obtain rfl : x6 = 5 := by omega
            have hno : al = none → cl = 0 := by
              obtain ⟨ao2, cap2, he, hr, _⟩ := HPL.out.own.row
              cases he
              exact hr.2.2.2.1
            obtain ⟨kk, hkb, hkc⟩ : ∃ kk : Int, (-9223372036854775808 ≤ kk ∧ kk ≤ 9223372036854775807) ∧ ((k < ks.length ∧ ∃ bk ok, a3 = some ⟨bk, ok, none⟩ ∧ wc.cell? ⟨bk, ok + k, none⟩ = some (.int .i64 kk)) ∨ (¬ k < ks.length ∧ kk = 0)) := by
              by_cases hkl : k < ks.length
              · obtain ⟨bk, ok, h1, h2⟩ := HK.out.2.2 (fun e => by rw [e] at hkl; simp at hkl)
                exact ⟨ks.getD k 0, HK.out.2.1 _ (by rw [List.getD_eq_getElem?_getD, List.getElem?_eq_getElem hkl]; exact List.getElem_mem hkl), .inl ⟨hkl, bk, ok, h1, HPL.out.fr.cell (h2 k hkl) (by simp)⟩⟩
              · exact ⟨0, by omega, .inr ⟨hkl, rfl⟩⟩
            have K1 : Hid (Calls _ _ _ _ _) := crash_any d kk hkb
            obtain ⟨n, Hn⟩ : ∃ n, Hid (left l.length sure kk = n) := ⟨_, rfl⟩
            have hnl := left_le l.length sure kk hsl
            rw [Hn.out] at K1 hnl
            have KP : Hid (∀ w2 v', Dk w2 db w.heap.size (l.take n) n ops v' → v'.ownBlock = v.ownBlock → Fr (fun k => k = db) wc w2 → Play w w2 db (l.take n) n ops (.slice al n cl)) := fun w2 v' d' hv' f2 => by
              have hob : (Value.slice al n cl).ownBlock = (Value.slice al l.length cl).ownBlock := by rw [own_none, own_none]
              exact ⟨⟨v', d', fun k hk e => HDV.out k (by rw [← hob]; exact hk) (by rw [← hv']; exact e)⟩, (HPL.out.own.take n hnl.2).fr f2 (fun k hk e => HPL.out.apart (by rw [← hob, hk, e])), by rw [hob]; exact HPL.out.apart, HPL.out.fr.trans' f2 (fun i hi e => by have := hdb.out; omega)⟩
            have hln : (l.take n).length = n := by simp; omega
            have HLN : Hid ((l.take n).length = n) := hln
            have HN : Hid (left l.length sure kk = n) := Hn.out
            have hn1 := hnl.1
            have hn2 := hnl.2
            clear d hdv hln Hn hnl HV HAL HDV
            rcases hkc with ⟨hkl, bk, ok, rfl, hkc⟩ | ⟨hkl, rfl⟩
            · have hkl' : (k : Int) < (ks.length : Int) := by omega
              cases al with
              | none =>
                obtain rfl := hno rfl
                obtain rfl : l = [] := List.eq_nil_of_length_eq_zero (by omega)
                obtain rfl : sure = 0 := by simpa using hsl
                obtain rfl : n = 0 := by simpa using hn2
                clear HN hn1 hn2
                by_cases hk0 : kk < 0
                · as_aux_lemma =>
                    go_wp2_with fail
                    refine K1.out.mono ?_
                    rintro e w2 ⟨rfl, ⟨v', d', hv'⟩, f2⟩
                    have HPL3 := KP.out w2 v' d' hv' f2
                    have HPL4 : Hid (Play w w2 db ([].take 0) 0 ops (.slice none 0 0)) := HPL3
                    clear d' hv' f2 HPL3 K1 KP
                    go_wp2_with fail
                    go_meet
                    exact ⟨rfl, [].take 0, 0, ops, congrArg (Value.int .i64) (by omega), rfl, by omega, by rw [HLN.out]; omega, by rw [HLN.out]; exact Nat.le_refl _, HPL4.out⟩
                · by_cases hk1 : kk = 0
                  · subst hk1
                    as_aux_lemma =>
                      go_wp2_with fail
                      refine K1.out.mono ?_
                      rintro e w2 ⟨rfl, ⟨v', d', hv'⟩, f2⟩
                      have HPL3 := KP.out w2 v' d' hv' f2
                      have HPL4 : Hid (Play w w2 db ([].take 0) 0 ops (.slice none 0 0)) := HPL3
                      clear d' hv' f2 HPL3 K1 KP
                      go_wp2_with fail
                      go_meet
                      exact ⟨rfl, [].take 0, 0, ops, congrArg (Value.int .i64) (by omega), rfl, by omega, by rw [HLN.out]; omega, by rw [HLN.out]; exact Nat.le_refl _, HPL4.out⟩
                  · have hk2 : 0 < kk := by omega
                    as_aux_lemma =>
                      go_wp2_with fail
                      refine K1.out.mono ?_
                      rintro e w2 ⟨rfl, ⟨v', d', hv'⟩, f2⟩
                      have HPL3 := KP.out w2 v' d' hv' f2
                      have HPL4 : Hid (Play w w2 db ([].take 0) 0 ops (.slice none 0 0)) := HPL3
                      clear d' hv' f2 HPL3 K1 KP
                      go_wp2_with fail
                      go_meet
                      exact ⟨rfl, [].take 0, 0, ops, congrArg (Value.int .i64) (by omega), rfl, by omega, by rw [HLN.out]; omega, by rw [HLN.out]; exact Nat.le_refl _, HPL4.out⟩
              | some a =>
                by_cases hk0 : kk < 0
                · obtain rfl : n = sure := by have := HN.out; unfold left at this; omega
                  clear HN
                  have hd : ¬ ((l.length : Int) - (n : Int) < 0) := by omega
                  as_aux_lemma =>
                    go_wp2_with fail
                    refine K1.out.mono ?_
                    rintro e w2 ⟨rfl, ⟨v', d', hv'⟩, f2⟩
                    have HPL3 := KP.out w2 v' d' hv' f2
                    have HPL4 : Hid (Play w w2 db (l.take n) n ops (.slice (some a) n cl)) := HPL3
                    clear d' hv' f2 HPL3 K1 KP
                    go_wp2_with fail
                    go_meet
                    exact ⟨rfl, l.take n, n, ops, congrArg (Value.int .i64) (by omega), rfl, by omega, by rw [HLN.out]; omega, by rw [HLN.out]; exact Nat.le_refl _, HPL4.out⟩
                · obtain ⟨kn, rfl⟩ : ∃ kn : Nat, kk = kn := ⟨kk.toNat, by omega⟩
                  by_cases hd : l.length - sure < kn
                  · obtain rfl : n = l.length := by have := HN.out; unfold left at this; omega
                    clear HN
                    have hd' : (l.length : Int) - (sure : Int) < (kn : Int) := by omega
                    as_aux_lemma =>
                      go_wp2_with fail
                      refine K1.out.mono ?_
                      rintro e w2 ⟨rfl, ⟨v', d', hv'⟩, f2⟩
                      have HPL3 := KP.out w2 v' d' hv' f2
                      have HPL4 : Hid (Play w w2 db (l.take l.length) l.length ops (.slice (some a) l.length cl)) := HPL3
                      clear d' hv' f2 HPL3 K1 KP
                      go_wp2_with fail
                      go_meet
                      exact ⟨rfl, l.take l.length, l.length, ops, congrArg (Value.int .i64) (by omega), rfl, by omega, by rw [HLN.out]; omega, by rw [HLN.out]; exact Nat.le_refl _, by rw [show sure + (l.length - sure) = l.length by omega]; exact HPL4.out⟩
                  · obtain rfl : n = sure + kn := by have := HN.out; unfold left at this; omega
                    clear HN
                    have hd' : ¬ (l.length : Int) - (sure : Int) < (kn : Int) := by omega
                    as_aux_lemma =>
                      go_wp2_with fail
                      refine K1.out.mono ?_
                      rintro e w2 ⟨rfl, ⟨v', d', hv'⟩, f2⟩
                      have HPL3 := KP.out w2 v' d' hv' f2
                      have HPL4 : Hid (Play w w2 db (l.take (sure + kn)) (sure + kn) ops (.slice (some a) (sure + kn) cl)) := HPL3
                      clear d' hv' f2 HPL3 K1 KP
                      go_wp2_with fail
                      go_meet
                      exact ⟨rfl, l.take (sure + kn), (sure + kn), ops, congrArg (Value.int .i64) (by omega), rfl, by omega, by rw [HLN.out]; omega, by rw [HLN.out]; exact Nat.le_refl _, HPL4.out⟩
            · have hkl' : ¬ (k : Int) < (ks.length : Int) := by omega
              cases al with
              | none =>
                obtain rfl := hno rfl
                obtain rfl : l = [] := List.eq_nil_of_length_eq_zero (by omega)
                obtain rfl : sure = 0 := by simpa using hsl
                obtain rfl : n = 0 := by simpa using hn2
                clear HN hn1 hn2
                as_aux_lemma =>
                  go_wp2_with fail
                  refine K1.out.mono ?_
                  rintro e w2 ⟨rfl, ⟨v', d', hv'⟩, f2⟩
                  have HPL3 := KP.out w2 v' d' hv' f2
                  have HPL4 : Hid (Play w w2 db ([].take 0) 0 ops (.slice none 0 0)) := HPL3
                  clear d' hv' f2 HPL3 K1 KP
                  go_wp2_with fail
                  go_meet
                  exact ⟨rfl, [].take 0, 0, ops, congrArg (Value.int .i64) (by omega), rfl, by omega, by rw [HLN.out]; omega, by rw [HLN.out]; exact Nat.le_refl _, HPL4.out⟩
              | some a =>
                obtain rfl : n = sure := by have := HN.out; unfold left at this; omega
                clear HN
                have hd : ¬ ((l.length : Int) - (n : Int) < 0) := by omega
                as_aux_lemma =>
                  go_wp2_with fail
                  refine K1.out.mono ?_
                  rintro e w2 ⟨rfl, ⟨v', d', hv'⟩, f2⟩
                  have HPL3 := KP.out w2 v' d' hv' f2
                  have HPL4 : Hid (Play w w2 db (l.take n) n ops (.slice (some a) n cl)) := HPL3
                  clear d' hv' f2 HPL3 K1 KP
                  go_wp2_with fail
                  go_meet
                  exact ⟨rfl, l.take n, n, ops, congrArg (Value.int .i64) (by omega), rfl, by omega, by rw [HLN.out]; omega, by rw [HLN.out]; exact Nat.le_refl _, HPL4.out⟩
          case rest =>
            obtain ⟨rfl, l2, sure2, ops2, rfl, rfl, hops2, hll2, hsl2, hplay⟩ := hcut
            clear HPL HPR HPO hpl h500 h500' hx hxc hx6 hx6' hx7 hll hsl hops hcl
            obtain ⟨al2, cl2, hvl2, hcl2⟩ := hplay.own.form
            subst hvl2
            rename World => wd
            have HPL2 : Hid (Play w wd db l2 sure2 ops2 (.slice al2 l2.length cl2)) := hplay
            obtain ⟨t, Ht⟩ : ∃ t, Hid (strOf l2 = t) := ⟨_, rfl⟩
            have hbt : (t.toList == t.toList) = true := by simp
            have K12 : Hid (∀ W, Fr (fun _ => False) wd W → Calls Try.prog 12 #[.pointer (some ⟨db, 0, none⟩)] W fun e w' => ∃ a9 c9, e = .returned (.slice a9 l2.length c9) ∧ (convert 23 9 (.slice a9 l2.length c9)).run Try.prog w' = .ok (.string t) w' ∧ (convert 23 9 (.slice al2 l2.length cl2)).run Try.prog w' = .ok (.string t) w' ∧ Play w w' db l2 sure2 ops2 (.slice al2 l2.length cl2)) := fun W f => by
              obtain ⟨v, d, _⟩ := (HPL2.out.step f).ex
              refine (read_any d (by omega)).mono ?_
              rintro e w' ⟨v', rfl, ho, f'⟩
              obtain ⟨a9, c9, rfl, hr, _⟩ := ho.row
              have hp := (HPL2.out.step f).step f'
              obtain ⟨_, _, he, hr2, _⟩ := hp.own.row
              cases he
              refine ⟨a9, c9, rfl, ?_, ?_, hp⟩
              · rw [run_str w' a9 l2 c9 hr, Ht.out]
              · rw [run_str w' al2 l2 cl2 hr2, Ht.out]
            have K13 : Hid (∀ W, Play w W db l2 sure2 ops2 (.slice al2 l2.length cl2) → Calls Try.prog 13 #[.pointer (some ⟨db, 0, none⟩)] W fun e w' => e = .returned (.int .i64 (l2.length : Int)) ∧ w' = W) := fun W h => by
              obtain ⟨v, d, _⟩ := h.ex
              exact len_any d
            have K14 : Hid (∀ W, Play w W db l2 sure2 ops2 (.slice al2 l2.length cl2) → Calls Try.prog 14 #[.pointer (some ⟨db, 0, none⟩)] W fun e w' => e = .returned (.int .i64 (sure2 : Int)) ∧ w' = W) := fun W h => by
              obtain ⟨v, d, _⟩ := h.ex
              exact sure_any d
            have K15 : Hid (∀ W, Play w W db l2 sure2 ops2 (.slice al2 l2.length cl2) → Calls Try.prog 15 #[.pointer (some ⟨db, 0, none⟩)] W fun e w' => e = .returned (.int .i64 (ops2 : Int)) ∧ w' = W) := fun W h => by
              obtain ⟨v, d, _⟩ := h.ex
              exact ops_any d
            have s0 : (convert 23 9 (.slice al2 l2.length cl2)).run Try.prog wd.drew = .ok (.string t) wd.drew := by
              have hp := HPL2.out.step ((Fr.refl (fun _ => False) wd).drew)
              obtain ⟨_, _, he, hr2, _⟩ := hp.own.row
              cases he
              rw [run_str wd.drew al2 l2 cl2 hr2, Ht.out]
            have fd : Hid (Fr (fun _ => False) wd wd.drew) := (Fr.refl _ _).drew
            clear hplay Ht
            go_upto_region 43 with fail
            go_cut [140] from 29 to 140 (fun s wx => s = .bool false ∧ Play w wx db l2 sure2 ops2 (.slice al2 l2.length cl2))
            case first =>
              go_region_with (first
                | (go_at_call 15; refine (K15.out _ p9.out).mono ?_; rintro e w12 ⟨rfl, rfl⟩)
                | (go_at_call 14; refine (K14.out _ p9.out).mono ?_; rintro e w11 ⟨rfl, rfl⟩)
                | (go_at_call 13; refine (K13.out _ p9.out).mono ?_; rintro e w10 ⟨rfl, rfl⟩)
                | (go_at_call 12; refine (K12.out _ fd.out).mono ?_; rintro e w9 ⟨a9, c9, rfl, s9, s9', p9'⟩; have p9 : Hid (Play w w9 db l2 sure2 ops2 (.slice al2 l2.length cl2)) := p9'; clear p9' s0))
              all_goals
                go_wp2_with fail
                go_meet
                exact ⟨rfl, p9.out⟩
            case rest =>
              obtain ⟨rfl, hplay⟩ := hcut
              have HPL3 : Hid (Play w wc db l2 sure2 ops2 (.slice al2 l2.length cl2)) := hplay
              clear hplay K12 K13 K14 K15 s0 fd
              go_wp2
              go_roundw
              case rel => exact ⟨k + 1, l2, sure2, ops2, by omega, by go_num, rfl, rfl, by omega, by omega, hsl2, HPL3.out⟩
              case measure => simp [intOf]; omega
    · go_wp2
      go_ret
      exact ⟨rfl, HPL.out.fr⟩
end Go.Proofs.Ytdkepkgckameiaa
