/- The statement QueuePlays, walked. -/
import Derived.Test.YtpnjcpamhelaeaaDoorAwake6
namespace Go.Proofs.YtpnjcpamhelaeaaDoor
open Go.RowKit
attribute [local go_sem ↓] Go.wp_at_zero Go.wp_at_succ

/-- WHERE A PLAY STANDS: the queue, and the document's list, of the same frames. -/
structure Play (w : World) (qb : Nat) (most : Nat) (wr : World) (idn : Nat) (fs : List (List Nat)) (vl : Value) : Prop where
  ex : ∃ (Sq Sl : Nat → Prop) (vq : Value), Qu wr qb Sq 64 most idn fs vq ∧ OffP wr Sl vl fs ∧ (∀ k, Sq k → ¬ Sl k) ∧ (∀ k, Sq k → w.heap.size ≤ k ∧ k < wr.heap.size) ∧ (∀ k, Sl k → w.heap.size ≤ k ∧ k < wr.heap.size) ∧ ¬ Sl qb
  fr : Fr (fun _ => False) w wr
  id : idn < 18446744073709551616
  len : fs.length ≤ most
  qb : w.heap.size ≤ qb
theorem PRow.row_at {w wr : World} {b2 o2 : Nat} {ps : List (List Nat)} {cap m : Nat} {ai : Option Addr} {p : List Nat} {ci : Nat} (h : PRow w (some ⟨b2, o2, none⟩) ps cap) (hm : m < ps.length) (hp : ps.getD m [] = p) (hc : wr.cell? ⟨b2, o2 + m, none⟩ = some (.slice ai p.length ci)) (_hr : Row wr ai p ci) (hfr : Fr (fun _ => False) w wr) : Row w ai p ci := by
  obtain ⟨b, off, he, hx⟩ := h.2.2 (fun e => by rw [e] at hm; simp at hm)
  cases he
  obtain ⟨ai', ci', h1, h2⟩ := hx m hm
  rw [hp] at h1 h2
  have := hfr.cell h1 (by simp)
  rw [hc] at this
  cases this
  exact h2
theorem PRow.blk_at {w : World} {b2 o2 : Nat} {ps : List (List Nat)} {cap m : Nat} (h : PRow w (some ⟨b2, o2, none⟩) ps cap) (hm : m < ps.length) : b2 < w.heap.size := by
  obtain ⟨b, off, he, hx⟩ := h.2.2 (fun e => by rw [e] at hm; simp at hm)
  cases he
  obtain ⟨ai', ci', h1, _⟩ := hx m hm
  exact World.block_lt_of_cell? _ _ h1
section
variable {w wr w2 w3 w4 : World} {Sq Sl : Nat → Prop} {qb : Nat}
theorem play_apart (hd : ∀ k, Sq k → ¬ Sl k) (hq : ∀ k, Sq k → w.heap.size ≤ k ∧ k < wr.heap.size) (hl : ¬ Sl qb) (hlt : qb < wr.heap.size) (h2 : wr.heap.size ≤ w2.heap.size) (_h3 : w2.heap.size ≤ w3.heap.size) : ∀ k, (Sl k ∨ (wr.heap.size ≤ k ∧ k < w2.heap.size) ∨ (w2.heap.size ≤ k ∧ k < w3.heap.size)) → ¬ (k = qb ∨ Sq k) := by
  intro k hk hc
  rcases hk with h | h | h <;> rcases hc with c | c
  · subst c; exact hl h
  · exact hd k c h
  · omega
  · have := (hq k c).2; omega
  · omega
  · have := (hq k c).2; omega
theorem play_dis (hd : ∀ k, Sq k → ¬ Sl k) (hq : ∀ k, Sq k → w.heap.size ≤ k ∧ k < wr.heap.size) (hl : ∀ k, Sl k → w.heap.size ≤ k ∧ k < wr.heap.size) (h2 : wr.heap.size ≤ w2.heap.size) (h3 : w2.heap.size ≤ w3.heap.size) : ∀ k, (Sq k ∨ (w3.heap.size ≤ k ∧ k < w4.heap.size)) → ¬ (Sl k ∨ (wr.heap.size ≤ k ∧ k < w2.heap.size) ∨ (w2.heap.size ≤ k ∧ k < w3.heap.size)) := by
  intro k hk hc
  rcases hk with h | h <;> rcases hc with c | c | c
  · exact hd k h c
  · have := (hq k h).2; omega
  · have := (hq k h).2; omega
  · have := (hl k c).2; omega
  · omega
  · omega
theorem play_sq (hq : ∀ k, Sq k → w.heap.size ≤ k ∧ k < wr.heap.size) (h2 : wr.heap.size ≤ w2.heap.size) (h3 : w2.heap.size ≤ w3.heap.size) (h4 : w3.heap.size ≤ w4.heap.size) (h0 : w.heap.size ≤ wr.heap.size) : ∀ k, (Sq k ∨ (w3.heap.size ≤ k ∧ k < w4.heap.size)) → w.heap.size ≤ k ∧ k < w4.heap.size := by
  rintro k (h | h)
  · have := hq k h; omega
  · omega
theorem play_sl (hl : ∀ k, Sl k → w.heap.size ≤ k ∧ k < wr.heap.size) (h2 : wr.heap.size ≤ w2.heap.size) (h3 : w2.heap.size ≤ w3.heap.size) (h4 : w3.heap.size ≤ w4.heap.size) (h0 : w.heap.size ≤ wr.heap.size) : ∀ k, (Sl k ∨ (wr.heap.size ≤ k ∧ k < w2.heap.size) ∨ (w2.heap.size ≤ k ∧ k < w3.heap.size)) → w.heap.size ≤ k ∧ k < w4.heap.size := by
  rintro k (h | h | h)
  · have := hl k h; omega
  · omega
  · omega
theorem play_lq (hl : ¬ Sl qb) (hlt : qb < wr.heap.size) (h2 : wr.heap.size ≤ w2.heap.size) : ¬ (Sl qb ∨ (wr.heap.size ≤ qb ∧ qb < w2.heap.size) ∨ (w2.heap.size ≤ qb ∧ qb < w3.heap.size)) := by
  rintro (h | h | h)
  · exact hl h
  · omega
  · omega
theorem play_sep {k : Nat} (hd : ∀ k, Sq k → ¬ Sl k) (hl : ¬ Sl qb) (hk : Sl k) (e : k = qb ∨ Sq k) : False := by
  rcases e with e | e
  · exact hl (e ▸ hk)
  · exact hd k e hk
theorem play_old (hq : ∀ k, Sq k → w.heap.size ≤ k ∧ k < wr.heap.size) (hqw : w.heap.size ≤ qb) : ∀ i, i < w.heap.size → (i = qb ∨ Sq i) → False := by
  rintro i hi (h | h)
  · omega
  · have := (hq i h).1; omega
end
set_option maxRecDepth 100000 in
set_option maxHeartbeats 16000000 in
theorem plays_walk (depth fr0 : Nat) (ao : Option Addr) (ps : List (List Nat)) (cap : Nat) (a3 : Option Addr) (acts : List Nat) (c3 : Nat) (w : World) (ht : Tab w) (hps : PRow w ao ps cap) (hac : Row w a3 acts c3) (hde : depth < 256) (hf0 : fr0 < 18446744073709551616) :
    Calls Tryd.prog 8 #[.int .u8 (depth : Int), .int .u64 (fr0 : Int), .slice ao ps.length cap, .slice a3 acts.length c3] w fun e w' => e = .returned (.bool true) ∧ Fr (fun _ => False) w w' := by
  have HT : Hid (Tab w) := ht
  have HP : Hid (PRow w ao ps cap) := hps
  have HA : Hid (Row w a3 acts c3) := hac
  have hl1 : ps.length ≤ 9223372036854775807 := by have := hps.1; have := hps.2.1; unfold maxLen at this; omega
  have hl2 : acts.length ≤ 9223372036854775807 := by have := hac.1; have := hac.2.1; unfold maxLen at this; omega
  clear ht hps hac
  by_cases hlong : 60 < ps.length ∨ 80 < acts.length
  · by_cases h60 : 60 < ps.length
    · go_enter Tryd.func8, Tryd.ntmps8
      go_wp2_with fail
      refine (awake6_any w HT.out).mono ?_
      rintro e w1 ⟨rfl, f1⟩
      go_wp2_with fail
      refine (awake6_any w1 (f1.tab HT.out (by simp))).mono ?_
      rintro e w2 ⟨rfl, f2⟩
      go_wp2
      go_ret
      exact ⟨rfl, f1.trans f2⟩
    · have h80 : 80 < acts.length := by omega
      clear hlong
      go_enter Tryd.func8, Tryd.ntmps8
      go_wp2_with fail
      refine (awake6_any w HT.out).mono ?_
      rintro e w1 ⟨rfl, f1⟩
      go_wp2_with fail
      refine (awake6_any w1 (f1.tab HT.out (by simp))).mono ?_
      rintro e w2 ⟨rfl, f2⟩
      go_wp2
      go_ret
      exact ⟨rfl, f1.trans f2⟩
  · have h60 : ps.length ≤ 60 := by omega
    have h80 : acts.length ≤ 80 := by omega
    clear hlong hl1 hl2
    obtain ⟨most, Hmo⟩ : ∃ m, Hid (1 + depth % 12 = m) := ⟨_, rfl⟩
    have hmost : 1 ≤ most ∧ most ≤ 12 := by have := Hmo.out; omega
    have hmo2 : 1 + (depth : Int) % 12 = (most : Int) := by have := Hmo.out; omega
    obtain ⟨L, HL⟩ : ∃ L, Hid (dum 64 = L) := ⟨_, rfl⟩
    have hLl : Hid (L.length = 64) := by show _ = _; rw [← HL.out]; exact dum_length 64 (by omega)
    go_enter Tryd.func8, Tryd.ntmps8
    go_wp2_with fail
    refine (awake6_any w HT.out).mono ?_
    rintro e w1 ⟨rfl, f1⟩
    go_wp2_with fail
    refine (qnew_any 64 most fr0 w1 (by omega) (by omega)).mono ?_
    rintro e w2 ⟨rfl, q2, f2⟩
    have P0 : Play w w1.heap.size most w2 fr0 [] (.slice none 0 0) := ⟨⟨_, fun _ => False, _, q2, OffP.nil _ _, fun _ h => h.elim, fun _ h => h.elim, fun _ h => h.elim, fun h => h⟩, f1.trans f2, hf0, by simp, f1.size⟩
    have HP0 : Hid (Play w w1.heap.size most w2 fr0 [] (.slice none 0 0)) := P0
    obtain ⟨qb, Hqb⟩ : ∃ qb, Hid (w1.heap.size = qb) := ⟨_, rfl⟩
    rw [Hqb.out] at HP0 ⊢
    clear P0 q2 f1 f2
    go_wp2
    go_loopw [12, 13, 14, 15] (fun l id nx i wr => ∃ (k m idn : Nat) (fs : List (List Nat)) (vl : Value), k ≤ acts.length ∧ m ≤ k ∧ i = .int .i64 (k : Int) ∧ nx = .int .i64 (m : Int) ∧ id = .int .u64 (idn : Int) ∧ l = vl ∧ Play w qb most wr idn fs vl) (fun _ _ _ i _ => acts.length - (intOf i).toNat)
    case atStart => exact ⟨0, 0, fr0, [], _, Nat.zero_le _, Nat.le_refl _, rfl, rfl, rfl, rfl, HP0.out⟩
    case round =>
      obtain ⟨k, m, idn, fs, vl, hk, hmk, rfl, rfl, rfl, rfl, hplay⟩ := hrel
      clear HP0
      obtain ⟨⟨Sq, Sl, vq, hq, hl, hdis, hSq, hSl, hlq⟩, hfr, hidn, hlen, hqb⟩ := hplay
      have HQ : Hid (Qu wr qb Sq 64 most idn fs vq) := hq
      have HO : Hid (OffP wr Sl _ fs) := hl
      have HDIS : Hid (∀ k, Sq k → ¬ Sl k) := hdis
      have HSQ : Hid (∀ k, Sq k → w.heap.size ≤ k ∧ k < wr.heap.size) := hSq
      have HSL : Hid (∀ k, Sl k → w.heap.size ≤ k ∧ k < wr.heap.size) := hSl
      have HLQ : Hid (¬ Sl qb) := hlq
      have HFR : Hid (Fr (fun _ => False) w wr) := hfr
      have hqw : Hid (w.heap.size ≤ qb) := hqb
      have hqlt : Hid (qb < wr.heap.size) := hq.lt
      obtain ⟨al, cl, hvl, hcl⟩ := hl.form
      subst hvl
      clear hq hl hdis hSq hSl hlq hfr hqb
      by_cases hlt : k < acts.length
      · obtain ⟨b, off, ha3, hcell⟩ := HA.out.2.2.2.2 (fun e => by rw [e] at hlt; simp at hlt)
        obtain ⟨x, hx, hxc⟩ : ∃ x : Nat, x < 256 ∧ wr.cell? ⟨b, off + k, none⟩ = some (.int .u8 (x : Int)) := ⟨acts.getD k 0, by rw [List.getD_eq_getElem?_getD, List.getElem?_eq_getElem hlt]; exact HA.out.2.2.1 _ (List.getElem_mem hlt), HFR.out.cell (hcell k hlt) (by simp)⟩
        have hz1 : (0 : Int) ≤ (k : Int) := by omega
        subst ha3
        clear hcell
        have hx5 : x % 5 = 0 ∨ x % 5 = 1 ∨ x % 5 = 2 ∨ x % 5 = 3 ∨ x % 5 = 4 := by omega
        rcases hx5 with h5 | h5 | h5 | h5 | h5
        · have hx5 : (x : Int) % 5 = 0 := by omega
          by_cases hnx : m < ps.length
          · obtain ⟨b2, o2, hao, hc2⟩ := HP.out.2.2 (fun e => by rw [e] at hnx; simp at hnx)
            obtain ⟨ai, ci, hpc0, hpr0⟩ := hc2 m hnx
            subst hao
            obtain ⟨p, Hp⟩ : ∃ p, Hid (ps.getD m [] = p) := ⟨_, rfl⟩
            rw [Hp.out] at hpc0 hpr0
            have hpc := HFR.out.cell hpc0 (by simp)
            have hpr : Row wr ai p ci := HFR.out.row hpr0 (by simp)
            have HPR : Hid (Row wr ai p ci) := hpr
            have hpl : p.length ≤ 9223372036854775807 := by have := hpr.1; have := hpr.2.1; unfold maxLen at this; omega
            have hz2 : (m : Int) < (ps.length : Int) := by omega
            have hz3 : (0 : Int) ≤ (m : Int) := by omega
            clear hc2 hpc0 hpr0 hpr
            by_cases h400 : 400 < p.length
            · as_aux_lemma =>
                go_wp2
                go_roundw
                case rel => exact ⟨k + 1, m, idn, fs, _, by omega, by omega, by go_num, rfl, rfl, rfl, ⟨⟨Sq, Sl, vq, HQ.out, HO.out, HDIS.out, HSQ.out, HSL.out, HLQ.out⟩, HFR.out, hidn, hlen, hqw.out⟩⟩
                case measure => simp [intOf]; omega
            · have ks := refsplit_ok 64 idn ai p ci wr HPR.out (by omega) (by omega) hidn
              have hfl := frames_length 64 idn p
              have hof := parts_pos 64 p.length
              have hof2 := parts_le 64 p.length (by omega) (by omega)
              obtain ⟨FS, HFS⟩ : ∃ FS, Hid (frames 64 idn p = FS) := ⟨_, rfl⟩
              rw [HFS.out] at ks hfl
              rw [← hfl] at hof hof2
              have HPT : Hid (parts 64 p.length = FS.length) := hfl.symm
              have HKS : Hid (Calls _ _ _ _ _) := ks
              clear ks hfl
              by_cases hfull : most < fs.length + FS.length
              · as_aux_lemma =>
                  have hfull' : ¬ ((fs.length : Int) + (FS.length : Int) ≤ (most : Int)) := by omega
                  go_wp2_with fail
                  refine HKS.out.mono ?_
                  rintro e w2 ⟨v2, rfl, ho2, f2⟩
                  obtain ⟨a2, c2, hv2, _, _⟩ := ho2.prow
                  subst hv2
                  have hpc2 := f2.cell hpc (by simp)
                  have q2 := HQ.out.fr f2 (by simp) (by simp)
                  have kp := qput_full q2 ai p ci (by omega) (by omega) (by omega) (by omega) (by rw [HPT.out]; exact hfull)
                  have HKP : Hid (Calls _ _ _ _ _) := kp
                  have HF2 : Hid (Fr (fun _ => False) wr w2) := f2
                  clear kp q2 ho2 f2 HKS hpc
                  go_wp2_with fail
                  refine HKP.out.mono ?_
                  rintro e w3 ⟨rfl, f3⟩
                  have F3 : Hid (Fr (fun _ => False) wr w3) := HF2.out.trans f3
                  have q3 := HQ.out.fr F3.out (by simp) (by simp)
                  have klen := qlen_any q3
                  have HKL : Hid (Calls _ _ _ _ _) := klen
                  have hs3 := F3.out.size
                  clear klen q3 f3 HKP hpc2
                  go_wp2_with fail
                  refine HKL.out.mono ?_
                  rintro e w9 ⟨rfl, hw⟩
                  subst w9
                  go_wp2
                  go_roundw
                  case rel => exact ⟨k + 1, m + 1, idn, fs, _, by omega, by omega, by go_num, by go_num, rfl, rfl, ⟨⟨Sq, Sl, vq, HQ.out.fr F3.out (by simp) (by simp), HO.out.fr F3.out (by simp), HDIS.out, fun k h => ⟨(HSQ.out k h).1, by have := (HSQ.out k h).2; omega⟩, fun k h => ⟨(HSL.out k h).1, by have := (HSL.out k h).2; omega⟩, HLQ.out⟩, HFR.out.trans F3.out, hidn, hlen, hqw.out⟩⟩
                  case measure => simp [intOf]; omega
              · as_aux_lemma =>
                  have hfull' : (fs.length : Int) + (FS.length : Int) ≤ (most : Int) := by omega
                  obtain ⟨nx, hnx3, Hnx⟩ : ∃ nx : Nat, ((idn : Int) + 1) % 18446744073709551616 = (nx : Int) ∧ Hid ((idn + 1) % 18446744073709551616 = nx) := ⟨_, by omega, rfl⟩
                  have hnx2 : IntKind.u64.wrap ((idn : Int) + 1) = (nx : Int) := by
                    rw [← hnx3]; simp [IntKind.wrap, IntKind.bits, IntKind.signed]
                  go_wp2_with fail
                  refine HKS.out.mono ?_
                  rintro e w2 ⟨v2, rfl, ho2, f2⟩
                  obtain ⟨a2, c2, hv2, hp2, _⟩ := ho2.prow
                  have hne : FS ≠ [] := fun e => by rw [e] at hof; simp at hof
                  obtain ⟨b4, o4, ha2, _⟩ := hp2.2.2 hne
                  subst ha2
                  subst hv2
                  have hpr2 : PRowS w2 (fun k => wr.heap.size ≤ k ∧ k < w2.heap.size) (some ⟨b4, o4, none⟩) FS c2 := hp2.bound.mono (fun k hk => ⟨hk.1.1, hk.2⟩)
                  have HPR2 : Hid (PRowS w2 (fun k => wr.heap.size ≤ k ∧ k < w2.heap.size) (some ⟨b4, o4, none⟩) FS c2) := hpr2
                  have HO2 : Hid (OffP w2 Sl (.slice al fs.length cl) fs) := HO.out.fr f2 (by simp)
                  have HF2 : Hid (Fr (fun _ => False) wr w2) := f2
                  have hs2 := f2.size
                  clear ho2 hp2 hpr2 f2 HKS
                  go_wp2_with (at_builtin; refine wpList_append_off rfl (.tmp 95) (.tmp 96) rfl Sl (fun k => wr.heap.size ≤ k ∧ k < w2.heap.size) _ fs rfl HO2.out b4 o4 FS c2 rfl HPR2.out hne (fun k hk hs => by have := (HSL.out k hs).2; omega) (by omega) ?_)
                  intro v3 w3 ho3 f3
                  obtain ⟨a3', c3', hv3, _⟩ := ho3.form
                  have hs3 := f3.size
                  have fw3 : Fr (fun k => Sl k) wr w3 := (HF2.out.mono (fun _ _ h => h.elim)).trans f3
                  have F3 : Hid (Fr (fun _ => False) w w3) := HFR.out.trans' fw3 (fun i hi e => by have := (HSL.out i e).1; omega)
                  have hpr3 : Row w3 ai p ci := fw3.row HPR.out (fun hn a ha e => by
                    have h1 := (HSL.out _ e).1
                    have h2 := row_blk (HP.out.row_at hnx Hp.out hpc HPR.out HFR.out) hn a ha
                    exact Nat.lt_irrefl _ (Nat.lt_of_lt_of_le h2 h1))
                  have hpc3 : w3.cell? ⟨b2, o2 + m, none⟩ = some (.slice ai p.length ci) := fw3.cell hpc (fun e => by
                    have h1 := (HSL.out _ e).1
                    have h2 := HP.out.blk_at hnx
                    exact Nat.lt_irrefl _ (Nat.lt_of_lt_of_le h2 h1))
                  have q3 : Qu w3 qb Sq 64 most idn fs vq := HQ.out.fr fw3 HLQ.out (fun k hk => HDIS.out k hk)
                  have kp := qput_ok q3 (F3.out.tab HT.out (by simp)) ai p ci hpr3 (fun k hk => by have := (HSQ.out k hk).2; omega) (by omega) (by omega) hidn (by omega) (by rw [HPT.out]; omega)
                  rw [HFS.out, Hnx.out] at kp
                  have HKP : Hid (Calls _ _ _ _ _) := kp
                  have HO3 : Hid (OffP w3 (fun k => Sl k ∨ (wr.heap.size ≤ k ∧ k < w2.heap.size) ∨ (w2.heap.size ≤ k ∧ k < w3.heap.size)) v3 (fs ++ FS)) := ho3
                  obtain ⟨FF, HFF⟩ : ∃ FF, Hid (fs ++ FS = FF) := ⟨_, rfl⟩
                  have hFFl : Hid (FF.length ≤ most) := by show FF.length ≤ most; rw [← HFF.out, List.length_append]; omega
                  rw [HFF.out] at HO3 hv3 HKP
                  subst hv3
                  clear kp q3 hpr3 fw3 f3 ho3 hpc HO2 HPR2
                  go_wp2_with fail
                  refine HKP.out.mono ?_
                  rintro e w4 ⟨rfl, ⟨v4, q4⟩, f4⟩
                  have klen := qlen_any q4
                  have HKL : Hid (Calls _ _ _ _ _) := klen
                  have HQ4 : Hid (Qu w4 qb _ 64 most nx FF v4) := q4
                  have HF4 : Hid (Fr (fun k => k = qb ∨ Sq k) w3 w4) := f4
                  have hs4 := f4.size
                  have hnxb : nx < 18446744073709551616 := by rw [← Hnx.out]; omega
                  clear klen q4 f4 HKP hpc3
                  go_wp2_with fail
                  refine HKL.out.mono ?_
                  rintro e w9 ⟨rfl, hw⟩
                  subst w9
                  go_wp2
                  go_roundw
                  case rel => exact ⟨k + 1, m + 1, nx, FF, _, by omega, by omega, by go_num, by go_num, rfl, rfl, ⟨⟨_, _, v4, HQ4.out, HO3.out.fr HF4.out (play_apart HDIS.out HSQ.out HLQ.out hqlt.out hs2 hs3), play_dis HDIS.out HSQ.out HSL.out hs2 hs3, play_sq HSQ.out hs2 hs3 hs4 HFR.out.size, play_sl HSL.out hs2 hs3 hs4 HFR.out.size, play_lq HLQ.out hqlt.out hs2⟩, F3.out.trans' HF4.out (fun i hi e => play_old HSQ.out hqw.out i hi e), hnxb, hFFl.out, hqw.out⟩⟩
                  case measure => simp [intOf]; omega
          · as_aux_lemma =>
              have hnx' : ¬ (m : Int) < (ps.length : Int) := by omega
              go_wp2
              go_roundw
              case rel => exact ⟨k + 1, m, idn, fs, _, by omega, by omega, by go_num, rfl, rfl, rfl, ⟨⟨Sq, Sl, vq, HQ.out, HO.out, HDIS.out, HSQ.out, HSL.out, HLQ.out⟩, HFR.out, hidn, hlen, hqw.out⟩⟩
              case measure => simp [intOf]; omega
        · have hx5 : (x : Int) % 5 = 1 := by omega
          by_cases hnx : m < ps.length
          · obtain ⟨b2, o2, hao, hc2⟩ := HP.out.2.2 (fun e => by rw [e] at hnx; simp at hnx)
            obtain ⟨ai, ci, hpc0, hpr0⟩ := hc2 m hnx
            subst hao
            obtain ⟨p, Hp⟩ : ∃ p, Hid (ps.getD m [] = p) := ⟨_, rfl⟩
            rw [Hp.out] at hpc0 hpr0
            have hpc := HFR.out.cell hpc0 (by simp)
            have hpr : Row wr ai p ci := HFR.out.row hpr0 (by simp)
            have HPR : Hid (Row wr ai p ci) := hpr
            have hpl : p.length ≤ 9223372036854775807 := by have := hpr.1; have := hpr.2.1; unfold maxLen at this; omega
            have hz2 : (m : Int) < (ps.length : Int) := by omega
            have hz3 : (0 : Int) ≤ (m : Int) := by omega
            clear hc2 hpc0 hpr0 hpr
            by_cases h400 : 400 < p.length
            · as_aux_lemma =>
                go_wp2
                go_roundw
                case rel => exact ⟨k + 1, m, idn, fs, _, by omega, by omega, by go_num, rfl, rfl, rfl, ⟨⟨Sq, Sl, vq, HQ.out, HO.out, HDIS.out, HSQ.out, HSL.out, HLQ.out⟩, HFR.out, hidn, hlen, hqw.out⟩⟩
                case measure => simp [intOf]; omega
            · have ks := refsplit_ok 64 idn ai p ci wr HPR.out (by omega) (by omega) hidn
              have hfl := frames_length 64 idn p
              have hof := parts_pos 64 p.length
              have hof2 := parts_le 64 p.length (by omega) (by omega)
              obtain ⟨FS, HFS⟩ : ∃ FS, Hid (frames 64 idn p = FS) := ⟨_, rfl⟩
              rw [HFS.out] at ks hfl
              rw [← hfl] at hof hof2
              have HPT : Hid (parts 64 p.length = FS.length) := hfl.symm
              have HKS : Hid (Calls _ _ _ _ _) := ks
              clear ks hfl
              by_cases hfull : most < fs.length + FS.length
              · as_aux_lemma =>
                  have hfull' : ¬ ((fs.length : Int) + (FS.length : Int) ≤ (most : Int)) := by omega
                  go_wp2_with fail
                  refine HKS.out.mono ?_
                  rintro e w2 ⟨v2, rfl, ho2, f2⟩
                  obtain ⟨a2, c2, hv2, _, _⟩ := ho2.prow
                  subst hv2
                  have hpc2 := f2.cell hpc (by simp)
                  have q2 := HQ.out.fr f2 (by simp) (by simp)
                  have kp := qput_full q2 ai p ci (by omega) (by omega) (by omega) (by omega) (by rw [HPT.out]; exact hfull)
                  have HKP : Hid (Calls _ _ _ _ _) := kp
                  have HF2 : Hid (Fr (fun _ => False) wr w2) := f2
                  clear kp q2 ho2 f2 HKS hpc
                  go_wp2_with fail
                  refine HKP.out.mono ?_
                  rintro e w3 ⟨rfl, f3⟩
                  have F3 : Hid (Fr (fun _ => False) wr w3) := HF2.out.trans f3
                  have q3 := HQ.out.fr F3.out (by simp) (by simp)
                  have klen := qlen_any q3
                  have HKL : Hid (Calls _ _ _ _ _) := klen
                  have hs3 := F3.out.size
                  clear klen q3 f3 HKP hpc2
                  go_wp2_with fail
                  refine HKL.out.mono ?_
                  rintro e w9 ⟨rfl, hw⟩
                  subst w9
                  go_wp2
                  go_roundw
                  case rel => exact ⟨k + 1, m + 1, idn, fs, _, by omega, by omega, by go_num, by go_num, rfl, rfl, ⟨⟨Sq, Sl, vq, HQ.out.fr F3.out (by simp) (by simp), HO.out.fr F3.out (by simp), HDIS.out, fun k h => ⟨(HSQ.out k h).1, by have := (HSQ.out k h).2; omega⟩, fun k h => ⟨(HSL.out k h).1, by have := (HSL.out k h).2; omega⟩, HLQ.out⟩, HFR.out.trans F3.out, hidn, hlen, hqw.out⟩⟩
                  case measure => simp [intOf]; omega
              · as_aux_lemma =>
                  have hfull' : (fs.length : Int) + (FS.length : Int) ≤ (most : Int) := by omega
                  obtain ⟨nx, hnx3, Hnx⟩ : ∃ nx : Nat, ((idn : Int) + 1) % 18446744073709551616 = (nx : Int) ∧ Hid ((idn + 1) % 18446744073709551616 = nx) := ⟨_, by omega, rfl⟩
                  have hnx2 : IntKind.u64.wrap ((idn : Int) + 1) = (nx : Int) := by
                    rw [← hnx3]; simp [IntKind.wrap, IntKind.bits, IntKind.signed]
                  go_wp2_with fail
                  refine HKS.out.mono ?_
                  rintro e w2 ⟨v2, rfl, ho2, f2⟩
                  obtain ⟨a2, c2, hv2, hp2, _⟩ := ho2.prow
                  have hne : FS ≠ [] := fun e => by rw [e] at hof; simp at hof
                  obtain ⟨b4, o4, ha2, _⟩ := hp2.2.2 hne
                  subst ha2
                  subst hv2
                  have hpr2 : PRowS w2 (fun k => wr.heap.size ≤ k ∧ k < w2.heap.size) (some ⟨b4, o4, none⟩) FS c2 := hp2.bound.mono (fun k hk => ⟨hk.1.1, hk.2⟩)
                  have HPR2 : Hid (PRowS w2 (fun k => wr.heap.size ≤ k ∧ k < w2.heap.size) (some ⟨b4, o4, none⟩) FS c2) := hpr2
                  have HO2 : Hid (OffP w2 Sl (.slice al fs.length cl) fs) := HO.out.fr f2 (by simp)
                  have HF2 : Hid (Fr (fun _ => False) wr w2) := f2
                  have hs2 := f2.size
                  clear ho2 hp2 hpr2 f2 HKS
                  go_wp2_with (at_builtin; refine wpList_append_off rfl (.tmp 95) (.tmp 96) rfl Sl (fun k => wr.heap.size ≤ k ∧ k < w2.heap.size) _ fs rfl HO2.out b4 o4 FS c2 rfl HPR2.out hne (fun k hk hs => by have := (HSL.out k hs).2; omega) (by omega) ?_)
                  intro v3 w3 ho3 f3
                  obtain ⟨a3', c3', hv3, _⟩ := ho3.form
                  have hs3 := f3.size
                  have fw3 : Fr (fun k => Sl k) wr w3 := (HF2.out.mono (fun _ _ h => h.elim)).trans f3
                  have F3 : Hid (Fr (fun _ => False) w w3) := HFR.out.trans' fw3 (fun i hi e => by have := (HSL.out i e).1; omega)
                  have hpr3 : Row w3 ai p ci := fw3.row HPR.out (fun hn a ha e => by
                    have h1 := (HSL.out _ e).1
                    have h2 := row_blk (HP.out.row_at hnx Hp.out hpc HPR.out HFR.out) hn a ha
                    exact Nat.lt_irrefl _ (Nat.lt_of_lt_of_le h2 h1))
                  have hpc3 : w3.cell? ⟨b2, o2 + m, none⟩ = some (.slice ai p.length ci) := fw3.cell hpc (fun e => by
                    have h1 := (HSL.out _ e).1
                    have h2 := HP.out.blk_at hnx
                    exact Nat.lt_irrefl _ (Nat.lt_of_lt_of_le h2 h1))
                  have q3 : Qu w3 qb Sq 64 most idn fs vq := HQ.out.fr fw3 HLQ.out (fun k hk => HDIS.out k hk)
                  have kp := qput_ok q3 (F3.out.tab HT.out (by simp)) ai p ci hpr3 (fun k hk => by have := (HSQ.out k hk).2; omega) (by omega) (by omega) hidn (by omega) (by rw [HPT.out]; omega)
                  rw [HFS.out, Hnx.out] at kp
                  have HKP : Hid (Calls _ _ _ _ _) := kp
                  have HO3 : Hid (OffP w3 (fun k => Sl k ∨ (wr.heap.size ≤ k ∧ k < w2.heap.size) ∨ (w2.heap.size ≤ k ∧ k < w3.heap.size)) v3 (fs ++ FS)) := ho3
                  obtain ⟨FF, HFF⟩ : ∃ FF, Hid (fs ++ FS = FF) := ⟨_, rfl⟩
                  have hFFl : Hid (FF.length ≤ most) := by show FF.length ≤ most; rw [← HFF.out, List.length_append]; omega
                  rw [HFF.out] at HO3 hv3 HKP
                  subst hv3
                  clear kp q3 hpr3 fw3 f3 ho3 hpc HO2 HPR2
                  go_wp2_with fail
                  refine HKP.out.mono ?_
                  rintro e w4 ⟨rfl, ⟨v4, q4⟩, f4⟩
                  have klen := qlen_any q4
                  have HKL : Hid (Calls _ _ _ _ _) := klen
                  have HQ4 : Hid (Qu w4 qb _ 64 most nx FF v4) := q4
                  have HF4 : Hid (Fr (fun k => k = qb ∨ Sq k) w3 w4) := f4
                  have hs4 := f4.size
                  have hnxb : nx < 18446744073709551616 := by rw [← Hnx.out]; omega
                  clear klen q4 f4 HKP hpc3
                  go_wp2_with fail
                  refine HKL.out.mono ?_
                  rintro e w9 ⟨rfl, hw⟩
                  subst w9
                  go_wp2
                  go_roundw
                  case rel => exact ⟨k + 1, m + 1, nx, FF, _, by omega, by omega, by go_num, by go_num, rfl, rfl, ⟨⟨_, _, v4, HQ4.out, HO3.out.fr HF4.out (play_apart HDIS.out HSQ.out HLQ.out hqlt.out hs2 hs3), play_dis HDIS.out HSQ.out HSL.out hs2 hs3, play_sq HSQ.out hs2 hs3 hs4 HFR.out.size, play_sl HSL.out hs2 hs3 hs4 HFR.out.size, play_lq HLQ.out hqlt.out hs2⟩, F3.out.trans' HF4.out (fun i hi e => play_old HSQ.out hqw.out i hi e), hnxb, hFFl.out, hqw.out⟩⟩
                  case measure => simp [intOf]; omega
          · as_aux_lemma =>
              have hnx' : ¬ (m : Int) < (ps.length : Int) := by omega
              go_wp2
              go_roundw
              case rel => exact ⟨k + 1, m, idn, fs, _, by omega, by omega, by go_num, rfl, rfl, rfl, ⟨⟨Sq, Sl, vq, HQ.out, HO.out, HDIS.out, HSQ.out, HSL.out, HLQ.out⟩, HFR.out, hidn, hlen, hqw.out⟩⟩
              case measure => simp [intOf]; omega
        · have hx5 : (x : Int) % 5 = 2 := by omega
          have kd := refdummy_any 64 wr (by omega)
          rw [HL.out] at kd
          have HKD : Hid (Calls _ _ _ _ _) := kd
          obtain ⟨t, Ht⟩ : ∃ t, Hid (strOf L = t) := ⟨_, rfl⟩
          have hbt : (t.toList == t.toList) = true := by simp
          clear kd
          cases fs with
          | nil =>
            as_aux_lemma =>
              simp only [List.length_nil]
              go_wp2_with fail
              refine HKD.out.mono ?_
              rintro e w2 ⟨v2, rfl, ho2, f2⟩
              obtain ⟨a2, c2, hv2, hr2, _⟩ := ho2.row
              subst hv2
              have q2 : Qu w2.drew qb Sq 64 most idn [] vq := HQ.out.fr f2.drew (by simp) (by simp)
              have s2 := run_str w2.drew a2 L c2 ((Fr.refl (fun _ => False) w2).drew.row hr2 (by simp))
              rw [Ht.out] at s2
              have ks := qslot_dummy q2 ((HFR.out.trans f2).drew.tab HT.out (by simp)) (by omega)
              rw [HL.out] at ks
              have HKS : Hid (Calls _ _ _ _ _) := ks
              have HR2 : Hid (Row w2 a2 L c2) := hr2
              have HF2 : Hid (Fr (fun _ => False) wr w2) := f2
              clear ks q2 hr2 f2 ho2 HKD
              go_wp2_with fail
              go_region_with (first
                | (go_at_call 25; refine HKS.out.mono ?_; rintro e w3 ⟨a3', rfl, hF3, f3⟩; have r3 : Row w3 a3' L 64 := (by have h6 := hF3.1; rw [hLl.out] at h6; exact h6); have s3 := run_str' w3 a3' L 64 64 hLl.out r3; have s23 := run_str w3 a2 L c2 (f3.row ((Fr.refl (fun _ => False) w2).drew.row HR2.out (by simp)) (by simp)); rw [Ht.out] at s3 s23; have F3 : Hid (Fr (fun _ => False) wr w3) := HF2.out.drew.trans f3; clear hF3 r3 f3))
              all_goals
                have q3 := HQ.out.fr F3.out (by simp) (by simp)
                have klen := qlen_any q3
                simp only [List.length_nil] at klen
                have HKL : Hid (Calls _ _ _ _ _) := klen
                have hs3 := F3.out.size
                clear klen q3 s2 s3 s23
                go_wp2_with fail
                refine HKL.out.mono ?_
                rintro e w9 ⟨rfl, hw⟩
                subst w9
                go_wp2
                go_roundw
                case rel => exact ⟨k + 1, m, idn, [], _, by omega, by omega, by go_num, rfl, rfl, rfl, ⟨⟨Sq, Sl, vq, HQ.out.fr F3.out (by simp) (by simp), HO.out.fr F3.out (by simp), HDIS.out, fun k h => ⟨(HSQ.out k h).1, by have := (HSQ.out k h).2; omega⟩, fun k h => ⟨(HSL.out k h).1, by have := (HSL.out k h).2; omega⟩, HLQ.out⟩, HFR.out.trans F3.out, hidn, hlen, hqw.out⟩⟩
                case measure => simp [intOf]; omega
          | cons y fs =>
            rcases HO.out with ⟨_, e⟩ | ⟨g, o, cp, N, f, hve, hg, hri, hh1, hh2, hh3, hh4⟩
            · cases e
            · obtain ⟨ai, ci, e1, e2, e3⟩ := hh4 0 (by simp)
              have hy : (y :: fs).getD 0 [] = y := rfl
              rw [hy] at e1 e2 e3
              rw [Nat.add_zero] at e1
              cases hve
              simp only [List.length_cons] at hh1 hlen ⊢
              have g0 : wr.cell? ⟨g, o, none⟩ = some (.slice ai y.length ci) := by rw [hri.cell (by omega), e1]
              unfold maxLen at hh3
              have HE2 : Hid (Row wr ai y ci) := e2
              have HE3 : Hid (y ≠ [] → ∀ a, ai = some a → Sl a.block ∧ a.block ≠ g) := e3
              obtain ⟨u, Hu⟩ : ∃ u, Hid (strOf y = u) := ⟨_, rfl⟩
              have hbu : (u.toList == u.toList) = true := by simp
              have REST : Hid (∀ (o' cl' : Nat), (o' + cl' ≤ N ∧ fs.length ≤ cl' ∧ cl' ≤ cl ∧ (0 < fs.length → o' = o + 1)) → OffP wr Sl (.slice (some ⟨g, o', none⟩) fs.length cl') fs) := fun o' cl' hq => by
                refine .inr ⟨g, o', cl', N, f, rfl, hg, hri, hq.2.1, hq.1, by unfold maxLen; omega, fun i hi => ?_⟩
                have := hh4 (i + 1) (by simp; omega)
                rw [hq.2.2.2 (by omega), show o + 1 + i = o + (i + 1) by omega]
                exact this
              clear hri hh4 e2 e3 HO hcl
              by_cases hcp : cl = 1
              · have hfs : fs = [] := List.eq_nil_of_length_eq_zero (by omega)
                subst hcp hfs
                simp only [List.length_nil] at REST ⊢
                as_aux_lemma =>
                  go_wp2_with fail
                  refine HKD.out.mono ?_
                  rintro e w2 ⟨v2, rfl, ho2, f2⟩
                  obtain ⟨a2, c2, hv2, hr2, _⟩ := ho2.row
                  subst hv2
                  have g2 := f2.cell g0 (by simp)
                  have q2 : Qu w2.drew qb Sq 64 most idn (y :: []) vq := HQ.out.fr f2.drew (by simp) (by simp)
                  have r2 : Row w2.drew ai y ci := f2.drew.row HE2.out (by simp)
                  have s2 := run_str w2.drew ai y ci r2
                  rw [Hu.out] at s2
                  have ks := qslot_some q2 (by first | (simp; done) | omega)
                  have HKS : Hid (Calls _ _ _ _ _) := ks
                  have HR2 : Hid (Row w2.drew ai y ci) := r2
                  have HF2 : Hid (Fr (fun _ => False) wr w2.drew) := f2.drew
                  clear ks q2 hr2 f2 ho2 HKD r2 g0
                  go_wp2_with fail
                  go_region_with (first
                    | (go_at_call 25; refine HKS.out.mono ?_; rintro e w3 ⟨a3', c3', rfl, r3, _, ⟨v3, q3⟩, f3⟩; have s3 := run_str w3 a3' y c3' r3; have s23 := run_str w3 ai y ci (f3.row HR2.out (fun hn a ha e => (by have h1 := (HE3.out hn a ha).1; exact play_sep HDIS.out HLQ.out h1 e))); rw [Hu.out] at s3 s23; have HQ3 : Hid (Qu w3 qb Sq 64 most idn [] v3) := q3; have klen := qlen_any q3; have HKL : Hid (Calls _ _ _ _ _) := klen; have F3 : Hid (Fr (fun k => k = qb ∨ Sq k) wr w3) := (HF2.out.mono (fun _ _ h => h.elim)).trans f3; clear r3 f3 q3 klen))
                  all_goals
                    have hs3 := F3.out.size
                    clear s2 s3 s23 g2
                    go_wp2_with fail
                    refine HKL.out.mono ?_
                    rintro e w9 ⟨rfl, hw⟩
                    subst w9
                    go_wp2
                    go_roundw
                    case rel => exact ⟨k + 1, m, idn, [], _, by omega, by omega, by go_num, rfl, rfl, rfl, ⟨⟨Sq, Sl, v3, HQ3.out, (REST.out o 0 ⟨by omega, by omega, by omega, by simp⟩).fr F3.out (fun k hk e => play_sep HDIS.out HLQ.out hk e), HDIS.out, fun k h => ⟨(HSQ.out k h).1, by have := (HSQ.out k h).2; omega⟩, fun k h => ⟨(HSL.out k h).1, by have := (HSL.out k h).2; omega⟩, HLQ.out⟩, HFR.out.trans' F3.out (fun i hi e => play_old HSQ.out hqw.out i hi e), hidn, by simp, hqw.out⟩⟩
                    case measure => simp [intOf]; omega
              · as_aux_lemma =>
                  go_wp2_with fail
                  refine HKD.out.mono ?_
                  rintro e w2 ⟨v2, rfl, ho2, f2⟩
                  obtain ⟨a2, c2, hv2, hr2, _⟩ := ho2.row
                  subst hv2
                  have g2 := f2.cell g0 (by simp)
                  have q2 : Qu w2.drew qb Sq 64 most idn (y :: fs) vq := HQ.out.fr f2.drew (by simp) (by simp)
                  have r2 : Row w2.drew ai y ci := f2.drew.row HE2.out (by simp)
                  have s2 := run_str w2.drew ai y ci r2
                  rw [Hu.out] at s2
                  have ks := qslot_some q2 (by have := hlen; simp at this ⊢; omega)
                  have HKS : Hid (Calls _ _ _ _ _) := ks
                  have HR2 : Hid (Row w2.drew ai y ci) := r2
                  have HF2 : Hid (Fr (fun _ => False) wr w2.drew) := f2.drew
                  clear ks q2 hr2 f2 ho2 HKD r2 g0
                  go_wp2_with fail
                  go_region_with (first
                    | (go_at_call 25; refine HKS.out.mono ?_; rintro e w3 ⟨a3', c3', rfl, r3, _, ⟨v3, q3⟩, f3⟩; have s3 := run_str w3 a3' y c3' r3; have s23 := run_str w3 ai y ci (f3.row HR2.out (fun hn a ha e => (by have h1 := (HE3.out hn a ha).1; exact play_sep HDIS.out HLQ.out h1 e))); rw [Hu.out] at s3 s23; have HQ3 : Hid (Qu w3 qb Sq 64 most idn fs v3) := q3; have klen := qlen_any q3; have HKL : Hid (Calls _ _ _ _ _) := klen; have F3 : Hid (Fr (fun k => k = qb ∨ Sq k) wr w3) := (HF2.out.mono (fun _ _ h => h.elim)).trans f3; clear r3 f3 q3 klen))
                  all_goals
                    have hs3 := F3.out.size
                    clear s2 s3 s23 g2
                    go_wp2_with fail
                    refine HKL.out.mono ?_
                    rintro e w9 ⟨rfl, hw⟩
                    subst w9
                    go_wp2
                    go_roundw
                    case rel => exact ⟨k + 1, m, idn, fs, _, by omega, by omega, by go_num, rfl, rfl, rfl, ⟨⟨Sq, Sl, v3, HQ3.out, (REST.out (o + 1) (cl - 1) ⟨by omega, by omega, by omega, by intro _; rfl⟩).fr F3.out (fun k hk e => play_sep HDIS.out HLQ.out hk e), HDIS.out, fun k h => ⟨(HSQ.out k h).1, by have := (HSQ.out k h).2; omega⟩, fun k h => ⟨(HSL.out k h).1, by have := (HSL.out k h).2; omega⟩, HLQ.out⟩, HFR.out.trans' F3.out (fun i hi e => play_old HSQ.out hqw.out i hi e), hidn, by omega, hqw.out⟩⟩
                    case measure => simp [intOf]; omega
        · have hx5 : (x : Int) % 5 = 3 := by omega
          have kd := refdummy_any 64 wr (by omega)
          rw [HL.out] at kd
          have HKD : Hid (Calls _ _ _ _ _) := kd
          obtain ⟨t, Ht⟩ : ∃ t, Hid (strOf L = t) := ⟨_, rfl⟩
          have hbt : (t.toList == t.toList) = true := by simp
          clear kd
          cases fs with
          | nil =>
            as_aux_lemma =>
              simp only [List.length_nil]
              go_wp2_with fail
              refine HKD.out.mono ?_
              rintro e w2 ⟨v2, rfl, ho2, f2⟩
              obtain ⟨a2, c2, hv2, hr2, _⟩ := ho2.row
              subst hv2
              have q2 : Qu w2.drew qb Sq 64 most idn [] vq := HQ.out.fr f2.drew (by simp) (by simp)
              have s2 := run_str w2.drew a2 L c2 ((Fr.refl (fun _ => False) w2).drew.row hr2 (by simp))
              rw [Ht.out] at s2
              have ks := qslot_dummy q2 ((HFR.out.trans f2).drew.tab HT.out (by simp)) (by omega)
              rw [HL.out] at ks
              have HKS : Hid (Calls _ _ _ _ _) := ks
              have HR2 : Hid (Row w2 a2 L c2) := hr2
              have HF2 : Hid (Fr (fun _ => False) wr w2) := f2
              clear ks q2 hr2 f2 ho2 HKD
              go_wp2_with fail
              go_region_with (first
                | (go_at_call 25; refine HKS.out.mono ?_; rintro e w3 ⟨a3', rfl, hF3, f3⟩; have r3 : Row w3 a3' L 64 := (by have h6 := hF3.1; rw [hLl.out] at h6; exact h6); have s3 := run_str' w3 a3' L 64 64 hLl.out r3; have s23 := run_str w3 a2 L c2 (f3.row ((Fr.refl (fun _ => False) w2).drew.row HR2.out (by simp)) (by simp)); rw [Ht.out] at s3 s23; have F3 : Hid (Fr (fun _ => False) wr w3) := HF2.out.drew.trans f3; clear hF3 r3 f3))
              all_goals
                have q3 := HQ.out.fr F3.out (by simp) (by simp)
                have klen := qlen_any q3
                simp only [List.length_nil] at klen
                have HKL : Hid (Calls _ _ _ _ _) := klen
                have hs3 := F3.out.size
                clear klen q3 s2 s3 s23
                go_wp2_with fail
                refine HKL.out.mono ?_
                rintro e w9 ⟨rfl, hw⟩
                subst w9
                go_wp2
                go_roundw
                case rel => exact ⟨k + 1, m, idn, [], _, by omega, by omega, by go_num, rfl, rfl, rfl, ⟨⟨Sq, Sl, vq, HQ.out.fr F3.out (by simp) (by simp), HO.out.fr F3.out (by simp), HDIS.out, fun k h => ⟨(HSQ.out k h).1, by have := (HSQ.out k h).2; omega⟩, fun k h => ⟨(HSL.out k h).1, by have := (HSL.out k h).2; omega⟩, HLQ.out⟩, HFR.out.trans F3.out, hidn, hlen, hqw.out⟩⟩
                case measure => simp [intOf]; omega
          | cons y fs =>
            rcases HO.out with ⟨_, e⟩ | ⟨g, o, cp, N, f, hve, hg, hri, hh1, hh2, hh3, hh4⟩
            · cases e
            · obtain ⟨ai, ci, e1, e2, e3⟩ := hh4 0 (by simp)
              have hy : (y :: fs).getD 0 [] = y := rfl
              rw [hy] at e1 e2 e3
              rw [Nat.add_zero] at e1
              cases hve
              simp only [List.length_cons] at hh1 hlen ⊢
              have g0 : wr.cell? ⟨g, o, none⟩ = some (.slice ai y.length ci) := by rw [hri.cell (by omega), e1]
              unfold maxLen at hh3
              have HE2 : Hid (Row wr ai y ci) := e2
              have HE3 : Hid (y ≠ [] → ∀ a, ai = some a → Sl a.block ∧ a.block ≠ g) := e3
              obtain ⟨u, Hu⟩ : ∃ u, Hid (strOf y = u) := ⟨_, rfl⟩
              have hbu : (u.toList == u.toList) = true := by simp
              have REST : Hid (∀ (o' cl' : Nat), (o' + cl' ≤ N ∧ fs.length ≤ cl' ∧ cl' ≤ cl ∧ (0 < fs.length → o' = o + 1)) → OffP wr Sl (.slice (some ⟨g, o', none⟩) fs.length cl') fs) := fun o' cl' hq => by
                refine .inr ⟨g, o', cl', N, f, rfl, hg, hri, hq.2.1, hq.1, by unfold maxLen; omega, fun i hi => ?_⟩
                have := hh4 (i + 1) (by simp; omega)
                rw [hq.2.2.2 (by omega), show o + 1 + i = o + (i + 1) by omega]
                exact this
              clear hri hh4 e2 e3 HO hcl
              by_cases hcp : cl = 1
              · have hfs : fs = [] := List.eq_nil_of_length_eq_zero (by omega)
                subst hcp hfs
                simp only [List.length_nil] at REST ⊢
                as_aux_lemma =>
                  go_wp2_with fail
                  refine HKD.out.mono ?_
                  rintro e w2 ⟨v2, rfl, ho2, f2⟩
                  obtain ⟨a2, c2, hv2, hr2, _⟩ := ho2.row
                  subst hv2
                  have g2 := f2.cell g0 (by simp)
                  have q2 : Qu w2.drew qb Sq 64 most idn (y :: []) vq := HQ.out.fr f2.drew (by simp) (by simp)
                  have r2 : Row w2.drew ai y ci := f2.drew.row HE2.out (by simp)
                  have s2 := run_str w2.drew ai y ci r2
                  rw [Hu.out] at s2
                  have ks := qslot_some q2 (by first | (simp; done) | omega)
                  have HKS : Hid (Calls _ _ _ _ _) := ks
                  have HR2 : Hid (Row w2.drew ai y ci) := r2
                  have HF2 : Hid (Fr (fun _ => False) wr w2.drew) := f2.drew
                  clear ks q2 hr2 f2 ho2 HKD r2 g0
                  go_wp2_with fail
                  go_region_with (first
                    | (go_at_call 25; refine HKS.out.mono ?_; rintro e w3 ⟨a3', c3', rfl, r3, _, ⟨v3, q3⟩, f3⟩; have s3 := run_str w3 a3' y c3' r3; have s23 := run_str w3 ai y ci (f3.row HR2.out (fun hn a ha e => (by have h1 := (HE3.out hn a ha).1; exact play_sep HDIS.out HLQ.out h1 e))); rw [Hu.out] at s3 s23; have HQ3 : Hid (Qu w3 qb Sq 64 most idn [] v3) := q3; have klen := qlen_any q3; have HKL : Hid (Calls _ _ _ _ _) := klen; have F3 : Hid (Fr (fun k => k = qb ∨ Sq k) wr w3) := (HF2.out.mono (fun _ _ h => h.elim)).trans f3; clear r3 f3 q3 klen))
                  all_goals
                    have hs3 := F3.out.size
                    clear s2 s3 s23 g2
                    go_wp2_with fail
                    refine HKL.out.mono ?_
                    rintro e w9 ⟨rfl, hw⟩
                    subst w9
                    go_wp2
                    go_roundw
                    case rel => exact ⟨k + 1, m, idn, [], _, by omega, by omega, by go_num, rfl, rfl, rfl, ⟨⟨Sq, Sl, v3, HQ3.out, (REST.out o 0 ⟨by omega, by omega, by omega, by simp⟩).fr F3.out (fun k hk e => play_sep HDIS.out HLQ.out hk e), HDIS.out, fun k h => ⟨(HSQ.out k h).1, by have := (HSQ.out k h).2; omega⟩, fun k h => ⟨(HSL.out k h).1, by have := (HSL.out k h).2; omega⟩, HLQ.out⟩, HFR.out.trans' F3.out (fun i hi e => play_old HSQ.out hqw.out i hi e), hidn, by simp, hqw.out⟩⟩
                    case measure => simp [intOf]; omega
              · as_aux_lemma =>
                  go_wp2_with fail
                  refine HKD.out.mono ?_
                  rintro e w2 ⟨v2, rfl, ho2, f2⟩
                  obtain ⟨a2, c2, hv2, hr2, _⟩ := ho2.row
                  subst hv2
                  have g2 := f2.cell g0 (by simp)
                  have q2 : Qu w2.drew qb Sq 64 most idn (y :: fs) vq := HQ.out.fr f2.drew (by simp) (by simp)
                  have r2 : Row w2.drew ai y ci := f2.drew.row HE2.out (by simp)
                  have s2 := run_str w2.drew ai y ci r2
                  rw [Hu.out] at s2
                  have ks := qslot_some q2 (by have := hlen; simp at this ⊢; omega)
                  have HKS : Hid (Calls _ _ _ _ _) := ks
                  have HR2 : Hid (Row w2.drew ai y ci) := r2
                  have HF2 : Hid (Fr (fun _ => False) wr w2.drew) := f2.drew
                  clear ks q2 hr2 f2 ho2 HKD r2 g0
                  go_wp2_with fail
                  go_region_with (first
                    | (go_at_call 25; refine HKS.out.mono ?_; rintro e w3 ⟨a3', c3', rfl, r3, _, ⟨v3, q3⟩, f3⟩; have s3 := run_str w3 a3' y c3' r3; have s23 := run_str w3 ai y ci (f3.row HR2.out (fun hn a ha e => (by have h1 := (HE3.out hn a ha).1; exact play_sep HDIS.out HLQ.out h1 e))); rw [Hu.out] at s3 s23; have HQ3 : Hid (Qu w3 qb Sq 64 most idn fs v3) := q3; have klen := qlen_any q3; have HKL : Hid (Calls _ _ _ _ _) := klen; have F3 : Hid (Fr (fun k => k = qb ∨ Sq k) wr w3) := (HF2.out.mono (fun _ _ h => h.elim)).trans f3; clear r3 f3 q3 klen))
                  all_goals
                    have hs3 := F3.out.size
                    clear s2 s3 s23 g2
                    go_wp2_with fail
                    refine HKL.out.mono ?_
                    rintro e w9 ⟨rfl, hw⟩
                    subst w9
                    go_wp2
                    go_roundw
                    case rel => exact ⟨k + 1, m, idn, fs, _, by omega, by omega, by go_num, rfl, rfl, rfl, ⟨⟨Sq, Sl, v3, HQ3.out, (REST.out (o + 1) (cl - 1) ⟨by omega, by omega, by omega, by intro _; rfl⟩).fr F3.out (fun k hk e => play_sep HDIS.out HLQ.out hk e), HDIS.out, fun k h => ⟨(HSQ.out k h).1, by have := (HSQ.out k h).2; omega⟩, fun k h => ⟨(HSL.out k h).1, by have := (HSL.out k h).2; omega⟩, HLQ.out⟩, HFR.out.trans' F3.out (fun i hi e => play_old HSQ.out hqw.out i hi e), hidn, by omega, hqw.out⟩⟩
                    case measure => simp [intOf]; omega
        · have hx5 : (x : Int) % 5 = 4 := by omega
          by_cases h200 : 200 < x
          · as_aux_lemma =>
              have kc := qclear_any HQ.out
              have HKC : Hid (Calls _ _ _ _ _) := kc
              clear kc
              go_wp2_with fail
              refine HKC.out.mono ?_
              rintro e w2 ⟨rfl, q2, f2⟩
              have klen := qlen_any q2
              simp only [List.length_nil] at klen
              have HKL : Hid (Calls _ _ _ _ _) := klen
              have HQ2 : Hid (Qu w2 qb Sq 64 most idn [] (.slice none 0 0)) := q2
              have F2 : Hid (Fr (fun k => k = qb) wr w2) := f2
              have hs2 := f2.size
              clear klen q2 f2
              go_wp2_with fail
              refine HKL.out.mono ?_
              rintro e w9 ⟨rfl, hw⟩
              subst w9
              go_wp2
              go_roundw
              case rel => exact ⟨k + 1, m, idn, [], _, by omega, by omega, by go_num, rfl, rfl, rfl, ⟨⟨Sq, Sl, _, HQ2.out, OffP.nil _ _, HDIS.out, fun k h => ⟨(HSQ.out k h).1, by have := (HSQ.out k h).2; omega⟩, fun k h => ⟨(HSL.out k h).1, by have := (HSL.out k h).2; omega⟩, HLQ.out⟩, HFR.out.trans' F2.out (fun i hi e => by have := hqw.out; omega), hidn, by simp, hqw.out⟩⟩
              case measure => simp [intOf]; omega
          · as_aux_lemma =>
              have klen := qlen_any HQ.out
              have HKL : Hid (Calls _ _ _ _ _) := klen
              clear klen
              go_wp2_with fail
              refine HKL.out.mono ?_
              rintro e w9 ⟨rfl, hw⟩
              subst w9
              go_wp2
              go_roundw
              case rel => exact ⟨k + 1, m, idn, fs, _, by omega, by omega, by go_num, rfl, rfl, rfl, ⟨⟨Sq, Sl, vq, HQ.out, HO.out, HDIS.out, HSQ.out, HSL.out, HLQ.out⟩, HFR.out, hidn, hlen, hqw.out⟩⟩
              case measure => simp [intOf]; omega
      · go_wp2
        go_ret
        exact ⟨rfl, HFR.out⟩
end Go.Proofs.YtpnjcpamhelaeaaDoor
