/- The statement LogsPuts, walked. -/
import Derived.Test.YtkkpdnholnkeoabPutsB
import Derived.Deep.Cut
import Derived.Deep.CutRange
namespace Go.Proofs.Ytkkpdnholnkeoab
open Go.RowKit

set_option maxRecDepth 100000 in
set_option maxHeartbeats 8000000 in
theorem puts_walk (n : Nat) (a1 : Option Addr) (terms : List Nat) (c1 : Nat) (a2 : Option Addr) (kinds : List Nat) (c2 : Nat) (a3 : Option Addr) (more : List Nat) (c3 : Nat) (kv : Bool) (w : World) (hn : n < 256) (h1 : Row w a1 terms c1) (h2 : Row w a2 kinds c2) (h3 : Row w a3 more c3) (h20 : more.length ≤ 20) (kd : Nat) (hkd : kd = if kv then 1 else 0) :
    Calls Try.prog 4 #[.int .u8 (n : Int), .slice a1 terms.length c1, .slice a2 kinds.length c2, .slice a3 more.length c3, .bool kv] w fun e w' => e = .returned (.bool true) ∧ Fr (fun _ => False) w w' := by
  have HR1 : Hid (Row w a1 terms c1) := h1
  have HR2 : Hid (Row w a2 kinds c2) := h2
  have HR3 : Hid (Row w a3 more c3) := h3
  have h20' : ¬ (20 : Int) < (more.length : Int) := by omega
  have hD20 : decide ((20 : Int) < (more.length : Int)) = false := by simp; omega
  have hl3 := h3.len
  clear h1 h2 h3
  obtain ⟨nb, Hnb⟩ : ∃ nb, Hid (n % 7 = nb) := ⟨_, rfl⟩
  obtain ⟨nt, Hnt⟩ : ∃ nt, Hid (n % 2 = nt) := ⟨_, rfl⟩
  have hnb : nb ≤ 6 := by rw [← Hnb.out]; omega
  have hnt : nt ≤ 1 := by rw [← Hnt.out]; omega
  go_enter Try.func4, Try.ntmps4
  go_wp2_with fail
  refine (awake_any w).mono ?_
  rintro e w1 ⟨rfl, f1⟩
  have F1 : Hid (Fr (fun _ => False) w w1) := f1
  clear f1
  go_wp2_with fail
  refine (snap_any n w1 hn).mono ?_
  rintro e w2 ⟨rfl, f2⟩
  rw [Hnb.out, Hnt.out]
  have FX2 : Hid (Fr (fun _ => False) w1 w2) := f2
  obtain ⟨W, HW⟩ : ∃ W, Hid (W = w2.alloc (.cells #[.int .u64 (nb : Int), .int .u64 (nt : Int), .int .u64 (n : Int), .slice none 0 0] 26)) := ⟨_, rfl⟩
  have FW : Hid (Fr (fun _ => False) w W) := by show Fr _ _ _; rw [HW.out]; exact (F1.out.trans f2).alloc _
  obtain ⟨sb, Hsb⟩ : ∃ sb, Hid (w2.heap.size = sb) := ⟨_, rfl⟩
  have s0 : W.cell? ⟨sb, 0, none⟩ = some (.int .u64 (nb : Int)) := by rw [HW.out, ← Hsb.out]; simp
  have s1 : W.cell? ⟨sb, 1, none⟩ = some (.int .u64 (nt : Int)) := by rw [HW.out, ← Hsb.out]; simp
  have s2 : W.cell? ⟨sb, 2, none⟩ = some (.int .u64 (n : Int)) := by rw [HW.out, ← Hsb.out]; simp
  have s3 : W.cell? ⟨sb, 3, none⟩ = some (.slice none 0 0) := by rw [HW.out, ← Hsb.out]; simp
  have K := begun n hn a1 terms c1 a2 kinds c2 w W FW.out HR1.out HR2.out
  rw [Hnb.out, Hnt.out] at K
  have K : Hid (Calls _ _ _ _ _) := K
  clear f2
  go_wp2_with fail
  rw [← HW.out]
  refine K.out.mono ?_
  rintro e w3 ⟨ao, cap, es, rfl, hlen, hp, ho, f3, hord, hnew⟩
  rw [Hsb.out]
  have q0 := f3.cell s0 (by simp)
  have q1 := f3.cell s1 (by simp)
  have q2 := f3.cell s2 (by simp)
  have q3 := f3.cell s3 (by simp)
  have K3 : Hid (Calls _ _ _ _ _) := hnew w3 (.slice none 0 0) (Fr.refl _ _)
  have HO : Hid (OwnE w3 (fun k => W.heap.size ≤ k) (.slice ao es.length cap) es) := ho
  have F3 : Hid (Fr (fun _ => False) w w3) := FW.out.trans f3
  have HPE : Hid (es.map En.p = entsP nb terms kinds (min terms.length 30)) := hp
  have BW : Hid (Box26 W sb nb nt n) := by show Box26 _ _ _ _ _; rw [HW.out, ← Hsb.out]; exact Box26.new _ _ _ _
  have hsbW : Hid (sb < W.heap.size) := BW.out.lt
  have BX3 : Hid (Box26 w3 sb nb nt n) := BW.out.fr f3 (by simp)
  have HWs : Hid (w.heap.size ≤ sb) := by show _ ≤ sb; rw [← Hsb.out]; exact (F1.out.trans FX2.out).size
  have H1s : Hid (w.heap.size ≤ w1.heap.size) := F1.out.size
  have HW3s : Hid (W.heap.size ≤ w3.heap.size) := f3.size
  clear ho f3 hord hnew hp K s0 s1 s2 s3
  go_wp2_with fail
  refine K3.out.mono ?_
  rintro e w4 ⟨gb, v, ys, rfl, hgb, hg, hyp, f4⟩
  have F4 : Hid (Fr (fun _ => False) w w4) := F3.out.trans f4
  have BX : Hid (Box26 w4 sb nb nt n) := BX3.out.fr f4 (by simp)
  have HO4 : Hid (OwnE w4 (fun k => W.heap.size ≤ k ∧ k < w3.heap.size) (.slice ao es.length cap) es) := (HO.out.mono (fun k hk h => ⟨h, hk⟩)).fr f4 (by simp)
  have hyl : ys.length = es.length := by simpa using congrArg List.length hyp
  have HG : Hid (Lg w4 gb (fun k => w3.heap.size ≤ k ∧ k ≠ gb) nb nt n ys v) := hg
  have HYP : Hid (ys.map En.p = es.map En.p) := hyp
  have HYE : Hid (ys.map En.p = entsP nb terms kinds (min terms.length 30)) := hyp.trans HPE.out
  have HGB : Hid (w3.heap.size ≤ gb) := hgb
  have hL30 : es.length ≤ 30 := hlen
  have HYL : Hid (ys.length = es.length) := hyl
  obtain ⟨b0, b1, b2, b3, y0, y1, y2⟩ := BX.out
  clear hg hyp f4 hyl hlen q0 q1 q2 q3 hgb K3
  have hkd2 : kd < 2 := by rw [hkd]; cases kv <;> simp
  have HKD : Hid (kd = if kv then 1 else 0) := hkd
  have hLT : lastT nt es ≤ 100 := by
    unfold lastT
    by_cases he : es = []
    · rw [if_pos he]; omega
    · rw [if_neg he]
      have : 0 < es.length := List.length_pos_iff.2 he
      have hp := congrArg (fun p => p.2.1) (ents_p HPE.out (es.length - 1) (by omega))
      have e : (es.getD (es.length - 1) default).t = tsum terms (es.length - 1 + 1) := hp
      rw [e]
      have := tsum_le terms (es.length - 1 + 1)
      omega
  have HLT : Hid (lastT nt es ≤ 100) := hLT
  clear hkd hLT
  cases kv with
  | false =>
    have HK0 : Hid (kd = 0) := by have := HKD.out; show _ = _; simpa using this
    have hk0 := HK0.out
    go_wp2_with fail
    clear hk0
    go_loopw [12, 16] (fun t12 t16 wr => ∃ (k : Nat) (ms ys : List En) (v : Value) (av : Option Addr) (cv : Nat) (DL DG : Nat → Prop), k ≤ more.length ∧ t16 = .int .i64 (k : Int) ∧ t12 = .slice av ms.length cv ∧ PutRel w wr gb sb nb nt n DL DG ms ys v av cv ∧ ms.length = es.length + k ∧ lastT nt ms ≤ 100 + k) (fun _ t16 _ => more.length - (intOf t16).toNat)
    case atStart =>
      refine ⟨0, es, ys, v, ao, cap, (fun k => W.heap.size ≤ k ∧ k < w3.heap.size), (fun k => (w3.heap.size ≤ k ∧ k ≠ gb) ∧ k < w4.heap.size), Nat.zero_le _, rfl, rfl, ⟨HO4.out, ⟨HG.out.c0, HG.out.c1, HG.out.c2, HG.out.c3, HG.out.z0, HG.out.z1, HG.out.z2, HG.out.z3, HG.out.own.mono (fun k hk h => ⟨h, hk⟩), fun h => h.1.2 rfl, HG.out.b0, HG.out.b1, HG.out.b2⟩, HYP.out, fun q hq => ents_ix HPE.out q hq, ents_d HPE.out, BX.out, F4.out, ?_, ?_, ?_⟩, by omega, HLT.out⟩
      · intro k h; have := HWs.out; have := hsbW.out; have := HGB.out; have := HG.out.lt; omega
      · intro k h; have := HWs.out; have := hsbW.out; have := HW3s.out; have := HGB.out; omega
      · have := HWs.out; have := hsbW.out; have := HW3s.out; have := HGB.out; omega
    case round =>
      obtain ⟨k, ms, ys2, v2, av, cv, DL, DG, hk, rfl, rfl, hrel, hml, htl⟩ := hrel
      have HREL : Hid (PutRel w wr gb sb nb nt n DL DG ms ys2 v2 av cv) := hrel
      have hmlen := hrel.own.form
      obtain ⟨tl, Htl⟩ : ∃ tl, Hid (lastT nt ms = tl) := ⟨_, rfl⟩
      rw [Htl.out] at htl
      have hms : ms.length ≤ 60 := by omega
      have HML : Hid (ms.length = es.length + k) := hml
      obtain ⟨p0, p1, p2, p3, _, _, _⟩ := hrel.bx
      have hyl : ys2.length = ms.length := by simpa using congrArg List.length hrel.same
      have HYL2 : Hid (ys2.length = ms.length) := hyl
      clear hrel hmlen hml hyl
      by_cases hlt : k < more.length
      · obtain ⟨b3, o3, x, rfl, hx, hc3, Hx3⟩ := (HREL.out.fr.row HR3.out (by simp)).at hlt
        have k1 : (0 : Int) ≤ (k : Int) := by omega
        have k2 : (k : Int) < (more.length : Int) := by omega
        obtain ⟨zz, ezz, Hzz⟩ : ∃ zz : Nat, (nb : Int) + (ms.length : Int) = (zz : Int) ∧ Hid (zz = nb + ms.length) := ⟨nb + ms.length, by omega, rfl⟩
        have hzz : zz ≤ 100 := by rw [Hzz.out]; omega
        obtain ⟨z1, ez1, Hz1⟩ : ∃ z1 : Nat, (zz : Int) + 1 = (z1 : Int) ∧ Hid (z1 = zz + 1) := ⟨zz + 1, by omega, rfl⟩
        have hz1 : z1 ≤ 101 := by rw [Hz1.out]; omega
        obtain ⟨x2, ex2, Hx2⟩ : ∃ x2 : Nat, (x : Int) % 2 = (x2 : Int) ∧ Hid (x2 = x % 2) := ⟨x % 2, by omega, rfl⟩
        have hx2 : x2 ≤ 1 := by rw [Hx2.out]; omega
        obtain ⟨tt, ett, Htt⟩ : ∃ tt : Nat, (tl : Int) + (x2 : Int) = (tt : Int) ∧ Hid (tt = tl + x2) := ⟨tl + x2, by omega, rfl⟩
        have htt : tt ≤ 101 + k := by rw [Htt.out]; omega
        have xm : (x : Int).tmod 2 = (x2 : Int) := by rw [Int.tmod_eq_emod_of_nonneg (by omega)]; exact ex2
        have wA : IntKind.u64.wrap (zz : Int) = (zz : Int) := wrap_u64_small _ (by omega) (by omega)
        have wB : IntKind.u64.wrap (z1 : Int) = (z1 : Int) := wrap_u64_small _ (by omega) (by omega)
        have wC : IntKind.u64.wrap (x2 : Int) = (x2 : Int) := wrap_u64_small _ (by omega) (by omega)
        have wD : IntKind.u64.wrap (tt : Int) = (tt : Int) := wrap_u64_small _ (by omega) (by omega)
        have wE : IntKind.u64.wrap (ms.length : Int) = (ms.length : Int) := wrap_u64_small _ (by omega) (by omega)
        have wF : IntKind.u8.wrap (x2 : Int) = (x2 : Int) := wrap_u8_small _ (by omega) (by omega)
        have KT : Hid (∀ X, Fr (fun _ => False) wr X → Calls Try.prog 14 #[.pointer (some ⟨gb, 0, none⟩)] X fun e w' => e = .returned (.int .u64 (tl : Int)) ∧ ∃ m, w' = X.drewN m) := fun X fX => by
          have := lastTerm_any (HREL.out.log.fr fX (by simp) (by simp)) (by rw [HYL2.out]; omega)
          rw [lastT_p HREL.out.same, Htl.out] at this
          exact this
        go_wp2_with fail
        go_cut [17] from 40 to 83 (fun s wx => ∃ db xb, s = .pointer (some ⟨xb, 0, none⟩) ∧ NewEnt wr wx db xb x z1 tt 0)
        case first =>
          have al0 : ∀ m, ((wr.drewN m).alloc (.cells #[.int .u64 0, .int .u64 0, .int .u8 0, .slice none 0 0] 36)).cell? ⟨wr.heap.size, 0, none⟩ = some (.int .u64 0) := fun m => cell_of_row _ wr.heap.size 0 _ 36 (0, 0) (heap_alloc_new (wr.drewN m) _)
          have am0 : (wr.drew.alloc (.cells #[.int .u64 0, .int .u64 0, .int .u8 0, .slice none 0 0] 36)).cell? ⟨wr.heap.size, 0, none⟩ = some (.int .u64 0) := cell_of_row _ wr.heap.size 0 _ 36 (0, 0) (heap_alloc_new wr.drew _)
          have al1 : ∀ m, ((wr.drewN m).alloc (.cells #[.int .u64 0, .int .u64 0, .int .u8 0, .slice none 0 0] 36)).cell? ⟨wr.heap.size, 1, none⟩ = some (.int .u64 0) := fun m => cell_of_row _ wr.heap.size 1 _ 36 (0, 0) (heap_alloc_new (wr.drewN m) _)
          have am1 : (wr.drew.alloc (.cells #[.int .u64 0, .int .u64 0, .int .u8 0, .slice none 0 0] 36)).cell? ⟨wr.heap.size, 1, none⟩ = some (.int .u64 0) := cell_of_row _ wr.heap.size 1 _ 36 (0, 0) (heap_alloc_new wr.drew _)
          have al2 : ∀ m, ((wr.drewN m).alloc (.cells #[.int .u64 0, .int .u64 0, .int .u8 0, .slice none 0 0] 36)).cell? ⟨wr.heap.size, 2, none⟩ = some (.int .u8 0) := fun m => cell_of_row _ wr.heap.size 2 _ 36 (0, 0) (heap_alloc_new (wr.drewN m) _)
          have am2 : (wr.drew.alloc (.cells #[.int .u64 0, .int .u64 0, .int .u8 0, .slice none 0 0] 36)).cell? ⟨wr.heap.size, 2, none⟩ = some (.int .u8 0) := cell_of_row _ wr.heap.size 2 _ 36 (0, 0) (heap_alloc_new wr.drew _)
          have al3 : ∀ m, ((wr.drewN m).alloc (.cells #[.int .u64 0, .int .u64 0, .int .u8 0, .slice none 0 0] 36)).cell? ⟨wr.heap.size, 3, none⟩ = some (.slice none 0 0) := fun m => cell_of_row _ wr.heap.size 3 _ 36 (0, 0) (heap_alloc_new (wr.drewN m) _)
          have am3 : (wr.drew.alloc (.cells #[.int .u64 0, .int .u64 0, .int .u8 0, .slice none 0 0] 36)).cell? ⟨wr.heap.size, 3, none⟩ = some (.slice none 0 0) := cell_of_row _ wr.heap.size 3 _ 36 (0, 0) (heap_alloc_new wr.drew _)
          have af0 : ∀ m, ((wr.drewN m).alloc (.cells #[.int .u64 0, .int .u64 0, .int .u8 0, .slice none 0 0] 36)).frozen? ⟨wr.heap.size, 0, none⟩ = false := fun m => by have := heap_alloc_new (wr.drewN m) (.cells #[.int .u64 0, .int .u64 0, .int .u8 0, .slice none 0 0] 36); simp only [World.frozen?]; rw [show ((wr.drewN m).alloc (.cells #[.int .u64 0, .int .u64 0, .int .u8 0, .slice none 0 0] 36)).heap[wr.heap.size]? = _ from this]; simp
          have ag0 : (wr.drew.alloc (.cells #[.int .u64 0, .int .u64 0, .int .u8 0, .slice none 0 0] 36)).frozen? ⟨wr.heap.size, 0, none⟩ = false := af0 1
          have af1 : ∀ m, ((wr.drewN m).alloc (.cells #[.int .u64 0, .int .u64 0, .int .u8 0, .slice none 0 0] 36)).frozen? ⟨wr.heap.size, 1, none⟩ = false := fun m => by have := heap_alloc_new (wr.drewN m) (.cells #[.int .u64 0, .int .u64 0, .int .u8 0, .slice none 0 0] 36); simp only [World.frozen?]; rw [show ((wr.drewN m).alloc (.cells #[.int .u64 0, .int .u64 0, .int .u8 0, .slice none 0 0] 36)).heap[wr.heap.size]? = _ from this]; simp
          have ag1 : (wr.drew.alloc (.cells #[.int .u64 0, .int .u64 0, .int .u8 0, .slice none 0 0] 36)).frozen? ⟨wr.heap.size, 1, none⟩ = false := af1 1
          have af2 : ∀ m, ((wr.drewN m).alloc (.cells #[.int .u64 0, .int .u64 0, .int .u8 0, .slice none 0 0] 36)).frozen? ⟨wr.heap.size, 2, none⟩ = false := fun m => by have := heap_alloc_new (wr.drewN m) (.cells #[.int .u64 0, .int .u64 0, .int .u8 0, .slice none 0 0] 36); simp only [World.frozen?]; rw [show ((wr.drewN m).alloc (.cells #[.int .u64 0, .int .u64 0, .int .u8 0, .slice none 0 0] 36)).heap[wr.heap.size]? = _ from this]; simp
          have ag2 : (wr.drew.alloc (.cells #[.int .u64 0, .int .u64 0, .int .u8 0, .slice none 0 0] 36)).frozen? ⟨wr.heap.size, 2, none⟩ = false := af2 1
          have af3 : ∀ m, ((wr.drewN m).alloc (.cells #[.int .u64 0, .int .u64 0, .int .u8 0, .slice none 0 0] 36)).frozen? ⟨wr.heap.size, 3, none⟩ = false := fun m => by have := heap_alloc_new (wr.drewN m) (.cells #[.int .u64 0, .int .u64 0, .int .u8 0, .slice none 0 0] 36); simp only [World.frozen?]; rw [show ((wr.drewN m).alloc (.cells #[.int .u64 0, .int .u64 0, .int .u8 0, .slice none 0 0] 36)).heap[wr.heap.size]? = _ from this]; simp
          have ag3 : (wr.drew.alloc (.cells #[.int .u64 0, .int .u64 0, .int .u8 0, .slice none 0 0] 36)).frozen? ⟨wr.heap.size, 3, none⟩ = false := af3 1
          have ne1 := World.new_ne wr _ p0
          have ne2 := World.new_ne wr _ hc3
          have kb0 : Hid (∀ m, (wr.drewN m).cell? ⟨b3, o3 + k, none⟩ = some (.int .u8 (x : Int))) := fun m => hc3
          have kbd : Hid (wr.drew.cell? ⟨b3, o3 + k, none⟩ = some (.int .u8 (x : Int))) := hc3
          have kb1 : Hid (∀ m o, ((wr.drewN m).alloc o).cell? ⟨b3, o3 + k, none⟩ = some (.int .u8 (x : Int))) := fun m o => (((Fr.refl (fun _ => False) wr).drewN m).alloc o).cell hc3 (by simp)
          have kbe : Hid (∀ o, (wr.drew.alloc o).cell? ⟨b3, o3 + k, none⟩ = some (.int .u8 (x : Int))) := fun o => (((Fr.refl (fun _ => False) wr).drew).alloc o).cell hc3 (by simp)
          have kb2 : Hid (∀ m o o', (((wr.drewN m).alloc o).alloc o').cell? ⟨b3, o3 + k, none⟩ = some (.int .u8 (x : Int))) := fun m o o' => ((((Fr.refl (fun _ => False) wr).drewN m).alloc o).alloc o').cell hc3 (by simp)
          have kbf : Hid (∀ o o', ((wr.drew.alloc o).alloc o').cell? ⟨b3, o3 + k, none⟩ = some (.int .u8 (x : Int))) := fun o o' => ((((Fr.refl (fun _ => False) wr).drew).alloc o).alloc o').cell hc3 (by simp)
          have kb3 : Hid (∀ m a b c d, (((((((wr.drewN m).alloc (.cells #[.int .u64 0, .int .u64 0, .int .u8 0, .slice none 0 0] 36)).alloc (.cells #[.int .u8 (x : Int), .int .u8 1] 5)).setCell ⟨wr.heap.size, 0, none⟩ a).setCell ⟨wr.heap.size, 1, none⟩ b).setCell ⟨wr.heap.size, 2, none⟩ c).setCell ⟨wr.heap.size, 3, none⟩ d).cell? ⟨b3, o3 + k, none⟩ = some (.int .u8 (x : Int))) := fun m a b c d => ((((((((Fr.refl (fun k => k = wr.heap.size) wr).drewN m).alloc (.cells #[.int .u64 0, .int .u64 0, .int .u8 0, .slice none 0 0] 36)).alloc (.cells #[.int .u8 (x : Int), .int .u8 1] 5)).setCell (p := ⟨wr.heap.size, 0, none⟩) (Or.inl rfl) a).setCell (p := ⟨wr.heap.size, 1, none⟩) (Or.inl rfl) b).setCell (p := ⟨wr.heap.size, 2, none⟩) (Or.inl rfl) c).setCell (p := ⟨wr.heap.size, 3, none⟩) (Or.inl rfl) d).cell hc3 (fun e => ne2 e.symm)
          have ks0 : Hid (∀ m, (wr.drewN m).cell? ⟨sb, 0, none⟩ = some (.int .u64 (nb : Int))) := fun m => p0
          have ksd : Hid (wr.drew.cell? ⟨sb, 0, none⟩ = some (.int .u64 (nb : Int))) := p0
          have ks1 : Hid (∀ m o, ((wr.drewN m).alloc o).cell? ⟨sb, 0, none⟩ = some (.int .u64 (nb : Int))) := fun m o => (((Fr.refl (fun _ => False) wr).drewN m).alloc o).cell p0 (by simp)
          have kse : Hid (∀ o, (wr.drew.alloc o).cell? ⟨sb, 0, none⟩ = some (.int .u64 (nb : Int))) := fun o => (((Fr.refl (fun _ => False) wr).drew).alloc o).cell p0 (by simp)
          have ks2 : Hid (∀ m o o', (((wr.drewN m).alloc o).alloc o').cell? ⟨sb, 0, none⟩ = some (.int .u64 (nb : Int))) := fun m o o' => ((((Fr.refl (fun _ => False) wr).drewN m).alloc o).alloc o').cell p0 (by simp)
          have ksf : Hid (∀ o o', ((wr.drew.alloc o).alloc o').cell? ⟨sb, 0, none⟩ = some (.int .u64 (nb : Int))) := fun o o' => ((((Fr.refl (fun _ => False) wr).drew).alloc o).alloc o').cell p0 (by simp)
          have ks3 : Hid (∀ m a b c d, (((((((wr.drewN m).alloc (.cells #[.int .u64 0, .int .u64 0, .int .u8 0, .slice none 0 0] 36)).alloc (.cells #[.int .u8 (x : Int), .int .u8 1] 5)).setCell ⟨wr.heap.size, 0, none⟩ a).setCell ⟨wr.heap.size, 1, none⟩ b).setCell ⟨wr.heap.size, 2, none⟩ c).setCell ⟨wr.heap.size, 3, none⟩ d).cell? ⟨sb, 0, none⟩ = some (.int .u64 (nb : Int))) := fun m a b c d => ((((((((Fr.refl (fun k => k = wr.heap.size) wr).drewN m).alloc (.cells #[.int .u64 0, .int .u64 0, .int .u8 0, .slice none 0 0] 36)).alloc (.cells #[.int .u8 (x : Int), .int .u8 1] 5)).setCell (p := ⟨wr.heap.size, 0, none⟩) (Or.inl rfl) a).setCell (p := ⟨wr.heap.size, 1, none⟩) (Or.inl rfl) b).setCell (p := ⟨wr.heap.size, 2, none⟩) (Or.inl rfl) c).setCell (p := ⟨wr.heap.size, 3, none⟩) (Or.inl rfl) d).cell p0 (fun e => ne1 e.symm)
          have kbg : Hid (∀ o, (wr.alloc o).cell? ⟨b3, o3 + k, none⟩ = some (.int .u8 (x : Int))) := fun o => ((Fr.refl (fun _ => False) wr).alloc o).cell hc3 (by simp)
          have kbh : Hid (∀ o m, ((wr.alloc o).drewN m).cell? ⟨b3, o3 + k, none⟩ = some (.int .u8 (x : Int))) := fun o m => ((Fr.refl (fun _ => False) wr).alloc o).cell hc3 (by simp)
          have kbi : Hid (∀ o, ((wr.alloc o).drew).cell? ⟨b3, o3 + k, none⟩ = some (.int .u8 (x : Int))) := fun o => ((Fr.refl (fun _ => False) wr).alloc o).cell hc3 (by simp)
          have kbj : Hid (∀ o o', ((wr.alloc o).alloc o').drew.cell? ⟨b3, o3 + k, none⟩ = some (.int .u8 (x : Int))) := fun o o' => (((Fr.refl (fun _ => False) wr).alloc o).alloc o').cell hc3 (by simp)
          have kbk : Hid (∀ o o' m, (((wr.alloc o).alloc o').drewN m).cell? ⟨b3, o3 + k, none⟩ = some (.int .u8 (x : Int))) := fun o o' m => (((Fr.refl (fun _ => False) wr).alloc o).alloc o').cell hc3 (by simp)
          have kbl : Hid (∀ o m o', (((wr.alloc o).drewN m).alloc o').cell? ⟨b3, o3 + k, none⟩ = some (.int .u8 (x : Int))) := fun o m o' => ((((Fr.refl (fun _ => False) wr).alloc o).drewN m).alloc o').cell hc3 (by simp)
          have kbm : Hid (∀ m a b c d, (((((((wr.alloc (.cells #[.int .u64 0, .int .u64 0, .int .u8 0, .slice none 0 0] 36)).alloc (.cells #[.int .u8 (x : Int), .int .u8 1] 5)).drewN m).setCell ⟨wr.heap.size, 0, none⟩ a).setCell ⟨wr.heap.size, 1, none⟩ b).setCell ⟨wr.heap.size, 2, none⟩ c).setCell ⟨wr.heap.size, 3, none⟩ d).cell? ⟨b3, o3 + k, none⟩ = some (.int .u8 (x : Int))) := fun m a b c d => ((((((((Fr.refl (fun k => k = wr.heap.size) wr).alloc (.cells #[.int .u64 0, .int .u64 0, .int .u8 0, .slice none 0 0] 36)).alloc (.cells #[.int .u8 (x : Int), .int .u8 1] 5)).drewN m).setCell (p := ⟨wr.heap.size, 0, none⟩) (Or.inl rfl) a).setCell (p := ⟨wr.heap.size, 1, none⟩) (Or.inl rfl) b).setCell (p := ⟨wr.heap.size, 2, none⟩) (Or.inl rfl) c).setCell (p := ⟨wr.heap.size, 3, none⟩) (Or.inl rfl) d).cell hc3 (fun e => by have : b3 < wr.heap.size := World.block_lt_of_cell? _ _ hc3; have e' : b3 = wr.heap.size := e; omega)
          have kbn : Hid (∀ m a b c d, (((((((wr.alloc (.cells #[.int .u8 (x : Int), .int .u8 1] 5)).alloc (.cells #[.int .u64 0, .int .u64 0, .int .u8 0, .slice none 0 0] 36)).drewN m).setCell ⟨wr.heap.size + 1, 0, none⟩ a).setCell ⟨wr.heap.size + 1, 1, none⟩ b).setCell ⟨wr.heap.size + 1, 2, none⟩ c).setCell ⟨wr.heap.size + 1, 3, none⟩ d).cell? ⟨b3, o3 + k, none⟩ = some (.int .u8 (x : Int))) := fun m a b c d => ((((((((Fr.refl (fun k => k = wr.heap.size + 1) wr).alloc (.cells #[.int .u8 (x : Int), .int .u8 1] 5)).alloc (.cells #[.int .u64 0, .int .u64 0, .int .u8 0, .slice none 0 0] 36)).drewN m).setCell (p := ⟨wr.heap.size + 1, 0, none⟩) (Or.inl rfl) a).setCell (p := ⟨wr.heap.size + 1, 1, none⟩) (Or.inl rfl) b).setCell (p := ⟨wr.heap.size + 1, 2, none⟩) (Or.inl rfl) c).setCell (p := ⟨wr.heap.size + 1, 3, none⟩) (Or.inl rfl) d).cell hc3 (fun e => by have : b3 < wr.heap.size := World.block_lt_of_cell? _ _ hc3; have e' : b3 = wr.heap.size + 1 := e; omega)
          have kbo : Hid (∀ m a b c d, (((((((wr.alloc (.cells #[.int .u64 0, .int .u64 0, .int .u8 0, .slice none 0 0] 36)).drewN m).alloc (.cells #[.int .u8 (x : Int), .int .u8 1] 5)).setCell ⟨wr.heap.size, 0, none⟩ a).setCell ⟨wr.heap.size, 1, none⟩ b).setCell ⟨wr.heap.size, 2, none⟩ c).setCell ⟨wr.heap.size, 3, none⟩ d).cell? ⟨b3, o3 + k, none⟩ = some (.int .u8 (x : Int))) := fun m a b c d => ((((((((Fr.refl (fun k => k = wr.heap.size) wr).alloc (.cells #[.int .u64 0, .int .u64 0, .int .u8 0, .slice none 0 0] 36)).drewN m).alloc (.cells #[.int .u8 (x : Int), .int .u8 1] 5)).setCell (p := ⟨wr.heap.size, 0, none⟩) (Or.inl rfl) a).setCell (p := ⟨wr.heap.size, 1, none⟩) (Or.inl rfl) b).setCell (p := ⟨wr.heap.size, 2, none⟩) (Or.inl rfl) c).setCell (p := ⟨wr.heap.size, 3, none⟩) (Or.inl rfl) d).cell hc3 (fun e => by have : b3 < wr.heap.size := World.block_lt_of_cell? _ _ hc3; have e' : b3 = wr.heap.size := e; omega)
          have kbp : Hid (∀ m a b c d, (((((((wr.drewN m).alloc (.cells #[.int .u8 (x : Int), .int .u8 1] 5)).alloc (.cells #[.int .u64 0, .int .u64 0, .int .u8 0, .slice none 0 0] 36)).setCell ⟨wr.heap.size + 1, 0, none⟩ a).setCell ⟨wr.heap.size + 1, 1, none⟩ b).setCell ⟨wr.heap.size + 1, 2, none⟩ c).setCell ⟨wr.heap.size + 1, 3, none⟩ d).cell? ⟨b3, o3 + k, none⟩ = some (.int .u8 (x : Int))) := fun m a b c d => ((((((((Fr.refl (fun k => k = wr.heap.size + 1) wr).drewN m).alloc (.cells #[.int .u8 (x : Int), .int .u8 1] 5)).alloc (.cells #[.int .u64 0, .int .u64 0, .int .u8 0, .slice none 0 0] 36)).setCell (p := ⟨wr.heap.size + 1, 0, none⟩) (Or.inl rfl) a).setCell (p := ⟨wr.heap.size + 1, 1, none⟩) (Or.inl rfl) b).setCell (p := ⟨wr.heap.size + 1, 2, none⟩) (Or.inl rfl) c).setCell (p := ⟨wr.heap.size + 1, 3, none⟩) (Or.inl rfl) d).cell hc3 (fun e => by have : b3 < wr.heap.size := World.block_lt_of_cell? _ _ hc3; have e' : b3 = wr.heap.size + 1 := e; omega)
          have kbq : Hid (∀ m a b c d, (((((((wr.alloc (.cells #[.int .u8 (x : Int), .int .u8 1] 5)).drewN m).alloc (.cells #[.int .u64 0, .int .u64 0, .int .u8 0, .slice none 0 0] 36)).setCell ⟨wr.heap.size + 1, 0, none⟩ a).setCell ⟨wr.heap.size + 1, 1, none⟩ b).setCell ⟨wr.heap.size + 1, 2, none⟩ c).setCell ⟨wr.heap.size + 1, 3, none⟩ d).cell? ⟨b3, o3 + k, none⟩ = some (.int .u8 (x : Int))) := fun m a b c d => ((((((((Fr.refl (fun k => k = wr.heap.size + 1) wr).alloc (.cells #[.int .u8 (x : Int), .int .u8 1] 5)).drewN m).alloc (.cells #[.int .u64 0, .int .u64 0, .int .u8 0, .slice none 0 0] 36)).setCell (p := ⟨wr.heap.size + 1, 0, none⟩) (Or.inl rfl) a).setCell (p := ⟨wr.heap.size + 1, 1, none⟩) (Or.inl rfl) b).setCell (p := ⟨wr.heap.size + 1, 2, none⟩) (Or.inl rfl) c).setCell (p := ⟨wr.heap.size + 1, 3, none⟩) (Or.inl rfl) d).cell hc3 (fun e => by have : b3 < wr.heap.size := World.block_lt_of_cell? _ _ hc3; have e' : b3 = wr.heap.size + 1 := e; omega)
          have ksg : Hid (∀ o, (wr.alloc o).cell? ⟨sb, 0, none⟩ = some (.int .u64 (nb : Int))) := fun o => ((Fr.refl (fun _ => False) wr).alloc o).cell p0 (by simp)
          have ksh : Hid (∀ o m, ((wr.alloc o).drewN m).cell? ⟨sb, 0, none⟩ = some (.int .u64 (nb : Int))) := fun o m => ((Fr.refl (fun _ => False) wr).alloc o).cell p0 (by simp)
          have ksi : Hid (∀ o, ((wr.alloc o).drew).cell? ⟨sb, 0, none⟩ = some (.int .u64 (nb : Int))) := fun o => ((Fr.refl (fun _ => False) wr).alloc o).cell p0 (by simp)
          have ksj : Hid (∀ o o', ((wr.alloc o).alloc o').drew.cell? ⟨sb, 0, none⟩ = some (.int .u64 (nb : Int))) := fun o o' => (((Fr.refl (fun _ => False) wr).alloc o).alloc o').cell p0 (by simp)
          have ksk : Hid (∀ o o' m, (((wr.alloc o).alloc o').drewN m).cell? ⟨sb, 0, none⟩ = some (.int .u64 (nb : Int))) := fun o o' m => (((Fr.refl (fun _ => False) wr).alloc o).alloc o').cell p0 (by simp)
          have ksl : Hid (∀ o m o', (((wr.alloc o).drewN m).alloc o').cell? ⟨sb, 0, none⟩ = some (.int .u64 (nb : Int))) := fun o m o' => ((((Fr.refl (fun _ => False) wr).alloc o).drewN m).alloc o').cell p0 (by simp)
          have ksm : Hid (∀ m a b c d, (((((((wr.alloc (.cells #[.int .u64 0, .int .u64 0, .int .u8 0, .slice none 0 0] 36)).alloc (.cells #[.int .u8 (x : Int), .int .u8 1] 5)).drewN m).setCell ⟨wr.heap.size, 0, none⟩ a).setCell ⟨wr.heap.size, 1, none⟩ b).setCell ⟨wr.heap.size, 2, none⟩ c).setCell ⟨wr.heap.size, 3, none⟩ d).cell? ⟨sb, 0, none⟩ = some (.int .u64 (nb : Int))) := fun m a b c d => ((((((((Fr.refl (fun k => k = wr.heap.size) wr).alloc (.cells #[.int .u64 0, .int .u64 0, .int .u8 0, .slice none 0 0] 36)).alloc (.cells #[.int .u8 (x : Int), .int .u8 1] 5)).drewN m).setCell (p := ⟨wr.heap.size, 0, none⟩) (Or.inl rfl) a).setCell (p := ⟨wr.heap.size, 1, none⟩) (Or.inl rfl) b).setCell (p := ⟨wr.heap.size, 2, none⟩) (Or.inl rfl) c).setCell (p := ⟨wr.heap.size, 3, none⟩) (Or.inl rfl) d).cell p0 (fun e => by have : sb < wr.heap.size := World.block_lt_of_cell? _ _ p0; have e' : sb = wr.heap.size := e; omega)
          have ksn : Hid (∀ m a b c d, (((((((wr.alloc (.cells #[.int .u8 (x : Int), .int .u8 1] 5)).alloc (.cells #[.int .u64 0, .int .u64 0, .int .u8 0, .slice none 0 0] 36)).drewN m).setCell ⟨wr.heap.size + 1, 0, none⟩ a).setCell ⟨wr.heap.size + 1, 1, none⟩ b).setCell ⟨wr.heap.size + 1, 2, none⟩ c).setCell ⟨wr.heap.size + 1, 3, none⟩ d).cell? ⟨sb, 0, none⟩ = some (.int .u64 (nb : Int))) := fun m a b c d => ((((((((Fr.refl (fun k => k = wr.heap.size + 1) wr).alloc (.cells #[.int .u8 (x : Int), .int .u8 1] 5)).alloc (.cells #[.int .u64 0, .int .u64 0, .int .u8 0, .slice none 0 0] 36)).drewN m).setCell (p := ⟨wr.heap.size + 1, 0, none⟩) (Or.inl rfl) a).setCell (p := ⟨wr.heap.size + 1, 1, none⟩) (Or.inl rfl) b).setCell (p := ⟨wr.heap.size + 1, 2, none⟩) (Or.inl rfl) c).setCell (p := ⟨wr.heap.size + 1, 3, none⟩) (Or.inl rfl) d).cell p0 (fun e => by have : sb < wr.heap.size := World.block_lt_of_cell? _ _ p0; have e' : sb = wr.heap.size + 1 := e; omega)
          have kso : Hid (∀ m a b c d, (((((((wr.alloc (.cells #[.int .u64 0, .int .u64 0, .int .u8 0, .slice none 0 0] 36)).drewN m).alloc (.cells #[.int .u8 (x : Int), .int .u8 1] 5)).setCell ⟨wr.heap.size, 0, none⟩ a).setCell ⟨wr.heap.size, 1, none⟩ b).setCell ⟨wr.heap.size, 2, none⟩ c).setCell ⟨wr.heap.size, 3, none⟩ d).cell? ⟨sb, 0, none⟩ = some (.int .u64 (nb : Int))) := fun m a b c d => ((((((((Fr.refl (fun k => k = wr.heap.size) wr).alloc (.cells #[.int .u64 0, .int .u64 0, .int .u8 0, .slice none 0 0] 36)).drewN m).alloc (.cells #[.int .u8 (x : Int), .int .u8 1] 5)).setCell (p := ⟨wr.heap.size, 0, none⟩) (Or.inl rfl) a).setCell (p := ⟨wr.heap.size, 1, none⟩) (Or.inl rfl) b).setCell (p := ⟨wr.heap.size, 2, none⟩) (Or.inl rfl) c).setCell (p := ⟨wr.heap.size, 3, none⟩) (Or.inl rfl) d).cell p0 (fun e => by have : sb < wr.heap.size := World.block_lt_of_cell? _ _ p0; have e' : sb = wr.heap.size := e; omega)
          have ksp : Hid (∀ m a b c d, (((((((wr.drewN m).alloc (.cells #[.int .u8 (x : Int), .int .u8 1] 5)).alloc (.cells #[.int .u64 0, .int .u64 0, .int .u8 0, .slice none 0 0] 36)).setCell ⟨wr.heap.size + 1, 0, none⟩ a).setCell ⟨wr.heap.size + 1, 1, none⟩ b).setCell ⟨wr.heap.size + 1, 2, none⟩ c).setCell ⟨wr.heap.size + 1, 3, none⟩ d).cell? ⟨sb, 0, none⟩ = some (.int .u64 (nb : Int))) := fun m a b c d => ((((((((Fr.refl (fun k => k = wr.heap.size + 1) wr).drewN m).alloc (.cells #[.int .u8 (x : Int), .int .u8 1] 5)).alloc (.cells #[.int .u64 0, .int .u64 0, .int .u8 0, .slice none 0 0] 36)).setCell (p := ⟨wr.heap.size + 1, 0, none⟩) (Or.inl rfl) a).setCell (p := ⟨wr.heap.size + 1, 1, none⟩) (Or.inl rfl) b).setCell (p := ⟨wr.heap.size + 1, 2, none⟩) (Or.inl rfl) c).setCell (p := ⟨wr.heap.size + 1, 3, none⟩) (Or.inl rfl) d).cell p0 (fun e => by have : sb < wr.heap.size := World.block_lt_of_cell? _ _ p0; have e' : sb = wr.heap.size + 1 := e; omega)
          have ksq : Hid (∀ m a b c d, (((((((wr.alloc (.cells #[.int .u8 (x : Int), .int .u8 1] 5)).drewN m).alloc (.cells #[.int .u64 0, .int .u64 0, .int .u8 0, .slice none 0 0] 36)).setCell ⟨wr.heap.size + 1, 0, none⟩ a).setCell ⟨wr.heap.size + 1, 1, none⟩ b).setCell ⟨wr.heap.size + 1, 2, none⟩ c).setCell ⟨wr.heap.size + 1, 3, none⟩ d).cell? ⟨sb, 0, none⟩ = some (.int .u64 (nb : Int))) := fun m a b c d => ((((((((Fr.refl (fun k => k = wr.heap.size + 1) wr).alloc (.cells #[.int .u8 (x : Int), .int .u8 1] 5)).drewN m).alloc (.cells #[.int .u64 0, .int .u64 0, .int .u8 0, .slice none 0 0] 36)).setCell (p := ⟨wr.heap.size + 1, 0, none⟩) (Or.inl rfl) a).setCell (p := ⟨wr.heap.size + 1, 1, none⟩) (Or.inl rfl) b).setCell (p := ⟨wr.heap.size + 1, 2, none⟩) (Or.inl rfl) c).setCell (p := ⟨wr.heap.size + 1, 3, none⟩) (Or.inl rfl) d).cell p0 (fun e => by have : sb < wr.heap.size := World.block_lt_of_cell? _ _ p0; have e' : sb = wr.heap.size + 1 := e; omega)
          go_region_held3 (fun w' => w'.cell? ⟨sb, 0, none⟩ = some (.int .u64 (nb : Int)) ∧ w'.cell? ⟨b3, o3 + k, none⟩ = some (.int .u8 (x : Int))) (first | with_reducible exact ⟨ks0.out _, kb0.out _⟩ | with_reducible exact ⟨ksd.out, kbd.out⟩ | with_reducible exact ⟨ks1.out _ _, kb1.out _ _⟩ | with_reducible exact ⟨kse.out _, kbe.out _⟩ | with_reducible exact ⟨ks2.out _ _ _, kb2.out _ _ _⟩ | with_reducible exact ⟨ksf.out _ _, kbf.out _ _⟩ | with_reducible exact ⟨ks3.out _ _ _ _ _, kb3.out _ _ _ _ _⟩ | with_reducible exact ⟨ksg.out _, kbg.out _⟩ | with_reducible exact ⟨ksh.out _ _, kbh.out _ _⟩ | with_reducible exact ⟨ksi.out _, kbi.out _⟩ | with_reducible exact ⟨ksj.out _ _, kbj.out _ _⟩ | with_reducible exact ⟨ksk.out _ _ _, kbk.out _ _ _⟩ | with_reducible exact ⟨ksl.out _ _ _, kbl.out _ _ _⟩ | with_reducible exact ⟨ksm.out _ _ _ _ _, kbm.out _ _ _ _ _⟩ | with_reducible exact ⟨ksn.out _ _ _ _ _, kbn.out _ _ _ _ _⟩ | with_reducible exact ⟨kso.out _ _ _ _ _, kbo.out _ _ _ _ _⟩ | with_reducible exact ⟨ksp.out _ _ _ _ _, kbp.out _ _ _ _ _⟩ | with_reducible exact ⟨ksq.out _ _ _ _ _, kbq.out _ _ _ _ _⟩ | with_reducible exact ⟨p0, hc3⟩ | go_keep) ((go_at_call 14; refine (KT.out _ (by first | with_reducible exact (Fr.refl (fun _ => False) wr).drew | with_reducible exact ((Fr.refl (fun _ => False) wr).alloc _).drew | with_reducible exact (((Fr.refl (fun _ => False) wr).alloc _).alloc _).drew | with_reducible exact ((Fr.refl (fun _ => False) wr).drew).alloc _ | with_reducible exact (((Fr.refl (fun _ => False) wr).drew).alloc _).alloc _)).mono ?_; rintro e w7 ⟨rfl, n7, rfl⟩))
          all_goals
            go_wp2_with fail
            go_meet
            first | with_reducible exact ⟨_, _, rfl, newEnt_1 wr _ x z1 tt 0 0 hx rfl⟩ | with_reducible exact ⟨_, _, rfl, newEnt_2 wr _ x z1 tt 0 0 hx rfl⟩ | with_reducible exact ⟨_, _, rfl, newEnt_3 wr _ x z1 tt 0 0 hx rfl⟩ | with_reducible exact ⟨_, _, rfl, newEnt_4 wr _ x z1 tt 0 0 hx rfl⟩ | with_reducible exact ⟨_, _, rfl, newEnt_5 wr _ x z1 tt 0 0 hx rfl⟩ | with_reducible exact ⟨_, _, rfl, newEnt_6 wr _ x z1 tt 0 0 hx rfl⟩
        case rest =>
          obtain ⟨db, xb, rfl, hne⟩ := hcut
          have HNE : Hid (NewEnt wr wc db xb x z1 tt 0) := hne
          obtain ⟨e0, e1, e2, e3, _, _, _, _⟩ := hne.box
          have KP : Hid (∀ X, Fr (fun _ => False) wc X → Calls Try.prog 15 #[.pointer (some ⟨gb, 0, none⟩), .int .u64 (tt : Int), .int .u8 0, .slice (some ⟨db, 0, none⟩) 2 2] X fun r w8 => r = .returned (.int .u64 (z1 : Int)) ∧ PutAt w gb sb nb nt n ms x z1 tt 0 db xb av cv w8) := fun X fX =>
            HREL.out.next (HNE.out.go fX) (by rw [Hz1.out, Hzz.out]) (by omega) (by decide : (0 : Nat) < 2) hms hnb
          have hzb : ((z1 : Int) == (z1 : Int)) = true := by simp
          clear hne KT
          go_wp2_with fail
          go_cut [79] from 40 to 83 (fun s wy => s = .bool false ∧ PutAt w gb sb nb nt n ms x z1 tt 0 db xb av cv wy)
          case first =>
            have r0 : Hid (wc.cell? ⟨xb, 0, none⟩ = some (.int .u64 (z1 : Int)) ∧ wc.cell? ⟨xb, 1, none⟩ = some (.int .u64 (tt : Int)) ∧ wc.cell? ⟨xb, 2, none⟩ = some (.int .u8 0) ∧ wc.cell? ⟨xb, 3, none⟩ = some (.slice (some ⟨db, 0, none⟩) 2 2)) := ⟨e0, e1, e2, e3⟩
            have r1 : Hid (wc.drew.cell? ⟨xb, 0, none⟩ = some (.int .u64 (z1 : Int)) ∧ wc.drew.cell? ⟨xb, 1, none⟩ = some (.int .u64 (tt : Int)) ∧ wc.drew.cell? ⟨xb, 2, none⟩ = some (.int .u8 0) ∧ wc.drew.cell? ⟨xb, 3, none⟩ = some (.slice (some ⟨db, 0, none⟩) 2 2)) := ⟨e0, e1, e2, e3⟩
            have r2 : Hid (∀ m, (wc.drewN m).cell? ⟨xb, 0, none⟩ = some (.int .u64 (z1 : Int)) ∧ (wc.drewN m).cell? ⟨xb, 1, none⟩ = some (.int .u64 (tt : Int)) ∧ (wc.drewN m).cell? ⟨xb, 2, none⟩ = some (.int .u8 0) ∧ (wc.drewN m).cell? ⟨xb, 3, none⟩ = some (.slice (some ⟨db, 0, none⟩) 2 2)) := fun m => ⟨e0, e1, e2, e3⟩
            go_region_held3 (fun w' => w'.cell? ⟨xb, 0, none⟩ = some (.int .u64 (z1 : Int)) ∧ w'.cell? ⟨xb, 1, none⟩ = some (.int .u64 (tt : Int)) ∧ w'.cell? ⟨xb, 2, none⟩ = some (.int .u8 0) ∧ w'.cell? ⟨xb, 3, none⟩ = some (.slice (some ⟨db, 0, none⟩) 2 2)) (first | with_reducible exact r0.out | with_reducible exact r1.out | with_reducible exact r2.out _ | with_reducible exact s0.out | with_reducible exact s1.out | with_reducible exact s2.out _ | go_keep) ((go_at_call 15; refine (KP.out _ (by first | with_reducible exact Fr.refl _ _ | with_reducible exact (Fr.refl (fun _ => False) wc).drew | with_reducible exact (Fr.refl (fun _ => False) wc).drewN _)).mono ?_; rintro e w8 ⟨rfl, h8⟩; have H8 : Hid (PutAt w gb sb nb nt n ms x z1 tt 0 db xb av cv w8) := h8; have s0 : Hid (w8.cell? ⟨xb, 0, none⟩ = some (.int .u64 (z1 : Int)) ∧ w8.cell? ⟨xb, 1, none⟩ = some (.int .u64 (tt : Int)) ∧ w8.cell? ⟨xb, 2, none⟩ = some (.int .u8 0) ∧ w8.cell? ⟨xb, 3, none⟩ = some (.slice (some ⟨db, 0, none⟩) 2 2)) := ⟨h8.1.c0, h8.1.c1, h8.1.c2, h8.1.c3⟩; have s1 : Hid (w8.drew.cell? ⟨xb, 0, none⟩ = some (.int .u64 (z1 : Int)) ∧ w8.drew.cell? ⟨xb, 1, none⟩ = some (.int .u64 (tt : Int)) ∧ w8.drew.cell? ⟨xb, 2, none⟩ = some (.int .u8 0) ∧ w8.drew.cell? ⟨xb, 3, none⟩ = some (.slice (some ⟨db, 0, none⟩) 2 2)) := ⟨h8.1.c0, h8.1.c1, h8.1.c2, h8.1.c3⟩; have s2 : Hid (∀ m, (w8.drewN m).cell? ⟨xb, 0, none⟩ = some (.int .u64 (z1 : Int)) ∧ (w8.drewN m).cell? ⟨xb, 1, none⟩ = some (.int .u64 (tt : Int)) ∧ (w8.drewN m).cell? ⟨xb, 2, none⟩ = some (.int .u8 0) ∧ (w8.drewN m).cell? ⟨xb, 3, none⟩ = some (.slice (some ⟨db, 0, none⟩) 2 2)) := fun m => ⟨h8.1.c0, h8.1.c1, h8.1.c2, h8.1.c3⟩; clear h8))
            all_goals
              go_wp2_with fail
              go_meet
              first | with_reducible exact ⟨rfl, H8.out⟩ | exact ⟨rfl, H8.out.go ((Fr.refl _ _).drewN _)⟩ | exact ⟨rfl, H8.out.go ((Fr.refl _ _).drew)⟩
          case rest =>
            obtain ⟨rfl, hat⟩ := hcut
            rename World => wd
            obtain ⟨g0, g1, g2, g3, _, _, _, _⟩ := hat.1
            obtain ⟨a9, c9, w9, DL2, DG2, ys9, v9, hrun, hrel9⟩ := hat.2 wd (Fr.refl _ _)
            have HRun : Hid (_ = Result.ok (Value.slice a9 (ms.length + 1) c9) w9) := hrun
            have HREL9 : Hid (PutRel _ _ _ _ _ _ _ _ _ _ _ _ _ _) := hrel9
            clear hat hrun hrel9 KP HNE
            go_wp2_with (at_builtin; refine wpList_append_eq rfl (.tmp 80) (.tmp 82) 28 rfl HRun.out rfl rfl ?_)
            go_wp2
            go_roundw
            case rel => exact ⟨k + 1, ms ++ [⟨z1, tt, 0, [x, 1], some ⟨db, 0, none⟩, 2⟩], ys9, v9, a9, c9, DL2, DG2, by omega, by go_num, by simp, HREL9.out, by simp; have := HML.out; omega, by rw [lastT_end]; show tt ≤ _; omega⟩
            case measure => simp [intOf]; omega
      · have k2 : ¬ (k : Int) < (more.length : Int) := by omega
        have KLk : Hid (Calls Try.prog 13 #[.pointer (some ⟨gb, 0, none⟩), .agg #[.int .u64 (nb : Int), .int .u64 (nt : Int), .int .u64 (n : Int), .slice none 0 0], .slice av ms.length cv] wr fun e w' => e = .returned (.bool true) ∧ Fr (fun _ => False) wr w') :=
          look_any HREL.out.log av ms cv _ _ HREL.out.own.erow HREL.out.same.symm (fun q hq => by
            have h1 := congrArg (fun p => p.1) (p_get HREL.out.same q (by rw [← HYL2.out]; exact hq))
            exact Eq.trans h1 (HREL.out.ix q (by rw [← HYL2.out]; exact hq))) (by rw [HYL2.out]; omega) (fun y hy => by
            obtain ⟨q, hq, rfl⟩ := mem_getD hy
            have h1 := congrArg (fun p => p.2.2.2) (p_get HREL.out.same q (by rw [← HYL2.out]; exact hq))
            have e : (ys2.getD q default).d = (ms.getD q default).d := h1
            rw [e]
            exact HREL.out.dl _ (getD_mem (by rw [← HYL2.out]; exact hq))) none 0 0
        go_wp2_with fail
        refine KLk.out.mono ?_
        rintro e w9 ⟨rfl, f9⟩
        go_wp2
        go_ret
        exact ⟨rfl, HREL.out.fr.trans f9⟩
  | true =>
    have HK0 : Hid (kd = 1) := by have := HKD.out; show _ = _; simpa using this
    have hk0 := HK0.out
    go_wp2_with fail
    clear hk0
    go_loopw [12, 16] (fun t12 t16 wr => ∃ (k : Nat) (ms ys : List En) (v : Value) (av : Option Addr) (cv : Nat) (DL DG : Nat → Prop), k ≤ more.length ∧ t16 = .int .i64 (k : Int) ∧ t12 = .slice av ms.length cv ∧ PutRel w wr gb sb nb nt n DL DG ms ys v av cv ∧ ms.length = es.length + k ∧ lastT nt ms ≤ 100 + k) (fun _ t16 _ => more.length - (intOf t16).toNat)
    case atStart =>
      refine ⟨0, es, ys, v, ao, cap, (fun k => W.heap.size ≤ k ∧ k < w3.heap.size), (fun k => (w3.heap.size ≤ k ∧ k ≠ gb) ∧ k < w4.heap.size), Nat.zero_le _, rfl, rfl, ⟨HO4.out, ⟨HG.out.c0, HG.out.c1, HG.out.c2, HG.out.c3, HG.out.z0, HG.out.z1, HG.out.z2, HG.out.z3, HG.out.own.mono (fun k hk h => ⟨h, hk⟩), fun h => h.1.2 rfl, HG.out.b0, HG.out.b1, HG.out.b2⟩, HYP.out, fun q hq => ents_ix HPE.out q hq, ents_d HPE.out, BX.out, F4.out, ?_, ?_, ?_⟩, by omega, HLT.out⟩
      · intro k h; have := HWs.out; have := hsbW.out; have := HGB.out; have := HG.out.lt; omega
      · intro k h; have := HWs.out; have := hsbW.out; have := HW3s.out; have := HGB.out; omega
      · have := HWs.out; have := hsbW.out; have := HW3s.out; have := HGB.out; omega
    case round =>
      obtain ⟨k, ms, ys2, v2, av, cv, DL, DG, hk, rfl, rfl, hrel, hml, htl⟩ := hrel
      have HREL : Hid (PutRel w wr gb sb nb nt n DL DG ms ys2 v2 av cv) := hrel
      have hmlen := hrel.own.form
      obtain ⟨tl, Htl⟩ : ∃ tl, Hid (lastT nt ms = tl) := ⟨_, rfl⟩
      rw [Htl.out] at htl
      have hms : ms.length ≤ 60 := by omega
      have HML : Hid (ms.length = es.length + k) := hml
      obtain ⟨p0, p1, p2, p3, _, _, _⟩ := hrel.bx
      have hyl : ys2.length = ms.length := by simpa using congrArg List.length hrel.same
      have HYL2 : Hid (ys2.length = ms.length) := hyl
      clear hrel hmlen hml hyl
      by_cases hlt : k < more.length
      · obtain ⟨b3, o3, x, rfl, hx, hc3, Hx3⟩ := (HREL.out.fr.row HR3.out (by simp)).at hlt
        have k1 : (0 : Int) ≤ (k : Int) := by omega
        have k2 : (k : Int) < (more.length : Int) := by omega
        obtain ⟨zz, ezz, Hzz⟩ : ∃ zz : Nat, (nb : Int) + (ms.length : Int) = (zz : Int) ∧ Hid (zz = nb + ms.length) := ⟨nb + ms.length, by omega, rfl⟩
        have hzz : zz ≤ 100 := by rw [Hzz.out]; omega
        obtain ⟨z1, ez1, Hz1⟩ : ∃ z1 : Nat, (zz : Int) + 1 = (z1 : Int) ∧ Hid (z1 = zz + 1) := ⟨zz + 1, by omega, rfl⟩
        have hz1 : z1 ≤ 101 := by rw [Hz1.out]; omega
        obtain ⟨x2, ex2, Hx2⟩ : ∃ x2 : Nat, (x : Int) % 2 = (x2 : Int) ∧ Hid (x2 = x % 2) := ⟨x % 2, by omega, rfl⟩
        have hx2 : x2 ≤ 1 := by rw [Hx2.out]; omega
        obtain ⟨tt, ett, Htt⟩ : ∃ tt : Nat, (tl : Int) + (x2 : Int) = (tt : Int) ∧ Hid (tt = tl + x2) := ⟨tl + x2, by omega, rfl⟩
        have htt : tt ≤ 101 + k := by rw [Htt.out]; omega
        have xm : (x : Int).tmod 2 = (x2 : Int) := by rw [Int.tmod_eq_emod_of_nonneg (by omega)]; exact ex2
        have wA : IntKind.u64.wrap (zz : Int) = (zz : Int) := wrap_u64_small _ (by omega) (by omega)
        have wB : IntKind.u64.wrap (z1 : Int) = (z1 : Int) := wrap_u64_small _ (by omega) (by omega)
        have wC : IntKind.u64.wrap (x2 : Int) = (x2 : Int) := wrap_u64_small _ (by omega) (by omega)
        have wD : IntKind.u64.wrap (tt : Int) = (tt : Int) := wrap_u64_small _ (by omega) (by omega)
        have wE : IntKind.u64.wrap (ms.length : Int) = (ms.length : Int) := wrap_u64_small _ (by omega) (by omega)
        have wF : IntKind.u8.wrap (x2 : Int) = (x2 : Int) := wrap_u8_small _ (by omega) (by omega)
        have KT : Hid (∀ X, Fr (fun _ => False) wr X → Calls Try.prog 14 #[.pointer (some ⟨gb, 0, none⟩)] X fun e w' => e = .returned (.int .u64 (tl : Int)) ∧ ∃ m, w' = X.drewN m) := fun X fX => by
          have := lastTerm_any (HREL.out.log.fr fX (by simp) (by simp)) (by rw [HYL2.out]; omega)
          rw [lastT_p HREL.out.same, Htl.out] at this
          exact this
        go_wp2_with fail
        go_cut [17] from 40 to 83 (fun s wx => ∃ db xb, s = .pointer (some ⟨xb, 0, none⟩) ∧ NewEnt wr wx db xb x z1 tt 1)
        case first =>
          have al0 : ∀ m, ((wr.drewN m).alloc (.cells #[.int .u64 0, .int .u64 0, .int .u8 0, .slice none 0 0] 36)).cell? ⟨wr.heap.size, 0, none⟩ = some (.int .u64 0) := fun m => cell_of_row _ wr.heap.size 0 _ 36 (0, 0) (heap_alloc_new (wr.drewN m) _)
          have am0 : (wr.drew.alloc (.cells #[.int .u64 0, .int .u64 0, .int .u8 0, .slice none 0 0] 36)).cell? ⟨wr.heap.size, 0, none⟩ = some (.int .u64 0) := cell_of_row _ wr.heap.size 0 _ 36 (0, 0) (heap_alloc_new wr.drew _)
          have al1 : ∀ m, ((wr.drewN m).alloc (.cells #[.int .u64 0, .int .u64 0, .int .u8 0, .slice none 0 0] 36)).cell? ⟨wr.heap.size, 1, none⟩ = some (.int .u64 0) := fun m => cell_of_row _ wr.heap.size 1 _ 36 (0, 0) (heap_alloc_new (wr.drewN m) _)
          have am1 : (wr.drew.alloc (.cells #[.int .u64 0, .int .u64 0, .int .u8 0, .slice none 0 0] 36)).cell? ⟨wr.heap.size, 1, none⟩ = some (.int .u64 0) := cell_of_row _ wr.heap.size 1 _ 36 (0, 0) (heap_alloc_new wr.drew _)
          have al2 : ∀ m, ((wr.drewN m).alloc (.cells #[.int .u64 0, .int .u64 0, .int .u8 0, .slice none 0 0] 36)).cell? ⟨wr.heap.size, 2, none⟩ = some (.int .u8 0) := fun m => cell_of_row _ wr.heap.size 2 _ 36 (0, 0) (heap_alloc_new (wr.drewN m) _)
          have am2 : (wr.drew.alloc (.cells #[.int .u64 0, .int .u64 0, .int .u8 0, .slice none 0 0] 36)).cell? ⟨wr.heap.size, 2, none⟩ = some (.int .u8 0) := cell_of_row _ wr.heap.size 2 _ 36 (0, 0) (heap_alloc_new wr.drew _)
          have al3 : ∀ m, ((wr.drewN m).alloc (.cells #[.int .u64 0, .int .u64 0, .int .u8 0, .slice none 0 0] 36)).cell? ⟨wr.heap.size, 3, none⟩ = some (.slice none 0 0) := fun m => cell_of_row _ wr.heap.size 3 _ 36 (0, 0) (heap_alloc_new (wr.drewN m) _)
          have am3 : (wr.drew.alloc (.cells #[.int .u64 0, .int .u64 0, .int .u8 0, .slice none 0 0] 36)).cell? ⟨wr.heap.size, 3, none⟩ = some (.slice none 0 0) := cell_of_row _ wr.heap.size 3 _ 36 (0, 0) (heap_alloc_new wr.drew _)
          have af0 : ∀ m, ((wr.drewN m).alloc (.cells #[.int .u64 0, .int .u64 0, .int .u8 0, .slice none 0 0] 36)).frozen? ⟨wr.heap.size, 0, none⟩ = false := fun m => by have := heap_alloc_new (wr.drewN m) (.cells #[.int .u64 0, .int .u64 0, .int .u8 0, .slice none 0 0] 36); simp only [World.frozen?]; rw [show ((wr.drewN m).alloc (.cells #[.int .u64 0, .int .u64 0, .int .u8 0, .slice none 0 0] 36)).heap[wr.heap.size]? = _ from this]; simp
          have ag0 : (wr.drew.alloc (.cells #[.int .u64 0, .int .u64 0, .int .u8 0, .slice none 0 0] 36)).frozen? ⟨wr.heap.size, 0, none⟩ = false := af0 1
          have af1 : ∀ m, ((wr.drewN m).alloc (.cells #[.int .u64 0, .int .u64 0, .int .u8 0, .slice none 0 0] 36)).frozen? ⟨wr.heap.size, 1, none⟩ = false := fun m => by have := heap_alloc_new (wr.drewN m) (.cells #[.int .u64 0, .int .u64 0, .int .u8 0, .slice none 0 0] 36); simp only [World.frozen?]; rw [show ((wr.drewN m).alloc (.cells #[.int .u64 0, .int .u64 0, .int .u8 0, .slice none 0 0] 36)).heap[wr.heap.size]? = _ from this]; simp
          have ag1 : (wr.drew.alloc (.cells #[.int .u64 0, .int .u64 0, .int .u8 0, .slice none 0 0] 36)).frozen? ⟨wr.heap.size, 1, none⟩ = false := af1 1
          have af2 : ∀ m, ((wr.drewN m).alloc (.cells #[.int .u64 0, .int .u64 0, .int .u8 0, .slice none 0 0] 36)).frozen? ⟨wr.heap.size, 2, none⟩ = false := fun m => by have := heap_alloc_new (wr.drewN m) (.cells #[.int .u64 0, .int .u64 0, .int .u8 0, .slice none 0 0] 36); simp only [World.frozen?]; rw [show ((wr.drewN m).alloc (.cells #[.int .u64 0, .int .u64 0, .int .u8 0, .slice none 0 0] 36)).heap[wr.heap.size]? = _ from this]; simp
          have ag2 : (wr.drew.alloc (.cells #[.int .u64 0, .int .u64 0, .int .u8 0, .slice none 0 0] 36)).frozen? ⟨wr.heap.size, 2, none⟩ = false := af2 1
          have af3 : ∀ m, ((wr.drewN m).alloc (.cells #[.int .u64 0, .int .u64 0, .int .u8 0, .slice none 0 0] 36)).frozen? ⟨wr.heap.size, 3, none⟩ = false := fun m => by have := heap_alloc_new (wr.drewN m) (.cells #[.int .u64 0, .int .u64 0, .int .u8 0, .slice none 0 0] 36); simp only [World.frozen?]; rw [show ((wr.drewN m).alloc (.cells #[.int .u64 0, .int .u64 0, .int .u8 0, .slice none 0 0] 36)).heap[wr.heap.size]? = _ from this]; simp
          have ag3 : (wr.drew.alloc (.cells #[.int .u64 0, .int .u64 0, .int .u8 0, .slice none 0 0] 36)).frozen? ⟨wr.heap.size, 3, none⟩ = false := af3 1
          have ne1 := World.new_ne wr _ p0
          have ne2 := World.new_ne wr _ hc3
          have kb0 : Hid (∀ m, (wr.drewN m).cell? ⟨b3, o3 + k, none⟩ = some (.int .u8 (x : Int))) := fun m => hc3
          have kbd : Hid (wr.drew.cell? ⟨b3, o3 + k, none⟩ = some (.int .u8 (x : Int))) := hc3
          have kb1 : Hid (∀ m o, ((wr.drewN m).alloc o).cell? ⟨b3, o3 + k, none⟩ = some (.int .u8 (x : Int))) := fun m o => (((Fr.refl (fun _ => False) wr).drewN m).alloc o).cell hc3 (by simp)
          have kbe : Hid (∀ o, (wr.drew.alloc o).cell? ⟨b3, o3 + k, none⟩ = some (.int .u8 (x : Int))) := fun o => (((Fr.refl (fun _ => False) wr).drew).alloc o).cell hc3 (by simp)
          have kb2 : Hid (∀ m o o', (((wr.drewN m).alloc o).alloc o').cell? ⟨b3, o3 + k, none⟩ = some (.int .u8 (x : Int))) := fun m o o' => ((((Fr.refl (fun _ => False) wr).drewN m).alloc o).alloc o').cell hc3 (by simp)
          have kbf : Hid (∀ o o', ((wr.drew.alloc o).alloc o').cell? ⟨b3, o3 + k, none⟩ = some (.int .u8 (x : Int))) := fun o o' => ((((Fr.refl (fun _ => False) wr).drew).alloc o).alloc o').cell hc3 (by simp)
          have kb3 : Hid (∀ m a b c d, (((((((wr.drewN m).alloc (.cells #[.int .u64 0, .int .u64 0, .int .u8 0, .slice none 0 0] 36)).alloc (.cells #[.int .u8 (x : Int), .int .u8 1] 5)).setCell ⟨wr.heap.size, 0, none⟩ a).setCell ⟨wr.heap.size, 1, none⟩ b).setCell ⟨wr.heap.size, 2, none⟩ c).setCell ⟨wr.heap.size, 3, none⟩ d).cell? ⟨b3, o3 + k, none⟩ = some (.int .u8 (x : Int))) := fun m a b c d => ((((((((Fr.refl (fun k => k = wr.heap.size) wr).drewN m).alloc (.cells #[.int .u64 0, .int .u64 0, .int .u8 0, .slice none 0 0] 36)).alloc (.cells #[.int .u8 (x : Int), .int .u8 1] 5)).setCell (p := ⟨wr.heap.size, 0, none⟩) (Or.inl rfl) a).setCell (p := ⟨wr.heap.size, 1, none⟩) (Or.inl rfl) b).setCell (p := ⟨wr.heap.size, 2, none⟩) (Or.inl rfl) c).setCell (p := ⟨wr.heap.size, 3, none⟩) (Or.inl rfl) d).cell hc3 (fun e => ne2 e.symm)
          have ks0 : Hid (∀ m, (wr.drewN m).cell? ⟨sb, 0, none⟩ = some (.int .u64 (nb : Int))) := fun m => p0
          have ksd : Hid (wr.drew.cell? ⟨sb, 0, none⟩ = some (.int .u64 (nb : Int))) := p0
          have ks1 : Hid (∀ m o, ((wr.drewN m).alloc o).cell? ⟨sb, 0, none⟩ = some (.int .u64 (nb : Int))) := fun m o => (((Fr.refl (fun _ => False) wr).drewN m).alloc o).cell p0 (by simp)
          have kse : Hid (∀ o, (wr.drew.alloc o).cell? ⟨sb, 0, none⟩ = some (.int .u64 (nb : Int))) := fun o => (((Fr.refl (fun _ => False) wr).drew).alloc o).cell p0 (by simp)
          have ks2 : Hid (∀ m o o', (((wr.drewN m).alloc o).alloc o').cell? ⟨sb, 0, none⟩ = some (.int .u64 (nb : Int))) := fun m o o' => ((((Fr.refl (fun _ => False) wr).drewN m).alloc o).alloc o').cell p0 (by simp)
          have ksf : Hid (∀ o o', ((wr.drew.alloc o).alloc o').cell? ⟨sb, 0, none⟩ = some (.int .u64 (nb : Int))) := fun o o' => ((((Fr.refl (fun _ => False) wr).drew).alloc o).alloc o').cell p0 (by simp)
          have ks3 : Hid (∀ m a b c d, (((((((wr.drewN m).alloc (.cells #[.int .u64 0, .int .u64 0, .int .u8 0, .slice none 0 0] 36)).alloc (.cells #[.int .u8 (x : Int), .int .u8 1] 5)).setCell ⟨wr.heap.size, 0, none⟩ a).setCell ⟨wr.heap.size, 1, none⟩ b).setCell ⟨wr.heap.size, 2, none⟩ c).setCell ⟨wr.heap.size, 3, none⟩ d).cell? ⟨sb, 0, none⟩ = some (.int .u64 (nb : Int))) := fun m a b c d => ((((((((Fr.refl (fun k => k = wr.heap.size) wr).drewN m).alloc (.cells #[.int .u64 0, .int .u64 0, .int .u8 0, .slice none 0 0] 36)).alloc (.cells #[.int .u8 (x : Int), .int .u8 1] 5)).setCell (p := ⟨wr.heap.size, 0, none⟩) (Or.inl rfl) a).setCell (p := ⟨wr.heap.size, 1, none⟩) (Or.inl rfl) b).setCell (p := ⟨wr.heap.size, 2, none⟩) (Or.inl rfl) c).setCell (p := ⟨wr.heap.size, 3, none⟩) (Or.inl rfl) d).cell p0 (fun e => ne1 e.symm)
          have kbg : Hid (∀ o, (wr.alloc o).cell? ⟨b3, o3 + k, none⟩ = some (.int .u8 (x : Int))) := fun o => ((Fr.refl (fun _ => False) wr).alloc o).cell hc3 (by simp)
          have kbh : Hid (∀ o m, ((wr.alloc o).drewN m).cell? ⟨b3, o3 + k, none⟩ = some (.int .u8 (x : Int))) := fun o m => ((Fr.refl (fun _ => False) wr).alloc o).cell hc3 (by simp)
          have kbi : Hid (∀ o, ((wr.alloc o).drew).cell? ⟨b3, o3 + k, none⟩ = some (.int .u8 (x : Int))) := fun o => ((Fr.refl (fun _ => False) wr).alloc o).cell hc3 (by simp)
          have kbj : Hid (∀ o o', ((wr.alloc o).alloc o').drew.cell? ⟨b3, o3 + k, none⟩ = some (.int .u8 (x : Int))) := fun o o' => (((Fr.refl (fun _ => False) wr).alloc o).alloc o').cell hc3 (by simp)
          have kbk : Hid (∀ o o' m, (((wr.alloc o).alloc o').drewN m).cell? ⟨b3, o3 + k, none⟩ = some (.int .u8 (x : Int))) := fun o o' m => (((Fr.refl (fun _ => False) wr).alloc o).alloc o').cell hc3 (by simp)
          have kbl : Hid (∀ o m o', (((wr.alloc o).drewN m).alloc o').cell? ⟨b3, o3 + k, none⟩ = some (.int .u8 (x : Int))) := fun o m o' => ((((Fr.refl (fun _ => False) wr).alloc o).drewN m).alloc o').cell hc3 (by simp)
          have kbm : Hid (∀ m a b c d, (((((((wr.alloc (.cells #[.int .u64 0, .int .u64 0, .int .u8 0, .slice none 0 0] 36)).alloc (.cells #[.int .u8 (x : Int), .int .u8 1] 5)).drewN m).setCell ⟨wr.heap.size, 0, none⟩ a).setCell ⟨wr.heap.size, 1, none⟩ b).setCell ⟨wr.heap.size, 2, none⟩ c).setCell ⟨wr.heap.size, 3, none⟩ d).cell? ⟨b3, o3 + k, none⟩ = some (.int .u8 (x : Int))) := fun m a b c d => ((((((((Fr.refl (fun k => k = wr.heap.size) wr).alloc (.cells #[.int .u64 0, .int .u64 0, .int .u8 0, .slice none 0 0] 36)).alloc (.cells #[.int .u8 (x : Int), .int .u8 1] 5)).drewN m).setCell (p := ⟨wr.heap.size, 0, none⟩) (Or.inl rfl) a).setCell (p := ⟨wr.heap.size, 1, none⟩) (Or.inl rfl) b).setCell (p := ⟨wr.heap.size, 2, none⟩) (Or.inl rfl) c).setCell (p := ⟨wr.heap.size, 3, none⟩) (Or.inl rfl) d).cell hc3 (fun e => by have : b3 < wr.heap.size := World.block_lt_of_cell? _ _ hc3; have e' : b3 = wr.heap.size := e; omega)
          have kbn : Hid (∀ m a b c d, (((((((wr.alloc (.cells #[.int .u8 (x : Int), .int .u8 1] 5)).alloc (.cells #[.int .u64 0, .int .u64 0, .int .u8 0, .slice none 0 0] 36)).drewN m).setCell ⟨wr.heap.size + 1, 0, none⟩ a).setCell ⟨wr.heap.size + 1, 1, none⟩ b).setCell ⟨wr.heap.size + 1, 2, none⟩ c).setCell ⟨wr.heap.size + 1, 3, none⟩ d).cell? ⟨b3, o3 + k, none⟩ = some (.int .u8 (x : Int))) := fun m a b c d => ((((((((Fr.refl (fun k => k = wr.heap.size + 1) wr).alloc (.cells #[.int .u8 (x : Int), .int .u8 1] 5)).alloc (.cells #[.int .u64 0, .int .u64 0, .int .u8 0, .slice none 0 0] 36)).drewN m).setCell (p := ⟨wr.heap.size + 1, 0, none⟩) (Or.inl rfl) a).setCell (p := ⟨wr.heap.size + 1, 1, none⟩) (Or.inl rfl) b).setCell (p := ⟨wr.heap.size + 1, 2, none⟩) (Or.inl rfl) c).setCell (p := ⟨wr.heap.size + 1, 3, none⟩) (Or.inl rfl) d).cell hc3 (fun e => by have : b3 < wr.heap.size := World.block_lt_of_cell? _ _ hc3; have e' : b3 = wr.heap.size + 1 := e; omega)
          have kbo : Hid (∀ m a b c d, (((((((wr.alloc (.cells #[.int .u64 0, .int .u64 0, .int .u8 0, .slice none 0 0] 36)).drewN m).alloc (.cells #[.int .u8 (x : Int), .int .u8 1] 5)).setCell ⟨wr.heap.size, 0, none⟩ a).setCell ⟨wr.heap.size, 1, none⟩ b).setCell ⟨wr.heap.size, 2, none⟩ c).setCell ⟨wr.heap.size, 3, none⟩ d).cell? ⟨b3, o3 + k, none⟩ = some (.int .u8 (x : Int))) := fun m a b c d => ((((((((Fr.refl (fun k => k = wr.heap.size) wr).alloc (.cells #[.int .u64 0, .int .u64 0, .int .u8 0, .slice none 0 0] 36)).drewN m).alloc (.cells #[.int .u8 (x : Int), .int .u8 1] 5)).setCell (p := ⟨wr.heap.size, 0, none⟩) (Or.inl rfl) a).setCell (p := ⟨wr.heap.size, 1, none⟩) (Or.inl rfl) b).setCell (p := ⟨wr.heap.size, 2, none⟩) (Or.inl rfl) c).setCell (p := ⟨wr.heap.size, 3, none⟩) (Or.inl rfl) d).cell hc3 (fun e => by have : b3 < wr.heap.size := World.block_lt_of_cell? _ _ hc3; have e' : b3 = wr.heap.size := e; omega)
          have kbp : Hid (∀ m a b c d, (((((((wr.drewN m).alloc (.cells #[.int .u8 (x : Int), .int .u8 1] 5)).alloc (.cells #[.int .u64 0, .int .u64 0, .int .u8 0, .slice none 0 0] 36)).setCell ⟨wr.heap.size + 1, 0, none⟩ a).setCell ⟨wr.heap.size + 1, 1, none⟩ b).setCell ⟨wr.heap.size + 1, 2, none⟩ c).setCell ⟨wr.heap.size + 1, 3, none⟩ d).cell? ⟨b3, o3 + k, none⟩ = some (.int .u8 (x : Int))) := fun m a b c d => ((((((((Fr.refl (fun k => k = wr.heap.size + 1) wr).drewN m).alloc (.cells #[.int .u8 (x : Int), .int .u8 1] 5)).alloc (.cells #[.int .u64 0, .int .u64 0, .int .u8 0, .slice none 0 0] 36)).setCell (p := ⟨wr.heap.size + 1, 0, none⟩) (Or.inl rfl) a).setCell (p := ⟨wr.heap.size + 1, 1, none⟩) (Or.inl rfl) b).setCell (p := ⟨wr.heap.size + 1, 2, none⟩) (Or.inl rfl) c).setCell (p := ⟨wr.heap.size + 1, 3, none⟩) (Or.inl rfl) d).cell hc3 (fun e => by have : b3 < wr.heap.size := World.block_lt_of_cell? _ _ hc3; have e' : b3 = wr.heap.size + 1 := e; omega)
          have kbq : Hid (∀ m a b c d, (((((((wr.alloc (.cells #[.int .u8 (x : Int), .int .u8 1] 5)).drewN m).alloc (.cells #[.int .u64 0, .int .u64 0, .int .u8 0, .slice none 0 0] 36)).setCell ⟨wr.heap.size + 1, 0, none⟩ a).setCell ⟨wr.heap.size + 1, 1, none⟩ b).setCell ⟨wr.heap.size + 1, 2, none⟩ c).setCell ⟨wr.heap.size + 1, 3, none⟩ d).cell? ⟨b3, o3 + k, none⟩ = some (.int .u8 (x : Int))) := fun m a b c d => ((((((((Fr.refl (fun k => k = wr.heap.size + 1) wr).alloc (.cells #[.int .u8 (x : Int), .int .u8 1] 5)).drewN m).alloc (.cells #[.int .u64 0, .int .u64 0, .int .u8 0, .slice none 0 0] 36)).setCell (p := ⟨wr.heap.size + 1, 0, none⟩) (Or.inl rfl) a).setCell (p := ⟨wr.heap.size + 1, 1, none⟩) (Or.inl rfl) b).setCell (p := ⟨wr.heap.size + 1, 2, none⟩) (Or.inl rfl) c).setCell (p := ⟨wr.heap.size + 1, 3, none⟩) (Or.inl rfl) d).cell hc3 (fun e => by have : b3 < wr.heap.size := World.block_lt_of_cell? _ _ hc3; have e' : b3 = wr.heap.size + 1 := e; omega)
          have ksg : Hid (∀ o, (wr.alloc o).cell? ⟨sb, 0, none⟩ = some (.int .u64 (nb : Int))) := fun o => ((Fr.refl (fun _ => False) wr).alloc o).cell p0 (by simp)
          have ksh : Hid (∀ o m, ((wr.alloc o).drewN m).cell? ⟨sb, 0, none⟩ = some (.int .u64 (nb : Int))) := fun o m => ((Fr.refl (fun _ => False) wr).alloc o).cell p0 (by simp)
          have ksi : Hid (∀ o, ((wr.alloc o).drew).cell? ⟨sb, 0, none⟩ = some (.int .u64 (nb : Int))) := fun o => ((Fr.refl (fun _ => False) wr).alloc o).cell p0 (by simp)
          have ksj : Hid (∀ o o', ((wr.alloc o).alloc o').drew.cell? ⟨sb, 0, none⟩ = some (.int .u64 (nb : Int))) := fun o o' => (((Fr.refl (fun _ => False) wr).alloc o).alloc o').cell p0 (by simp)
          have ksk : Hid (∀ o o' m, (((wr.alloc o).alloc o').drewN m).cell? ⟨sb, 0, none⟩ = some (.int .u64 (nb : Int))) := fun o o' m => (((Fr.refl (fun _ => False) wr).alloc o).alloc o').cell p0 (by simp)
          have ksl : Hid (∀ o m o', (((wr.alloc o).drewN m).alloc o').cell? ⟨sb, 0, none⟩ = some (.int .u64 (nb : Int))) := fun o m o' => ((((Fr.refl (fun _ => False) wr).alloc o).drewN m).alloc o').cell p0 (by simp)
          have ksm : Hid (∀ m a b c d, (((((((wr.alloc (.cells #[.int .u64 0, .int .u64 0, .int .u8 0, .slice none 0 0] 36)).alloc (.cells #[.int .u8 (x : Int), .int .u8 1] 5)).drewN m).setCell ⟨wr.heap.size, 0, none⟩ a).setCell ⟨wr.heap.size, 1, none⟩ b).setCell ⟨wr.heap.size, 2, none⟩ c).setCell ⟨wr.heap.size, 3, none⟩ d).cell? ⟨sb, 0, none⟩ = some (.int .u64 (nb : Int))) := fun m a b c d => ((((((((Fr.refl (fun k => k = wr.heap.size) wr).alloc (.cells #[.int .u64 0, .int .u64 0, .int .u8 0, .slice none 0 0] 36)).alloc (.cells #[.int .u8 (x : Int), .int .u8 1] 5)).drewN m).setCell (p := ⟨wr.heap.size, 0, none⟩) (Or.inl rfl) a).setCell (p := ⟨wr.heap.size, 1, none⟩) (Or.inl rfl) b).setCell (p := ⟨wr.heap.size, 2, none⟩) (Or.inl rfl) c).setCell (p := ⟨wr.heap.size, 3, none⟩) (Or.inl rfl) d).cell p0 (fun e => by have : sb < wr.heap.size := World.block_lt_of_cell? _ _ p0; have e' : sb = wr.heap.size := e; omega)
          have ksn : Hid (∀ m a b c d, (((((((wr.alloc (.cells #[.int .u8 (x : Int), .int .u8 1] 5)).alloc (.cells #[.int .u64 0, .int .u64 0, .int .u8 0, .slice none 0 0] 36)).drewN m).setCell ⟨wr.heap.size + 1, 0, none⟩ a).setCell ⟨wr.heap.size + 1, 1, none⟩ b).setCell ⟨wr.heap.size + 1, 2, none⟩ c).setCell ⟨wr.heap.size + 1, 3, none⟩ d).cell? ⟨sb, 0, none⟩ = some (.int .u64 (nb : Int))) := fun m a b c d => ((((((((Fr.refl (fun k => k = wr.heap.size + 1) wr).alloc (.cells #[.int .u8 (x : Int), .int .u8 1] 5)).alloc (.cells #[.int .u64 0, .int .u64 0, .int .u8 0, .slice none 0 0] 36)).drewN m).setCell (p := ⟨wr.heap.size + 1, 0, none⟩) (Or.inl rfl) a).setCell (p := ⟨wr.heap.size + 1, 1, none⟩) (Or.inl rfl) b).setCell (p := ⟨wr.heap.size + 1, 2, none⟩) (Or.inl rfl) c).setCell (p := ⟨wr.heap.size + 1, 3, none⟩) (Or.inl rfl) d).cell p0 (fun e => by have : sb < wr.heap.size := World.block_lt_of_cell? _ _ p0; have e' : sb = wr.heap.size + 1 := e; omega)
          have kso : Hid (∀ m a b c d, (((((((wr.alloc (.cells #[.int .u64 0, .int .u64 0, .int .u8 0, .slice none 0 0] 36)).drewN m).alloc (.cells #[.int .u8 (x : Int), .int .u8 1] 5)).setCell ⟨wr.heap.size, 0, none⟩ a).setCell ⟨wr.heap.size, 1, none⟩ b).setCell ⟨wr.heap.size, 2, none⟩ c).setCell ⟨wr.heap.size, 3, none⟩ d).cell? ⟨sb, 0, none⟩ = some (.int .u64 (nb : Int))) := fun m a b c d => ((((((((Fr.refl (fun k => k = wr.heap.size) wr).alloc (.cells #[.int .u64 0, .int .u64 0, .int .u8 0, .slice none 0 0] 36)).drewN m).alloc (.cells #[.int .u8 (x : Int), .int .u8 1] 5)).setCell (p := ⟨wr.heap.size, 0, none⟩) (Or.inl rfl) a).setCell (p := ⟨wr.heap.size, 1, none⟩) (Or.inl rfl) b).setCell (p := ⟨wr.heap.size, 2, none⟩) (Or.inl rfl) c).setCell (p := ⟨wr.heap.size, 3, none⟩) (Or.inl rfl) d).cell p0 (fun e => by have : sb < wr.heap.size := World.block_lt_of_cell? _ _ p0; have e' : sb = wr.heap.size := e; omega)
          have ksp : Hid (∀ m a b c d, (((((((wr.drewN m).alloc (.cells #[.int .u8 (x : Int), .int .u8 1] 5)).alloc (.cells #[.int .u64 0, .int .u64 0, .int .u8 0, .slice none 0 0] 36)).setCell ⟨wr.heap.size + 1, 0, none⟩ a).setCell ⟨wr.heap.size + 1, 1, none⟩ b).setCell ⟨wr.heap.size + 1, 2, none⟩ c).setCell ⟨wr.heap.size + 1, 3, none⟩ d).cell? ⟨sb, 0, none⟩ = some (.int .u64 (nb : Int))) := fun m a b c d => ((((((((Fr.refl (fun k => k = wr.heap.size + 1) wr).drewN m).alloc (.cells #[.int .u8 (x : Int), .int .u8 1] 5)).alloc (.cells #[.int .u64 0, .int .u64 0, .int .u8 0, .slice none 0 0] 36)).setCell (p := ⟨wr.heap.size + 1, 0, none⟩) (Or.inl rfl) a).setCell (p := ⟨wr.heap.size + 1, 1, none⟩) (Or.inl rfl) b).setCell (p := ⟨wr.heap.size + 1, 2, none⟩) (Or.inl rfl) c).setCell (p := ⟨wr.heap.size + 1, 3, none⟩) (Or.inl rfl) d).cell p0 (fun e => by have : sb < wr.heap.size := World.block_lt_of_cell? _ _ p0; have e' : sb = wr.heap.size + 1 := e; omega)
          have ksq : Hid (∀ m a b c d, (((((((wr.alloc (.cells #[.int .u8 (x : Int), .int .u8 1] 5)).drewN m).alloc (.cells #[.int .u64 0, .int .u64 0, .int .u8 0, .slice none 0 0] 36)).setCell ⟨wr.heap.size + 1, 0, none⟩ a).setCell ⟨wr.heap.size + 1, 1, none⟩ b).setCell ⟨wr.heap.size + 1, 2, none⟩ c).setCell ⟨wr.heap.size + 1, 3, none⟩ d).cell? ⟨sb, 0, none⟩ = some (.int .u64 (nb : Int))) := fun m a b c d => ((((((((Fr.refl (fun k => k = wr.heap.size + 1) wr).alloc (.cells #[.int .u8 (x : Int), .int .u8 1] 5)).drewN m).alloc (.cells #[.int .u64 0, .int .u64 0, .int .u8 0, .slice none 0 0] 36)).setCell (p := ⟨wr.heap.size + 1, 0, none⟩) (Or.inl rfl) a).setCell (p := ⟨wr.heap.size + 1, 1, none⟩) (Or.inl rfl) b).setCell (p := ⟨wr.heap.size + 1, 2, none⟩) (Or.inl rfl) c).setCell (p := ⟨wr.heap.size + 1, 3, none⟩) (Or.inl rfl) d).cell p0 (fun e => by have : sb < wr.heap.size := World.block_lt_of_cell? _ _ p0; have e' : sb = wr.heap.size + 1 := e; omega)
          go_region_held3 (fun w' => w'.cell? ⟨sb, 0, none⟩ = some (.int .u64 (nb : Int)) ∧ w'.cell? ⟨b3, o3 + k, none⟩ = some (.int .u8 (x : Int))) (first | with_reducible exact ⟨ks0.out _, kb0.out _⟩ | with_reducible exact ⟨ksd.out, kbd.out⟩ | with_reducible exact ⟨ks1.out _ _, kb1.out _ _⟩ | with_reducible exact ⟨kse.out _, kbe.out _⟩ | with_reducible exact ⟨ks2.out _ _ _, kb2.out _ _ _⟩ | with_reducible exact ⟨ksf.out _ _, kbf.out _ _⟩ | with_reducible exact ⟨ks3.out _ _ _ _ _, kb3.out _ _ _ _ _⟩ | with_reducible exact ⟨ksg.out _, kbg.out _⟩ | with_reducible exact ⟨ksh.out _ _, kbh.out _ _⟩ | with_reducible exact ⟨ksi.out _, kbi.out _⟩ | with_reducible exact ⟨ksj.out _ _, kbj.out _ _⟩ | with_reducible exact ⟨ksk.out _ _ _, kbk.out _ _ _⟩ | with_reducible exact ⟨ksl.out _ _ _, kbl.out _ _ _⟩ | with_reducible exact ⟨ksm.out _ _ _ _ _, kbm.out _ _ _ _ _⟩ | with_reducible exact ⟨ksn.out _ _ _ _ _, kbn.out _ _ _ _ _⟩ | with_reducible exact ⟨kso.out _ _ _ _ _, kbo.out _ _ _ _ _⟩ | with_reducible exact ⟨ksp.out _ _ _ _ _, kbp.out _ _ _ _ _⟩ | with_reducible exact ⟨ksq.out _ _ _ _ _, kbq.out _ _ _ _ _⟩ | with_reducible exact ⟨p0, hc3⟩ | go_keep) ((go_at_call 14; refine (KT.out _ (by first | with_reducible exact (Fr.refl (fun _ => False) wr).drew | with_reducible exact ((Fr.refl (fun _ => False) wr).alloc _).drew | with_reducible exact (((Fr.refl (fun _ => False) wr).alloc _).alloc _).drew | with_reducible exact ((Fr.refl (fun _ => False) wr).drew).alloc _ | with_reducible exact (((Fr.refl (fun _ => False) wr).drew).alloc _).alloc _)).mono ?_; rintro e w7 ⟨rfl, n7, rfl⟩))
          all_goals
            go_wp2_with fail
            go_meet
            first | with_reducible exact ⟨_, _, rfl, newEnt_1 wr _ x z1 tt 1 1 hx rfl⟩ | with_reducible exact ⟨_, _, rfl, newEnt_2 wr _ x z1 tt 1 1 hx rfl⟩ | with_reducible exact ⟨_, _, rfl, newEnt_3 wr _ x z1 tt 1 1 hx rfl⟩ | with_reducible exact ⟨_, _, rfl, newEnt_4 wr _ x z1 tt 1 1 hx rfl⟩ | with_reducible exact ⟨_, _, rfl, newEnt_5 wr _ x z1 tt 1 1 hx rfl⟩ | with_reducible exact ⟨_, _, rfl, newEnt_6 wr _ x z1 tt 1 1 hx rfl⟩
        case rest =>
          obtain ⟨db, xb, rfl, hne⟩ := hcut
          have HNE : Hid (NewEnt wr wc db xb x z1 tt 1) := hne
          obtain ⟨e0, e1, e2, e3, _, _, _, _⟩ := hne.box
          have KP : Hid (∀ X, Fr (fun _ => False) wc X → Calls Try.prog 15 #[.pointer (some ⟨gb, 0, none⟩), .int .u64 (tt : Int), .int .u8 1, .slice (some ⟨db, 0, none⟩) 2 2] X fun r w8 => r = .returned (.int .u64 (z1 : Int)) ∧ PutAt w gb sb nb nt n ms x z1 tt 1 db xb av cv w8) := fun X fX =>
            HREL.out.next (HNE.out.go fX) (by rw [Hz1.out, Hzz.out]) (by omega) (by decide : (1 : Nat) < 2) hms hnb
          have hzb : ((z1 : Int) == (z1 : Int)) = true := by simp
          clear hne KT
          go_wp2_with fail
          go_cut [79] from 40 to 83 (fun s wy => s = .bool false ∧ PutAt w gb sb nb nt n ms x z1 tt 1 db xb av cv wy)
          case first =>
            have r0 : Hid (wc.cell? ⟨xb, 0, none⟩ = some (.int .u64 (z1 : Int)) ∧ wc.cell? ⟨xb, 1, none⟩ = some (.int .u64 (tt : Int)) ∧ wc.cell? ⟨xb, 2, none⟩ = some (.int .u8 1) ∧ wc.cell? ⟨xb, 3, none⟩ = some (.slice (some ⟨db, 0, none⟩) 2 2)) := ⟨e0, e1, e2, e3⟩
            have r1 : Hid (wc.drew.cell? ⟨xb, 0, none⟩ = some (.int .u64 (z1 : Int)) ∧ wc.drew.cell? ⟨xb, 1, none⟩ = some (.int .u64 (tt : Int)) ∧ wc.drew.cell? ⟨xb, 2, none⟩ = some (.int .u8 1) ∧ wc.drew.cell? ⟨xb, 3, none⟩ = some (.slice (some ⟨db, 0, none⟩) 2 2)) := ⟨e0, e1, e2, e3⟩
            have r2 : Hid (∀ m, (wc.drewN m).cell? ⟨xb, 0, none⟩ = some (.int .u64 (z1 : Int)) ∧ (wc.drewN m).cell? ⟨xb, 1, none⟩ = some (.int .u64 (tt : Int)) ∧ (wc.drewN m).cell? ⟨xb, 2, none⟩ = some (.int .u8 1) ∧ (wc.drewN m).cell? ⟨xb, 3, none⟩ = some (.slice (some ⟨db, 0, none⟩) 2 2)) := fun m => ⟨e0, e1, e2, e3⟩
            go_region_held3 (fun w' => w'.cell? ⟨xb, 0, none⟩ = some (.int .u64 (z1 : Int)) ∧ w'.cell? ⟨xb, 1, none⟩ = some (.int .u64 (tt : Int)) ∧ w'.cell? ⟨xb, 2, none⟩ = some (.int .u8 1) ∧ w'.cell? ⟨xb, 3, none⟩ = some (.slice (some ⟨db, 0, none⟩) 2 2)) (first | with_reducible exact r0.out | with_reducible exact r1.out | with_reducible exact r2.out _ | with_reducible exact s0.out | with_reducible exact s1.out | with_reducible exact s2.out _ | go_keep) ((go_at_call 15; refine (KP.out _ (by first | with_reducible exact Fr.refl _ _ | with_reducible exact (Fr.refl (fun _ => False) wc).drew | with_reducible exact (Fr.refl (fun _ => False) wc).drewN _)).mono ?_; rintro e w8 ⟨rfl, h8⟩; have H8 : Hid (PutAt w gb sb nb nt n ms x z1 tt 1 db xb av cv w8) := h8; have s0 : Hid (w8.cell? ⟨xb, 0, none⟩ = some (.int .u64 (z1 : Int)) ∧ w8.cell? ⟨xb, 1, none⟩ = some (.int .u64 (tt : Int)) ∧ w8.cell? ⟨xb, 2, none⟩ = some (.int .u8 1) ∧ w8.cell? ⟨xb, 3, none⟩ = some (.slice (some ⟨db, 0, none⟩) 2 2)) := ⟨h8.1.c0, h8.1.c1, h8.1.c2, h8.1.c3⟩; have s1 : Hid (w8.drew.cell? ⟨xb, 0, none⟩ = some (.int .u64 (z1 : Int)) ∧ w8.drew.cell? ⟨xb, 1, none⟩ = some (.int .u64 (tt : Int)) ∧ w8.drew.cell? ⟨xb, 2, none⟩ = some (.int .u8 1) ∧ w8.drew.cell? ⟨xb, 3, none⟩ = some (.slice (some ⟨db, 0, none⟩) 2 2)) := ⟨h8.1.c0, h8.1.c1, h8.1.c2, h8.1.c3⟩; have s2 : Hid (∀ m, (w8.drewN m).cell? ⟨xb, 0, none⟩ = some (.int .u64 (z1 : Int)) ∧ (w8.drewN m).cell? ⟨xb, 1, none⟩ = some (.int .u64 (tt : Int)) ∧ (w8.drewN m).cell? ⟨xb, 2, none⟩ = some (.int .u8 1) ∧ (w8.drewN m).cell? ⟨xb, 3, none⟩ = some (.slice (some ⟨db, 0, none⟩) 2 2)) := fun m => ⟨h8.1.c0, h8.1.c1, h8.1.c2, h8.1.c3⟩; clear h8))
            all_goals
              go_wp2_with fail
              go_meet
              first | with_reducible exact ⟨rfl, H8.out⟩ | exact ⟨rfl, H8.out.go ((Fr.refl _ _).drewN _)⟩ | exact ⟨rfl, H8.out.go ((Fr.refl _ _).drew)⟩
          case rest =>
            obtain ⟨rfl, hat⟩ := hcut
            rename World => wd
            obtain ⟨g0, g1, g2, g3, _, _, _, _⟩ := hat.1
            obtain ⟨a9, c9, w9, DL2, DG2, ys9, v9, hrun, hrel9⟩ := hat.2 wd (Fr.refl _ _)
            have HRun : Hid (_ = Result.ok (Value.slice a9 (ms.length + 1) c9) w9) := hrun
            have HREL9 : Hid (PutRel _ _ _ _ _ _ _ _ _ _ _ _ _ _) := hrel9
            clear hat hrun hrel9 KP HNE
            go_wp2_with (at_builtin; refine wpList_append_eq rfl (.tmp 80) (.tmp 82) 28 rfl HRun.out rfl rfl ?_)
            go_wp2
            go_roundw
            case rel => exact ⟨k + 1, ms ++ [⟨z1, tt, 1, [x, 1], some ⟨db, 0, none⟩, 2⟩], ys9, v9, a9, c9, DL2, DG2, by omega, by go_num, by simp, HREL9.out, by simp; have := HML.out; omega, by rw [lastT_end]; show tt ≤ _; omega⟩
            case measure => simp [intOf]; omega
      · have k2 : ¬ (k : Int) < (more.length : Int) := by omega
        have KLk : Hid (Calls Try.prog 13 #[.pointer (some ⟨gb, 0, none⟩), .agg #[.int .u64 (nb : Int), .int .u64 (nt : Int), .int .u64 (n : Int), .slice none 0 0], .slice av ms.length cv] wr fun e w' => e = .returned (.bool true) ∧ Fr (fun _ => False) wr w') :=
          look_any HREL.out.log av ms cv _ _ HREL.out.own.erow HREL.out.same.symm (fun q hq => by
            have h1 := congrArg (fun p => p.1) (p_get HREL.out.same q (by rw [← HYL2.out]; exact hq))
            exact Eq.trans h1 (HREL.out.ix q (by rw [← HYL2.out]; exact hq))) (by rw [HYL2.out]; omega) (fun y hy => by
            obtain ⟨q, hq, rfl⟩ := mem_getD hy
            have h1 := congrArg (fun p => p.2.2.2) (p_get HREL.out.same q (by rw [← HYL2.out]; exact hq))
            have e : (ys2.getD q default).d = (ms.getD q default).d := h1
            rw [e]
            exact HREL.out.dl _ (getD_mem (by rw [← HYL2.out]; exact hq))) none 0 0
        go_wp2_with fail
        refine KLk.out.mono ?_
        rintro e w9 ⟨rfl, f9⟩
        go_wp2
        go_ret
        exact ⟨rfl, HREL.out.fr.trans f9⟩
end Go.Proofs.Ytkkpdnholnkeoab
