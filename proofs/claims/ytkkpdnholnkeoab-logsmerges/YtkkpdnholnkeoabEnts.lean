/- The law's snapshots and entries. -/
import Derived.Test.YtkkpdnholnkeoabAwake
namespace Go.Proofs.Ytkkpdnholnkeoab
open Go.RowKit

set_option maxHeartbeats 400000 in
theorem snap_any (n : Nat) (w : World) (hn : n < 256) : Calls Try.prog 10 #[.int .u8 (n : Int)] w fun e w' => e = .returned (.agg #[.int .u64 ((n % 7 : Nat) : Int), .int .u64 ((n % 2 : Nat) : Int), .int .u64 (n : Int), .slice none 0 0]) ∧ Fr (fun _ => False) w w' := by
  obtain ⟨a, ea, Ha⟩ : ∃ a : Nat, (n : Int) % 7 = (a : Int) ∧ Hid (a = n % 7) := ⟨n % 7, by omega, rfl⟩
  obtain ⟨b, eb, Hb⟩ : ∃ b : Nat, (n : Int) % 2 = (b : Int) ∧ Hid (b = n % 2) := ⟨n % 2, by omega, rfl⟩
  have ha : a < 7 := by rw [Ha.out]; omega
  have hb : b < 2 := by rw [Hb.out]; omega
  rw [← Ha.out, ← Hb.out]
  go_enter Try.func10, Try.ntmps10
  go_wp2
  exact bodyPost_ret (v := .agg #[.int .u64 (a : Int), .int .u64 (b : Int), .int .u64 (n : Int), .slice none 0 0]) (by simp [results, Try.results10, go_sem]) rfl ⟨rfl, (Fr.refl _ _).alloc _⟩
/-- the terms rise so. -/
def tsum (terms : List Nat) (k : Nat) : Nat := 1 + ((terms.take k).map (fun x => x % 3 / 2)).sum
theorem tsum_succ (terms : List Nat) (k : Nat) (h : k < terms.length) : tsum terms (k + 1) = tsum terms k + terms.getD k 0 % 3 / 2 := by
  unfold tsum
  have e : terms.getD k 0 = terms[k] := by simp [List.getD_eq_getElem?_getD, h]
  rw [List.take_succ_eq_append_getElem h, e, List.map_append, List.sum_append]
  simp
  omega
theorem tsum_le (terms : List Nat) (k : Nat) : tsum terms k ≤ 1 + k := by
  induction k with
  | zero => simp [tsum]
  | succ k ih =>
    by_cases h : k < terms.length
    · rw [tsum_succ terms k h]; omega
    · have : terms.take (k + 1) = terms.take k := by rw [List.take_of_length_le (by omega), List.take_of_length_le (by omega)]
      unfold tsum at ih ⊢
      rw [this]; omega
def kindP (kinds : List Nat) (k : Nat) : Nat := if k < kinds.length ∧ kinds.getD k 0 % 5 = 0 then 1 else 0
def entP (at_ : Nat) (terms kinds : List Nat) (k : Nat) : Nat × Nat × Nat × List Nat := (at_ + k + 1, tsum terms (k + 1), kindP kinds k, [terms.getD k 0])
def entsP (at_ : Nat) (terms kinds : List Nat) (k : Nat) : List (Nat × Nat × Nat × List Nat) := (List.range k).map (entP at_ terms kinds)
theorem entsP_succ (at_ : Nat) (terms kinds : List Nat) (k : Nat) : entsP at_ terms kinds (k + 1) = entsP at_ terms kinds k ++ [entP at_ terms kinds k] := by
  simp [entsP, List.range_succ]
theorem byte_row (w : World) (x : Nat) (hx : x < 256) : Row (w.alloc (.cells #[.int .u8 (x : Int)] 5)) (some ⟨w.heap.size, 0, none⟩) [x] 1 := by
  refine ⟨by simp, by unfold maxLen; simp, by simpa using hx, fun h => (by cases h), fun _ => ⟨w.heap.size, 0, rfl, fun i hi => ?_⟩⟩
  simp at hi
  subst hi
  simp
theorem wpList_append_eq {P : Program} {w w' : World} {ops : Array Oper} {rest : List Oper} {o : Oper} {a : Act} {Q : Exit → Act → World → Prop} {v' vs vx : Value} (hgd : o.guard = none) (s x : Operand) (t : TypeId)
    (ho : o.op = .call { callee := .builtin .append, args := #[s, x], argTypes := #[t, t] }) (hrun : (Builtin.append_ #[t, t] o.type #[vs, vx]).run P w = .ok v' w') (hs : a.eval s = vs) (hx : a.eval x = vx)
    (h : wpList P ops Q rest (a.put o.dst v') w') : wpList P ops Q (o :: rest) a w := by
  refine wpList_plain hgd fun K hK => ?_
  unfold Oper.wp execOp
  simp only [ho, resolve, invoke, builtin, Sem.run_bind, Sem.run_pure, Result.andThen_ok, List.map_toArray, List.map_cons, List.map_nil, hs, hx, hrun]
  exact hK _ _ h
set_option maxRecDepth 100000 in
set_option maxHeartbeats 4000000 in
theorem entries_any (at_ : Nat) (hat : at_ < 1000) (a1 : Option Addr) (terms : List Nat) (c1 : Nat) (a2 : Option Addr) (kinds : List Nat) (c2 : Nat) (w : World) (h1 : Row w a1 terms c1) (h2 : Row w a2 kinds c2) :
    Calls Try.prog 11 #[.int .u64 (at_ : Int), .slice a1 terms.length c1, .slice a2 kinds.length c2] w fun e w' => ∃ v es, e = .returned v ∧ OwnE w' (fun k => w.heap.size ≤ k) v es ∧ es.map En.p = entsP at_ terms kinds (min terms.length 30) ∧ Fr (fun _ => False) w w' := by
  have hl1 := h1.len
  have hl2 := h2.len
  have HR1 : Hid (Row w a1 terms c1) := h1
  have HR2 : Hid (Row w a2 kinds c2) := h2
  clear h1 h2
  go_enter Try.func11, Try.ntmps11
  go_wp2
  go_loopw [7, 8, 9] (fun lv tv iv wr => ∃ (k t : Nat) (v : Value) (es : List En), k ≤ terms.length ∧ k ≤ 30 ∧ iv = .int .i64 (k : Int) ∧ tv = .int .u64 (t : Int) ∧ t ≤ 1 + k ∧ Hid (t = tsum terms k) ∧ lv = v ∧ OwnE wr (fun k => w.heap.size ≤ k) v es ∧ es.map En.p = entsP at_ terms kinds k ∧ Fr (fun _ => False) w wr) (fun _ _ iv _ => 30 - (intOf iv).toNat)
  case atStart => exact ⟨0, 1, .slice none 0 0, [], Nat.zero_le _, Nat.zero_le _, rfl, rfl, by omega, by show _ = _; simp [tsum], rfl, OwnE.nil _ _, rfl, Fr.refl _ _⟩
  case round =>
    obtain ⟨k, t, v, es, hk, hk30, rfl, rfl, htk, Ht, rfl, hown, hes, hfr⟩ := hrel
    have hel : es.length = k := by
      have := congrArg List.length hes
      simpa [entsP] using this
    obtain ⟨av, cv, hv, _⟩ := hown.form
    by_cases hlt : k < terms.length
    · by_cases hlt30 : k < 30
      · obtain ⟨b1, o1, x, rfl, hx, hc1, Hx⟩ := (hfr.row HR1.out (by simp)).at hlt
        obtain ⟨y, ey, Hy⟩ : ∃ y : Nat, (x : Int) % 3 / 2 = (y : Int) ∧ Hid (y = x % 3 / 2) := ⟨x % 3 / 2, by omega, rfl⟩
        have hy : y ≤ 1 := by rw [Hy.out]; omega
        subst hv
        rw [hel]
        have hlt' : k < terms.length := hlt
        have HO : Hid (OwnE wr (fun k => w.heap.size ≤ k) (.slice av es.length cv) es) := hown
        have HES : Hid (es.map En.p = entsP at_ terms kinds k) := hes
        have HF : Hid (Fr (fun _ => False) w wr) := hfr
        have HEL : Hid (es.length = k) := hel
        have k1 : (0 : Int) ≤ (k : Int) := by omega
        have k2 : (k : Int) < (terms.length : Int) := by omega
        have k4 : (k : Int) < 30 := by omega
        obtain ⟨t2, et2, Ht2⟩ : ∃ t2 : Nat, (t : Int) + (y : Int) = (t2 : Int) ∧ Hid (t2 = t + y) := ⟨t + y, by omega, rfl⟩
        have ht2 : t2 ≤ 1 + (k + 1) := by rw [Ht2.out]; omega
        obtain ⟨j2, ej2, Hj2⟩ : ∃ j2 : Nat, (at_ : Int) + (k : Int) + 1 = (j2 : Int) ∧ Hid (j2 = at_ + k + 1) := ⟨at_ + k + 1, by omega, rfl⟩
        have hj2 : j2 ≤ 2000 := by rw [Hj2.out]; omega
        obtain ⟨W, HW⟩ : ∃ W, Hid (W = (wr.alloc (.cells #[.int .u8 (x : Int)] 5)).alloc (.cells #[.int .u64 (j2 : Int), .int .u64 (t2 : Int), .int .u8 0, .slice (some ⟨wr.heap.size, 0, none⟩) 1 1] 36)) := ⟨_, rfl⟩
        have fW : Fr (fun _ => False) wr W := by rw [HW.out]; exact ((Fr.refl (fun _ => False) wr).alloc _).alloc _
        have FW : Hid (Fr (fun _ => False) wr W) := fW
        have HSW : Hid (W.heap.size = wr.heap.size + 2) := by show _ = _; rw [HW.out]; simp
        have BW : Hid (Box4 W (wr.heap.size + 1) j2 t2 0 (.slice (some ⟨wr.heap.size, 0, none⟩) 1 1)) := by show Box4 _ _ _ _ _ _; rw [HW.out]; constructor <;> simp
        have RW : Hid (Row W (some ⟨wr.heap.size, 0, none⟩) [x] 1) := by show Row _ _ _ _; rw [HW.out]; exact ((Fr.refl (fun _ => False) _).alloc _).row (byte_row wr x hx) (by simp)
        have HApp : Hid (∀ (X : World) (kd : Nat), Fr (fun _ => False) wr X → Row X (some ⟨wr.heap.size, 0, none⟩) [x] 1 → kd < 2 → Hid (kd = kindP kinds k) → ∃ v' w', (Builtin.append_ #[28, 28] 28 #[.slice av k cv, .slice (some ⟨X.heap.size, 0, none⟩) 1 1]).run Try.prog (X.alloc (.cells #[.int .u64 (j2 : Int), .int .u64 (t2 : Int), .int .u8 (kd : Int), .slice (some ⟨wr.heap.size, 0, none⟩) 1 1] 36)) = .ok v' w' ∧ (∃ es', OwnE w' (fun k => w.heap.size ≤ k) v' es' ∧ es'.map En.p = entsP at_ terms kinds (k + 1)) ∧ Fr (fun _ => False) w w') := by
          intro X kd fX hRX hkd Hkd
          have fa := fX.alloc (.cells #[.int .u64 (j2 : Int), .int .u64 (t2 : Int), .int .u8 (kd : Int), .slice (some ⟨wr.heap.size, 0, none⟩) 1 1] 36)
          have hlt := HO.out.lt
          have hw := HF.out.size
          have fw : Fr (fun _ => False) w (X.alloc (.cells #[.int .u64 (j2 : Int), .int .u64 (t2 : Int), .int .u8 (kd : Int), .slice (some ⟨wr.heap.size, 0, none⟩) 1 1] 36)) := HF.out.trans fa
          have ho : OwnE (X.alloc (.cells #[.int .u64 (j2 : Int), .int .u64 (t2 : Int), .int .u8 (kd : Int), .slice (some ⟨wr.heap.size, 0, none⟩) 1 1] 36)) (fun k => w.heap.size ≤ k) (.slice av es.length cv) es := by
            exact HO.out.fr fa (by simp)
          obtain ⟨v', w', hrun, h1, h2, h3⟩ := run_append_ents _ 28 (fun k => w.heap.size ≤ k) (.slice av es.length cv) es ho ⟨X.heap.size, 0, none⟩ [⟨j2, t2, kd, [x], some ⟨wr.heap.size, 0, none⟩, 1⟩] 1 (one_cells X ⟨j2, t2, kd, [x], some ⟨wr.heap.size, 0, none⟩, 1⟩) (fun z hz => by
            simp at hz
            subst hz
            exact ⟨by show j2 < _; omega, by show t2 < _; omega, by show kd < _; omega, ((Fr.refl (fun _ => False) X).alloc _).row hRX (by simp), fun _ a ha => by cases ha; exact ⟨hw, fun e => by have := hlt _ e; simp at this⟩⟩) (fun b hb => by have := fw.size; omega) (by have := HEL.out; simp; omega)
          have hel := HEL.out
          rw [show (Value.slice av es.length cv) = .slice av k cv by rw [hel]] at hrun
          refine ⟨v', w', hrun, ⟨_, h1, ?_⟩, fw.grown h2 (fun b hb => .inr (HO.out.blk b hb))⟩
          rw [List.map_append, HES.out, entsP_succ]
          congr 1
          show [_] = [_]
          rw [show En.p ⟨j2, t2, kd, [x], some ⟨wr.heap.size, 0, none⟩, 1⟩ = (j2, t2, kd, [x]) from rfl]
          unfold entP
          rw [tsum_succ terms k hlt', Hj2.out, Ht2.out, Ht.out, Hkd.out, Hy.out, Hx.out]
        clear hown hes hfr fW
        by_cases hkl : k < kinds.length
        · obtain ⟨b2, o2, q, rfl, hq, hc2, Hq⟩ := (HF.out.row HR2.out (by simp)).at hkl
          have k3 : (k : Int) < (kinds.length : Int) := by omega
          have r2 : ((wr.alloc (.cells #[.int .u8 (x : Int)] 5)).alloc (.cells #[.int .u64 (j2 : Int), .int .u64 (t2 : Int), .int .u8 0, .slice (some ⟨wr.heap.size, 0, none⟩) 1 1] 36)).cell? ⟨b2, o2 + k, none⟩ = some (.int .u8 (q : Int)) := by rw [← HW.out]; exact FW.out.cell hc2 (by simp)
          by_cases hq0 : q % 5 = 0
          · have hq0' : (q : Int) % 5 = 0 := by omega
            have Hkd : Hid (1 = kindP kinds k) := by show _ = _; unfold kindP; rw [if_pos ⟨hkl, by rw [← Hq.out]; exact hq0⟩]
            obtain ⟨v2, w2, hrun, ⟨es3, ho3, he3⟩, hf2⟩ := HApp.out ((wr.alloc (.cells #[.int .u8 (x : Int)] 5)).alloc (.cells #[.int .u64 (j2 : Int), .int .u64 (t2 : Int), .int .u8 1, .slice (some ⟨wr.heap.size, 0, none⟩) 1 1] 36)) 1 (((Fr.refl (fun _ => False) wr).alloc _).alloc _) (((Fr.refl (fun _ => False) _).alloc _).row (byte_row wr x hx) (by simp)) (by omega) Hkd
            rw [show ((wr.alloc (.cells #[.int .u8 (x : Int)] 5)).alloc (.cells #[.int .u64 (j2 : Int), .int .u64 (t2 : Int), .int .u8 1, .slice (some ⟨wr.heap.size, 0, none⟩) 1 1] 36)).heap.size = wr.heap.size + 1 + 1 by simp] at hrun
            have HRun : Hid (_ = Result.ok v2 w2) := hrun
            have HO3 : Hid _ := ho3
            have HE3 : Hid (es3.map En.p = entsP at_ terms kinds (k + 1)) := he3
            have HF3 : Hid (Fr (fun _ => False) w w2) := hf2
            clear hrun ho3 he3 hf2
            go_wp2_with (at_builtin; refine wpList_append_eq rfl (.tmp 55) (.tmp 57) 28 rfl HRun.out rfl rfl ?_)
            obtain ⟨a3, c3, hv3, _⟩ := HO3.out.form
            subst hv3
            go_wp2
            go_roundw
            case rel => exact ⟨k + 1, t2, _, es3, by omega, by omega, by go_num, rfl, by omega, by show _ = _; rw [tsum_succ terms k hlt', Ht2.out, Ht.out, Hy.out, Hx.out], rfl, HO3.out, HE3.out, HF3.out⟩
            case measure => simp [intOf]; omega
          · have hq0' : ¬ (q : Int) % 5 = 0 := by omega
            have Hkd : Hid (0 = kindP kinds k) := by show _ = _; unfold kindP; rw [if_neg (fun h => hq0 (by rw [Hq.out]; exact h.2))]
            obtain ⟨v2, w2, hrun, ⟨es3, ho3, he3⟩, hf2⟩ := HApp.out W 0 FW.out RW.out (by omega) Hkd
            rw [show W.heap.size = wr.heap.size + 1 + 1 from by exact HSW.out, HW.out] at hrun
            have HRun : Hid (_ = Result.ok v2 w2) := hrun
            have HO3 : Hid _ := ho3
            have HE3 : Hid (es3.map En.p = entsP at_ terms kinds (k + 1)) := he3
            have HF3 : Hid (Fr (fun _ => False) w w2) := hf2
            clear hrun ho3 he3 hf2
            go_wp2_with (at_builtin; refine wpList_append_eq rfl (.tmp 55) (.tmp 57) 28 rfl HRun.out rfl rfl ?_)
            obtain ⟨a3, c3, hv3, _⟩ := HO3.out.form
            subst hv3
            go_wp2
            go_roundw
            case rel => exact ⟨k + 1, t2, _, es3, by omega, by omega, by go_num, rfl, by omega, by show _ = _; rw [tsum_succ terms k hlt', Ht2.out, Ht.out, Hy.out, Hx.out], rfl, HO3.out, HE3.out, HF3.out⟩
            case measure => simp [intOf]; omega
        · have k3 : ¬ (k : Int) < (kinds.length : Int) := by omega
          have Hkd : Hid (0 = kindP kinds k) := by show _ = _; unfold kindP; rw [if_neg (fun h => hkl h.1)]
          obtain ⟨v2, w2, hrun, ⟨es3, ho3, he3⟩, hf2⟩ := HApp.out W 0 FW.out RW.out (by omega) Hkd
          rw [show W.heap.size = wr.heap.size + 1 + 1 from by exact HSW.out, HW.out] at hrun
          have HRun : Hid (_ = Result.ok v2 w2) := hrun
          have HO3 : Hid _ := ho3
          have HE3 : Hid (es3.map En.p = entsP at_ terms kinds (k + 1)) := he3
          have HF3 : Hid (Fr (fun _ => False) w w2) := hf2
          clear hrun ho3 he3 hf2
          go_wp2_with (at_builtin; refine wpList_append_eq rfl (.tmp 55) (.tmp 57) 28 rfl HRun.out rfl rfl ?_)
          obtain ⟨a3, c3, hv3, _⟩ := HO3.out.form
          subst hv3
          go_wp2
          go_roundw
          case rel => exact ⟨k + 1, t2, _, es3, by omega, by omega, by go_num, rfl, by omega, by show _ = _; rw [tsum_succ terms k hlt', Ht2.out, Ht.out, Hy.out, Hx.out], rfl, HO3.out, HE3.out, HF3.out⟩
          case measure => simp [intOf]; omega
      · have hk' : k = 30 := by omega
        have k4 : ¬ (k : Int) < 30 := by omega
        have k2 : (k : Int) < (terms.length : Int) := by omega
        have HO : Hid (OwnE wr (fun k => w.heap.size ≤ k) _ es) := hown
        have HES : Hid (es.map En.p = entsP at_ terms kinds (min terms.length 30)) := by show _ = _; rw [show min terms.length 30 = k by omega]; exact hes
        have HF : Hid (Fr (fun _ => False) w wr) := hfr
        subst hv
        have HEL : Hid (es.length = k) := hel
        clear hown hes hfr hel hk'
        go_wp2
        go_ret
        exact ⟨_, rfl, es, HO.out, HES.out, HF.out⟩
    · have k2 : ¬ (k : Int) < (terms.length : Int) := by omega
      have HO : Hid (OwnE wr (fun k => w.heap.size ≤ k) _ es) := hown
      have HES : Hid (es.map En.p = entsP at_ terms kinds (min terms.length 30)) := by show _ = _; rw [show min terms.length 30 = k by omega]; exact hes
      have HF : Hid (Fr (fun _ => False) w wr) := hfr
      subst hv
      have HEL : Hid (es.length = k) := hel
      clear hown hes hfr hel
      go_wp2
      go_ret
      exact ⟨_, rfl, es, HO.out, HES.out, HF.out⟩
end Go.Proofs.Ytkkpdnholnkeoab
