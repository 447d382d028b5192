/- All parts of a message, one behind the other. -/
import Derived.Test.YtpnjcpamhelaeaaDoorDel
namespace Go.Proofs.YtpnjcpamhelaeaaDoor
open Go.RowKit

theorem Own.rebase {w : World} {base b2 : Nat} {v : Value} {l : List Nat} (h : Own w base v l) (hb : b2 ≤ base) : Own w b2 v l := by
  refine ⟨⟨h.1.1, ?_⟩, h.2⟩
  rcases h.1.2 with hn | ⟨g, cap, cur, rfl, hbg, rest⟩
  · exact .inl hn
  · exact .inr ⟨g, cap, cur, rfl, by omega, rest⟩
def flat (D : Nat → List Nat) (n : Nat) : List Nat := ((List.range n).map D).flatten
theorem flat_succ (D : Nat → List Nat) (n : Nat) : flat D (n + 1) = flat D n ++ D n := by
  simp [flat, List.range_succ, List.map_append, List.flatten_append]
theorem flat_len (D : Nat → List Nat) (h : ∀ i, (D i).length ≤ 4096) (n : Nat) : (flat D n).length ≤ n * 4096 := by
  induction n with
  | zero => simp [flat]
  | succ n ih => rw [flat_succ, List.length_append]; have := h n; omega
set_option maxRecDepth 100000 in
set_option maxHeartbeats 1000000 in
theorem whole_any (id of mb : Nat) (es : List (Nat × Value)) (D : Nat → List Nat) (w : World) (hm : MapAt w mb es) (hall : ∀ i, i < of → ∃ ai ci, (i, Value.slice ai (D i).length ci) ∈ es ∧ Row w ai (D i) ci) (hu : ∀ p ∈ es, ∀ q ∈ es, p.1 = q.1 → p.2 = q.2) (hof : of < 65536) (hlen : ∀ i, (D i).length ≤ 4096) :
    Calls Tryd.prog 38 #[.agg #[.int .u64 (id : Int), .int .i64 (of : Int), .map (some mb)]] w fun e w' => ∃ v, e = .returned v ∧ Own w' w.heap.size v (flat D of) ∧ Fr (fun _ => False) w w' := by
  have HM : Hid (MapAt w mb es) := hm
  have HA : Hid (∀ i, i < of → ∃ ai ci, (i, Value.slice ai (D i).length ci) ∈ es ∧ Row w ai (D i) ci) := hall
  have HU : Hid (∀ p ∈ es, ∀ q ∈ es, p.1 = q.1 → p.2 = q.2) := hu
  have HL : Hid (∀ i, (D i).length ≤ 4096) := hlen
  have F0 : Hid (Fr (fun _ => False) w (w.alloc (.cells #[.int .u64 (id : Int), .int .i64 (of : Int), .map (some mb)] 76))) := (Fr.refl _ _).alloc _
  have c2 : Hid ((w.alloc (.cells #[.int .u64 (id : Int), .int .i64 (of : Int), .map (some mb)] 76)).cell? ⟨w.heap.size, 2, none⟩ = some (.map (some mb))) := by show _ = _; simp
  clear hm hall hu hlen
  go_enter Tryd.func38, Tryd.ntmps38
  go_wp2
  go_loopw [3, 4, 8] (fun v _ i wr => ∃ k : Nat, k ≤ of ∧ i = .int .i64 (k : Int) ∧ Own wr (w.heap.size + 1) v (flat D k) ∧ Fr (fun _ => False) w wr ∧ w.heap.size + 1 ≤ wr.heap.size ∧ wr.cell? ⟨w.heap.size, 2, none⟩ = some (.map (some mb))) (fun _ _ i _ => of - (intOf i).toNat)
  case atStart => exact ⟨0, Nat.zero_le _, rfl, Own.nil _ _, F0.out, by simp, c2.out⟩
  case round =>
    obtain ⟨k, hk, rfl, ho, hfr, hsz, hcm⟩ := hrel
    have HO : Hid (Own wr (w.heap.size + 1) _ (flat D k)) := ho
    have HF : Hid (Fr (fun _ => False) w wr) := hfr
    obtain ⟨al, cl, rfl, _⟩ := ho.row
    clear ho hfr F0 c2
    by_cases hlt : k < of
    · obtain ⟨ai, ci, hmem, hr⟩ := HA.out k hlt
      have kl := map_some (HM.out.fr HF.out (by simp)) k _ hmem (fun p hp e => HU.out p hp _ hmem e) false
      simp only [Bool.false_eq_true, if_false] at kl
      have HR : Hid (Row wr ai (D k) ci) := HF.out.row hr (by simp)
      have hfl := flat_len D HL.out k
      have hdl := HL.out k
      have hlt' : (k : Int) < (of : Int) := by omega
      obtain ⟨Dk, HDk⟩ : ∃ Dk, Hid (D k = Dk) := ⟨_, rfl⟩
      obtain ⟨fk, Hfk⟩ : ∃ fk, Hid (flat D k = fk) := ⟨_, rfl⟩
      have Hnx : Hid (flat D (k + 1) = fk ++ Dk) := by show _ = _; rw [flat_succ, Hfk.out, HDk.out]
      rw [HDk.out] at kl HR hdl
      rw [Hfk.out] at HO hfl ⊢
      clear hmem hr
      go_wp2_with (refine wpList_append_bytes rfl _ _ rfl (w.heap.size + 1) _ fk rfl HO.out ai Dk ci rfl HR.out (by omega) hsz ?_)
      intro v3 w3 ho3 hg3 hk3
      have f3 : Fr (fun k => (Value.slice al fk.length cl).ownBlock = some k) wr w3 := (Fr.refl _ _).grown hg3 (fun k e => .inl e)
      have F3 : Hid (Fr (fun _ => False) w w3) := HF.out.trans' f3 (fun i hi e => by have := (HO.out.lt i e).1; omega)
      have hcm3 : Hid (w3.cell? ⟨w.heap.size, 2, none⟩ = some (.map (some mb))) := f3.cell hcm (fun e => by have := (HO.out.lt _ e).1; simp at this; omega)
      have hsz3 : Hid (w.heap.size + 1 ≤ w3.heap.size) := Nat.le_trans hsz f3.size
      have HO3 : Hid (Own w3 (w.heap.size + 1) v3 (flat D (k + 1))) := by show Own _ _ _ _; rw [Hnx.out]; exact ho3
      clear ho3 hg3 hk3 f3 kl
      go_wp2
      go_roundw
      case rel => exact ⟨k + 1, by omega, by go_num, HO3.out, F3.out, hsz3.out, hcm3.out⟩
      case measure => simp [intOf]; omega
    · have hlt' : ¬ (k : Int) < (of : Int) := by omega
      obtain rfl : k = of := by omega
      go_wp2
      go_ret
      exact ⟨_, rfl, HO.out.rebase (by omega), HF.out⟩
end Go.Proofs.YtpnjcpamhelaeaaDoor
