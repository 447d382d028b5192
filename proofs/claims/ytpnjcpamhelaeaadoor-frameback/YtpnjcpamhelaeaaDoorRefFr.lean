/- The document's own frame, and its dummy. -/
import Derived.Test.YtpnjcpamhelaeaaDoorLay
namespace Go.Proofs.YtpnjcpamhelaeaaDoor
open Go.RowKit

theorem Own.base {w : World} {b c : Nat} {v : Value} {l : List Nat} (h : Own w b v l) (hc : c ≤ b) : Own w c v l := by
  refine ⟨⟨h.1.1, ?_⟩, h.2⟩
  rcases h.1.2 with hn | ⟨g, cap, cur, rfl, hbg, rest⟩
  · exact .inl hn
  · exact .inr ⟨g, cap, cur, rfl, Nat.le_trans hc hbg, rest⟩
def slen : Value → Nat
  | .slice _ n _ => n
  | _ => 0
theorem refnum_step {w : World} {ao : Option Addr} {l : List Nat} {cap : Nat} (n nb : Nat) (h : Row w ao l cap) (hn : n < 18446744073709551616) (hnb : nb ≤ 8) (hlen : l.length ≤ 1000) :
    Calls Tryd.prog 42 #[.slice ao l.length cap, .int .u64 (n : Int), .int .i64 (nb : Int)] w fun e w' => ∃ (l1 : List Nat) (a1 : Option Addr) (c1 : Nat), e = .returned (.slice a1 l1.length c1) ∧ Hid (l1 = l ++ Crc.le nb n) ∧ Row w' a1 l1 c1 ∧ Own w' w.heap.size (.slice a1 l1.length c1) l1 ∧ Fr (fun _ => False) w w' := by
  refine (refnum_any w ao l cap n nb h hn hnb (by omega)).mono ?_
  rintro e w' ⟨v, rfl, ho, hf⟩
  obtain ⟨a1, c1, hv, hr, _⟩ := ho.row
  subst hv
  exact ⟨_, a1, c1, rfl, rfl, hr, ho, hf⟩
set_option maxRecDepth 100000 in
set_option maxHeartbeats 2000000 in
theorem refframe_any (size id k of : Nat) (ao : Option Addr) (p : List Nat) (cap : Nat) (w : World) (hr : Row w ao p cap) (hs : size ≤ 5000) (hp : p.length + 19 ≤ size)
    (hid : id < 18446744073709551616) (hk : k < 9223372036854775808) (hof : of < 9223372036854775808) :
    Calls Tryd.prog 30 #[.int .i64 (size : Int), .int .u64 (id : Int), .int .i64 (k : Int), .int .i64 (of : Int), .slice ao p.length cap] w fun e w' =>
      ∃ v, e = .returned v ∧ Own w' w.heap.size v (sealed (body size id k of p)) ∧ Fr (fun _ => False) w w' := by
  have ck : IntKind.u64.wrap (k : Int) = (k : Int) := wrap_u64_small _ (by omega) (by omega)
  have cof : IntKind.u64.wrap (of : Int) = (of : Int) := wrap_u64_small _ (by omega) (by omega)
  have cpl : IntKind.u64.wrap (p.length : Int) = (p.length : Int) := wrap_u64_small _ (by omega) (by omega)
  obtain ⟨n, hn⟩ : ∃ n, size = n + 4 := ⟨size - 4, by omega⟩
  subst hn
  have HR : Hid (Row w ao p cap) := hr
  clear hr
  go_enter Tryd.func30, Tryd.ntmps30
  go_wp2_with fail
  refine (refnum_step 1 1 (row_nil w) (by omega) (by omega) (by simp)).mono ?_
  rintro e w1 ⟨l1, a1, c1, rfl, H1, r1, _, f1⟩
  have b1 : l1.length ≤ 100 := by rw [H1.out]; simp [Crc.le_length]
  go_wp2_with fail
  refine (refnum_step id 8 r1 hid (by omega) (by omega)).mono ?_
  rintro e w2 ⟨l2, a2, c2, rfl, H2, r2, _, f2⟩
  have b2 : l2.length ≤ 108 := by rw [H2.out]; simp [Crc.le_length]; omega
  clear r1
  go_wp2_with fail
  refine (refnum_step k 2 r2 (by omega) (by omega) (by omega)).mono ?_
  rintro e w3 ⟨l3, a3, c3, rfl, H3, r3, _, f3⟩
  have b3 : l3.length ≤ 110 := by rw [H3.out]; simp [Crc.le_length]; omega
  clear r2
  go_wp2_with fail
  refine (refnum_step of 2 r3 (by omega) (by omega) (by omega)).mono ?_
  rintro e w4 ⟨l4, a4, c4, rfl, H4, r4, _, f4⟩
  have b4 : l4.length ≤ 112 := by rw [H4.out]; simp [Crc.le_length]; omega
  clear r3
  go_wp2_with fail
  refine (refnum_step p.length 2 r4 (by omega) (by omega) (by omega)).mono ?_
  rintro e w5 ⟨l5, a5, c5, rfl, H5, r5, o5, f5⟩
  have hl5 : Hid (l5 = hd id k of p.length) := by
    show l5 = _
    rw [H5.out, H4.out, H3.out, H2.out, H1.out]; rfl
  have b5 : l5.length = 15 := by rw [hl5.out]; exact hd_length _ _ _ _
  have hb5 : Hid (l5.length = 15) := b5
  have b5' : l5.length ≤ 15 := by omega
  clear r4 b1 b2 b3 b4 H1 H2 H3 H4 H5 r5 b5
  have f05 : Fr (fun _ => False) w w5 := (((f1.trans f2).trans f3).trans f4).trans f5
  have hsz := f5.size
  have hszw : w.heap.size ≤ w4.heap.size := (((f1.trans f2).trans f3).trans f4).size
  have hr5 := f05.row HR.out (by simp)
  have ho5 := o5.lt
  go_wp2_with (at_builtin; refine wpList_append_bytes rfl (.tmp 29) (.tmp 30) rfl w4.heap.size _ l5 rfl o5 ao p cap rfl hr5 (by omega) hsz ?_)
  intro v6 w6 ho6 hg6 _
  have f06 : Fr (fun _ => False) w w6 := f05.grown hg6 (fun i hi => .inr (by have := (ho5 i (by simpa using hi)).1; omega))
  have hs6 : w4.heap.size ≤ w6.heap.size := Nat.le_trans hsz hg6.size
  obtain ⟨L, HL⟩ : ∃ L, Hid (L = l5 ++ p) := ⟨_, rfl⟩
  have hLl : Hid (L.length = 15 + p.length) := by show _ = _; rw [HL.out, List.length_append, hb5.out]
  rw [← HL.out] at ho6
  have HO6 : Hid (Own w6 w4.heap.size v6 L) := ho6
  obtain ⟨a6, c6, hv6, _, _⟩ := ho6.row
  subst hv6
  clear ho6 o5 hr5 ho5 hg6 f1 f2 f3 f4 f5
  go_wp2
  go_loopw [11] (fun b wr => ∃ (l7 : List Nat) (v7 : Value), b = v7 ∧ l7.length ≤ n ∧ Hid (∃ j, l7 = L ++ List.replicate j 0) ∧ Own wr w4.heap.size v7 l7 ∧ Fr (fun _ => False) w wr ∧ w4.heap.size ≤ wr.heap.size) (fun b _ => n - slen b)
  case atStart => exact ⟨L, _, rfl, by rw [hLl.out]; omega, ⟨0, by simp⟩, HO6.out, f06, hs6⟩
  case round =>
    obtain ⟨l7, v7, rfl, hl7, H7, ho7, f7, hs7⟩ := hrel
    clear HO6
    obtain ⟨a7, c7, hv7, hr7, _⟩ := ho7.row
    subst hv7
    by_cases hlt : l7.length < n
    · have ho7' : Own (wr.alloc (.cells #[.int .u8 ((0 : Nat) : Int)] 5)) w4.heap.size (.slice a7 l7.length c7) l7 := ho7.fr ((Fr.refl (fun _ => False) wr).alloc _) (by simp)
      have hol := ho7.lt
      have hsb : w4.heap.size ≤ (wr.alloc (.cells #[.int .u8 ((0 : Nat) : Int)] 5)).heap.size := by simp; omega
      clear hr7
      go_wp2_with (at_builtin; refine wpList_append_bytes rfl (.tmp 37) (.tmp 38) rfl w4.heap.size _ _ rfl ho7' (some ⟨wr.heap.size, 0, none⟩) [0] 1 rfl (row_one wr 0 (by omega)) (by simp; omega) hsb ?_)
      intro v8 w8 ho8 hg8 _
      have f8 : Fr (fun _ => False) w w8 := (f7.alloc _).grown hg8 (fun i hi => .inr (by have := (hol i (by simpa using hi)).1; omega))
      obtain ⟨a8, c8, hv8, _, _⟩ := ho8.row
      subst hv8
      go_wp2
      go_roundw
      case rel => exact ⟨l7 ++ [0], _, rfl, by simp; omega, by obtain ⟨j, hj⟩ := H7.out; exact ⟨j + 1, by rw [hj, List.replicate_succ']; simp⟩, ho8, f8, Nat.le_trans hsb hg8.size⟩
      case measure => simp [slen]; omega
    · have hbody : l7 = body (n + 4) id k of p := by
        obtain ⟨j, hj⟩ := H7.out
        have := congrArg List.length hj
        simp only [List.length_append, List.length_replicate] at this
        have e := hLl.out
        rw [hj, HL.out, hl5.out]
        unfold body
        rw [show n + 4 - 19 - p.length = j by omega]
      have hn7 : Hid (l7 = body (n + 4) id k of p) := hbody
      clear hbody
      go_wp2_with fail
      refine (refseal_any a7 l7 c7 wr hr7 (by omega)).mono ?_
      rintro e w9 ⟨v9, rfl, ho9, f9⟩
      rw [hn7.out] at ho9
      obtain ⟨a9, c9, hv9, _, _⟩ := ho9.row
      have ho9' : Own w9 w.heap.size v9 (sealed (body (n + 4) id k of p)) := ho9.base f7.size
      subst hv9
      go_wp2
      go_ret
      exact ⟨_, rfl, ho9', f7.trans f9⟩
end Go.Proofs.YtpnjcpamhelaeaaDoor
