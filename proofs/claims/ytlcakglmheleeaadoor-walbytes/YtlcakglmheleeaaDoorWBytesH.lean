/- The statement WalBytes, walked. -/
import Derived.Test.YtlcakglmheleeaaDoorLawC
namespace Go.Proofs.YtlcakglmheleeaaDoor
open Go.RowKit

/-- the law's entry at a place. -/
def enW (si : Nat) (x : Rc) (k : Nat) : En := ⟨(si + k + 1) % 18446744073709551616, x.b, x.k, x.d, x.p, x.c⟩
def ensW (si : Nat) (rs : List Rc) (k : Nat) : List En := (List.range k).map fun j => enW si (rs.getD j default) j
theorem ensW_succ (si : Nat) (rs : List Rc) (k : Nat) : ensW si rs (k + 1) = ensW si rs k ++ [enW si (rs.getD k default) k] := by simp [ensW, List.range_succ]
theorem ensW_length (si : Nat) (rs : List Rc) (k : Nat) : (ensW si rs k).length = k := by simp [ensW]
theorem ownsRow_fr {S : Nat → Prop} {w w1 : World} {v : Value} {n : Nat} {xs : List Value} (h : w.ownsRow 0 50 4 v n xs) (f : Fr S w w1) (hs : ∀ k, v.ownBlock = some k → ¬ S k) : w1.ownsRow 0 50 4 v n xs := by
  refine ⟨h.1, ?_⟩
  rcases h.2 with hn | ⟨g, cap, cur, rfl, hbg, hg, rest⟩
  · exact .inl hn
  · exact .inr ⟨g, cap, cur, rfl, hbg, (f.block g (Array.getElem?_eq_some_iff.1 hg).1 (hs g rfl)).trans hg, rest⟩
theorem ownE_w {w w' : World} {v : Value} {si k : Nat} {ra : Option Addr} {rs : List Rc} {rc : Nat} (h : w'.ownsRow 0 50 4 v k (flat (ensW si rs k))) (hr : RRow w ra rs rc) (hk : k ≤ rs.length) (f : Fr (fun _ => False) w w') (hb : ∀ j, v.ownBlock = some j → w.heap.size ≤ j) : OwnE w' (fun j => j < w.heap.size ∨ v.ownBlock = some j) v (ensW si rs k) := by
  refine ⟨by rw [ensW_length]; exact h, fun j hj => .inr hj, fun x hx => ?_⟩
  obtain ⟨j, hj, rfl⟩ := List.mem_map.1 hx
  have hj' : j < rs.length := by have := List.mem_range.1 hj; omega
  have hg := hr.2.2.1 (rs.getD j default) (by rw [List.getD_eq_getElem?_getD, List.getElem?_eq_getElem hj']; exact List.getElem_mem _)
  refine ⟨?_, hg.b, hg.k, f.row hg.row (by simp), fun hne a ha => ⟨.inl (row_blk hg.row hne a ha), fun e => ?_⟩⟩
  · show (si + j + 1) % 18446744073709551616 < _; omega
  · have := hb _ e; have := row_blk hg.row hne a ha; omega
theorem wrap64 (n : Nat) : IntKind.u64.wrap (n : Int) = ((n % 18446744073709551616 : Nat) : Int) := by
  simp [IntKind.wrap, IntKind.bits, IntKind.signed]
set_option maxRecDepth 100000 in
set_option maxHeartbeats 3200000 in
theorem wbytes_short (hd : Bool) (t : Nat) (v : Int) (ra : Option Addr) (rs : List Rc) (rc : Nat) (s : Rc) (w : World) (ht : Tab w) (hrr : RRow w ra rs rc) (hs : RcG w s) (hsh : shortB rs = false ∨ (shortB rs = true ∧ 200 < s.d.length)) :
    Calls Tryd.prog 4 #[.bool hd, .int .u64 (t : Int), .int .i16 v, .slice ra rs.length rc, .agg #[.int .u8 (s.k : Int), .int .u64 (s.a : Int), .int .u64 (s.b : Int), .int .i16 s.v, .slice s.p s.d.length s.c]] w fun e w' => e = .returned (.bool true) ∧ Fr (fun _ => False) w w' := by
  have HT : Hid (Tab w) := ht
  have HRR : Hid (RRow w ra rs rc) := hrr
  have HA : Hid (Fr (fun _ => False) w (w.alloc (.cells #[.int .u8 (s.k : Int), .int .u64 (s.a : Int), .int .u64 (s.b : Int), .int .i16 s.v, .slice s.p s.d.length s.c] 41))) := (Fr.refl _ _).alloc _
  have KA : Hid (∀ w1, Fr (fun _ => False) w w1 → Calls Tryd.prog 9 #[] w1 fun e w' => e = .returned (.bool true) ∧ Fr (fun _ => False) w1 w') := fun w1 f => awake_any w1 (f.tab ht (by simp))
  have hl3 := hrr.len
  have c4 : (w.alloc (.cells #[.int .u8 (s.k : Int), .int .u64 (s.a : Int), .int .u64 (s.b : Int), .int .i16 s.v, .slice s.p s.d.length s.c] 41)).cell? ⟨w.heap.size, 4, none⟩ = some (.slice s.p s.d.length s.c) := by simp
  have C4 : Hid _ := c4
  have hsl := hs.row.1
  have hsc := hs.row.2.1
  unfold maxLen at hsc
  clear ht hrr c4
  rcases hsh with h1 | ⟨h1, h2⟩
  all_goals
    have H1 : Hid _ := h1
    clear h1
    go_enter Tryd.func4, Tryd.ntmps4
    go_wp2_with fail
    refine (KA.out _ HA.out).mono ?_
    rintro e w1 ⟨rfl, f1⟩
    have F1 : Hid (Fr (fun _ => False) w w1) := HA.out.trans f1
    have d4 := f1.cell C4.out (by simp)
    clear f1
    go_wp2_with fail
    refine (short_any ra rs rc w1 (HRR.out.fr F1.out)).mono ?_
    rintro e w2 ⟨rfl, hw2⟩
    subst w2
    rw [H1.out]
    go_wp2_with fail
    refine (KA.out _ F1.out).mono ?_
    rintro e w2 ⟨rfl, f2⟩
    have F2 : Hid (Fr (fun _ => False) w w2) := F1.out.trans f2
    clear f2
    go_wp2
    go_ret
    exact ⟨rfl, F2.out⟩
end Go.Proofs.YtlcakglmheleeaaDoor
