/- The statement WalCompacts, walked. -/
import Derived.Test.YtlcakglmheleeaaDoorScanW
import Derived.Test.YtlcakglmheleeaaDoorWBytesH
namespace Go.Proofs.YtlcakglmheleeaaDoor
open Go.RowKit

set_option maxRecDepth 100000 in
set_option maxHeartbeats 3200000 in
theorem comp_short (ra : Option Addr) (rs : List Rc) (rc : Nat) (s : Rc) (keep : Int) (ba : Option Addr) (bf : List Nat) (bc : Nat) (w : World) (ht : Tab w) (hrr : RRow w ra rs rc) (hs : RcG w s) (hb : Row w ba bf bc) (hsh : shortB rs = false ∨ (shortB rs = true ∧ 200 < s.d.length) ∨ (shortB rs = true ∧ ¬ 200 < s.d.length ∧ 200 < bf.length)) :
    Calls Tryd.prog 6 #[.slice ra rs.length rc, .agg #[.int .u8 (s.k : Int), .int .u64 (s.a : Int), .int .u64 (s.b : Int), .int .i16 s.v, .slice s.p s.d.length s.c], .int .i64 keep, .slice ba bf.length bc] w fun e w' => e = .returned (.bool true) ∧ Fr (fun _ => False) w w' := by
  have HT : Hid (Tab w) := ht
  have HRR : Hid (RRow w ra rs rc) := hrr
  have HA : Hid (Fr (fun _ => False) w (w.alloc (.cells #[.int .u8 (s.k : Int), .int .u64 (s.a : Int), .int .u64 (s.b : Int), .int .i16 s.v, .slice s.p s.d.length s.c] 41))) := (Fr.refl _ _).alloc _
  have KA : Hid (∀ w1, Fr (fun _ => False) w w1 → Calls Tryd.prog 9 #[] w1 fun e w' => e = .returned (.bool true) ∧ Fr (fun _ => False) w1 w') := fun w1 f => awake_any w1 (f.tab ht (by simp))
  have hl3 := hrr.len
  have c4 : (w.alloc (.cells #[.int .u8 (s.k : Int), .int .u64 (s.a : Int), .int .u64 (s.b : Int), .int .i16 s.v, .slice s.p s.d.length s.c] 41)).cell? ⟨w.heap.size, 4, none⟩ = some (.slice s.p s.d.length s.c) := by simp
  have C4 : Hid _ := c4
  have hsl := hs.row.1
  have hsc := hs.row.2.1
  unfold maxLen at hsc
  have hbl := hb.1
  have hbc := hb.2.1
  unfold maxLen at hbc
  clear ht hrr c4
  rcases hsh with h1 | ⟨h1, h2⟩ | ⟨h1, h2, h3⟩
  all_goals
    have H1 : Hid _ := h1
    clear h1
    go_enter Tryd.func6, Tryd.ntmps6
    go_wp2_with fail
    refine (KA.out _ HA.out).mono ?_
    rintro e w1 ⟨rfl, f1⟩
    have F1 : Hid (Fr (fun _ => False) w w1) := HA.out.trans f1
    have d4 := f1.cell C4.out (by simp)
    clear f1
    go_wp2_with fail
    refine (short_any ra rs rc w1 (HRR.out.fr F1.out)).mono ?_
    rintro e w2 ⟨rfl, hw2⟩
    subst w2
    rw [H1.out]
    go_wp2_with fail
    refine (KA.out _ F1.out).mono ?_
    rintro e w2 ⟨rfl, f2⟩
    have F2 : Hid (Fr (fun _ => False) w w2) := F1.out.trans f2
    clear f2
    go_wp2
    go_ret
    exact ⟨rfl, F2.out⟩
theorem IBox.put6 {w : World} {b : Nat} {m : Img} {sa ea ea2 : Option Addr} {sc n c n2 c2 : Nat} (h : IBox w b m sa sc ea n c) : IBox (w.setCell ⟨b, 6, none⟩ (.slice ea2 n2 c2)) b m sa sc ea2 n2 c2 := by
  have o : ∀ {j : Nat} {y : Value}, j ≠ 6 → w.cell? ⟨b, j, none⟩ = some y → (w.setCell ⟨b, 6, none⟩ (.slice ea2 n2 c2)).cell? ⟨b, j, none⟩ = some y := fun _hij hc => (World.cell?_setCell_other _ _ _ _ (by simp)).trans hc
  exact ⟨o (by omega) h.c0, o (by omega) h.c1, o (by omega) h.c2, o (by omega) h.c3, o (by omega) h.c4, o (by omega) h.c5, World.cell?_setCell_same _ _ _ h.c6, fun i hi => by simpa using h.z i hi⟩
end Go.Proofs.YtlcakglmheleeaaDoor
