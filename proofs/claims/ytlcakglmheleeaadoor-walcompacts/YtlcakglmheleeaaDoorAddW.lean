/- The law's short; the document's Add. -/
import Derived.Test.YtlcakglmheleeaaDoorLawP
import Derived.Test.YtlcakglmheleeaaDoorSame
namespace Go.Proofs.YtlcakglmheleeaaDoor
open Go.RowKit

def shortB (rs : List Rc) : Bool := decide (∀ r ∈ rs, r.d.length ≤ 200) && decide (rs.length ≤ 60)
set_option maxHeartbeats 800000 in
theorem short_any (ao : Option Addr) (rs : List Rc) (cap : Nat) (w : World) (hr : RRow w ao rs cap) :
    Calls Tryd.prog 10 #[.slice ao rs.length cap] w fun e w' => e = .returned (.bool (shortB rs)) ∧ w' = w := by
  have hl := hr.len
  have HR : Hid (RRow w ao rs cap) := hr
  clear hr
  go_enter Tryd.func10, Tryd.ntmps10
  go_wp2
  go_loop [3] (fun iv => ∃ k : Nat, k ≤ rs.length ∧ iv = .int .i64 (k : Int) ∧ Hid (∀ j, j < k → (rs.getD j default).d.length ≤ 200)) (fun iv => rs.length - (intOf iv).toNat)
  case atStart => exact ⟨0, Nat.zero_le _, rfl, fun j hj => by omega⟩
  case round =>
    obtain ⟨k, hk, rfl, HK⟩ := hrel
    by_cases hlt : k < rs.length
    · obtain ⟨b, off, x, rfl, _, _, _, _, c4, gx, Hx⟩ := HR.out.at hlt
      have hxl := gx.row.1
      have hxc := gx.row.2.1
      unfold maxLen at hxc
      have i1 : (0 : Int) ≤ (k : Int) := by omega
      have i2 : (k : Int) < (rs.length : Int) := by omega
      clear gx
      by_cases hd : 200 < x.d.length
      · have HF : Hid (shortB rs = false) := by
          show _ = _
          have hm : rs.getD k default ∈ rs := by rw [List.getD_eq_getElem?_getD, List.getElem?_eq_getElem hlt]; exact List.getElem_mem _
          have : ¬ (∀ r ∈ rs, r.d.length ≤ 200) := fun h => by have := h _ hm; rw [← Hx.out] at this; omega
          unfold shortB
          rw [decide_eq_false this]
          rfl
        go_wp2
        go_ret
        exact ⟨by rw [HF.out]; rfl, rfl⟩
      · go_wp2
        go_round
        case rel => exact ⟨k + 1, by omega, by go_num, fun j hj => by
          by_cases hjk : j = k
          · subst hjk; rw [← Hx.out]; omega
          · exact HK.out j (by omega)⟩
        case measure => simp [intOf]; omega
    · have i2 : ¬ (k : Int) < (rs.length : Int) := by omega
      have HF : Hid (shortB rs = decide (rs.length ≤ 60)) := by
        show _ = _
        have : ∀ r ∈ rs, r.d.length ≤ 200 := fun r hr => by
          obtain ⟨j, hj, rfl⟩ := List.getElem_of_mem hr
          have := HK.out j (by omega)
          rw [List.getD_eq_getElem?_getD, List.getElem?_eq_getElem hj] at this
          exact this
        unfold shortB
        rw [decide_eq_true this, Bool.true_and]
      go_wp2
      go_ret
      refine ⟨?_, rfl⟩
      rw [HF.out]
      congr 2
      simp
      omega
/-- an image that is handed on: where its parts lie. -/
structure ImV (w : World) (D : Nat → Prop) (m : Img) (sa : Option Addr) (sc : Nat) (ea : Option Addr) (es : List En) (c : Nat) : Prop where
  srow : Row w sa m.sd sc
  sblk : m.sd ≠ [] → ∀ a, sa = some a → D a.block
  erow : ERow w D D ea es c
  eq : es.map En.p = m.es
theorem ImV.fr {S D : Nat → Prop} {w w1 : World} {m : Img} {sa : Option Addr} {sc : Nat} {ea : Option Addr} {es : List En} {c : Nat} (h : ImV w D m sa sc ea es c) (f : Fr S w w1) (hs : ∀ k, D k → ¬ S k) : ImV w1 D m sa sc ea es c :=
  ⟨f.row h.srow (fun hne a ha => hs _ (h.sblk hne a ha)), h.sblk, h.erow.fr f hs hs, h.eq⟩
def aggI (m : Img) (sa : Option Addr) (sc : Nat) (ea : Option Addr) (n c : Nat) : Value := .agg #[.int .u64 (m.tm : Int), .int .i64 m.vo, .int .u64 (m.si : Int), .int .u64 (m.st : Int), .int .u64 (m.sv : Int), .slice sa m.sd.length sc, .slice ea n c]
theorem OwnE.eroww {w : World} {D : Nat → Prop} {v : Value} {es : List En} (h : OwnE w D v es) : ∃ ao cap, v = .slice ao es.length cap ∧ ERow w D D ao es cap := by
  obtain ⟨ao, cap, hv, hr, _⟩ := h.row
  refine ⟨ao, cap, hv, hr.1, hr.2.1, hr.2.2.1, fun x hx => (hr.2.2.2.1 x hx).mono (fun k _ hk => hk.1), fun hne => ?_⟩
  obtain ⟨b, off, he, hb, hc⟩ := hr.2.2.2.2 hne
  exact ⟨b, off, he, h.blk b hb, hc⟩
def AddPost (w : World) (D : Nat → Prop) (m : Img) (e : Pe) (r : Ending) (w' : World) : Prop :=
  ∃ m' sa sc ea es c, r = .returned (.tuple #[aggI m' sa sc ea es.length c, .bool (canE m e.1)]) ∧ Hid (m' = if canE m e.1 then putE m e else m) ∧ ImV w' D m' sa sc ea es c ∧ Fr (fun _ => False) w w'
set_option maxRecDepth 100000 in
set_option maxHeartbeats 1600000 in
theorem add_no (m : Img) (sa : Option Addr) (sc : Nat) (ea : Option Addr) (es : List En) (c : Nat) (x : En) (n : Nat) (w : World) (D : Nat → Prop) (h : ImV w D m sa sc ea es c) (hg : Good m n) (hn : n ≤ 1000) (hc : canE m x.i = false) (hxi : x.i < 18446744073709551616) :
    Calls Tryd.prog 30 #[aggI m sa sc ea es.length c, .agg #[.int .u64 (x.i : Int), .int .u64 (x.t : Int), .int .u8 (x.k : Int), .slice x.a x.d.length x.c]] w fun e w' => AddPost w D m x.p e w' := by
  have hel : es.length = m.es.length := by rw [← h.eq, List.length_map]
  have hsi := hg.si
  have hml := hg.len
  have hen : es.length ≤ 1000 := by omega
  have key : x.i ≤ m.si ∨ (¬ x.i ≤ m.si ∧ m.si + es.length + 1 < x.i) := by unfold canE at hc; simp at hc; omega
  have HFA : Hid (∀ o1 o2 o3 : Obj, Fr (fun _ => False) w (((w.alloc o1).alloc o2).alloc o3)) := fun o1 o2 o3 => (((Fr.refl _ w).alloc o1).alloc o2).alloc o3
  have HFIN : Hid (∀ w', Fr (fun _ => False) w w' → AddPost w D m x.p (.returned (.tuple #[.agg #[.int .u64 (m.tm : Int), .int .i64 m.vo, .int .u64 (m.si : Int), .int .u64 (m.st : Int), .int .u64 (m.sv : Int), .slice sa m.sd.length sc, .slice ea es.length c], .bool false])) w') := fun w' f =>
    ⟨m, sa, sc, ea, es, c, by rw [show x.p.1 = x.i from rfl, hc]; rfl, by show _ = _; rw [show x.p.1 = x.i from rfl, hc]; rfl, h.fr f (by simp), f⟩
  obtain ⟨si, Hsi⟩ : ∃ si, Hid (m.si = si) := ⟨_, rfl⟩
  have e0 : IntKind.u64.wrap (es.length : Int) = (es.length : Int) := wrap_u64_small _ (by omega) (by omega)
  unfold aggI
  rw [Hsi.out] at key hsi HFIN ⊢
  clear h hc hg hel hml
  rcases key with k1 | ⟨k1, k2⟩
  all_goals
    go_enter Tryd.func30, Tryd.ntmps30
    go_wp2
    exact bodyPost_ret (v := .tuple #[.agg #[.int .u64 (m.tm : Int), .int .i64 m.vo, .int .u64 (si : Int), .int .u64 (m.st : Int), .int .u64 (m.sv : Int), .slice sa m.sd.length sc, .slice ea es.length c], .bool false]) (by simp [results, Tryd.results30, go_sem]) rfl (HFIN.out _ (HFA.out _ _ _))
end Go.Proofs.YtlcakglmheleeaaDoor
