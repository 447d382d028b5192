/- What is laid of a whole image comes to that image. -/
import Derived.Test.YtlcakglmheleeaaDoorDiskW
namespace Go.Proofs.YtlcakglmheleeaaDoor
open Go.RowKit

/-- what an entry that can be laid keeps. -/
structure PeOk (e : Pe) : Prop where
  ix : e.1 < 18446744073709551616
  tm : e.2.1 < 18446744073709551616
  kd : e.2.2.1 < 256
  len : e.2.2.2.length ≤ 1000000
  dat : ∀ x ∈ e.2.2.2, x < 256
theorem scan_ents (es : List Pe) : ∀ (m : Img), (∀ e ∈ es, PeOk e) → (∀ i, i < es.length → (es.getD i default).1 = m.si + m.es.length + i + 1) →
    scan m (recsE es) = ({ m with es := m.es ++ es }, (recsE es).length) := by
  induction es with
  | nil => intro m _ _; simp [recsE, scan_nil]
  | cons e es ih =>
    intro m hok hix
    have h0 := hix 0 (by simp)
    simp at h0
    obtain ⟨k1, k2, k3, k4, k5⟩ := hok e (by simp)
    have hc : canE m e.1 = true := by unfold canE; simp; omega
    have hp : putE m e = { m with es := m.es ++ [e] } := by
      unfold putE
      have : e.1 - m.si - 1 = m.es.length := by omega
      rw [this, List.take_length]
    have hi := ih { m with es := m.es ++ [e] } (fun x hx => hok x (by simp [hx])) (fun i hi => by
      have := hix (i + 1) (by simpa using hi)
      simp at this ⊢
      omega)
    have hrec : recsE (e :: es) = entB e ++ recsE es := by simp [recsE]
    rw [hrec, scan_ent m e _ k1 k2 k3 k4 k5 hc, hp, hi]
    simp [entB_length]
theorem scan_whole (m : Img) (h1 : m.tm < 18446744073709551616) (h2 : -1 ≤ m.vo) (h3 : m.vo < 65535) (hs1 : m.si < 18446744073709551616) (hs2 : m.st < 18446744073709551616) (hs3 : m.sv < 18446744073709551616) (hs4 : m.sd.length ≤ 1000000) (hs5 : ∀ x ∈ m.sd, x < 256) (hsnap : hasSnap m.si m.sv = true)
    (hok : ∀ e ∈ m.es, PeOk e) (hix : ∀ i, i < m.es.length → (m.es.getD i default).1 = m.si + i + 1) :
    scan img0 (wholeB m) = (m, (wholeB m).length) := by
  unfold wholeB saveB
  rw [if_pos hsnap, if_pos rfl, scan_snap img0 (m.si, m.st, m.sv, m.sd) _ hs1 hs2 hs3 hs4 hs5, scan_hard _ m.tm m.vo _ h1 h2 h3, scan_ents m.es _ hok (fun i hi => by simpa using hix i hi)]
  simp [snapB_length, hardB_length]
end Go.Proofs.YtlcakglmheleeaaDoor
