import Derived.Test.YthbnnffmhnjpjaaCyRi
import Derived.Test.YthbnnffmhnjpjaaCyEb
/-
  Times: the reference: Mean, Critical; the law CycleMeans.
-/
namespace Go.Proofs.Ythbnnffmhnjpjaa
open Go.Vm Go.Cy Go.RowKit
theorem mean_parts {m : List (List Int)} (hv : validB 1000 m = true) : ((mFold (mf m) (cycsN m.length (mf m) m.length)).2.2 = [] → measE m = 5 ∧ measF m = (0, 0) ∧ crV m = []) ∧ ((mFold (mf m) (cycsN m.length (mf m) m.length)).2.2 ≠ [] → measE m = 0 ∧ measF m = lowI ((mFold (mf m) (cycsN m.length (mf m) m.length)).1, (mFold (mf m) (cycsN m.length (mf m) m.length)).2.1) ∧ crV m = cI (mFold (mf m) (cycsN m.length (mf m) m.length)).2.2) := by
  obtain ⟨sm, _⟩ := Cy.Small.of hv
  cases hm : meanI m.length (mf m) with
  | none =>
    obtain ⟨e1, e2, _⟩ := meas_none hv hm
    rw [sm.no_cycs hm]
    refine ⟨fun _ => ⟨e1, e2, ?_⟩, fun h => absurd rfl h⟩
    unfold crV; rw [e1]; rfl
  | some pq =>
    obtain ⟨p, q⟩ := pq
    obtain ⟨e1, e2, _⟩ := meas_some hv hm
    obtain ⟨c, c1, c2, c3, c4, c5, c6⟩ := sm.fold hm
    obtain ⟨_, g1, g2, _⟩ := sm.mean hm
    rw [c3]
    refine ⟨fun h => absurd h c1, fun _ => ⟨e1, ?_, ?_⟩⟩
    · have hl : 0 < c.length := List.length_pos_iff.2 c1
      obtain ⟨l1, l2, l3⟩ := low_spec (f := (wtS (mf m) (cI c) c.length, (c.length : Int))) (by simp only; omega)
      simp only at l1 l2 l3
      have key : p * (lowI (wtS (mf m) (cI c) c.length, (c.length : Int))).2 = (lowI (wtS (mf m) (cI c) c.length, (c.length : Int))).1 * q := by
        generalize lowI (wtS (mf m) (cI c) c.length, (c.length : Int)) = L at *
        have h1 : p * L.2 * (c.length : Int) = L.1 * q * (c.length : Int) := by
          rw [Int.mul_right_comm, ← c6, Int.mul_right_comm, l2, Int.mul_right_comm]
        exact Int.eq_of_mul_eq_mul_right (by omega) h1
      obtain ⟨u1, u2⟩ := low_uniq g2.1 l1 g1 l3 key
      rw [e2, u1, u2]
    · unfold crV gainM
      rw [e1, e2, if_pos rfl]; exact c4
end Go.Proofs.Ythbnnffmhnjpjaa

