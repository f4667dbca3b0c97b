import Derived.Test.YtdgahcbalabjdaaGreatZBaJ
/-
  Batch: the reference: operations, arcs of an order.
-/
namespace Go.Proofs.YtdgahcbalabjdaaGreat
open Go.Vm Go.Ht Go.Ba
/-- Arcs between neighbours. -/
def consT (l : List Int) (k : Nat) : List (Int × Int) := (List.range (k - 1)).map fun t => (l.getD t 0, l.getD (t + 1) 0)
def ordA (l : List (List Int)) : List (Int × Int) := l.flatMap fun r => consT r r.length
theorem consT_succ (l : List Int) (k : Nat) (h : 1 ≤ k) : consT l (k + 1) = consT l k ++ [(l.getD (k - 1) 0, l.getD k 0)] := by
  obtain ⟨k, rfl⟩ : ∃ j, k = j + 1 := ⟨k - 1, by omega⟩
  unfold consT
  rw [show k + 1 + 1 - 1 = k + 1 by omega, show k + 1 - 1 = k by omega, List.range_succ, List.map_append]; rfl
theorem ordA_take {l : List (List Int)} {i : Nat} (hi : i < l.length) : ordA (l.take (i + 1)) = ordA (l.take i) ++ consT l[i] l[i].length := by
  unfold ordA; rw [List.take_succ_eq_append_getElem hi, List.flatMap_append]; simp
theorem ordA_len : ∀ {l : List (List Int)}, (∀ r ∈ l, r.length ≤ 1000) → (ordA l).length ≤ l.length * 1000
  | [], _ => by simp [ordA]
  | r :: l, h => by
    have h1 := ordA_len (l := l) fun x hx => h x (by simp [hx])
    have h2 := h r (by simp)
    have h3 : (consT r r.length).length = r.length - 1 := by simp [consT]
    unfold ordA at h1 ⊢
    rw [List.flatMap_cons, List.length_append, h3, List.length_cons, Nat.add_mul]; omega
end Go.Proofs.YtdgahcbalabjdaaGreat

