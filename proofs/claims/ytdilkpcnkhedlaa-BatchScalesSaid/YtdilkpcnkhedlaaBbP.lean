import Derived.Test.YtdilkpcnkhedlaaBaZ
import Derived.Test.YtdilkpcnkhedlaaBaW
import Derived.Test.YtdilkpcnkhedlaaVmZl
/-
  Batch: all orders of some numbers, and of all machines (pure).
-/
namespace Go.Ba
open Go.Vm Go.Ht Go.Proofs.Ytdilkpcnkhedlaa

def permsN : Nat → List Int → List (List Int)
  | 0, _ => [[]]
  | n + 1, l => (List.range l.length).flatMap fun i => (permsN n (l.take i ++ l.drop (i + 1))).map fun p => l.getD i 0 :: p
/-- All orders of some numbers. -/
def permsO (l : List Int) : List (List Int) := permsN l.length l
theorem rest_len {l : List Int} {i : Nat} (h : i < l.length) : (l.take i ++ l.drop (i + 1)).length = l.length - 1 := by simp; omega
theorem permsO_cons {l : List Int} (h : 0 < l.length) : permsO l = (List.range l.length).flatMap fun i => (permsO (l.take i ++ l.drop (i + 1))).map fun p => l.getD i 0 :: p := by
  obtain ⟨n, hn⟩ : ∃ n, l.length = n + 1 := ⟨l.length - 1, by omega⟩
  unfold permsO
  rw [hn]
  show permsN (n + 1) l = _
  conv => lhs; unfold permsN
  rw [hn]
  rw [List.flatMap_def, List.flatMap_def]
  congr 1
  apply List.map_congr_left
  intro i hi
  rw [rest_len (by have := List.mem_range.1 hi; omega), hn, Nat.add_sub_cancel]
theorem mem_permsN : ∀ (n : Nat) (l p : List Int), l.length = n → (p ∈ permsN n l ↔ p.Perm l)
  | 0, l, p, h => by
    have : l = [] := List.length_eq_zero_iff.1 h
    subst this
    simp [permsN]
  | n + 1, l, p, h => by
    unfold permsN
    rw [List.mem_flatMap]
    constructor
    · rintro ⟨i, hi, hp⟩
      have hi := List.mem_range.1 hi
      obtain ⟨q, hq, rfl⟩ := List.mem_map.1 hp
      have hq := (mem_permsN n _ q (by rw [rest_len hi]; omega)).1 hq
      have e : l.getD i 0 = l[i] := by simp [hi]
      rw [e]
      refine (hq.cons _).trans ?_
      conv => rhs; rw [← List.take_append_drop i l, List.drop_eq_getElem_cons hi]
      exact List.perm_middle.symm
    · intro hp
      cases p with
      | nil => have := hp.length_eq; simp at this; omega
      | cons x p =>
        have hx : x ∈ l := hp.mem_iff.1 (by simp)
        obtain ⟨i, hi, rfl⟩ := List.getElem_of_mem hx
        refine ⟨i, List.mem_range.2 hi, List.mem_map.2 ⟨p, (mem_permsN n _ p (by rw [rest_len hi]; omega)).2 ?_, by simp [hi]⟩⟩
        have h2 : (l[i] :: p).Perm (l[i] :: (l.take i ++ l.drop (i + 1))) := by
          refine hp.trans ?_
          conv => lhs; rw [← List.take_append_drop i l, List.drop_eq_getElem_cons hi]
          exact List.perm_middle
        exact h2.cons_inv
theorem mem_permsO {l p : List Int} : p ∈ permsO l ↔ p.Perm l := mem_permsN _ _ _ rfl
/-- All orders of the machines from m on, k of them. -/
def ordersN (ops : List (Int × Int)) : Nat → Nat → List (List (List Int))
  | 0, _ => [[]]
  | k + 1, m => (ordersN ops k (m + 1)).flatMap fun rest => (permsO (rowI ops (m : Int))).map fun p => p :: rest
theorem mem_ordersN {ops : List (Int × Int)} : ∀ (k m : Nat) (l : List (List Int)), l ∈ ordersN ops k m ↔ l.length = k ∧ ∀ i (h : i < l.length), l[i].Perm (rowI ops ((m + i : Nat) : Int))
  | 0, m, l => by
    simp only [ordersN, List.mem_singleton]
    constructor
    · rintro rfl; simp
    · rintro ⟨h, _⟩; exact List.length_eq_zero_iff.1 h
  | k + 1, m, l => by
    unfold ordersN
    rw [List.mem_flatMap]
    constructor
    · rintro ⟨rest, hr, hp⟩
      obtain ⟨p, hp2, rfl⟩ := List.mem_map.1 hp
      obtain ⟨h1, h2⟩ := (mem_ordersN k (m + 1) rest).1 hr
      refine ⟨by simp [h1], fun i hi => ?_⟩
      cases i with
      | zero => simpa using mem_permsO.1 hp2
      | succ i =>
        have := h2 i (by simpa using hi)
        rw [show m + 1 + i = m + (i + 1) by omega] at this
        simpa using this
    · rintro ⟨h1, h2⟩
      cases l with
      | nil => simp at h1
      | cons p rest =>
        refine ⟨rest, (mem_ordersN k (m + 1) rest).2 ⟨by simpa using h1, fun i hi => ?_⟩, List.mem_map.2 ⟨p, mem_permsO.2 ?_, rfl⟩⟩
        · have := h2 (i + 1) (by simpa using hi)
          rw [show m + 1 + i = m + (i + 1) by omega]
          simpa using this
        · have := h2 0 (by simp)
          rw [Nat.add_zero] at this
          exact this
/-- The orders of a shop. -/
theorem mem_orders {M : Nat} {ops : List (Int × Int)} {l : List (List Int)} : l ∈ ordersN ops M 0 ↔ ordB M ops l = true := by
  rw [mem_ordersN]
  constructor
  · rintro ⟨h1, h2⟩
    refine decide_eq_true ?_
    apply List.ext_getElem
    · rw [List.length_map, msO_len, h1]
    · intro i h3 h4
      rw [List.length_map] at h3
      rw [List.getElem_map]
      simp only [msO, List.getElem_map, List.getElem_range]
      have := h2 i h3
      rw [Nat.zero_add] at this
      exact sort_eq this
  · intro h
    obtain ⟨h1, h2⟩ := ordB_row h
    exact ⟨h1, fun i hi => by rw [Nat.zero_add]; exact h2 i hi⟩
/-- The least makespan of some orders. -/
def leastT (N : Int) (J : List (List (Int × Int))) (L : List (List (List Int))) : Int := L.foldl (fun m l => if stE N J l = 0 then min m (spE N J l) else m) 1000
theorem least_le {N : Int} {J : List (List (Int × Int))} : ∀ (L : List (List (List Int))) (a : Int), L.foldl (fun m l => if stE N J l = 0 then min m (spE N J l) else m) a ≤ a
  | [], a => Int.le_refl _
  | l :: L, a => by
    rw [List.foldl_cons]
    refine Int.le_trans (least_le L _) ?_
    split
    · omega
    · exact Int.le_refl _
theorem least_mem {N : Int} {J : List (List (Int × Int))} {l : List (List Int)} (hl : stE N J l = 0) : ∀ (L : List (List (List Int))) (a : Int), l ∈ L → L.foldl (fun m l => if stE N J l = 0 then min m (spE N J l) else m) a ≤ spE N J l
  | [], _, h => by simp at h
  | k :: L, a, h => by
    rw [List.foldl_cons]
    rcases List.mem_cons.1 h with rfl | h
    · rw [if_pos hl]
      exact Int.le_trans (least_le L _) (by omega)
    · exact least_mem hl L _ h
theorem least_ge {N : Int} {J : List (List (Int × Int))} {c : Int} : ∀ (L : List (List (List Int))) (a : Int), c ≤ a → (∀ l ∈ L, stE N J l = 0 → c ≤ spE N J l) → c ≤ L.foldl (fun m l => if stE N J l = 0 then min m (spE N J l) else m) a
  | [], _, h, _ => h
  | k :: L, a, h, hl => by
    rw [List.foldl_cons]
    refine least_ge L _ ?_ fun l h2 => hl l (by simp [h2])
    split
    · rename_i e
      have := hl k (by simp) e
      omega
    · exact h
theorem least_take {N : Int} {J : List (List (Int × Int))} {L : List (List (List Int))} {i : Nat} (h : i < L.length) : leastT N J (L.take (i + 1)) = if stE N J L[i] = 0 then min (leastT N J (L.take i)) (spE N J L[i]) else leastT N J (L.take i) := by
  unfold leastT
  rw [List.take_succ_eq_append_getElem h, List.foldl_append]; rfl
/-- The times of an order are at most the sum of all. -/
theorem span_small {N : Int} {J : List (List (Int × Int))} {hs : List Int} (hB : BestOk N J hs) : spanO J.flatten hs ≤ 1000 := by
  have hS := shopB_iff.1 hB.ok
  have hT := times_ok hS
  have n9 := hS.n9
  -- all operations one after another, by their numbers
  refine Int.le_trans (hB.least (x := fun i => 20 * i) (C := 180) ⟨⟨fun i h0 _ => by omega, fun a ha => ?_⟩, fun p hp => .inl ?_, fun i h0 h1 => ?_⟩) (by omega)
  · have h1 := arcsO_up 0 J a ha
    have h2 := arcs_in a ha
    have := tm_bd hT h2.1 h2.2.1
    omega
  · have h1 := riv_up p hp
    have h2 := riv_in p hp
    have := tm_bd hT h2.1 h2.2.1
    omega
  · have := tm_bd hT h0 h1
    omega
/-- The least makespan of all orders is that of the best one. -/
theorem least_best {N : Int} {J : List (List (Int × Int))} {hs : List Int} (hB : BestOk N J hs) : leastT N J (ordersN J.flatten N.toNat 0) = spanO J.flatten hs := by
  obtain ⟨hs2, h1, h2⟩ := hB.order
  refine Int.le_antisymm ?_ ?_
  · have h0 : stE N J (ordO hs (msO N.toNat J.flatten)) = 0 := stE_zero.2 ⟨hs2, h1⟩
    have := least_mem h0 (ordersN J.flatten N.toNat 0) 1000 (mem_orders.2 (ordO_ordB hs))
    have e : spE N J (ordO hs (msO N.toNat J.flatten)) = spanO J.flatten hs := by unfold spE; rw [h1]; exact h2
    rw [e] at this; exact this
  · refine least_ge _ _ (span_small hB) fun l _ h0 => ?_
    obtain ⟨hs3, h3⟩ := stE_zero.1 h0
    have := hB.le_order h3
    unfold spE; rw [h3]; exact this
/-- A row as it is made: its first element and the others. -/
def rowPV (p : List Int) : DV := .sl (ints p) p.length (if p.length ≤ 1 then some p.length else none)
theorem rowPV_ok (p : List Int) : Ints (rowPV p) p := ints_ok
def permV (l : List Int) : DV := if l.length = 0 then .sl [Dnil] 1 (some 1) else .sl ((permsO l).map rowPV) (permsO l).length none
theorem perm_mat (l : List Int) : Mat (permV l) (permsO l) := by
  unfold permV
  split
  · rename_i h
    have : l = [] := List.length_eq_zero_iff.1 h
    subst this
    exact (Vec.sl (l := [[]]) (cap := some 1) rfl fun i c x hc hx => by
      match i with
      | 0 => cases hc; cases hx; exact .nil
      | i + 1 => simp at hx)
  · exact .sl (by simp) fun i c x hc hx => by
      rw [List.getElem?_map, hx] at hc; cases hc; exact rowPV_ok x
end Go.Ba

