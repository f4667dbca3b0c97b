import Derived.Test.YtdilkpcnkhedlaaBaZ
/-
  Batch: jobs in reverse order (pure).
-/
namespace Go.Ba
open Go.Vm Go.Ht Go.Proofs.Ytdilkpcnkhedlaa

/-- The number of an operation when all jobs are reversed. -/
def mir : List (List (Int × Int)) → Int → Int → Int
  | [], _, i => i
  | j :: J, off, i => if i < off + j.length then off + (off + j.length) - 1 - i else mir J (off + j.length) i
def revJ (J : List (List (Int × Int))) : List (List (Int × Int)) := J.map List.reverse
theorem revJ_revJ (J : List (List (Int × Int))) : revJ (revJ J) = J := by
  unfold revJ; rw [List.map_map]
  rw [List.map_congr_left (g := id) (fun j _ => by simp), List.map_id]
theorem revJ_flat (J : List (List (Int × Int))) : (revJ J).flatten.length = J.flatten.length := by
  induction J with
  | nil => rfl
  | cons j J ih =>
    unfold revJ at ih ⊢
    rw [List.map_cons, List.flatten_cons, List.length_append, List.flatten_cons, List.length_append, ih, List.length_reverse]
theorem mir_in : ∀ (J : List (List (Int × Int))) (off i : Int), off ≤ i → i < off + J.flatten.length → off ≤ mir J off i ∧ mir J off i < off + J.flatten.length
  | [], off, i, h1, h2 => by simp at h2; omega
  | j :: J, off, i, h1, h2 => by
    rw [List.flatten_cons, List.length_append] at h2 ⊢
    unfold mir
    split
    · omega
    · have := mir_in J (off + j.length) i (by omega) (by omega)
      omega
theorem mir_mir : ∀ (J : List (List (Int × Int))) (off i : Int), off ≤ i → i < off + J.flatten.length → mir (revJ J) off (mir J off i) = i
  | [], off, i, h1, h2 => by simp at h2; omega
  | j :: J, off, i, h1, h2 => by
    rw [List.flatten_cons, List.length_append] at h2
    show mir (j.reverse :: revJ J) off (mir (j :: J) off i) = i
    by_cases h : i < off + j.length
    · have e : mir (j :: J) off i = off + (off + j.length) - 1 - i := if_pos h
      rw [e]
      show (if _ then _ else _) = i
      rw [List.length_reverse, if_pos (by omega)]; omega
    · have e : mir (j :: J) off i = mir J (off + j.length) i := if_neg h
      have := mir_in J (off + j.length) i (by omega) (by omega)
      rw [e]
      show (if _ then _ else _) = i
      rw [List.length_reverse, if_neg (by omega)]
      exact mir_mir J (off + j.length) i (by omega) (by omega)
theorem mir_op : ∀ (J : List (List (Int × Int))) (off i : Int), off ≤ i → i < off + J.flatten.length → (revJ J).flatten.getD (mir J off i - off).toNat (0, 0) = J.flatten.getD (i - off).toNat (0, 0)
  | [], off, i, h1, h2 => by simp at h2; omega
  | j :: J, off, i, h1, h2 => by
    rw [List.flatten_cons, List.length_append] at h2
    show (j.reverse ++ (revJ J).flatten).getD _ _ = (j ++ J.flatten).getD _ _
    simp only [List.getD_eq_getElem?_getD]
    by_cases h : i < off + j.length
    · have e : mir (j :: J) off i = off + (off + j.length) - 1 - i := if_pos h
      rw [e, List.getElem?_append_left (by rw [List.length_reverse]; omega), List.getElem?_append_left (by omega), List.getElem?_reverse (by omega)]
      congr 2
      omega
    · have e : mir (j :: J) off i = mir J (off + j.length) i := if_neg h
      have hm := mir_in J (off + j.length) i (by omega) (by omega)
      rw [e, List.getElem?_append_right (by rw [List.length_reverse]; omega), List.getElem?_append_right (by omega), List.length_reverse]
      have ih := mir_op J (off + j.length) i (by omega) (by omega)
      simp only [List.getD_eq_getElem?_getD] at ih
      rw [show (mir J (off + j.length) i - off).toNat - j.length = (mir J (off + j.length) i - (off + j.length)).toNat by omega, ih]
      congr 2
      omega
theorem mir_arc : ∀ (J : List (List (Int × Int))) (off : Nat) (a : Int × Int), a ∈ arcsO off (revJ J) → (mir (revJ J) off a.2, mir (revJ J) off a.1) ∈ arcsO off J
  | [], off, a, h => by simp [revJ, arcsO] at h
  | j :: J, off, a, h => by
    have h : a ∈ arcsK off j.reverse.length ++ arcsO (off + j.reverse.length) (revJ J) := h
    show (mir (j.reverse :: revJ J) off a.2, mir (j.reverse :: revJ J) off a.1) ∈ arcsK off j.length ++ arcsO (off + j.length) J
    rw [List.length_reverse] at h
    rw [List.mem_append] at h ⊢
    rcases h with h | h
    · refine .inl ?_
      simp only [arcsK, List.mem_map, List.mem_range] at h ⊢
      obtain ⟨t, ht, rfl⟩ := h
      have e1 : mir (j.reverse :: revJ J) off ((off + t + 1 : Nat) : Int) = off + (off + j.length) - 1 - ((off + t + 1 : Nat) : Int) := by
        show (if _ then _ else _) = _
        rw [List.length_reverse, if_pos (by omega)]
      have e2 : mir (j.reverse :: revJ J) off ((off + t : Nat) : Int) = off + (off + j.length) - 1 - ((off + t : Nat) : Int) := by
        show (if _ then _ else _) = _
        rw [List.length_reverse, if_pos (by omega)]
      rw [e1, e2]
      exact ⟨j.length - 2 - t, by omega, by ext <;> simp only <;> omega⟩
    · refine .inr ?_
      have hi := arcsO_in (off + j.length) (revJ J) a h
      have e : ∀ z : Int, (off : Int) + j.length ≤ z → mir (j.reverse :: revJ J) off z = mir (revJ J) ((off + j.length : Nat) : Int) z := fun z hz => by
        show (if _ then _ else _) = _
        rw [List.length_reverse, if_neg (by omega)]; congr 1
      rw [e a.1 (by omega), e a.2 (by omega)]
      exact mir_arc J (off + j.length) a h
theorem rev_shop {N : Int} {J : List (List (Int × Int))} (h : ShopOk N J) : ShopOk N (revJ J) := by
  refine ⟨h.m1, h.m4, by unfold revJ; rw [List.length_map]; exact h.j1, by unfold revJ; rw [List.length_map]; exact h.j3, fun j hj => ?_, by rw [revJ_flat]; exact h.n9⟩
  obtain ⟨i, hi, rfl⟩ := List.mem_map.1 hj
  have := h.jb i hi
  refine ⟨by rw [List.length_reverse]; exact this.1, by rw [List.length_reverse]; exact this.2.1, fun o ho => this.2.2.1 o (by simpa using ho), ?_⟩
  rw [List.map_reverse]
  exact (List.reverse_perm _).nodup_iff.2 this.2.2.2
theorem rev_shopB {N : Int} {J : List (List (Int × Int))} : shopB N (revJ J) = shopB N J := by
  cases h : shopB N J with
  | true => exact shopB_iff.2 (rev_shop (shopB_iff.1 h))
  | false =>
    cases h2 : shopB N (revJ J) with
    | false => rfl
    | true =>
      have := shopB_iff.2 (rev_shop (shopB_iff.1 h2))
      rw [revJ_revJ, h] at this; cases this
/-- The schedule in reverse. -/
theorem rev_sched {N : Int} {J : List (List (Int × Int))} {x : Int → Int} {C : Int} (hx : Sched J.flatten (arcsO 0 J) (rivO (msO N.toNat J.flatten)) x C) : ∃ y, Sched (revJ J).flatten (arcsO 0 (revJ J)) (rivO (msO N.toNat (revJ J).flatten)) y C := by
  have hlen := revJ_flat J
  have hin : ∀ i : Int, 0 ≤ i → i < (revJ J).flatten.length → 0 ≤ mir (revJ J) 0 i ∧ mir (revJ J) 0 i < J.flatten.length := fun i h0 h1 => by
    have := mir_in (revJ J) 0 i h0 (by omega)
    omega
  have hop : ∀ i : Int, 0 ≤ i → i < (revJ J).flatten.length → (revJ J).flatten.getD i.toNat (0, 0) = J.flatten.getD (mir (revJ J) 0 i).toNat (0, 0) := fun i h0 h1 => by
    have h2 := mir_op (revJ J) 0 i h0 (by omega)
    rw [revJ_revJ] at h2
    simp only [Int.sub_zero] at h2
    exact h2.symm
  have htm : ∀ i : Int, 0 ≤ i → i < (revJ J).flatten.length → tm (revJ J).flatten i = tm J.flatten (mir (revJ J) 0 i) := fun i h0 h1 => by
    unfold tm; rw [hop i h0 h1]
  have hinj : ∀ i j : Int, 0 ≤ i → i < (revJ J).flatten.length → 0 ≤ j → j < (revJ J).flatten.length → mir (revJ J) 0 i = mir (revJ J) 0 j → i = j := fun i j h0 h1 h2 h3 e => by
    have a := mir_mir (revJ J) 0 i h0 (by omega)
    have b := mir_mir (revJ J) 0 j h2 (by omega)
    rw [← a, ← b, e]
  refine ⟨fun i => C - x (mir (revJ J) 0 i) - tm J.flatten (mir (revJ J) 0 i), ⟨fun i h0 h1 => ?_, fun a ha => ?_⟩, fun p hp => ?_, fun i h0 h1 => ?_⟩
  · have h2 := hin i h0 h1
    have := hx.le _ h2.1 h2.2
    omega
  · have hi := arcs_in (J := revJ J) a ha
    have h1 := hx.sol.arc _ (mir_arc J 0 a ha)
    simp only at h1
    rw [htm a.1 hi.1 hi.2.1]
    have e : ((0 : Nat) : Int) = 0 := rfl
    rw [e] at h1
    omega
  · obtain ⟨m, hm, hlt, q1, q2⟩ := mem_riv.1 hp
    have r1 := mem_rowI.1 q1
    have r2 := mem_rowI.1 q2
    have i1 := hin p.1 r1.1 r1.2.1
    have i2 := hin p.2 r2.1 r2.2.1
    have m1 : mir (revJ J) 0 p.1 ∈ rowI J.flatten (m : Int) := mem_rowI.2 ⟨i1.1, i1.2, by rw [← hop p.1 r1.1 r1.2.1]; exact r1.2.2⟩
    have m2 : mir (revJ J) 0 p.2 ∈ rowI J.flatten (m : Int) := mem_rowI.2 ⟨i2.1, i2.2, by rw [← hop p.2 r2.1 r2.2.1]; exact r2.2.2⟩
    have hne : mir (revJ J) 0 p.1 ≠ mir (revJ J) 0 p.2 := fun e => by
      have := hinj p.1 p.2 r1.1 r1.2.1 r2.1 r2.2.1 e
      omega
    rw [htm p.1 r1.1 r1.2.1, htm p.2 r2.1 r2.2.1]
    rcases Int.lt_or_gt_of_ne hne with h | h
    · rcases hx.pr (mir (revJ J) 0 p.1, mir (revJ J) 0 p.2) (mem_riv.2 ⟨m, hm, h, m1, m2⟩) with e | e
      · simp only at e; exact .inr (by omega)
      · simp only at e; exact .inl (by omega)
    · rcases hx.pr (mir (revJ J) 0 p.2, mir (revJ J) 0 p.1) (mem_riv.2 ⟨m, hm, h, m2, m1⟩) with e | e
      · simp only at e; exact .inl (by omega)
      · simp only at e; exact .inr (by omega)
  · have h2 := hin i h0 h1
    have := hx.sol.nn _ h2.1 h2.2
    rw [htm i h0 h1]; omega
theorem rev_le {N : Int} {J : List (List (Int × Int))} {hs hs2 : List Int} (h : BestOk N J hs) (h2 : BestOk N (revJ J) hs2) : spanO (revJ J).flatten hs2 ≤ spanO J.flatten hs := by
  obtain ⟨y, hy⟩ := rev_sched h.sched
  exact h2.least hy
/-- With reversed jobs the least makespan is the same. -/
theorem rev_bs {N : Int} {J : List (List (Int × Int))} : bsN N (revJ J) = bsN N J ∧ bsE N (revJ J) = bsE N J := by
  cases h : shopB N J with
  | false =>
    obtain ⟨a, b, _⟩ := bs_no h
    obtain ⟨a2, b2, _⟩ := bs_no (rev_shopB.trans h)
    rw [a, b, a2, b2]; exact ⟨rfl, rfl⟩
  | true =>
    obtain ⟨hs, h1, a, b, _⟩ := bs_ok h
    obtain ⟨hs2, h2, a2, b2, _⟩ := bs_ok (rev_shopB.trans h)
    rw [a, b, a2, b2]
    refine ⟨Int.le_antisymm (rev_le h1 h2) ?_, rfl⟩
    have := rev_le h2 (hs2 := hs) (by rw [revJ_revJ]; exact h1)
    rwa [revJ_revJ] at this
end Go.Ba

