import Derived.Test.YtdilkpcnkhedlaaBaU
/-
  Batch: an order is a schedule, and a schedule gives an order (pure).
-/
namespace Go.Ba
open Go.Vm Go.Ht Go.Proofs.Ytdilkpcnkhedlaa

theorem consT_mem {l : List Int} {k : Nat} (h : k + 1 < l.length) : (l[k]'(by omega), l[k + 1]) ∈ consT l l.length := by
  unfold consT
  rw [List.mem_map]
  refine ⟨k, List.mem_range.2 (by omega), ?_⟩
  simp [show k < l.length by omega, h]
/-- Along a row every one ends before every later one starts. -/
theorem row_chain {os ar : List (Int × Int)} {x : Int → Int} {l : List Int} (hT : Times os) (hin : ∀ y ∈ l, 0 ≤ y ∧ y < os.length) (hx : Sol os ar x) (hs : ∀ a ∈ consT l l.length, a ∈ ar) : ∀ (j i : Nat) (hij : i < j) (hj : j < l.length), x (l[i]'(by omega)) + tm os (l[i]'(by omega)) ≤ x l[j]
  | 0, i, hij, _ => absurd hij (Nat.not_lt_zero _)
  | j + 1, i, hij, hj => by
    have h1 := hx.arc _ (hs _ (consT_mem hj))
    simp only at h1
    by_cases e : i = j
    · subst e; exact h1
    · have h2 := row_chain hT hin hx hs j i (by omega) (by omega)
      have h3 := hin _ (List.getElem_mem (show j < l.length by omega))
      have h4 := tm_bd hT h3.1 h3.2
      omega
theorem mem_ordA {l : List (List Int)} {r : List Int} (hr : r ∈ l) {a : Int × Int} (ha : a ∈ consT r r.length) : a ∈ ordA l := List.mem_flatMap.2 ⟨r, hr, ha⟩
/-- The times of an order are a schedule. -/
theorem order_sched {N : Int} {J : List (List (Int × Int))} {l : List (List Int)} {hs : List Int} (h : stH N J l = some hs) : Sched J.flatten (arcsO 0 J) (rivO (msO N.toNat J.flatten)) (gt hs) (spanO J.flatten hs) := by
  obtain ⟨hsb, hob, hh⟩ := stH_some h
  have hK := stOk hsb hob
  have hx := hds_sol hK.tms hK.inn hh
  obtain ⟨hl, hrow⟩ := ordB_row hob
  refine ⟨hx.sub fun a ha => List.mem_append_left _ ha, fun p hp => ?_, fun i h0 h1 => span_ge h0 h1⟩
  obtain ⟨m, hm, hlt, h1, h2⟩ := mem_riv.1 hp
  have hml : m < l.length := by omega
  have hperm := hrow m hml
  obtain ⟨i, hi, e1⟩ := List.getElem_of_mem (hperm.mem_iff.2 h1)
  obtain ⟨j, hj, e2⟩ := List.getElem_of_mem (hperm.mem_iff.2 h2)
  have hin : ∀ y ∈ l[m], 0 ≤ y ∧ y < J.flatten.length := fun y hy => by have := mem_rowI.1 (hperm.mem_iff.1 hy); omega
  have hch := row_chain hK.tms hin hx (fun a ha => List.mem_append_right _ (mem_ordA (List.getElem_mem hml) ha))
  rcases Nat.lt_trichotomy i j with e | e | e
  · have := hch j i e hj
    rw [e1, e2] at this; exact .inl this
  · subst e
    rw [e1] at e2; omega
  · have := hch i j e hi
    rw [e1, e2] at this; exact .inr this
/-- The shortest order of a shop. -/
structure BestOk (N : Int) (J : List (List (Int × Int))) (hs : List Int) : Prop where
  ok : shopB N J = true
  sh : shO J.flatten (arcsO 0 J) (rivO (msO N.toNat J.flatten)) = some hs
theorem BestOk.sched {N : Int} {J : List (List (Int × Int))} {hs : List Int} (h : BestOk N J hs) : Sched J.flatten (arcsO 0 J) (rivO (msO N.toNat J.flatten)) (gt hs) (spanO J.flatten hs) :=
  sh_sched (times_ok (shopB_iff.1 h.ok)) _ _ _ arcs_in riv_in h.sh
/-- No schedule is shorter. -/
theorem BestOk.least {N : Int} {J : List (List (Int × Int))} {hs : List Int} (h : BestOk N J hs) {x : Int → Int} {C : Int} (hx : Sched J.flatten (arcsO 0 J) (rivO (msO N.toNat J.flatten)) x C) : spanO J.flatten hs ≤ C := by
  have hS := shopB_iff.1 h.ok
  obtain ⟨r, h1, h2⟩ := sh_least (times_ok hS) (ops_pos hS) _ _ arcs_in riv_in hx
  rw [h.sh] at h1; cases h1; exact h2
theorem BestOk.le_order {N : Int} {J : List (List (Int × Int))} {hs : List Int} (h : BestOk N J hs) {l : List (List Int)} {hs2 : List Int} (h2 : stH N J l = some hs2) : spanO J.flatten hs ≤ spanO J.flatten hs2 := h.least (order_sched h2)
theorem BestOk.len {N : Int} {J : List (List (Int × Int))} {hs : List Int} (h : BestOk N J hs) : hs.length = J.flatten.length ∧ Bd 200000000 hs := by
  have hS := shopB_iff.1 h.ok
  have hal := arcsO_len 0 J
  have hrl := riv_len (ms := msO N.toNat J.flatten) (fun l hl => Nat.le_trans (ms_row hl).1 hS.n9)
  rw [msO_len] at hrl
  have m4 := hS.m4
  have n9 := hS.n9
  exact shO_ok (times_ok hS) hS.n9 _ _ hs (by omega) arcs_in riv_in h.sh
theorem ordO_ordB {N : Int} {J : List (List (Int × Int))} (hs : List Int) : ordB N.toNat J.flatten (ordO hs (msO N.toNat J.flatten)) = true := by
  refine decide_eq_true ?_
  unfold ordO msO
  rw [List.map_map, List.map_map]
  apply List.map_congr_left
  intro m _
  exact sort_eq (insS_perm _ _)
/-- The order by the times of the shortest one has its span. -/
theorem BestOk.order {N : Int} {J : List (List (Int × Int))} {hs : List Int} (h : BestOk N J hs) : ∃ hs2, stH N J (ordO hs (msO N.toNat J.flatten)) = some hs2 ∧ spanO J.flatten hs2 = spanO J.flatten hs := by
  have hS := shopB_iff.1 h.ok
  have hT := times_ok hS
  have hsch := h.sched
  have hob := ordO_ordB (N := N) (J := J) hs
  have hK := stOk h.ok hob
  have hsol : Sol J.flatten (arcsO 0 J ++ ordA (ordO hs (msO N.toNat J.flatten))) (gt hs) := by
    refine ⟨hsch.sol.nn, fun a ha => ?_⟩
    rcases List.mem_append.1 ha with ha | ha
    · exact hsch.sol.arc a ha
    · obtain ⟨r, hr, hp⟩ := List.mem_flatMap.1 ha
      obtain ⟨r0, hr0, rfl⟩ := List.mem_map.1 hr
      obtain ⟨m, hm, rfl⟩ := mem_msO.1 hr0
      have hperm := insS_perm (fun x y => cmpI (gt hs x) (gt hs y)) (rowI J.flatten (m : Int))
      have hlen := insS_len (fun x y => cmpI (gt hs x) (gt hs y)) (rowI J.flatten (m : Int))
      have hsort := insS_sorted (gt hs) (rowI J.flatten (m : Int))
      simp only [consT, List.mem_map, List.mem_range] at hp
      obtain ⟨t, ht, rfl⟩ := hp
      have t1 : t < (insS (fun x y => cmpI (gt hs x) (gt hs y)) (rowI J.flatten (m : Int))).length := by omega
      have t2 : t + 1 < (insS (fun x y => cmpI (gt hs x) (gt hs y)) (rowI J.flatten (m : Int))).length := by omega
      have hle := hsort t (t + 1) (by omega) (by omega)
      have m1 := hperm.mem_iff.1 (getD_mem t1)
      have m2 := hperm.mem_iff.1 (getD_mem t2)
      have hnd := hperm.nodup_iff.2 (rowI_nodup J.flatten (m : Int))
      have hne : (insS (fun x y => cmpI (gt hs x) (gt hs y)) (rowI J.flatten (m : Int))).getD t 0 ≠ (insS (fun x y => cmpI (gt hs x) (gt hs y)) (rowI J.flatten (m : Int))).getD (t + 1) 0 := by
        simp only [List.getD_eq_getElem?_getD, List.getElem?_eq_getElem t1, List.getElem?_eq_getElem t2, Option.getD_some]
        intro e
        have := (List.getElem_inj (h₀ := t1) (h₁ := t2) hnd).1 e
        omega
      generalize (insS (fun x y => cmpI (gt hs x) (gt hs y)) (rowI J.flatten (m : Int))).getD t 0 = a at *
      generalize (insS (fun x y => cmpI (gt hs x) (gt hs y)) (rowI J.flatten (m : Int))).getD (t + 1) 0 = b at *
      have q1 := mem_rowI.1 m1
      have q2 := mem_rowI.1 m2
      have b1 := tm_bd hT (i := a) (by omega) (by omega)
      have b2 := tm_bd hT (i := b) (by omega) (by omega)
      simp only
      rcases Int.lt_or_gt_of_ne hne with hlt | hlt
      · rcases hsch.pr (a, b) (mem_riv.2 ⟨m, hm, hlt, m1, m2⟩) with e | e <;> simp only at e <;> omega
      · rcases hsch.pr (b, a) (mem_riv.2 ⟨m, hm, hlt, m2, m1⟩) with e | e <;> simp only at e <;> omega
  obtain ⟨hs2, hh⟩ := hds_of_sol hT (ops_pos hS) hK.inn hsol
  have hst : stH N J (ordO hs (msO N.toNat J.flatten)) = some hs2 := by
    unfold stH
    rw [h.ok, hob]; exact hh
  refine ⟨hs2, hst, Int.le_antisymm (span_le.2 ⟨span_nn _ _, fun i h0 h1 => ?_⟩) (h.le_order hst)⟩
  have e1 := hds_least hK.inn hh hsol i h0 h1
  have e2 := span_ge (os := J.flatten) (hs := hs) h0 h1
  omega
/-- What Best returns. -/
def bsH (N : Int) (J : List (List (Int × Int))) : Option (List Int) := if shopB N J = true then shO J.flatten (arcsO 0 J) (rivO (msO N.toNat J.flatten)) else none
def bsE (N : Int) (J : List (List (Int × Int))) : Int := if shopB N J = true then 0 else 2
def bsN (N : Int) (J : List (List (Int × Int))) : Int := match bsH N J with | some hs => spanO J.flatten hs | none => 0
def bsV (N : Int) (J : List (List (Int × Int))) : DV := match bsH N J with | some hs => ordV hs (msO N.toNat J.flatten) | none => Dnil
theorem bs_ok {N : Int} {J : List (List (Int × Int))} (h : shopB N J = true) : ∃ hs, BestOk N J hs ∧ bsE N J = 0 ∧ bsN N J = spanO J.flatten hs ∧ bsV N J = ordV hs (msO N.toNat J.flatten) := by
  obtain ⟨hs, h1⟩ := shop_some (shopB_iff.1 h)
  have h2 : bsH N J = some hs := by unfold bsH; rw [if_pos h]; exact h1
  refine ⟨hs, ⟨h, h1⟩, ?_, ?_, ?_⟩
  · unfold bsE; rw [if_pos h]
  · unfold bsN; rw [h2]
  · unfold bsV; rw [h2]
theorem bs_no {N : Int} {J : List (List (Int × Int))} (h : shopB N J = false) : bsE N J = 2 ∧ bsN N J = 0 ∧ bsV N J = Dnil := by
  have h2 : bsH N J = none := by unfold bsH; rw [h]; rfl
  refine ⟨?_, ?_, ?_⟩
  · unfold bsE; rw [h]; rfl
  · unfold bsN; rw [h2]
  · unfold bsV; rw [h2]
end Go.Ba

