import Derived.Test.YtocgjopmlhpjdaaNtT
import Derived.Test.YtocgjopmlhpjdaaNetL
/-
  Nets: free choice, the program's side.
-/
namespace Go.Proofs.Ytocgjopmlhpjdaa
open Go.Vm Go.RowKit Go.Nt
theorem plainTry_84 : plainFn Try.prog 84 = true := by kernel_rfl
theorem plainTry_60 : plainFn Try.prog 60 = true := by kernel_rfl
theorem plainTry_28 : plainFn Try.prog 28 = true := by kernel_rfl
theorem K.indexW {σ : List VObj} {kn : Kn} {dst : Option Tmp} {ty : TypeId} {pos : String} {af : Array Edge} {g : Option (Nat × Bool)} {x i : Operand} {X : Nat → Int} {m : Nat} (hx : evK kn x = some (.d (.agg (w6 X)))) (hi : evK kn i = some (.d (DI (m : Nat)))) (hm : m < 6) :
    KEv Try.prog ⟨dst, .index 64 x i, ty, pos, af, g⟩ σ kn (.d (DI (X m))) σ 0 := by
  refine ev_op fun env he => ?_
  have e1 := evK_evalX he hx
  have e2 := evK_evalX he hi
  unfold evalOp
  rw [litOp_none (x := x) (by simp [Op.operands]) (by rw [e1]; rfl)]
  have h3 : (w6 X).drop m = DI (X m) :: (w6 X).drop (m + 1) := by have := w6_drop X m hm; rwa [Nat.mul_one] at this
  have h1 : takeVar Try.prog 3 (((w6 X).map XV.d).drop m) = some (.d (DI (X m))) := by
    rw [← List.map_drop, h3]
    simp [takeVar, Try.agg3]
  have h4 : (m : Int) < 6 := by omega
  simp [e1, e2, opIndex, litOf, Try.underlying64, aggCells, Try.size3, h4, h1]
/-- Only zeros and ones. -/
def single6 (X : Nat → Int) : Bool := (List.range 6).all fun p => decide (X p ≤ 1)
set_option maxRecDepth 10000 in
theorem single84 (X : Nat → Int) : DeepCall Try.prog 84 [.agg (w6 X)] (DB (single6 X)) := by
  refine deepCall_K 5 Try.func84 rfl (Nat.le_of_ble_eq_true rfl) fun M W0 => ?_
  refine KC.seq ?_
  refine KC.region ?_
  refine KT.step rfl rfl (K.box rfl) ?_
  refine KT.step rfl rfl (K.assign rfl) ?_
  refine KT.nil ?_
  refine thenK_n ?_
  refine KC.seq ?_
  refine KC.seq ?_
  refine KC.region ?_
  refine KT.step rfl rfl (K.loadOA (w6 X) rfl rfl (by decide) Try.agg64 Try.size64 rfl) ?_
  refine KT.step rfl rfl (K.move rfl) ?_
  refine KT.nil ?_
  refine thenK_n ?_
  refine KC.block ?_
  refine KC.loop (fun _ : Nat => [⟨(w6 X).map .d, 0⟩]) (fun i => [(5, .d (.agg (w6 X))), (6, .d (DI (i : Nat)))]) (fun i => i ≤ 6 ∧ ((List.range 6).take i).all (fun p => decide (X p ≤ 1)) = true) (fun i => 6 - i) 0 ⟨Nat.zero_le _, by simp⟩ rfl (by simp [Go.Vm.look, extK, enterK]) ?_
  intro i hi
  obtain ⟨hi, hall⟩ := hi
  refine KC.seq ?_
  refine KC.region ?_
  refine KT.step rfl rfl (K.lss rfl rfl) ?_
  refine KT.nil ?_
  refine thenK_n ?_
  refine KC.seq ?_
  refine KC.cond rfl (fun hc7 => ?_) (fun hc7 => ?_)
  · skip
    replace hc7 : (i : Int) < 6 := of_decide_eq_true hc7
    refine KC.skip ?_
    refine thenK_n ?_
    refine KC.seq ?_
    refine KC.block ?_
    refine KC.seq ?_
    refine KC.region ?_
    refine KT.step rfl rfl (K.indexW rfl rfl (by omega)) ?_
    refine KT.step rfl rfl (K.assign rfl) ?_
    refine KT.nil ?_
    refine thenK_n ?_
    refine KC.seq ?_
    refine KC.region ?_
    refine KT.step rfl rfl (K.move rfl) ?_
    refine KT.step rfl rfl (K.gtr rfl rfl) ?_
    refine KT.nil ?_
    refine thenK_n ?_
    refine KC.cond rfl (fun hc10 => ?_) (fun hc10 => ?_)
    · skip
      replace hc10 := of_decide_eq_true hc10
      refine KC.seq ?_
      refine KC.region ?_
      refine KT.step rfl rfl (K.assign rfl) ?_
      refine KT.nil ?_
      refine thenK_n ?_
      refine KC.ret ?_
      refine blockK_r ?_
      refine thenK_r ?_
      refine thenK_r ?_
      refine blockK_r ?_
      refine thenK_r ?_
      exact ⟨.inl rfl, _, rfl, fin_b (all_false (i := i) (by simp; omega) (by simp; omega))⟩
    · skip
      replace hc10 := of_decide_eq_false hc10
      refine KC.skip ?_
      refine blockK_n ?_
      refine thenK_n ?_
      refine KC.region ?_
      refine KT.step rfl rfl (K.add rfl rfl (wrap_id (by omega))) ?_
      refine KT.step rfl rfl (K.move rfl) ?_
      refine KT.nil ?_
      refine thenK_n ?_
      refine ⟨i + 1, ⟨by omega, ?_⟩, by omega, rfl, by simp [Go.Vm.look, extK]⟩
      rw [all_take _ (by simp; omega), hall]
      simp; omega
  · skip
    replace hc7 : ¬ (i : Int) < 6 := of_decide_eq_false hc7
    refine KC.exit ?_
    refine thenK_x ?_
    refine thenK_x ?_
    refine blockK_e ?_
    refine thenK_n ?_
    refine KC.seq ?_
    refine KC.region ?_
    refine KT.step rfl rfl (K.assign rfl) ?_
    refine KT.nil ?_
    refine thenK_n ?_
    refine KC.ret ?_
    exact ⟨.inl rfl, _, rfl, fin_b (all_end (i := i) (by simp; omega) hall)⟩
/-- The net is free-choice. -/
def One (r : List Int) : Prop := ∀ p, tk r p ≤ 1
def Com (a b : List Int) : Prop := ∃ p, 0 < tk a p ∧ 0 < tk b p
structure FC (pre post : List (List Int)) (n : Nat) : Prop where
  one : ∀ t, t < pre.length → One (pre.getD t []) ∧ One (post.getD t [])
  com : ∀ t u, t < pre.length → u < pre.length → Com (pre.getD t []) (pre.getD u []) → pre.getD t [] = pre.getD u []
  all : ∀ p, p < n → ∃ t, t < pre.length ∧ 0 < tk (pre.getD t []) p
theorem tk_zero {l : List Int} {p : Nat} (h : l.length ≤ p) : tk l p = 0 := by unfold tk; rw [List.getD_eq_getElem?_getD, List.getElem?_eq_none h]; rfl
theorem single_one {r : List Int} (h6 : r.length ≤ 6) : single6 (tk r) = true ↔ One r := by
  unfold single6 One
  rw [List.all_eq_true]
  constructor
  · intro h p
    by_cases hp : p < 6
    · exact of_decide_eq_true (h p (List.mem_range.2 hp))
    · rw [tk_zero (by omega)]; decide
  · intro h p _; exact decide_eq_true (h p)
theorem com_and {a b : List Int} (h6 : a.length ≤ 6) (ha : ∀ p, 0 ≤ tk a p) (hb : ∀ p, 0 ≤ tk b p) : suppX (tk a) 6 &&& suppX (tk b) 6 ≠ 0 ↔ Com a b := by
  constructor
  · intro h
    obtain ⟨p, hp⟩ := Nat.exists_testBit_of_ne_zero h
    rw [Nat.testBit_and, suppX_bit, suppX_bit] at hp
    simp only [Bool.and_eq_true, decide_eq_true_eq] at hp
    have h1 := ha p
    have h2 := hb p
    exact ⟨p, by omega, by omega⟩
  · rintro ⟨p, h1, h2⟩ h
    have hp : p < 6 := by
      by_cases hp : p < 6
      · exact hp
      · rw [tk_zero (by omega)] at h1; omega
    have := congrArg (fun n => n.testBit p) h
    simp only [Nat.testBit_and, suppX_bit, Nat.zero_testBit] at this
    rw [decide_eq_true hp, decide_eq_true (show tk a p ≠ 0 by omega), decide_eq_true (show tk b p ≠ 0 by omega)] at this
    simp at this
def takenN (pre : List (List Int)) : Nat → Nat
  | 0 => 0
  | t + 1 => takenN pre t ||| suppX (tk (pre.getD t [])) 6
theorem takenN_lt (pre : List (List Int)) : ∀ t, takenN pre t < 2 ^ 6
  | 0 => by simp [takenN]
  | t + 1 => Nat.or_lt_two_pow (takenN_lt pre t) (suppX_lt _ 6)
theorem takenN_bit (pre : List (List Int)) : ∀ t p, (takenN pre t).testBit p = true ↔ ∃ u, u < t ∧ p < 6 ∧ tk (pre.getD u []) p ≠ 0
  | 0, p => by simp [takenN]
  | t + 1, p => by
    rw [takenN, Nat.testBit_or, Bool.or_eq_true, takenN_bit pre t p, suppX_bit]
    simp only [Bool.and_eq_true, decide_eq_true_eq]
    constructor
    · rintro (⟨u, h1, h2⟩ | h)
      · exact ⟨u, by omega, h2⟩
      · exact ⟨t, by omega, h⟩
    · rintro ⟨u, h1, h2⟩
      by_cases e : u = t
      · subst e; exact .inr h2
      · exact .inl ⟨u, by omega, h2⟩
theorem taken_all {pre : List (List Int)} {n : Nat} (n6 : n ≤ 6) (hr : ∀ r ∈ pre, r.length = n) (h0 : ∀ t p, 0 ≤ tk (pre.getD t []) p) : takenN pre pre.length = 2 ^ n - 1 ↔ ∀ p, p < n → ∃ t, t < pre.length ∧ 0 < tk (pre.getD t []) p := by
  constructor
  · intro h p hp
    have h1 : (takenN pre pre.length).testBit p = true := by rw [h, Nat.testBit_two_pow_sub_one]; exact decide_eq_true hp
    obtain ⟨u, h2, _, h3⟩ := (takenN_bit pre _ p).1 h1
    have := h0 u p
    exact ⟨u, h2, by omega⟩
  · intro h
    apply Nat.eq_of_testBit_eq
    intro p
    rw [Nat.testBit_two_pow_sub_one]
    refine Bool.eq_iff_iff.2 ((takenN_bit pre _ p).trans ?_)
    rw [decide_eq_true_iff]
    constructor
    · rintro ⟨u, h1, h2, h3⟩
      by_cases hp : p < n
      · exact hp
      · have : (pre.getD u []).length ≤ p := by
          rw [List.getD_eq_getElem?_getD, List.getElem?_eq_getElem h1, Option.getD_some, hr _ (List.getElem_mem h1)]; omega
        rw [tk_zero this] at h3; exact absurd rfl h3
    · intro hp
      obtain ⟨t, h1, h2⟩ := h p hp
      exact ⟨t, h1, by omega, by omega⟩
theorem getD_at {m : List (List Int)} {t : Nat} (h : t < m.length) : m.getD t [] = m[t] := by rw [List.getD_eq_getElem?_getD, List.getElem?_eq_getElem h]; rfl
theorem fb_no {b : Bool} {Q : Prop} (h : b = true ↔ Q) (hn : ¬ Q) : b = false := by
  cases b with
  | false => rfl
  | true => exact absurd (h.1 rfl) hn
set_option maxHeartbeats 2000000 in
set_option maxRecDepth 10000 in
theorem freeChoice60 {size : Nat} {pre post : List (List Int)} {s : List Int} {b : Bool} (n6 : size ≤ 6) (hpp : post.length = pre.length) (hp6 : pre.length ≤ 6) (hr : ∀ r ∈ pre, r.length = size) (hr2 : ∀ r ∈ post, r.length = size) (hp3 : ∀ r ∈ pre, ∀ x ∈ r, 0 ≤ x ∧ x ≤ 3) (hb : b = true ↔ FC pre post size) : DeepCall Try.prog 60 [sysD size pre post s] (DB b) := by
  have nn : ∀ {t : Nat} (h : t < pre.length) (p : Nat), 0 ≤ tk pre[t] p := fun h p => (tk_bd (by decide) (hp3 _ (List.getElem_mem h)) p).1
  have nnD : ∀ t p, 0 ≤ tk (pre.getD t []) p := fun t p => by
    by_cases h : t < pre.length
    · rw [getD_at h]; exact nn h p
    · rw [List.getD_eq_getElem?_getD, List.getElem?_eq_none (by omega)]; simp [tk]
  refine deepCall_K 5 Try.func60 rfl (Nat.le_of_ble_eq_true rfl) fun M W0 => ?_
  refine KC.seq ?_
  refine KC.region ?_
  refine KT.step rfl rfl (K.box rfl) ?_
  refine KT.step rfl rfl (K.assign rfl) ?_
  refine KT.nil ?_
  refine thenK_n ?_
  refine KC.seq ?_
  refine KC.region ?_
  refine KT.step rfl rfl (K.assign rfl) ?_
  refine KT.nil ?_
  refine thenK_n ?_
  refine KC.seq ?_
  refine KC.seq ?_
  refine KC.region ?_
  refine KT.step rfl rfl (K.fieldAddrO rfl Try.fld66_1 Try.size62) ?_
  refine KT.step rfl rfl (K.loadO (y := .d (toksD pre)) rfl rfl (by simp) rfl Try.agg62) ?_
  refine KT.step rfl rfl (K.lenT rfl Try.underlying62) ?_
  refine KT.step rfl rfl (K.move rfl) ?_
  refine KT.nil ?_
  refine thenK_n ?_
  refine KC.block ?_
  refine KC.loop (fun p : List VObj × Nat => p.1) (fun p => [(1, .optr 0 0), (3, .d (DI (takenN pre p.2 : Nat))), (9, .d (toksD pre)), (10, .d (DI (pre.length : Nat))), (11, .d (DI (p.2 : Nat)))]) (fun p => p.2 ≤ pre.length ∧ p.1[0]? = some ⟨(sysC size pre post s).map .d, 0⟩ ∧ (∀ u, u < p.2 → One (pre.getD u []) ∧ One (post.getD u [])) ∧ (∀ u v, u < p.2 → v < u → Com (pre.getD u []) (pre.getD v []) → pre.getD u [] = pre.getD v [])) (fun p => pre.length - p.2) (_, 0) ⟨Nat.zero_le _, rfl, fun u h => absurd h (Nat.not_lt_zero _), fun u v h => absurd h (Nat.not_lt_zero _)⟩ rfl (by simp [Go.Vm.look, extK, enterK, takenN]) ?_
  intro p hp
  obtain ⟨σ0, t⟩ := p
  obtain ⟨ht, h0, hone, hcom⟩ := hp
  simp only at ht h0 hone hcom ⊢
  refine KC.seq ?_
  refine KC.region ?_
  refine KT.step rfl rfl (K.lss rfl rfl) ?_
  refine KT.nil ?_
  refine thenK_n ?_
  refine KC.seq ?_
  refine KC.cond rfl (fun hc12 => ?_) (fun hc12 => ?_)
  · skip
    replace hc12 := of_decide_eq_true hc12
    have htl : t < pre.length := by omega
    have htl2 : t < post.length := by omega
    have r6 : (pre[t]).length ≤ 6 := by rw [hr _ (List.getElem_mem htl)]; exact n6
    have r62 : (post[t]).length ≤ 6 := by rw [hr2 _ (List.getElem_mem htl2)]; exact n6
    refine KC.skip ?_
    refine thenK_n ?_
    refine KC.seq ?_
    refine KC.block ?_
    refine KC.seq ?_
    refine KC.region ?_
    refine KT.step rfl rfl (K.move rfl) ?_
    refine KT.step rfl rfl (K.idxT rfl rfl (by omega) Try.underlying62 Try.size64) ?_
    refine KT.step rfl rfl (K.loadT htl rfl Try.agg64 Try.size64) ?_
    refine KT.step rfl rfl (K.alloc Try.zero64) ?_
    refine KT.step rfl rfl (K.assign rfl) ?_
    refine KT.putAll (cs := (w6 (tk pre[t])).map .d) rfl rfl rfl rfl (List.getElem?_concat_length ..) rfl (by simp [w6, Value.cells]) (w6_one _) Try.size64 ?_
    have hlt0 := obj_lt h0
    obtain ⟨σ1, hσ1, gm, tk1, tl1⟩ := obj_put (List.getElem?_concat_length ..) ⟨(w6 (tk pre[t])).map .d, 0⟩
    rw [hσ1]
    have g0 := (tk1 0 (by omega)).trans (obj_left h0)
    obtain ⟨gid, hgid⟩ : ∃ gid, gid = σ0.length := ⟨_, rfl⟩
    rw [← hgid] at gm ⊢
    refine KT.nil ?_
    refine thenK_n ?_
    refine KC.seq ?_
    refine KC.seq ?_
    refine KC.region ?_
    refine KT.step rfl rfl (K.loadOA (w6 (tk pre[t])) rfl gm (by decide) Try.agg64 Try.size64 rfl) ?_
    refine KT.step rfl rfl (K.call1 rfl plainTry_84 (single84 _)) ?_
    refine KT.step rfl rfl (K.not rfl) ?_
    refine KT.step rfl rfl (K.move rfl) ?_
    refine KT.bcase (fun hb19 => ?_) (fun hb19 => ?_)
    · skip
      refine KT.skip rfl rfl ?_
      refine KT.skip rfl rfl ?_
      refine KT.skip rfl rfl ?_
      refine KT.skip rfl rfl ?_
      refine KT.skip rfl rfl ?_
      refine KT.skip rfl rfl ?_
      refine KT.skip rfl rfl ?_
      refine KT.step rfl rfl (K.pick rfl (fun _ => rfl) (fun h => by cases h)) ?_
      refine KT.nil ?_
      refine thenK_n ?_
      refine KC.cond rfl (fun hc27 => ?_) (fun hc27 => ?_)
      · skip
        refine KC.seq ?_
        refine KC.region ?_
        refine KT.step rfl rfl (K.assign rfl) ?_
        refine KT.nil ?_
        refine thenK_n ?_
        refine KC.ret ?_
        refine thenK_r ?_
        refine blockK_r ?_
        refine thenK_r ?_
        refine thenK_r ?_
        refine blockK_r ?_
        refine thenK_r ?_
        have hbf := fb_no hb fun h => by
          obtain ⟨h1, h2⟩ := h.one t htl
          rw [getD_at htl] at h1
          rw [getD_at htl2] at h2
          have h3 := (single_one r6).2 h1
          rw [h3] at hb19; simp at hb19
        exact ⟨.inl rfl, _, rfl, fin_b hbf⟩
      · cases hc27
    · skip
      refine KT.step rfl rfl (K.fieldAddrO rfl Try.fld66_2 Try.size62) ?_
      refine KT.step rfl rfl (K.loadO (y := .d (toksD post)) rfl g0 (by simp) rfl Try.agg62) ?_
      refine KT.step rfl rfl (K.move rfl) ?_
      refine KT.step rfl rfl (K.idxT rfl rfl (by omega) Try.underlying62 Try.size64) ?_
      refine KT.step rfl rfl (K.loadT htl2 rfl Try.agg64 Try.size64) ?_
      refine KT.step rfl rfl (K.call1 rfl plainTry_84 (single84 _)) ?_
      refine KT.step rfl rfl (K.not rfl) ?_
      refine KT.step rfl rfl (K.pick rfl (fun h => by cases h) (fun _ => rfl)) ?_
      refine KT.nil ?_
      refine thenK_n ?_
      refine KC.cond rfl (fun hc27 => ?_) (fun hc27 => ?_)
      · skip
        refine KC.seq ?_
        refine KC.region ?_
        refine KT.step rfl rfl (K.assign rfl) ?_
        refine KT.nil ?_
        refine thenK_n ?_
        refine KC.ret ?_
        refine thenK_r ?_
        refine blockK_r ?_
        refine thenK_r ?_
        refine thenK_r ?_
        refine blockK_r ?_
        refine thenK_r ?_
        have hbf := fb_no hb fun h => by
          obtain ⟨h1, h2⟩ := h.one t htl
          rw [getD_at htl] at h1
          rw [getD_at htl2] at h2
          have h3 := (single_one r62).2 h2
          rw [h3] at hc27; simp at hc27
        exact ⟨.inl rfl, _, rfl, fin_b hbf⟩
      · skip
        refine KC.skip ?_
        refine thenK_n ?_
        refine KC.seq ?_
        refine KC.seq ?_
        refine KC.region ?_
        refine KT.step rfl rfl (K.fieldAddrO rfl Try.fld66_1 Try.size62) ?_
        refine KT.step rfl rfl (K.loadO (y := .d (toksD pre)) rfl g0 (by simp) rfl Try.agg62) ?_
        refine KT.step rfl rfl (K.move rfl) ?_
        refine KT.step rfl rfl (K.toW rfl rfl rfl (by omega) Try.underlying62 Try.size64) ?_
        refine KT.step rfl rfl (K.lenT rfl Try.underlying62) ?_
        refine KT.step rfl rfl (K.move rfl) ?_
        refine KT.nil ?_
        refine thenK_n ?_
        refine KC.block ?_
        refine KC.loop (fun p : List VObj × Nat => p.1) (fun p => [(1, .optr 0 0), (3, .d (DI (takenN pre t : Nat))), (4, .d (DI (t : Nat))), (5, .optr gid 0), (9, .d (toksD pre)), (10, .d (DI (pre.length : Nat))), (11, .d (DI (t : Nat))), (31, .d (.sl (flatW (pre.take t)) t none)), (32, .d (DI (t : Nat))), (33, .d (DI (p.2 : Nat)))]) (fun p => p.2 ≤ t ∧ p.1[0]? = some ⟨(sysC size pre post s).map .d, 0⟩ ∧ p.1[gid]? = some ⟨(w6 (tk pre[t])).map .d, 0⟩ ∧ ∀ v, v < p.2 → Com (pre.getD t []) (pre.getD v []) → pre.getD t [] = pre.getD v []) (fun p => t - p.2) (_, 0) ⟨Nat.zero_le _, g0, gm, fun v h => absurd h (Nat.not_lt_zero _)⟩ rfl (by simp [Go.Vm.look, extK, enterK]) ?_
        intro p hp
        obtain ⟨σ2, u⟩ := p
        obtain ⟨hu, k0, km, hc⟩ := hp
        simp only at hu k0 km hc ⊢
        refine KC.seq ?_
        refine KC.region ?_
        refine KT.step rfl rfl (K.lss rfl rfl) ?_
        refine KT.nil ?_
        refine thenK_n ?_
        refine KC.seq ?_
        refine KC.cond rfl (fun hc34 => ?_) (fun hc34 => ?_)
        · skip
          replace hc34 := of_decide_eq_true hc34
          have hul : u < pre.length := by omega
          refine KC.skip ?_
          refine thenK_n ?_
          refine KC.seq ?_
          refine KC.block ?_
          refine KC.seq ?_
          refine KC.region ?_
          refine KT.step rfl rfl (K.idxT rfl rfl (by omega) Try.underlying62 Try.size64) ?_
          refine KT.step rfl rfl (K.loadT (rows := pre.take t) (by rw [List.length_take]; omega) rfl Try.agg64 Try.size64) ?_
          rw [show (pre.take t)[u]'(by rw [List.length_take]; omega) = pre[u] from by simp]
          refine KT.step rfl rfl (K.alloc Try.zero64) ?_
          refine KT.putAll (cs := (w6 (tk pre[u])).map .d) rfl rfl rfl rfl (List.getElem?_concat_length ..) rfl (by simp [w6, Value.cells]) (w6_one _) Try.size64 ?_
          have hlt2 := obj_lt k0
          have hlt3 := obj_lt km
          obtain ⟨σ3, hσ3, ko, tk3, tl3⟩ := obj_put (List.getElem?_concat_length ..) ⟨(w6 (tk pre[u])).map .d, 0⟩
          rw [hσ3]
          have k0 := (tk3 0 (by omega)).trans (obj_left k0)
          have km := (tk3 gid (by omega)).trans (obj_left km)
          refine KT.nil ?_
          refine thenK_n ?_
          refine KC.seq ?_
          refine KC.draw Try.mixed ?_
          refine KT.step rfl rfl (K.loadOA (w6 (tk pre[t])) rfl km (by decide) Try.agg64 Try.size64 rfl) ?_
          refine KT.step rfl rfl (K.call1 rfl plainTry_63 (places63 _)) ?_
          refine KT.step rfl rfl (K.loadOA (w6 (tk pre[u])) rfl ko (by decide) Try.agg64 Try.size64 rfl) ?_
          refine KT.step rfl rfl (K.call1 rfl plainTry_63 (places63 _)) ?_
          refine KT.step rfl rfl (K.band rfl rfl (andI (supp63 _) (supp63 _))) ?_
          refine KT.step rfl rfl (K.neq rfl rfl) ?_
          refine KT.step rfl rfl (K.move rfl) ?_
          refine KT.bcase (fun hb43 => ?_) (fun hb43 => ?_)
          · skip
            replace hb43 := of_decide_eq_true hb43
            have hnc : Com pre[t] pre[u] := (com_and r6 (nn htl) (nn hul)).1 (fun h => by rw [h] at hb43; simp at hb43)
            refine KT.step rfl rfl (K.loadOA (w6 (tk pre[t])) rfl km (by decide) Try.agg64 Try.size64 rfl) ?_
            refine KT.step rfl rfl (K.loadOA (w6 (tk pre[u])) rfl ko (by decide) Try.agg64 Try.size64 rfl) ?_
            refine KT.step rfl rfl (K.neqT (a := pre[t]) (b := pre[u]) rfl rfl (fun x hx => by have := hp3 _ (List.getElem_mem htl) x hx; omega) (fun x hx => by have := hp3 _ (List.getElem_mem hul) x hx; omega) (by rw [hr _ (List.getElem_mem htl), hr _ (List.getElem_mem hul)]) (by rw [hr _ (List.getElem_mem htl)]; exact n6)) ?_
            refine KT.step rfl rfl (K.pick rfl (fun _ => rfl) (fun h => by cases h)) ?_
            refine KT.nil ?_
            refine ⟨by kernel_rfl, ?_⟩
            refine thenK_n ?_
            refine KC.cond rfl (fun hc47 => ?_) (fun hc47 => ?_)
            · skip
              refine KC.seq ?_
              refine KC.region ?_
              refine KT.step rfl rfl (K.assign rfl) ?_
              refine KT.nil ?_
              refine thenK_n ?_
              refine KC.ret ?_
              refine blockK_r ?_
              refine thenK_r ?_
              refine thenK_r ?_
              refine blockK_r ?_
              refine thenK_r ?_
              refine blockK_r ?_
              refine thenK_r ?_
              refine thenK_r ?_
              refine blockK_r ?_
              refine thenK_r ?_
              have hbf := fb_no hb fun h => by
                have h1 := h.com t u htl hul
                rw [getD_at htl, getD_at hul] at h1
                rw [h1 hnc] at hc47; simp at hc47
              exact ⟨.inl rfl, _, rfl, fin_b hbf⟩
            · skip
              refine KC.skip ?_
              refine blockK_n ?_
              refine thenK_n ?_
              refine KC.region ?_
              refine KT.step rfl rfl (K.add rfl rfl (wrap_id (by omega))) ?_
              refine KT.step rfl rfl (K.move rfl) ?_
              refine KT.nil ?_
              refine thenK_n ?_
              refine ⟨(σ3, u + 1), ⟨by simp only; omega, k0, km, fun v hv hcv => ?_⟩, by simp only; omega, rfl, by simp [Go.Vm.look, extK]⟩
              by_cases e : v = u
              · subst e
                rw [getD_at htl, getD_at hul]; simpa using hc47
              · exact hc v (by omega) hcv
          · skip
            replace hb43 := of_decide_eq_false hb43
            have hnc : ¬ Com pre[t] pre[u] := fun h => by have h2 := (com_and r6 (nn htl) (nn hul)).2 h; simp [h2] at hb43
            refine KT.skip rfl rfl ?_
            refine KT.skip rfl rfl ?_
            refine KT.skip rfl rfl ?_
            refine KT.step rfl rfl (K.pick rfl (fun h => by cases h) (fun _ => rfl)) ?_
            refine KT.nil ?_
            refine ⟨by kernel_rfl, ?_⟩
            refine thenK_n ?_
            refine KC.cond rfl (fun hc47 => ?_) (fun hc47 => ?_)
            · cases hc47
            · skip
              refine KC.skip ?_
              refine blockK_n ?_
              refine thenK_n ?_
              refine KC.region ?_
              refine KT.step rfl rfl (K.add rfl rfl (wrap_id (by omega))) ?_
              refine KT.step rfl rfl (K.move rfl) ?_
              refine KT.nil ?_
              refine thenK_n ?_
              refine ⟨(σ3, u + 1), ⟨by simp only; omega, k0, km, fun v hv hcv => ?_⟩, by simp only; omega, rfl, by simp [Go.Vm.look, extK]⟩
              by_cases e : v = u
              · subst e
                exfalso
                rw [getD_at htl, getD_at hul] at hcv
                exact hnc hcv
              · exact hc v (by omega) hcv
        · skip
          replace hc34 := of_decide_eq_false hc34
          refine KC.exit ?_
          refine thenK_x ?_
          refine thenK_x ?_
          refine blockK_e ?_
          refine thenK_n ?_
          refine KC.region ?_
          refine KT.step rfl rfl (K.move rfl) ?_
          refine KT.step rfl rfl (K.loadOA (w6 (tk pre[t])) rfl km (by decide) Try.agg64 Try.size64 rfl) ?_
          refine KT.step rfl rfl (K.call1 rfl plainTry_63 (places63 _)) ?_
          refine KT.step rfl rfl (K.bor rfl rfl (orI (lt63 (takenN_lt pre t) (by decide)) (supp63 _))) ?_
          refine KT.step rfl rfl (K.assign rfl) ?_
          refine KT.nil ?_
          refine blockK_n ?_
          refine thenK_n ?_
          refine KC.region ?_
          refine KT.step rfl rfl (K.add rfl rfl (wrap_id (by omega))) ?_
          refine KT.step rfl rfl (K.move rfl) ?_
          refine KT.nil ?_
          refine thenK_n ?_
          refine ⟨(σ2, t + 1), ⟨by simp only; omega, k0, ?_, ?_⟩, by simp only; omega, rfl, by simp [Go.Vm.look, extK, takenN, List.getElem?_eq_getElem htl]⟩
          · simp only
            intro v hv
            by_cases e : v = t
            · subst e
              rw [getD_at htl, getD_at htl2]
              exact ⟨(single_one r6).1 (by simpa using hb19), (single_one r62).1 (by simpa using hc27)⟩
            · exact hone v (by omega)
          · simp only
            intro v w hv hw hcv
            by_cases e : v = t
            · subst e; exact hc w (by omega) hcv
            · exact hcom v w (by omega) hw hcv
  · skip
    replace hc12 := of_decide_eq_false hc12
    refine KC.exit ?_
    refine thenK_x ?_
    refine thenK_x ?_
    refine blockK_e ?_
    refine thenK_n ?_
    refine KC.seq ?_
    refine KC.region ?_
    refine KT.step rfl rfl (K.move rfl) ?_
    refine KT.step rfl rfl (K.fieldAddrO rfl Try.fld66_0 Try.size3) ?_
    refine KT.step rfl rfl (K.loadO (y := .d (DI (size : Nat))) rfl h0 (by simp) rfl Try.agg3) ?_
    refine KT.step rfl rfl (K.shl rfl rfl (by omega) (shlI (by omega))) ?_
    refine KT.step rfl rfl (K.sub rfl rfl (wrap_id (by have h1 := pow6 n6; have h2 := Nat.two_pow_pos size; generalize 2 ^ size = k at h1 h2 ⊢; omega))) ?_
    refine KT.step rfl rfl (K.eql rfl rfl) ?_
    refine KT.step rfl rfl (K.assign rfl) ?_
    refine KT.nil ?_
    refine thenK_n ?_
    refine KC.ret ?_
    obtain rfl : t = pre.length := by omega
    refine ⟨.inl rfl, _, rfl, fin_b ?_⟩
    have h9 := taken_all n6 hr nnD
    refine Bool.eq_iff_iff.2 (hb.trans (Iff.symm ?_))
    rw [decide_eq_true_iff]
    have h1 := Nat.two_pow_pos size
    have h2 : ((takenN pre pre.length : Nat) : Int) = ((2 ^ size : Nat) : Int) - 1 ↔ takenN pre pre.length = 2 ^ size - 1 := by
      generalize 2 ^ size = k at h1 ⊢
      omega
    refine h2.trans (h9.trans ⟨fun h => ⟨hone, fun x y hx hy hc => ?_, h⟩, fun h => h.all⟩)
    rcases Nat.lt_trichotomy x y with h | h | h
    · exact (hcom y x hy h (by obtain ⟨p, a, b⟩ := hc; exact ⟨p, b, a⟩)).symm
    · rw [h]
    · exact hcom x y hx h hc
set_option maxRecDepth 10000 in
theorem FreeChoice28 {a b c : DV} {pre post : List (List Int)} {start : List Int} {r : Bool} (h : NetD a b c pre post start) (hr : validB pre post start = true → (r = true ↔ FC pre post start.length)) : DeepCall Try.prog 28 [.agg [a, b, c]] (if validB pre post start then .tup [DB r, DI 0] else .tup [DB false, DI 2]) := by
  have hN := h
  obtain ⟨ha, hb, hc, l1, l2, l3, r1, r2⟩ := h
  refine deepCall_K 5 Try.func28 rfl (Nat.le_of_ble_eq_true rfl) fun M W0 => ?_
  refine KC.seq ?_
  refine KC.region ?_
  refine KT.step rfl rfl (K.box rfl) ?_
  refine KT.step rfl rfl (K.assign rfl) ?_
  refine KT.step rfl rfl (K.assign rfl) ?_
  refine KT.nil ?_
  refine thenK_n ?_
  refine KC.seq ?_
  refine KC.seq ?_
  refine KC.region ?_
  refine KT.step rfl rfl (K.loadOAgg (m := 3) rfl rfl (by simp) Try.agg32 Try.size32 (by simp [cellsX])) ?_
  refine KT.step rfl rfl (K.call1 rfl plainTry_48 (valid48 hN)) ?_
  refine KT.step rfl rfl (K.not rfl) ?_
  refine KT.nil ?_
  refine thenK_n ?_
  refine KC.cond rfl (fun hc6 => ?_) (fun hc6 => ?_)
  · skip
    refine KC.seq ?_
    refine KC.region ?_
    refine KT.step rfl rfl (K.assign rfl) ?_
    refine KT.step rfl rfl (K.assign rfl) ?_
    refine KT.nil ?_
    refine thenK_n ?_
    refine KC.ret ?_
    refine thenK_r ?_
    refine ⟨.inl rfl, _, rfl, ?_⟩
    rw [if_neg (by simpa using hc6)]
    rfl
  · skip
    have hv : validB pre post start = true := by simpa using hc6
    obtain ⟨v1, v2, v3, v4, v5, v6, v7, v8⟩ := validB_iff.1 hv
    have rp : ∀ r ∈ pre, r.length = start.length := fun r hr => fitsB_len (allB_mem v7 r hr)
    have rq : ∀ r ∈ post, r.length = start.length := fun r hr => fitsB_len (allB_mem v8 r hr)
    refine KC.skip ?_
    refine thenK_n ?_
    refine KC.seq ?_
    refine KC.region ?_
    refine KT.step rfl rfl (K.loadOAgg (m := 3) rfl rfl (by simp) Try.agg32 Try.size32 (by simp [cellsX])) ?_
    refine KT.step rfl rfl (K.call1 rfl plainTry_59 (systemOf59 ha hb hc v1 v2 v4 v5 v6 rp rq)) ?_
    refine KT.step rfl rfl (K.call1 rfl plainTry_60 (freeChoice60 v2 v6 v5 rp rq (fun r h => fitsB_mem (allB_mem v7 r h)) (hr hv))) ?_
    refine KT.step rfl rfl (K.assign rfl) ?_
    refine KT.step rfl rfl (K.assign rfl) ?_
    refine KT.nil ?_
    refine thenK_n ?_
    refine KC.ret ?_
    refine ⟨.inl rfl, _, rfl, ?_⟩
    rw [if_pos hv]
    rfl
end Go.Proofs.Ytocgjopmlhpjdaa

