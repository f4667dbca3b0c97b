import Derived.Test.YtocgjopmlhpjdaaNetD
/-
  Nets: Fire of the program and of the reference return the same.
-/
namespace Go.Proofs.Ytocgjopmlhpjdaa
open Go.Vm
theorem within_iff {x y : List Int} (h : x.length = y.length) : withinB x y = true ↔ ∀ p, tk x p ≤ tk y p := by
  unfold withinB
  rw [List.all_eq_true]
  constructor
  · intro hall p
    by_cases hp : p < x.length
    · have := hall (x[p], y[p]) (by rw [← within_get hp (by omega)]; exact List.getElem_mem _)
      rw [tk_get hp, tk_get (by omega)]
      simpa using this
    · simp [tk, show ¬ p < y.length by omega, hp]
  · intro hall q hq
    obtain ⟨i, hi, rfl⟩ := List.getElem_of_mem hq
    simp only [List.length_zip] at hi
    have := hall i
    rw [tk_get (by omega), tk_get (by omega)] at this
    simpa using this
theorem leq6_within {x y : List Int} (h : x.length = y.length) (h6 : x.length ≤ 6) : leq6 (tk x) (tk y) = withinB x y := by
  rw [Bool.eq_iff_iff, within_iff h]
  unfold leq6
  rw [List.all_eq_true]
  constructor
  · intro hall p
    by_cases hp : p < 6
    · simpa using hall p (by simpa using hp)
    · simp [tk, show ¬ p < x.length by omega, show ¬ p < y.length by omega]
  · intro hall i _
    simpa using hall i
theorem fitsB_len {l : List Int} {n : Nat} {most : Int} (h : fitsB l n most = true) : l.length = n := by
  simp only [fitsB, Bool.and_eq_true, decide_eq_true_eq] at h; exact h.1
theorem fitsB_mem {l : List Int} {n : Nat} {most : Int} (h : fitsB l n most = true) : ∀ x ∈ l, 0 ≤ x ∧ x ≤ most := by
  simp only [fitsB, Bool.and_eq_true, List.all_eq_true] at h
  intro x hx
  simpa [okI] using h.2 x hx
theorem allB_mem {m : List (List Int)} {n : Nat} {most : Int} (h : allB m n most = true) : ∀ r ∈ m, fitsB r n most = true := by
  unfold allB at h
  rw [List.all_eq_true] at h
  exact h
theorem tk_bd {l : List Int} {most : Int} (h0 : 0 ≤ most) (h : ∀ x ∈ l, 0 ≤ x ∧ x ≤ most) (p : Nat) : 0 ≤ tk l p ∧ tk l p ≤ most := by
  by_cases hp : p < l.length
  · rw [tk_get hp]; exact h _ (List.getElem_mem hp)
  · simp [tk, hp, h0]
theorem small_of {m : List (List Int)} {n : Nat} (h : allB m n 3 = true) : Small m := ⟨fun i hi p => tk_bd (by decide) (fitsB_mem (allB_mem h _ (List.getElem_mem hi))) p⟩
theorem markB_len {l : List Int} {n : Nat} (h : markB l n = true) : l.length = n := by
  simp only [markB, Bool.and_eq_true, decide_eq_true_eq] at h; exact h.1
theorem markB_bd {l : List Int} {n : Nat} (h : markB l n = true) (p : Nat) : 0 ≤ tk l p ∧ tk l p ≤ 1099511627776 := by
  refine tk_bd (by decide) (fun x hx => ?_) p
  simp only [markB, Bool.and_eq_true, List.all_eq_true] at h
  have := h.2 x hx
  simp [markI] at this
  omega
def okFire (pre post : List (List Int)) (start m : List Int) (t : Int) : Bool := validB pre post start && markB m start.length && decide (0 ≤ t) && decide (t < pre.length)
/-- What Fire returns. -/
def fireD (pre post : List (List Int)) (start m : List Int) (t : Int) : DV :=
  if okFire pre post start m t then
    (if withinB (pre.getD t.toNat []) m then .tup [numD start.length (fireW (tk (post.getD t.toNat [])) (tk (pre.getD t.toNat [])) (tk m)), DI 0] else .tup [Dnil, DI 5])
  else .tup [Dnil, DI 2]
theorem fireD_bad {pre post : List (List Int)} {start m : List Int} {t : Int} (h : ¬ okFire pre post start m t = true) : fireD pre post start m t = .tup [Dnil, DI 2] := by unfold fireD; rw [if_neg h]
theorem fireD_ok {pre post : List (List Int)} {start m : List Int} {t : Nat} (h1 : validB pre post start = true) (h2 : markB m start.length = true) (ht : t < pre.length) (ht2 : t < post.length) :
    fireD pre post start m (t : Int) = if withinB pre[t] m then .tup [numD start.length (fireW (tk post[t]) (tk pre[t]) (tk m)), DI 0] else .tup [Dnil, DI 5] := by
  unfold fireD okFire
  rw [if_pos (by rw [h1, h2]; simp; omega)]
  simp [ht, ht2]
set_option maxRecDepth 10000 in
theorem fire39 {a b c d : DV} {pre post : List (List Int)} {start m : List Int} {t : Int} (h : NetD a b c pre post start) (hd : Ints d m) (hl : m.length ≤ 9223372036854775807) : DeepCall Try.prog 39 [.agg [a, b, c], d, DI t] (fireD pre post start m t) := by
  have hN := h
  obtain ⟨ha, hb, hc, l1, l2, l3, r1, r2⟩ := h
  refine deepCall_K 5 Try.func39 rfl (Nat.le_of_ble_eq_true rfl) fun M W0 => ?_
  refine KC.seq ?_
  refine KC.region ?_
  refine KT.step rfl rfl (K.box rfl) ?_
  refine KT.step rfl rfl (K.assign rfl) ?_
  refine KT.step rfl rfl (K.assign rfl) ?_
  refine KT.nil ?_
  refine thenK_n ?_
  refine KC.seq ?_
  refine KC.seq ?_
  refine KC.region ?_
  refine KT.step rfl rfl (K.loadOAgg (m := 3) rfl rfl (by simp) Try.agg32 Try.size32 (by simp [cellsX])) ?_
  refine KT.step rfl rfl (K.call1 rfl plainTry_48 (valid48 hN)) ?_
  refine KT.step rfl rfl (K.not rfl) ?_
  refine KT.step rfl rfl (K.move rfl) ?_
  refine KT.bcase (fun hb13 => ?_) (fun hb13 => ?_)
  · skip
    refine KT.skip rfl rfl ?_
    refine KT.skip rfl rfl ?_
    refine KT.skip rfl rfl ?_
    refine KT.skip rfl rfl ?_
    refine KT.skip rfl rfl ?_
    refine KT.skip rfl rfl ?_
    refine KT.step rfl rfl (K.pick rfl (fun _ => rfl) (fun h => by cases h)) ?_
    refine KT.step rfl rfl (K.move rfl) ?_
    refine KT.skip rfl rfl ?_
    refine KT.skip rfl rfl ?_
    refine KT.step rfl rfl (K.pick rfl (fun _ => rfl) (fun h => by cases h)) ?_
    refine KT.step rfl rfl (K.move rfl) ?_
    refine KT.skip rfl rfl ?_
    refine KT.skip rfl rfl ?_
    refine KT.skip rfl rfl ?_
    refine KT.skip rfl rfl ?_
    refine KT.skip rfl rfl ?_
    refine KT.step rfl rfl (K.pick rfl (fun _ => rfl) (fun h => by cases h)) ?_
    refine KT.nil ?_
    refine thenK_n ?_
    refine KC.cond rfl (fun hc31 => ?_) (fun hc31 => ?_)
    · skip
      refine KC.seq ?_
      refine KC.region ?_
      refine KT.step rfl rfl (K.assign rfl) ?_
      refine KT.step rfl rfl (K.assign rfl) ?_
      refine KT.nil ?_
      refine thenK_n ?_
      refine KC.ret ?_
      refine thenK_r ?_
      refine ⟨.inl rfl, _, rfl, ?_⟩
      rw [fireD_bad (by unfold okFire; simp [show validB pre post start = false by simpa using hb13])]
      rfl
    · cases hc31
  · skip
    refine KT.step rfl rfl (K.move rfl) ?_
    refine KT.step rfl rfl (K.fieldAddrO rfl Try.fld32_2 Try.size30) ?_
    refine KT.step rfl rfl (K.loadO rfl rfl (by simp) rfl Try.agg30) ?_
    refine KT.step rfl rfl (K.len rfl (by assumption) Try.underlying30) ?_
    refine KT.step rfl rfl (K.call3 rfl rfl rfl plainTry_71 (fitsOrMany71 hd hl)) ?_
    refine KT.step rfl rfl (K.not rfl) ?_
    refine KT.step rfl rfl (K.pick rfl (fun h => by cases h) (fun _ => rfl)) ?_
    refine KT.step rfl rfl (K.move rfl) ?_
    refine KT.bcase (fun hb21 => ?_) (fun hb21 => ?_)
    · skip
      refine KT.skip rfl rfl ?_
      refine KT.skip rfl rfl ?_
      refine KT.step rfl rfl (K.pick rfl (fun _ => rfl) (fun h => by cases h)) ?_
      refine KT.step rfl rfl (K.move rfl) ?_
      refine KT.skip rfl rfl ?_
      refine KT.skip rfl rfl ?_
      refine KT.skip rfl rfl ?_
      refine KT.skip rfl rfl ?_
      refine KT.skip rfl rfl ?_
      refine KT.step rfl rfl (K.pick rfl (fun _ => rfl) (fun h => by cases h)) ?_
      refine KT.nil ?_
      refine thenK_n ?_
      refine KC.cond rfl (fun hc31 => ?_) (fun hc31 => ?_)
      · skip
        refine KC.seq ?_
        refine KC.region ?_
        refine KT.step rfl rfl (K.assign rfl) ?_
        refine KT.step rfl rfl (K.assign rfl) ?_
        refine KT.nil ?_
        refine thenK_n ?_
        refine KC.ret ?_
        refine thenK_r ?_
        refine ⟨.inl rfl, _, rfl, ?_⟩
        rw [fireD_bad (by unfold okFire; simp [show markB m start.length = false by simpa using hb21])]
        rfl
      · cases hc31
    · skip
      refine KT.step rfl rfl (K.move rfl) ?_
      refine KT.step rfl rfl (K.lss rfl rfl) ?_
      refine KT.step rfl rfl (K.pick rfl (fun h => by cases h) (fun _ => rfl)) ?_
      refine KT.step rfl rfl (K.move rfl) ?_
      refine KT.bcase (fun hb25 => ?_) (fun hb25 => ?_)
      · skip
        replace hb25 := of_decide_eq_true hb25
        refine KT.skip rfl rfl ?_
        refine KT.skip rfl rfl ?_
        refine KT.skip rfl rfl ?_
        refine KT.skip rfl rfl ?_
        refine KT.skip rfl rfl ?_
        refine KT.step rfl rfl (K.pick rfl (fun _ => rfl) (fun h => by cases h)) ?_
        refine KT.nil ?_
        refine thenK_n ?_
        refine KC.cond rfl (fun hc31 => ?_) (fun hc31 => ?_)
        · skip
          refine KC.seq ?_
          refine KC.region ?_
          refine KT.step rfl rfl (K.assign rfl) ?_
          refine KT.step rfl rfl (K.assign rfl) ?_
          refine KT.nil ?_
          refine thenK_n ?_
          refine KC.ret ?_
          refine thenK_r ?_
          refine ⟨.inl rfl, _, rfl, ?_⟩
          rw [fireD_bad (by unfold okFire; intro h; simp at h; omega)]
          rfl
        · cases hc31
      · skip
        replace hb25 := of_decide_eq_false hb25
        refine KT.step rfl rfl (K.move rfl) ?_
        refine KT.step rfl rfl (K.fieldAddrO rfl Try.fld32_0 Try.size22) ?_
        refine KT.step rfl rfl (K.loadO rfl rfl (by simp) rfl Try.agg22) ?_
        refine KT.step rfl rfl (K.len rfl (by assumption) Try.underlying22) ?_
        refine KT.step rfl rfl (K.geq rfl rfl) ?_
        refine KT.step rfl rfl (K.pick rfl (fun h => by cases h) (fun _ => rfl)) ?_
        refine KT.nil ?_
        refine thenK_n ?_
        refine KC.cond rfl (fun hc31 => ?_) (fun hc31 => ?_)
        · skip
          replace hc31 := of_decide_eq_true hc31
          refine KC.seq ?_
          refine KC.region ?_
          refine KT.step rfl rfl (K.assign rfl) ?_
          refine KT.step rfl rfl (K.assign rfl) ?_
          refine KT.nil ?_
          refine thenK_n ?_
          refine KC.ret ?_
          refine thenK_r ?_
          refine ⟨.inl rfl, _, rfl, ?_⟩
          rw [fireD_bad (by unfold okFire; intro h; simp at h; omega)]
          rfl
        · skip
          replace hc31 := of_decide_eq_false hc31
          have hv : validB pre post start = true := by simpa using hb13
          have hm : markB m start.length = true := by simpa using hb21
          obtain ⟨v1, v2, v3, v4, v5, v6, v7, v8⟩ := validB_iff.1 hv
          have hml := markB_len hm
          obtain ⟨t0, rfl⟩ := Int.eq_ofNat_of_zero_le (show 0 ≤ t by omega)
          have ht : t0 < pre.length := by omega
          have ht2 : t0 < post.length := by omega
          have rp : ∀ r ∈ pre, r.length = start.length := fun r hr => fitsB_len (allB_mem v7 r hr)
          have rq : ∀ r ∈ post, r.length = start.length := fun r hr => fitsB_len (allB_mem v8 r hr)
          have hl1 := rp _ (List.getElem_mem ht)
          have hl2 := rq _ (List.getElem_mem ht2)
          refine KC.skip ?_
          refine thenK_n ?_
          refine KC.seq ?_
          refine KC.region ?_
          refine KT.step rfl rfl (K.loadOAgg (m := 3) rfl rfl (by simp) Try.agg32 Try.size32 (by simp [cellsX])) ?_
          refine KT.step rfl rfl (K.call1 rfl plainTry_59 (systemOf59 ha hb hc v1 v2 v4 v5 v6 rp rq)) ?_
          refine KT.step rfl rfl (K.alloc Try.zero66) ?_
          refine KT.step rfl rfl (K.storeN (v := .d (sysD start.length pre post start)) rfl rfl rfl (by simp [cellsX, w6, Value.cells]) (by simp [cellsX, w6, oneX, Value.oneCell']) Try.size66) ?_
          refine KT.nil ?_
          refine thenK_n ?_
          refine KC.seq ?_
          refine KC.region ?_
          refine KT.step rfl rfl (K.move rfl) ?_
          refine KT.step rfl rfl (K.call1 rfl plainTry_50 (tokensOf50 hd (by omega) (by omega))) ?_
          refine KT.step rfl rfl (K.alloc Try.zero64) ?_
          refine KT.step rfl rfl (K.storeN (v := .d (.agg (w6 (tk m)))) rfl rfl rfl (by simp [cellsX, w6, Value.cells]) (by simp [cellsX, w6, oneX, Value.oneCell']) Try.size64) ?_
          refine KT.nil ?_
          refine thenK_n ?_
          refine KC.seq ?_
          refine KC.seq ?_
          refine KC.draw Try.mixed ?_
          refine KT.step rfl rfl (K.fieldAddrO rfl Try.fld66_1 Try.size62) ?_
          refine KT.step rfl rfl (K.loadO rfl rfl (by simp) rfl Try.agg62) ?_
          refine KT.step rfl rfl (K.move rfl) ?_
          refine KT.step rfl rfl (K.idxT rfl rfl ht Try.underlying62 Try.size64) ?_
          refine KT.step rfl rfl (K.loadT ht rfl Try.agg64 Try.size64) ?_
          refine KT.step rfl rfl (K.loadOAgg (m := 6) rfl rfl (by simp) Try.agg64 Try.size64 (by simp [w6, splice, Value.cells, cellsX])) ?_
          refine KT.step rfl rfl (K.call2 rfl rfl plainTry_58 (atMost58 _ _)) ?_
          refine KT.step rfl rfl (K.not rfl) ?_
          refine KT.nil ?_
          refine ⟨by kernel_rfl, ?_⟩
          refine thenK_n ?_
          refine KC.cond rfl (fun hc43 => ?_) (fun hc43 => ?_)
          · skip
            rw [leq6_within (by omega) (by omega)] at hc43
            simp at hc43
            refine KC.seq ?_
            refine KC.region ?_
            refine KT.step rfl rfl (K.assign rfl) ?_
            refine KT.step rfl rfl (K.assign rfl) ?_
            refine KT.nil ?_
            refine thenK_n ?_
            refine KC.ret ?_
            refine thenK_r ?_
            refine ⟨.inl rfl, _, rfl, ?_⟩
            rw [fireD_ok hv hm ht ht2, if_neg (by simp [hc43])]
            rfl
          · skip
            rw [leq6_within (by omega) (by omega)] at hc43
            simp at hc43
            refine KC.skip ?_
            refine thenK_n ?_
            refine KC.seq ?_
            refine KC.draw Try.mixed ?_
            refine KT.step rfl rfl (K.loadOAgg (m := 9) rfl rfl (by simp) Try.agg66 Try.size66 (by simp [w6, splice, Value.cells, cellsX])) ?_
            refine KT.step rfl rfl (K.loadOAgg (m := 9) rfl rfl (by simp) Try.agg66 Try.size66 (by simp [w6, splice, Value.cells, cellsX])) ?_
            refine KT.step rfl rfl (K.loadOAgg (m := 6) rfl rfl (by simp) Try.agg64 Try.size64 (by simp [w6, splice, Value.cells, cellsX])) ?_
            refine KT.step rfl rfl (K.move rfl) ?_
            refine KT.step rfl rfl (K.call3 rfl rfl rfl plainTry_73 (fired73 (small_of v7) (small_of v8) ht ht2 (markB_bd hm))) ?_
            refine KT.step rfl rfl (K.call2 rfl rfl plainTry_72 (marking72 v1 v2)) ?_
            refine KT.step rfl rfl (K.assign rfl) ?_
            refine KT.step rfl rfl (K.assign rfl) ?_
            refine KT.nil ?_
            refine ⟨by kernel_rfl, ?_⟩
            refine thenK_n ?_
            refine KC.ret ?_
            refine ⟨.inl rfl, _, rfl, ?_⟩
            rw [fireD_ok hv hm ht ht2, if_pos (by simpa using hc43), deepen_tup]
            rfl
end Go.Proofs.Ytocgjopmlhpjdaa

