import Derived.Test.YthbnnffmhnjpjaaCyK2
import Derived.Test.YthbnnffmhnjpjaaVmRg
/-
  Times: gains, ways, means.
-/
namespace Go.Proofs.Ythbnnffmhnjpjaa
open Go.Vm Go.Cy
theorem plainTry_34 : plainFn Try.prog 34 = true := by kernel_rfl
set_option maxRecDepth 10000 in
theorem ways1_92 {d : DV} {n i j : Nat} {a : Nat → Nat → Int} (hd : Mat d (genM n n a)) (hi : i < n) (hj : j < n) : DeepCall Try.prog 92 [DI (i : Nat), DI (j : Nat), .ptr [d]] (DI (stayI n a i j)) := by
  refine deepCall_K 5 Try.func92 rfl (Nat.le_of_ble_eq_true rfl) fun M W0 => ?_
  refine KC.seq ?_
  refine KC.region ?_
  refine KT.step rfl rfl (K.assign rfl) ?_
  refine KT.nil ?_
  refine thenK_n ?_
  refine KC.seq ?_
  refine KC.draw Try.mixed ?_
  refine KT.step rfl rfl (K.move rfl) ?_
  refine KT.step rfl rfl (K.move rfl) ?_
  refine KT.step rfl rfl (K.call2 rfl rfl plainTry_88 (one88 hi)) ?_
  refine KT.step rfl rfl (K.load rfl Try.agg22) ?_
  refine KT.step rfl rfl (K.move rfl) ?_
  refine KT.idx rfl rfl rfl (by assumption) rfl (by rw [genM_len]; omega) Try.underlying22 Try.size33 fun c11 cs11 hq11 => ?_
  rw [genM_row] at hq11
  refine KT.step rfl rfl (K.load rfl Try.agg33) ?_
  refine KT.step rfl rfl (K.move rfl) ?_
  refine KT.idxI rfl rfl rfl (by assumption) rfl (by simp; omega) Try.underlying33 Try.size3 fun cs14 => ?_
  rw [get_range]
  refine KT.step rfl rfl (K.load rfl Try.agg3) ?_
  refine KT.step rfl rfl (K.build2s (a := .d (DI (oneI n i j))) (b := .d (DI (a i j))) rfl rfl rfl rfl Try.underlying33 Try.one3) ?_
  refine KT.step rfl rfl (K.callO rfl plainTry_60 (greatest60_own' (md := 0) (l := [oneI n i j, a i j]) rfl rfl (by simp) (by omega))) ?_
  refine KT.step rfl rfl (K.assign rfl) ?_
  refine KT.nil ?_
  refine ⟨by kernel_rfl, ?_⟩
  refine thenK_n ?_
  refine KC.ret ?_
  exact ⟨.inl rfl, _, rfl, fin_d rfl⟩
set_option maxRecDepth 10000 in
theorem ways59 {d : DV} {n : Nat} {a : Nat → Nat → Int} {b : Int} (hd : Mat d (genM n n a)) (h1 : 1 ≤ n) (hn : n ≤ 12) (ha : GoodM b a) (hb : 0 ≤ b ∧ b ≤ 10000000000) (hs : Sup n (DM a)) : DeepCall Try.prog 59 [d] (genD n n (waysI n a)) := by
  have hkb : ((n - 1 : Nat) : Int) * b ≤ 1000000000000 := by
    have := Int.mul_le_mul_of_nonneg_right (show ((n - 1 : Nat) : Int) ≤ 12 by omega) hb.1
    omega
  refine deepCall_K 5 Try.func59 rfl (Nat.le_of_ble_eq_true rfl) fun M W0 => ?_
  refine KC.seq ?_
  refine KC.region ?_
  refine KT.step rfl rfl (K.box rfl) ?_
  try rw [(SlD.of hd).cells]
  refine KT.step rfl rfl (K.assign rfl) ?_
  refine KT.nil ?_
  refine thenK_n ?_
  refine KC.seq ?_
  refine KC.region ?_
  refine KT.step rfl rfl (K.loadO rfl rfl (by simp) rfl Try.agg22) ?_
  refine KT.step rfl rfl (K.len rfl hd Try.underlying22) ?_
  rw [genM_len]
  refine KT.step rfl rfl (K.makeF (m := 0) rfl rfl rfl rfl) ?_
  refine KT.step rfl rfl (K.callZ (ds := [DI (n : Nat), .fn (.func 92) [] [.ptr [d]]]) [0] 5 rfl plainTry_85 rfl (build85 (by omega) plainTry_92 fun i j hi hj => ways1_92 hd hi hj)) ?_
  refine KT.step rfl rfl (K.assign rfl) ?_
  refine KT.nil ?_
  refine thenK_n ?_
  refine KC.seq ?_
  refine KC.region ?_
  refine KT.step rfl rfl (K.move rfl) ?_
  refine KT.step rfl rfl (K.loadO rfl rfl (by simp) rfl Try.agg22) ?_
  refine KT.step rfl rfl (K.len rfl hd Try.underlying22) ?_
  rw [genM_len]
  refine KT.step rfl rfl (K.sub rfl rfl (show IntKind.i64.wrap ((n : Int) - 1) = ((n - 1 : Nat) : Int) from (wrap_id (by omega)).trans (by omega))) ?_
  refine KT.step rfl rfl (K.call2 rfl rfl plainTry_53 (power53 genD_mat h1 (by omega) (stay_good ha hb.1) hb.1 (stay_sup ha hb.1 hs (by omega)) (n - 1) (by omega) hkb (by omega))) ?_
  try rw [(SlD.of hd).cells]
  refine KT.step rfl rfl (K.assign rfl) ?_
  refine KT.nil ?_
  refine thenK_n ?_
  refine KC.ret ?_
  exact ⟨.inl rfl, _, rfl, fin_d rfl⟩

/-- Gains and mean of a matrix. -/
def measE (m : List (List Int)) : Int := if validB 1000 m then (match meanI m.length (mf m) with | none => 5 | some _ => 0) else 2
def measF (m : List (List Int)) : Int × Int := if validB 1000 m then (meanI m.length (mf m)).getD (0, 0) else (0, 0)
def gainM (m : List (List Int)) : Nat → Nat → Int := gainI (mf m) (measF m).1 (measF m).2
def measG (m : List (List Int)) : DV := if measE m = 0 then genD m.length m.length (gainM m) else Dnil
theorem meas_no {m : List (List Int)} (h : validB 1000 m = false) : measE m = 2 ∧ measF m = (0, 0) ∧ measG m = Dnil := by
  have e : measE m = 2 := by unfold measE; rw [h]; rfl
  exact ⟨e, by unfold measF; rw [h]; rfl, by unfold measG; rw [e]; rfl⟩
theorem meas_none {m : List (List Int)} (h : validB 1000 m = true) (h2 : meanI m.length (mf m) = none) : measE m = 5 ∧ measF m = (0, 0) ∧ measG m = Dnil := by
  have e : measE m = 5 := by unfold measE; rw [h, h2]; rfl
  exact ⟨e, by unfold measF; rw [h, h2]; rfl, by unfold measG; rw [e]; rfl⟩
theorem meas_some {m : List (List Int)} (h : validB 1000 m = true) {p q : Int} (h2 : meanI m.length (mf m) = some (p, q)) : measE m = 0 ∧ measF m = (p, q) ∧ measG m = genD m.length m.length (gainI (mf m) p q) := by
  have e : measE m = 0 := by unfold measE; rw [h, h2]; rfl
  have f : measF m = (p, q) := by unfold measF; rw [h, h2]; rfl
  exact ⟨e, f, by unfold measG gainM; rw [e, f]; rfl⟩
theorem sbds {n : Nat} {a : Nat → Nat → Int} (h : Cy.Small n a) : Bds n a := ⟨h.n1, by have := h.n6; omega, fun i j => (h.ga i j).mono (by omega)⟩

theorem mean_form (n : Nat) (a : Nat → Nat → Int) : meanD n a = .tup [.agg [DI ((meanI n a).getD (0, 0)).1, DI ((meanI n a).getD (0, 0)).2], DB (meanI n a).isSome] := by
  unfold meanD; cases meanI n a <;> rfl
def starE (m : List (List Int)) : Int := if validB 1000 m then (if 0 < (measF m).1 then 8 else 0) else 2
def starM (m : List (List Int)) : List (List Int) := if starE m = 0 then genM m.length m.length (waysI m.length (mf m)) else []
def starD (m : List (List Int)) : DV := if starE m = 0 then genD m.length m.length (waysI m.length (mf m)) else Dnil
theorem starD_mat (m : List (List Int)) : Mat (starD m) (starM m) := by unfold starD starM; split; exact genD_mat; exact .nil
theorem measF_small {m : List (List Int)} (h : validB 1000 m = true) : measF m = (meanI m.length (mf m)).getD (0, 0) := by unfold measF; rw [h]; rfl
set_option maxRecDepth 10000 in
theorem Star34 {d : DV} {m : List (List Int)} (hd : Mat d m) (hl : m.length ≤ 9223372036854775807) (hr : ∀ r ∈ m, r.length ≤ 9223372036854775807) : DeepCall Try.prog 34 [d] (.tup [starD m, DI (starE m)]) := by
  refine deepCall_K 5 Try.func34 rfl (Nat.le_of_ble_eq_true rfl) fun M W0 => ?_
  refine KC.seq ?_
  refine KC.region ?_
  refine KT.step rfl rfl (K.assign rfl) ?_
  refine KT.step rfl rfl (K.assign rfl) ?_
  refine KT.nil ?_
  refine thenK_n ?_
  refine KC.seq ?_
  refine KC.seq ?_
  refine KC.region ?_
  refine KT.step rfl rfl (K.move rfl) ?_
  refine KT.step rfl rfl (K.call2 rfl rfl plainTry_47 (valid47 hd hl hr (L := 1000) (by omega))) ?_
  refine KT.step rfl rfl (K.not rfl) ?_
  refine KT.nil ?_
  refine thenK_n ?_
  refine KC.cond rfl (fun hc8 => ?_) (fun hc8 => ?_)
  · skip
    refine KC.seq ?_
    refine KC.region ?_
    refine KT.step rfl rfl (K.assign rfl) ?_
    refine KT.step rfl rfl (K.assign rfl) ?_
    refine KT.nil ?_
    refine thenK_n ?_
    refine KC.ret ?_
    refine thenK_r ?_
    have e : starE m = 2 := by unfold starE; rw [show validB 1000 m = false by rw [Bool.not_eq_true'] at hc8; exact hc8]; rfl
    exact ⟨.inl rfl, _, rfl, by show some _ = some _; unfold starD; rw [e]; rfl⟩
  · skip
    rw [Bool.not_eq_false'] at hc8
    obtain ⟨sm, p3⟩ := Small.of hc8
    have hd' : Mat d (genM m.length m.length (mf m)) := p3 ▸ hd
    have hmF := measF_small hc8
    refine KC.skip ?_
    refine thenK_n ?_
    refine KC.seq ?_
    refine KC.seq ?_
    refine KC.region ?_
    refine KT.step rfl rfl (K.move rfl) ?_
    refine KT.step rfl rfl (K.call1 rfl plainTry_66 ((mean_form m.length (mf m)) ▸ mean66 hd' (sbds sm))) ?_
    refine KT.step rfl rfl (K.move rfl) ?_
    refine KT.step rfl rfl (K.extract rfl rfl) ?_
    refine KT.step rfl rfl (K.extract rfl rfl) ?_
    refine KT.step rfl rfl (K.alloc Try.zero59) ?_
    refine KT.step rfl rfl (K.storeN rfl rfl rfl (by simp [cellsX, Value.cells]) rfl Try.size59) ?_
    refine KT.step rfl rfl (K.assign rfl) ?_
    refine KT.nil ?_
    refine thenK_n ?_
    refine KC.seq ?_
    refine KC.region ?_
    refine KT.step rfl rfl (K.move rfl) ?_
    refine KT.step rfl rfl (K.move rfl) ?_
    refine KT.bcase (fun hb15 => ?_) (fun hb15 => ?_)
    · skip
      refine KT.step rfl rfl (K.fieldAddrO rfl Try.fld59_0 Try.size3) ?_
      refine KT.step rfl rfl (K.loadO rfl rfl (by simp) rfl Try.agg3) ?_
      refine KT.step rfl rfl (K.gtr rfl rfl) ?_
      refine KT.step rfl rfl (K.pick rfl (fun _ => rfl) (fun h => by cases h)) ?_
      refine KT.nil ?_
      refine thenK_n ?_
      refine KC.cond rfl (fun hc19 => ?_) (fun hc19 => ?_)
      · skip
        replace hc19 := of_decide_eq_true hc19
        refine KC.seq ?_
        refine KC.region ?_
        refine KT.step rfl rfl (K.assign rfl) ?_
        refine KT.step rfl rfl (K.assign rfl) ?_
        refine KT.nil ?_
        refine thenK_n ?_
        refine KC.ret ?_
        refine thenK_r ?_
        have e : starE m = 8 := by unfold starE; rw [hc8, if_pos rfl, if_pos (by rw [hmF]; exact hc19)]
        exact ⟨.inl rfl, _, rfl, by show some _ = some _; unfold starD; rw [e]; rfl⟩
      · skip
        replace hc19 := of_decide_eq_false hc19
        refine KC.skip ?_
        refine thenK_n ?_
        refine KC.seq ?_
        refine KC.region ?_
        refine KT.step rfl rfl (K.move rfl) ?_
        refine KT.step rfl rfl (K.call1 rfl plainTry_59 (ways59 hd' sm.n1 (by have := sm.n6; omega) sm.ga (by omega) sm.sup)) ?_
        refine KT.step rfl rfl (K.assign rfl) ?_
        refine KT.step rfl rfl (K.assign rfl) ?_
        refine KT.nil ?_
        refine thenK_n ?_
        refine KC.ret ?_
        have e : starE m = 0 := by
          unfold starE
          rw [hc8, if_pos rfl, if_neg]
          intro hpos
          rw [hmF] at hpos; exact hc19 hpos
        exact ⟨.inl rfl, _, rfl, by show some _ = some _; unfold starD; rw [e]; rfl⟩
    · skip
      refine KT.skip rfl rfl ?_
      refine KT.skip rfl rfl ?_
      refine KT.skip rfl rfl ?_
      refine KT.step rfl rfl (K.pick rfl (fun h => by cases h) (fun _ => rfl)) ?_
      refine KT.nil ?_
      refine thenK_n ?_
      refine KC.cond rfl (fun hc19 => ?_) (fun hc19 => ?_)
      · cases hc19
      · skip
        refine KC.skip ?_
        refine thenK_n ?_
        refine KC.seq ?_
        refine KC.region ?_
        refine KT.step rfl rfl (K.move rfl) ?_
        refine KT.step rfl rfl (K.call1 rfl plainTry_59 (ways59 hd' sm.n1 (by have := sm.n6; omega) sm.ga (by omega) sm.sup)) ?_
        refine KT.step rfl rfl (K.assign rfl) ?_
        refine KT.step rfl rfl (K.assign rfl) ?_
        refine KT.nil ?_
        refine thenK_n ?_
        refine KC.ret ?_
        have e : starE m = 0 := by
          unfold starE
          rw [hc8, if_pos rfl, if_neg]
          intro hpos
          cases hmm : meanI m.length (mf m) with | none => rw [hmF, hmm] at hpos; exact absurd hpos (by decide) | some x => rw [hmm] at hb15; cases hb15
        exact ⟨.inl rfl, _, rfl, by show some _ = some _; unfold starD; rw [e]; rfl⟩
end Go.Proofs.Ythbnnffmhnjpjaa

