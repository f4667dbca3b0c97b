import Derived.Test.YthbnnffmhnjpjaaCyK2
import Derived.Test.YthbnnffmhnjpjaaCyEg
/-
  Times: gains, ways, means.
-/
namespace Go.Proofs.Ythbnnffmhnjpjaa
open Go.Vm Go.Cy
theorem plainTry_101 : plainFn Try.prog 101 = true := by kernel_rfl
theorem plainTry_89 : plainFn Try.prog 89 = true := by kernel_rfl
theorem plainTry_56 : plainFn Try.prog 56 = true := by kernel_rfl
set_option maxRecDepth 10000 in
theorem gains1_101 {d : DV} {n i j : Nat} {a : Nat → Nat → Int} {p q : Int} (hd : Mat d (genM n n a)) (ha : GoodM 1000000000 a) (hp : -100000000000 ≤ p ∧ p ≤ 100000000000) (hq : 1 ≤ q ∧ q ≤ 12) (hi : i < n) (hj : j < n) : DeepCall Try.prog 101 [DI (i : Nat), DI (j : Nat), .ptr [d], .ptr [DI p, DI q]] (DI (gainI a p q i j)) := by
  refine deepCall_K 5 Try.func101 rfl (Nat.le_of_ble_eq_true rfl) fun M W0 => ?_
  refine KC.seq ?_
  refine KC.region ?_
  refine KT.step rfl rfl (K.assign rfl) ?_
  refine KT.nil ?_
  refine thenK_n ?_
  refine KC.seq ?_
  refine KC.seq ?_
  refine KC.region ?_
  refine KT.step rfl rfl (K.load rfl Try.agg22) ?_
  refine KT.step rfl rfl (K.move rfl) ?_
  refine KT.idx rfl rfl rfl (by assumption) rfl (by rw [genM_len]; omega) Try.underlying22 Try.size33 fun c9 cs9 hq9 => ?_
  rw [genM_row] at hq9
  refine KT.step rfl rfl (K.load rfl Try.agg33) ?_
  refine KT.step rfl rfl (K.move rfl) ?_
  refine KT.idxI rfl rfl rfl (by assumption) rfl (by simp; omega) Try.underlying33 Try.size3 fun cs12 => ?_
  rw [get_range]
  refine KT.step rfl rfl (K.load rfl Try.agg3) ?_
  refine KT.step rfl rfl (K.eql rfl rfl) ?_
  refine KT.nil ?_
  refine thenK_n ?_
  refine KC.cond rfl (fun hc14 => ?_) (fun hc14 => ?_)
  · skip
    replace hc14 := of_decide_eq_true hc14
    refine KC.seq ?_
    refine KC.region ?_
    refine KT.step rfl rfl (K.assign rfl) ?_
    refine KT.nil ?_
    refine thenK_n ?_
    refine KC.ret ?_
    refine thenK_r ?_
    exact ⟨.inl rfl, _, rfl, fin_d (by rw [show gainI a p q i j = Nv from if_pos hc14]; rfl)⟩
  · skip
    replace hc14 := of_decide_eq_false hc14
    have h1 := (ha i j).resolve_left hc14
    have hm := mul_bd (a := 12) (b := 1000000000) (x := q) (y := a i j) (by omega) (by omega) (by omega) (by omega)
    refine KC.skip ?_
    refine thenK_n ?_
    refine KC.seq ?_
    refine KC.draw Try.mixed ?_
    refine KT.step rfl rfl (K.fieldAddrD rfl Try.fld59_1 Try.size3) ?_
    refine KT.step rfl rfl (K.load rfl Try.agg3) ?_
    refine KT.step rfl rfl (K.load rfl Try.agg22) ?_
    refine KT.step rfl rfl (K.move rfl) ?_
    refine KT.idx rfl rfl rfl (by assumption) rfl (by rw [genM_len]; omega) Try.underlying22 Try.size33 fun c19 cs19 hq19 => ?_
    rw [genM_row] at hq19
    refine KT.step rfl rfl (K.load rfl Try.agg33) ?_
    refine KT.step rfl rfl (K.move rfl) ?_
    refine KT.idxI rfl rfl rfl (by assumption) rfl (by simp; omega) Try.underlying33 Try.size3 fun cs22 => ?_
    rw [get_range]
    refine KT.step rfl rfl (K.load rfl Try.agg3) ?_
    refine KT.step rfl rfl (K.mul rfl rfl (wrap_id (by omega))) ?_
    refine KT.step rfl rfl (K.fieldAddrD rfl Try.fld59_0 Try.size3) ?_
    refine KT.step rfl rfl (K.load rfl Try.agg3) ?_
    refine KT.step rfl rfl (K.sub rfl rfl (wrap_id (by omega))) ?_
    refine KT.step rfl rfl (K.assign rfl) ?_
    refine KT.nil ?_
    refine ⟨by kernel_rfl, ?_⟩
    refine thenK_n ?_
    refine KC.ret ?_
    exact ⟨.inl rfl, _, rfl, fin_d (by rw [show gainI a p q i j = q * a i j - p from if_neg hc14])⟩
set_option maxRecDepth 10000 in
theorem gains89 {d : DV} {n : Nat} {a : Nat → Nat → Int} {p q : Int} (hd : Mat d (genM n n a)) (ha : GoodM 1000000000 a) (hp : -100000000000 ≤ p ∧ p ≤ 100000000000) (hq : 1 ≤ q ∧ q ≤ 12) (h1 : 1 ≤ n) (hn : n ≤ 12) : DeepCall Try.prog 89 [d, .agg [DI p, DI q]] (genD n n (gainI a p q)) := by
  refine deepCall_K 5 Try.func89 rfl (Nat.le_of_ble_eq_true rfl) fun M W0 => ?_
  refine KC.seq ?_
  refine KC.region ?_
  refine KT.step rfl rfl (K.box rfl) ?_
  rw [(SlD.of hd).cells]
  refine KT.step rfl rfl (K.box rfl) ?_
  refine KT.step rfl rfl (K.assign rfl) ?_
  refine KT.nil ?_
  refine thenK_n ?_
  refine KC.seq ?_
  refine KC.region ?_
  refine KT.step rfl rfl (K.loadO rfl rfl (by simp) rfl Try.agg22) ?_
  refine KT.step rfl rfl (K.len rfl hd Try.underlying22) ?_
  rw [genM_len]
  refine KT.step rfl rfl (K.makeF (m := 0) rfl rfl rfl rfl) ?_
  refine KT.step rfl rfl (K.callZ (ds := [DI (n : Nat), .fn (.func 101) [] [.ptr [d], .ptr [DI p, DI q]]]) [0, 1] 5 rfl plainTry_85 rfl (build85 (by omega) plainTry_101 fun i j hi hj => gains1_101 hd ha hp hq hi hj)) ?_
  refine KT.step rfl rfl (K.assign rfl) ?_
  refine KT.nil ?_
  refine thenK_n ?_
  refine KC.ret ?_
  exact ⟨.inl rfl, _, rfl, rfl⟩
set_option maxRecDepth 10000 in
theorem ways1_92 {d : DV} {n i j : Nat} {a : Nat → Nat → Int} (hd : Mat d (genM n n a)) (hi : i < n) (hj : j < n) : DeepCall Try.prog 92 [DI (i : Nat), DI (j : Nat), .ptr [d]] (DI (stayI n a i j)) := by
  refine deepCall_K 5 Try.func92 rfl (Nat.le_of_ble_eq_true rfl) fun M W0 => ?_
  refine KC.seq ?_
  refine KC.region ?_
  refine KT.step rfl rfl (K.assign rfl) ?_
  refine KT.nil ?_
  refine thenK_n ?_
  refine KC.seq ?_
  refine KC.draw Try.mixed ?_
  refine KT.step rfl rfl (K.move rfl) ?_
  refine KT.step rfl rfl (K.move rfl) ?_
  refine KT.step rfl rfl (K.call2 rfl rfl plainTry_88 (one88 hi)) ?_
  refine KT.step rfl rfl (K.load rfl Try.agg22) ?_
  refine KT.step rfl rfl (K.move rfl) ?_
  refine KT.idx rfl rfl rfl (by assumption) rfl (by rw [genM_len]; omega) Try.underlying22 Try.size33 fun c11 cs11 hq11 => ?_
  rw [genM_row] at hq11
  refine KT.step rfl rfl (K.load rfl Try.agg33) ?_
  refine KT.step rfl rfl (K.move rfl) ?_
  refine KT.idxI rfl rfl rfl (by assumption) rfl (by simp; omega) Try.underlying33 Try.size3 fun cs14 => ?_
  rw [get_range]
  refine KT.step rfl rfl (K.load rfl Try.agg3) ?_
  refine KT.step rfl rfl (K.build2s (a := .d (DI (oneI n i j))) (b := .d (DI (a i j))) rfl rfl rfl rfl Try.underlying33 Try.one3) ?_
  refine KT.step rfl rfl (K.callO rfl plainTry_60 (greatest60_own' (md := 0) (l := [oneI n i j, a i j]) rfl rfl (by simp) (by omega))) ?_
  refine KT.step rfl rfl (K.assign rfl) ?_
  refine KT.nil ?_
  refine ⟨by kernel_rfl, ?_⟩
  refine thenK_n ?_
  refine KC.ret ?_
  exact ⟨.inl rfl, _, rfl, fin_d rfl⟩
set_option maxRecDepth 10000 in
theorem ways59 {d : DV} {n : Nat} {a : Nat → Nat → Int} {b : Int} (hd : Mat d (genM n n a)) (h1 : 1 ≤ n) (hn : n ≤ 12) (ha : GoodM b a) (hb : 0 ≤ b ∧ b ≤ 10000000000) (hs : Sup n (DM a)) : DeepCall Try.prog 59 [d] (genD n n (waysI n a)) := by
  have hkb : ((n - 1 : Nat) : Int) * b ≤ 1000000000000 := by
    have := Int.mul_le_mul_of_nonneg_right (show ((n - 1 : Nat) : Int) ≤ 12 by omega) hb.1
    omega
  refine deepCall_K 5 Try.func59 rfl (Nat.le_of_ble_eq_true rfl) fun M W0 => ?_
  refine KC.seq ?_
  refine KC.region ?_
  refine KT.step rfl rfl (K.box rfl) ?_
  try rw [(SlD.of hd).cells]
  refine KT.step rfl rfl (K.assign rfl) ?_
  refine KT.nil ?_
  refine thenK_n ?_
  refine KC.seq ?_
  refine KC.region ?_
  refine KT.step rfl rfl (K.loadO rfl rfl (by simp) rfl Try.agg22) ?_
  refine KT.step rfl rfl (K.len rfl hd Try.underlying22) ?_
  rw [genM_len]
  refine KT.step rfl rfl (K.makeF (m := 0) rfl rfl rfl rfl) ?_
  refine KT.step rfl rfl (K.callZ (ds := [DI (n : Nat), .fn (.func 92) [] [.ptr [d]]]) [0] 5 rfl plainTry_85 rfl (build85 (by omega) plainTry_92 fun i j hi hj => ways1_92 hd hi hj)) ?_
  refine KT.step rfl rfl (K.assign rfl) ?_
  refine KT.nil ?_
  refine thenK_n ?_
  refine KC.seq ?_
  refine KC.region ?_
  refine KT.step rfl rfl (K.move rfl) ?_
  refine KT.step rfl rfl (K.loadO rfl rfl (by simp) rfl Try.agg22) ?_
  refine KT.step rfl rfl (K.len rfl hd Try.underlying22) ?_
  rw [genM_len]
  refine KT.step rfl rfl (K.sub rfl rfl (show IntKind.i64.wrap ((n : Int) - 1) = ((n - 1 : Nat) : Int) from (wrap_id (by omega)).trans (by omega))) ?_
  refine KT.step rfl rfl (K.call2 rfl rfl plainTry_53 (power53 genD_mat h1 (by omega) (stay_good ha hb.1) hb.1 (stay_sup ha hb.1 hs (by omega)) (n - 1) (by omega) hkb (by omega))) ?_
  try rw [(SlD.of hd).cells]
  refine KT.step rfl rfl (K.assign rfl) ?_
  refine KT.nil ?_
  refine thenK_n ?_
  refine KC.ret ?_
  exact ⟨.inl rfl, _, rfl, fin_d rfl⟩

/-- Gains and mean of a matrix. -/
def measE (m : List (List Int)) : Int := if validB 1000 m then (match meanI m.length (mf m) with | none => 5 | some _ => 0) else 2
def measF (m : List (List Int)) : Int × Int := if validB 1000 m then (meanI m.length (mf m)).getD (0, 0) else (0, 0)
def gainM (m : List (List Int)) : Nat → Nat → Int := gainI (mf m) (measF m).1 (measF m).2
def measG (m : List (List Int)) : DV := if measE m = 0 then genD m.length m.length (gainM m) else Dnil
def measD (m : List (List Int)) : DV := .tup [measG m, .agg [DI (measF m).1, DI (measF m).2], DI (measE m)]
theorem meas_no {m : List (List Int)} (h : validB 1000 m = false) : measE m = 2 ∧ measF m = (0, 0) ∧ measG m = Dnil := by
  have e : measE m = 2 := by unfold measE; rw [h]; rfl
  exact ⟨e, by unfold measF; rw [h]; rfl, by unfold measG; rw [e]; rfl⟩
theorem meas_none {m : List (List Int)} (h : validB 1000 m = true) (h2 : meanI m.length (mf m) = none) : measE m = 5 ∧ measF m = (0, 0) ∧ measG m = Dnil := by
  have e : measE m = 5 := by unfold measE; rw [h, h2]; rfl
  exact ⟨e, by unfold measF; rw [h, h2]; rfl, by unfold measG; rw [e]; rfl⟩
theorem meas_some {m : List (List Int)} (h : validB 1000 m = true) {p q : Int} (h2 : meanI m.length (mf m) = some (p, q)) : measE m = 0 ∧ measF m = (p, q) ∧ measG m = genD m.length m.length (gainI (mf m) p q) := by
  have e : measE m = 0 := by unfold measE; rw [h, h2]; rfl
  have f : measF m = (p, q) := by unfold measF; rw [h, h2]; rfl
  exact ⟨e, f, by unfold measG gainM; rw [e, f]; rfl⟩
theorem meas_inv {m : List (List Int)} (h : measE m = 0) : validB 1000 m = true ∧ ∃ p q, meanI m.length (mf m) = some (p, q) := by
  unfold measE at h
  split at h
  · rename_i hv
    refine ⟨hv, ?_⟩
    split at h
    · cases h
    · rename_i r hr; exact ⟨r.1, r.2, hr⟩
  · cases h
theorem sbds {n : Nat} {a : Nat → Nat → Int} (h : Cy.Small n a) : Bds n a := ⟨h.n1, by have := h.n6; omega, fun i j => (h.ga i j).mono (by omega)⟩

theorem mean_form (n : Nat) (a : Nat → Nat → Int) : meanD n a = .tup [.agg [DI ((meanI n a).getD (0, 0)).1, DI ((meanI n a).getD (0, 0)).2], DB (meanI n a).isSome] := by
  unfold meanD; cases meanI n a <;> rfl
set_option maxRecDepth 10000 in
theorem measured56 {d : DV} {m : List (List Int)} (hd : Mat d m) (hl : m.length ≤ 9223372036854775807) (hr : ∀ r ∈ m, r.length ≤ 9223372036854775807) : DeepCall Try.prog 56 [d] (measD m) := by
  refine deepCall_K 5 Try.func56 rfl (Nat.le_of_ble_eq_true rfl) fun M W0 => ?_
  refine KC.seq ?_
  refine KC.region ?_
  refine KT.step rfl rfl (K.assign rfl) ?_
  refine KT.step rfl rfl (K.alloc Try.zero59) ?_
  refine KT.step rfl rfl (K.assign rfl) ?_
  refine KT.nil ?_
  refine thenK_n ?_
  refine KC.seq ?_
  refine KC.seq ?_
  refine KC.region ?_
  refine KT.step rfl rfl (K.move rfl) ?_
  refine KT.step rfl rfl (K.call2 rfl rfl plainTry_47 (valid47 hd hl hr (L := 1000) (by omega))) ?_
  refine KT.step rfl rfl (K.not rfl) ?_
  refine KT.nil ?_
  refine thenK_n ?_
  refine KC.cond rfl (fun hc9 => ?_) (fun hc9 => ?_)
  · skip
    refine KC.seq ?_
    refine KC.region ?_
    refine KT.step rfl rfl (K.buildL rfl build59z) ?_
    refine KT.step rfl rfl (K.assign rfl) ?_
    refine KT.step rfl rfl (K.storeN rfl rfl rfl (by simp [cellsX, Value.cells]) rfl Try.size59) ?_
    refine KT.step rfl rfl (K.assign rfl) ?_
    refine KT.nil ?_
    refine thenK_n ?_
    refine KC.ret ?_
    refine thenK_r ?_
    obtain ⟨e1, e2, e3⟩ := meas_no (m := m) (by rw [Bool.not_eq_true'] at hc9; exact hc9)
    refine ⟨.inl rfl, _, resK_tct (m := 2) (md := 0) [DI 0, DI 0] rfl rfl rfl (by decide) Try.agg59 Try.size59 rfl rfl rfl, ?_⟩
    show some _ = some _
    unfold measD; rw [e1, e2, e3]; rfl
  · skip
    rw [Bool.not_eq_false'] at hc9
    obtain ⟨sm, p3⟩ := Small.of hc9
    have hd' : Mat d (genM m.length m.length (mf m)) := p3 ▸ hd
    refine KC.skip ?_
    refine thenK_n ?_
    refine KC.seq ?_
    refine KC.region ?_
    refine KT.step rfl rfl (K.move rfl) ?_
    refine KT.step rfl rfl (K.call1 rfl plainTry_66 ((mean_form m.length (mf m)) ▸ mean66 hd' (sbds sm))) ?_
    refine KT.step rfl rfl (K.move rfl) ?_
    refine KT.step rfl rfl (K.extract rfl rfl) ?_
    refine KT.step rfl rfl (K.extract rfl rfl) ?_
    refine KT.step rfl rfl (K.alloc Try.zero59) ?_
    refine KT.step rfl rfl (K.storeN rfl rfl rfl (by simp [cellsX, Value.cells]) rfl Try.size59) ?_
    refine KT.step rfl rfl (K.assign rfl) ?_
    refine KT.nil ?_
    refine thenK_n ?_
    refine KC.seq ?_
    refine KC.seq ?_
    refine KC.region ?_
    refine KT.step rfl rfl (K.move rfl) ?_
    refine KT.step rfl rfl (K.not rfl) ?_
    refine KT.nil ?_
    refine thenK_n ?_
    refine KC.cond rfl (fun hc17 => ?_) (fun hc17 => ?_)
    · skip
      refine KC.seq ?_
      refine KC.region ?_
      refine KT.step rfl rfl (K.buildL rfl build59z) ?_
      refine KT.step rfl rfl (K.assign rfl) ?_
      refine KT.step rfl rfl (K.storeN rfl rfl rfl (by simp [cellsX, Value.cells]) rfl Try.size59) ?_
      refine KT.step rfl rfl (K.assign rfl) ?_
      refine KT.nil ?_
      refine thenK_n ?_
      refine KC.ret ?_
      refine thenK_r ?_
      have hm : meanI m.length (mf m) = none := by
        cases h : meanI m.length (mf m) with
        | none => rfl
        | some x => rw [h] at hc17; cases hc17
      obtain ⟨e1, e2, e3⟩ := meas_none hc9 hm
      refine ⟨.inl rfl, _, resK_tct (m := 2) (md := 0) [DI 0, DI 0] rfl rfl rfl (by decide) Try.agg59 Try.size59 rfl rfl rfl, ?_⟩
      show some _ = some _
      unfold measD; rw [e1, e2, e3]; rfl
    · skip
      obtain ⟨⟨p, q⟩, hm⟩ := Option.isSome_iff_exists.1 (show (meanI m.length (mf m)).isSome = true by simpa using hc17)
      obtain ⟨g1, g2, g3, g4, g5, g6, g7⟩ := sm.mean hm
      simp only [hm, Option.getD_some]
      refine KC.skip ?_
      refine thenK_n ?_
      refine KC.seq ?_
      refine KC.draw Try.mixed ?_
      refine KT.step rfl rfl (K.move rfl) ?_
      refine KT.step rfl rfl (K.loadOA ([DI p, DI q]) rfl rfl (by decide) Try.agg59 Try.size59 rfl) ?_
      refine KT.step rfl rfl (K.call2 rfl rfl plainTry_89 (gains89 hd' (fun i j => (sm.ga i j).mono (by omega)) (by omega) (by omega) sm.n1 (by have := sm.n6; omega))) ?_
      refine KT.step rfl rfl (K.loadOA ([DI p, DI q]) rfl rfl (by decide) Try.agg59 Try.size59 rfl) ?_
      refine KT.step rfl rfl (K.assign rfl) ?_
      refine KT.step rfl rfl (K.storeN rfl rfl rfl (by simp [cellsX, Value.cells]) rfl Try.size59) ?_
      refine KT.step rfl rfl (K.assign rfl) ?_
      refine KT.nil ?_
      refine ⟨by kernel_rfl, ?_⟩
      refine thenK_n ?_
      refine KC.ret ?_
      obtain ⟨e1, e2, e3⟩ := meas_some hc9 hm
      refine ⟨.inl rfl, _, resK_tct (m := 2) (md := 0) [DI p, DI q] rfl rfl rfl (by decide) Try.agg59 Try.size59 rfl rfl rfl, ?_⟩
      show some _ = some _
      unfold measD; rw [e1, e2, e3]; rfl
end Go.Proofs.Ythbnnffmhnjpjaa

