import Derived.Test.YthbnnffmhnjpjaaCyO
import Derived.Test.YthbnnffmhnjpjaaCyEg
/-
  Times: connected matrices, eigenvectors; the law CycleEquation.
-/
namespace Go.Proofs.Ythbnnffmhnjpjaa
open Go.Vm Go.Cy
theorem plainTry_103 : plainFn Try.prog 103 = true := by kernel_rfl
theorem plainTry_96 : plainFn Try.prog 96 = true := by kernel_rfl
theorem plainTry_68 : plainFn Try.prog 68 = true := by kernel_rfl
theorem plainTry_69 : plainFn Try.prog 69 = true := by kernel_rfl
theorem plainTry_36 : plainFn Try.prog 36 = true := by kernel_rfl
set_option maxRecDepth 10000 in
theorem index103 {d : DV} {l : List Int} {v : Int} (hd : Ints d l) (hl : l.length ≤ 9223372036854775807) : DeepCall Try.prog 103 [d, DI v] (DI (idxI l v 0)) := by
  refine deepCall_K 5 Try.func103 rfl (Nat.le_of_ble_eq_true rfl) fun M W0 => ?_
  refine KC.seq ?_
  refine KC.region ?_
  refine KT.step rfl rfl (K.assign rfl) ?_
  refine KT.nil ?_
  refine thenK_n ?_
  refine KC.seq ?_
  refine KC.seq ?_
  refine KC.region ?_
  refine KT.step rfl rfl (K.move rfl) ?_
  refine KT.step rfl rfl (K.len rfl hd Try.underlying33) ?_
  refine KT.step rfl rfl (K.move rfl) ?_
  refine KT.nil ?_
  refine thenK_n ?_
  refine KC.block ?_
  refine KC.loop (fun _ : Nat => []) (fun i => [(0, .d d), (1, .d (DI v)), (7, .d (DI (l.length : Nat))), (8, .d (DI (i : Nat)))]) (fun i => i ≤ l.length ∧ idxI l v 0 = idxI (l.drop i) v i) (fun i => l.length - i) 0 ⟨Nat.zero_le _, rfl⟩ rfl (by simp [Go.Vm.look, extK, enterK]) ?_
  intro i hi
  obtain ⟨hi, hb⟩ := hi
  refine KC.seq ?_
  refine KC.region ?_
  refine KT.step rfl rfl (K.lss rfl rfl) ?_
  refine KT.nil ?_
  refine thenK_n ?_
  refine KC.seq ?_
  refine KC.cond rfl (fun hc9 => ?_) (fun hc9 => ?_)
  · skip
    replace hc9 := of_decide_eq_true hc9
    refine KC.skip ?_
    refine thenK_n ?_
    refine KC.seq ?_
    refine KC.block ?_
    refine KC.seq ?_
    refine KC.region ?_
    refine KT.step rfl rfl (K.move rfl) ?_
    refine KT.step rfl rfl (K.assign rfl) ?_
    refine KT.nil ?_
    refine thenK_n ?_
    refine KC.seq ?_
    refine KC.region ?_
    refine KT.step rfl rfl (K.move rfl) ?_
    refine KT.step rfl rfl (K.move rfl) ?_
    refine KT.step rfl rfl (K.move rfl) ?_
    refine KT.idxI rfl rfl rfl (by assumption) rfl (by omega) Try.underlying33 Try.size3 fun cs14 => ?_
    refine KT.step rfl rfl (K.load rfl Try.agg3) ?_
    refine KT.step rfl rfl (K.eql rfl rfl) ?_
    refine KT.nil ?_
    refine thenK_n ?_
    refine KC.cond rfl (fun hc16 => ?_) (fun hc16 => ?_)
    · skip
      replace hc16 := of_decide_eq_true hc16
      refine KC.seq ?_
      refine KC.region ?_
      refine KT.step rfl rfl (K.move rfl) ?_
      refine KT.step rfl rfl (K.assign rfl) ?_
      refine KT.nil ?_
      refine thenK_n ?_
      refine KC.ret ?_
      refine blockK_r ?_
      refine thenK_r ?_
      refine thenK_r ?_
      refine blockK_r ?_
      refine thenK_r ?_
      refine ⟨.inl rfl, _, rfl, fin_d ?_⟩
      rw [hb, idxI_drop (by omega), if_pos hc16]
    · skip
      replace hc16 := of_decide_eq_false hc16
      refine KC.skip ?_
      refine blockK_n ?_
      refine thenK_n ?_
      refine KC.region ?_
      refine KT.step rfl rfl (K.add rfl rfl (wrap_id (by omega))) ?_
      refine KT.step rfl rfl (K.move rfl) ?_
      refine KT.nil ?_
      refine thenK_n ?_
      refine ⟨i + 1, ⟨by omega, ?_⟩, by omega, rfl, by simp [Go.Vm.look, extK]⟩
      rw [hb, idxI_drop (by omega), if_neg hc16]
      rfl
  · skip
    replace hc9 := of_decide_eq_false hc9
    refine KC.exit ?_
    refine thenK_x ?_
    refine thenK_x ?_
    refine blockK_e ?_
    refine thenK_n ?_
    refine KC.seq ?_
    refine KC.region ?_
    refine KT.step rfl rfl (K.assign rfl) ?_
    refine KT.nil ?_
    refine thenK_n ?_
    refine KC.ret ?_
    refine ⟨.inl rfl, _, rfl, fin_d ?_⟩
    rw [hb, List.drop_eq_nil_of_le (by omega)]; rfl
set_option maxRecDepth 10000 in
theorem contains96 {d : DV} {l : List Int} {v : Int} (hd : Ints d l) (hl : l.length ≤ 9223372036854775807) : DeepCall Try.prog 96 [d, DI v] (DB (decide (v ∈ l))) := by
  refine deepCall_K 5 Try.func96 rfl (Nat.le_of_ble_eq_true rfl) fun M W0 => ?_
  refine KC.seq ?_
  refine KC.region ?_
  refine KT.step rfl rfl (K.assign rfl) ?_
  refine KT.nil ?_
  refine thenK_n ?_
  refine KC.seq ?_
  refine KC.region ?_
  refine KT.step rfl rfl (K.move rfl) ?_
  refine KT.step rfl rfl (K.move rfl) ?_
  refine KT.step rfl rfl (K.call2 rfl rfl plainTry_103 (index103 hd hl)) ?_
  refine KT.step rfl rfl (K.geq rfl rfl) ?_
  refine KT.step rfl rfl (K.assign rfl) ?_
  refine KT.nil ?_
  refine thenK_n ?_
  refine KC.ret ?_
  exact ⟨.inl rfl, _, rfl, fin_b (decide_eq_decide.2 (idxI_mem l v 0 (by omega)).symm)⟩

def conP (m : List (List Int)) : Prop := ∀ i, i < m.length → ∀ j, j < m.length → waysI m.length (gainM m) i j ≠ Nv
noncomputable def connE (m : List (List Int)) : Int := if measE m = 5 then 7 else if measE m ≠ 0 then measE m else @ite _ (conP m) (Classical.propDecidable _) 0 7
noncomputable def connG (m : List (List Int)) : DV := if connE m = 0 then genD m.length m.length (gainM m) else Dnil
theorem connE_yes {m : List (List Int)} (h : measE m = 0) (h2 : conP m) : connE m = 0 := by
  unfold connE; rw [if_neg (by omega), if_neg (by omega)]; exact @if_pos _ (Classical.propDecidable _) h2 _ _ _
theorem connE_no {m : List (List Int)} (h : measE m = 0) (h2 : ¬ conP m) : connE m = 7 := by
  unfold connE; rw [if_neg (by omega), if_neg (by omega)]; exact @if_neg _ (Classical.propDecidable _) h2 _ _ _
theorem connE_inv {m : List (List Int)} (h : connE m = 0) : measE m = 0 ∧ conP m := by
  by_cases h5 : measE m = 5
  · unfold connE at h; rw [if_pos h5] at h; cases h
  · by_cases h0 : measE m = 0
    · refine ⟨h0, Classical.byContradiction fun hn => ?_⟩
      rw [connE_no h0 hn] at h; cases h
    · unfold connE at h; rw [if_neg h5, if_pos h0] at h; exact absurd h h0
theorem meas_G {m : List (List Int)} (h : measE m = 0) : GSt m.length (gainM m) ∧ measG m = genD m.length m.length (gainM m) := by
  obtain ⟨hv, p, q, hm⟩ := meas_inv h
  obtain ⟨e1, e2, e3⟩ := meas_some hv hm
  obtain ⟨sm, _⟩ := Cy.Small.of hv
  have : gainM m = gainI (mf m) p q := by unfold gainM; rw [e2]
  rw [this]
  exact ⟨sm.gst hm, e3⟩
theorem row_mem {n : Nat} {f : Nat → Int} : Nv ∈ (List.range n).map f ↔ ∃ j, j < n ∧ f j = Nv := by
  rw [List.mem_map]
  constructor
  · rintro ⟨j, h1, h2⟩; exact ⟨j, by simpa using h1, h2⟩
  · rintro ⟨j, h1, h2⟩; exact ⟨j, by simpa using h1, h2⟩
theorem few_fun {α : Type} (F : List (List Int) → α) (c : α) (h : ∀ m, validB 1000 m = false → F m = c) (m : List (List Int)) : F (fewM m) = F m := by
  cases hv : validB 1000 m with
  | true => rw [few_valid hv]
  | false => rw [h m hv, h (fewM m) (by rw [few_validB]; exact hv)]
theorem connE_bad {m : List (List Int)} (h : validB 1000 m = false) : connE m = 2 := by
  unfold connE; rw [(meas_no h).1]; rfl
theorem few_connE (m : List (List Int)) : connE (fewM m) = connE m := few_fun connE 2 (fun _ h => connE_bad h) m
theorem connE_or (m : List (List Int)) : connE m = 2 ∨ connE m = 7 ∨ connE m = 0 := by
  cases hv : validB 1000 m with
  | false => exact .inl (connE_bad hv)
  | true =>
    by_cases h5 : measE m = 5
    · right; left; unfold connE; rw [if_pos h5]
    · have h0 : measE m = 0 := by unfold measE at h5 ⊢; rw [hv] at h5 ⊢; simp only [if_true] at h5 ⊢; split at h5 <;> simp_all
      by_cases hc : conP m
      · exact .inr (.inr (connE_yes h0 hc))
      · exact .inr (.inl (connE_no h0 hc))
set_option maxRecDepth 10000 in
theorem connected68 {d : DV} {m : List (List Int)} (hd : Mat d m) (hl : m.length ≤ 9223372036854775807) (hr : ∀ r ∈ m, r.length ≤ 9223372036854775807) : DeepCall Try.prog 68 [d] (.tup [connG m, DI (connE m)]) := by
  refine deepCall_K 5 Try.func68 rfl (Nat.le_of_ble_eq_true rfl) fun M W0 => ?_
  refine KC.seq ?_
  refine KC.region ?_
  refine KT.step rfl rfl (K.assign rfl) ?_
  refine KT.step rfl rfl (K.assign rfl) ?_
  refine KT.nil ?_
  refine thenK_n ?_
  refine KC.seq ?_
  refine KC.region ?_
  refine KT.step rfl rfl (K.move rfl) ?_
  refine KT.step rfl rfl (K.call1 rfl plainTry_56 (measured56 hd hl hr)) ?_
  refine KT.step rfl rfl (K.move rfl) ?_
  refine KT.step rfl rfl (K.extract rfl rfl) ?_
  refine KT.step rfl rfl (K.extract rfl rfl) ?_
  refine KT.step rfl rfl (K.extract rfl rfl) ?_
  refine KT.step rfl rfl (K.alloc Try.zero59) ?_
  refine KT.step rfl rfl (K.assign rfl) ?_
  refine KT.step rfl rfl (K.storeN rfl rfl rfl (by simp [cellsX, Value.cells]) rfl Try.size59) ?_
  refine KT.step rfl rfl (K.assign rfl) ?_
  refine KT.nil ?_
  refine thenK_n ?_
  refine KC.seq ?_
  refine KC.seq ?_
  refine KC.region ?_
  refine KT.step rfl rfl (K.move rfl) ?_
  refine KT.step rfl rfl (K.eql rfl rfl) ?_
  refine KT.nil ?_
  refine thenK_n ?_
  refine KC.cond rfl (fun hc16 => ?_) (fun hc16 => ?_)
  · skip
    replace hc16 := of_decide_eq_true hc16
    refine KC.seq ?_
    refine KC.region ?_
    refine KT.step rfl rfl (K.assign rfl) ?_
    refine KT.step rfl rfl (K.assign rfl) ?_
    refine KT.nil ?_
    refine thenK_n ?_
    refine KC.ret ?_
    refine thenK_r ?_
    have e : connE m = 7 := by unfold connE; rw [if_pos hc16]
    exact ⟨.inl rfl, _, rfl, by show some _ = some _; unfold connG; rw [e]; rfl⟩
  · skip
    replace hc16 := of_decide_eq_false hc16
    refine KC.skip ?_
    refine thenK_n ?_
    refine KC.seq ?_
    refine KC.seq ?_
    refine KC.region ?_
    refine KT.step rfl rfl (K.move rfl) ?_
    refine KT.step rfl rfl (K.neq rfl rfl) ?_
    refine KT.nil ?_
    refine thenK_n ?_
    refine KC.cond rfl (fun hc18 => ?_) (fun hc18 => ?_)
    · skip
      replace hc18 := of_decide_eq_true hc18
      refine KC.seq ?_
      refine KC.region ?_
      refine KT.step rfl rfl (K.move rfl) ?_
      refine KT.step rfl rfl (K.assign rfl) ?_
      refine KT.step rfl rfl (K.assign rfl) ?_
      refine KT.nil ?_
      refine thenK_n ?_
      refine KC.ret ?_
      refine thenK_r ?_
      have e : connE m = measE m := by unfold connE; rw [if_neg hc16, if_pos hc18]
      exact ⟨.inl rfl, _, rfl, by show some _ = some _; unfold connG; rw [e, if_neg hc18]; rfl⟩
    · skip
      replace hc18 := of_decide_eq_false hc18
      have hm0 : measE m = 0 := by omega
      obtain ⟨hg, hG⟩ := meas_G hm0
      have gm : Mat (measG m) (genM m.length m.length (gainM m)) := by rw [hG]; exact genD_mat
      have hn6 := hg.n6
      refine KC.skip ?_
      refine thenK_n ?_
      refine KC.seq ?_
      refine KC.seq ?_
      refine KC.region ?_
      refine KT.step rfl rfl (K.move rfl) ?_
      refine KT.step rfl rfl (K.call1 rfl plainTry_59 (ways59 gm hg.n1 (by omega) hg.gd (by omega) hg.sup)) ?_
      refine KT.step rfl rfl (K.len rfl genD_mat Try.underlying22) ?_
      rw [genM_len]
      refine KT.step rfl rfl (K.move rfl) ?_
      refine KT.nil ?_
      refine thenK_n ?_
      refine KC.block ?_
      have hL : ∀ (σ2 : List VObj), True := fun _ => trivial
      refine KC.loop (fun _ : Nat => _) (fun i => [(0, .d d), (4, .d (measG m)), (21, .d (genD m.length m.length (waysI m.length (gainM m)))), (22, .d (DI (m.length : Nat))), (23, .d (DI (i : Nat)))]) (fun i => i ≤ m.length ∧ ∀ i2, i2 < i → ∀ j, j < m.length → waysI m.length (gainM m) i2 j ≠ Nv) (fun i => m.length - i) 0 ⟨Nat.zero_le _, fun i2 h => by omega⟩ rfl (by simp [Go.Vm.look, extK, enterK]) ?_
      intro i hi
      obtain ⟨hi, hall⟩ := hi
      refine KC.seq ?_
      refine KC.region ?_
      refine KT.step rfl rfl (K.lss rfl rfl) ?_
      refine KT.nil ?_
      refine thenK_n ?_
      refine KC.seq ?_
      refine KC.cond rfl (fun hc24 => ?_) (fun hc24 => ?_)
      · skip
        replace hc24 := of_decide_eq_true hc24
        refine KC.skip ?_
        refine thenK_n ?_
        refine KC.seq ?_
        refine KC.block ?_
        refine KC.seq ?_
        refine KC.region ?_
        refine KT.idx rfl rfl rfl (genD_mat (R := m.length)) rfl (by rw [genM_len]; omega) Try.underlying22 Try.size33 fun c25 cs25 hq25 => ?_
        rw [genM_row] at hq25
        refine KT.step rfl rfl (K.load rfl Try.agg33) ?_
        refine KT.step rfl rfl (K.assign rfl) ?_
        refine KT.nil ?_
        refine thenK_n ?_
        refine KC.seq ?_
        refine KC.region ?_
        refine KT.step rfl rfl (K.move rfl) ?_
        refine KT.step rfl rfl (K.call2 rfl rfl plainTry_96 (contains96 hq25 (by rw [List.length_map, List.length_range]; omega))) ?_
        refine KT.nil ?_
        refine thenK_n ?_
        refine KC.cond rfl (fun hc28 => ?_) (fun hc28 => ?_)
        · skip
          obtain ⟨j, hj, hjN⟩ := row_mem.1 (of_decide_eq_true hc28)
          have hno : ¬ conP m := fun h => h i (by omega) j hj hjN
          refine KC.seq ?_
          refine KC.region ?_
          refine KT.step rfl rfl (K.assign rfl) ?_
          refine KT.step rfl rfl (K.assign rfl) ?_
          refine KT.nil ?_
          refine thenK_n ?_
          refine KC.ret ?_
          refine blockK_r ?_
          refine thenK_r ?_
          refine thenK_r ?_
          refine blockK_r ?_
          refine thenK_r ?_
          have e := connE_no hm0 hno
          exact ⟨.inl rfl, _, rfl, by show some _ = some _; unfold connG; rw [e]; rfl⟩
        · skip
          have hrow : ∀ j, j < m.length → waysI m.length (gainM m) i j ≠ Nv := fun j hj e => of_decide_eq_false hc28 (row_mem.2 ⟨j, hj, e⟩)
          refine KC.skip ?_
          refine blockK_n ?_
          refine thenK_n ?_
          refine KC.region ?_
          refine KT.step rfl rfl (K.add rfl rfl (wrap_id (by omega))) ?_
          refine KT.step rfl rfl (K.move rfl) ?_
          refine KT.nil ?_
          refine thenK_n ?_
          refine ⟨i + 1, ⟨by omega, fun i2 hi2 => ?_⟩, by omega, rfl, by simp [Go.Vm.look, extK]⟩
          by_cases e : i2 = i
          · subst e; exact hrow
          · exact hall i2 (by omega)
      · skip
        replace hc24 := of_decide_eq_false hc24
        refine KC.exit ?_
        refine thenK_x ?_
        refine thenK_x ?_
        refine blockK_e ?_
        refine thenK_n ?_
        refine KC.seq ?_
        refine KC.region ?_
        refine KT.step rfl rfl (K.move rfl) ?_
        refine KT.step rfl rfl (K.assign rfl) ?_
        refine KT.step rfl rfl (K.assign rfl) ?_
        refine KT.nil ?_
        refine thenK_n ?_
        refine KC.ret ?_
        have e := connE_yes hm0 fun i2 hi2 => hall i2 (by omega)
        exact ⟨.inl rfl, _, rfl, by show some _ = some _; unfold connG; rw [e, hG]; rfl⟩
set_option maxRecDepth 10000 in
theorem leastCrit69 {d e : DV} {n : Nat} {a b : Nat → Nat → Int} (hd : Mat d (genM n n a)) (he : Mat e (genM n n b)) (h1 : 1 ≤ n) (hn : n ≤ 12) (ha : GoodM 1000000000000 a) (hb : GoodM 1000000000000 b) : DeepCall Try.prog 69 [d, e] (DI (leastC (prodI n a b) n : Nat)) := by
  refine deepCall_K 5 Try.func69 rfl (Nat.le_of_ble_eq_true rfl) fun M W0 => ?_
  refine KC.seq ?_
  refine KC.region ?_
  refine KT.step rfl rfl (K.assign rfl) ?_
  refine KT.nil ?_
  refine thenK_n ?_
  refine KC.seq ?_
  refine KC.seq ?_
  refine KC.region ?_
  refine KT.step rfl rfl (K.move rfl) ?_
  refine KT.step rfl rfl (K.move rfl) ?_
  refine KT.step rfl rfl (K.call2 rfl rfl plainTry_48 (product48 hd he h1 (by omega) ha hb)) ?_
  refine KT.step rfl rfl (K.len rfl genD_mat Try.underlying22) ?_
  rw [genM_len]
  refine KT.step rfl rfl (K.move rfl) ?_
  refine KT.nil ?_
  refine thenK_n ?_
  refine KC.block ?_
  refine KC.loop (fun _ : Nat => []) (fun i => [(9, .d (genD n n (prodI n a b))), (10, .d (DI (n : Nat))), (11, .d (DI (i : Nat)))]) (fun i => i ≤ n ∧ ∀ j, j < i → prodI n a b j j ≠ 0) (fun i => n - i) 0 ⟨Nat.zero_le _, fun j h => by omega⟩ rfl (by simp [Go.Vm.look, extK, enterK]) ?_
  intro i hi
  obtain ⟨hi, hall⟩ := hi
  refine KC.seq ?_
  refine KC.region ?_
  refine KT.step rfl rfl (K.lss rfl rfl) ?_
  refine KT.nil ?_
  refine thenK_n ?_
  refine KC.seq ?_
  refine KC.cond rfl (fun hc12 => ?_) (fun hc12 => ?_)
  · skip
    replace hc12 := of_decide_eq_true hc12
    refine KC.skip ?_
    refine thenK_n ?_
    refine KC.seq ?_
    refine KC.block ?_
    refine KC.seq ?_
    refine KC.region ?_
    refine KT.step rfl rfl (K.move rfl) ?_
    refine KT.idx rfl rfl rfl (genD_mat (R := n)) rfl (by rw [genM_len]; omega) Try.underlying22 Try.size33 fun c14 cs14 hq14 => ?_
    rw [genM_row] at hq14
    refine KT.step rfl rfl (K.load rfl Try.agg33) ?_
    refine KT.step rfl rfl (K.assign rfl) ?_
    refine KT.step rfl rfl (K.assign rfl) ?_
    refine KT.nil ?_
    refine thenK_n ?_
    refine KC.seq ?_
    refine KC.region ?_
    refine KT.step rfl rfl (K.move rfl) ?_
    refine KT.step rfl rfl (K.move rfl) ?_
    refine KT.idxI rfl rfl rfl (by assumption) rfl (by simp; omega) Try.underlying33 Try.size3 fun cs18 => ?_
    rw [get_range]
    refine KT.step rfl rfl (K.load rfl Try.agg3) ?_
    refine KT.step rfl rfl (K.eql rfl rfl) ?_
    refine KT.nil ?_
    refine thenK_n ?_
    refine KC.cond rfl (fun hc20 => ?_) (fun hc20 => ?_)
    · skip
      replace hc20 := of_decide_eq_true hc20
      refine KC.seq ?_
      refine KC.region ?_
      refine KT.step rfl rfl (K.move rfl) ?_
      refine KT.step rfl rfl (K.assign rfl) ?_
      refine KT.nil ?_
      refine thenK_n ?_
      refine KC.ret ?_
      refine blockK_r ?_
      refine thenK_r ?_
      refine thenK_r ?_
      refine blockK_r ?_
      refine thenK_r ?_
      exact ⟨.inl rfl, _, rfl, fin_d (by rw [leastC_yes (show i < n by omega) hall hc20])⟩
    · skip
      replace hc20 := of_decide_eq_false hc20
      refine KC.skip ?_
      refine blockK_n ?_
      refine thenK_n ?_
      refine KC.region ?_
      refine KT.step rfl rfl (K.add rfl rfl (wrap_id (by omega))) ?_
      refine KT.step rfl rfl (K.move rfl) ?_
      refine KT.nil ?_
      refine thenK_n ?_
      refine ⟨i + 1, ⟨by omega, fun j hj => ?_⟩, by omega, rfl, by simp [Go.Vm.look, extK]⟩
      by_cases e : j = i
      · subst e; exact hc20
      · exact hall j (by omega)
  · skip
    replace hc12 := of_decide_eq_false hc12
    refine KC.exit ?_
    refine thenK_x ?_
    refine thenK_x ?_
    refine blockK_e ?_
    refine thenK_n ?_
    refine KC.seq ?_
    refine KC.region ?_
    refine KT.step rfl rfl (K.assign rfl) ?_
    refine KT.nil ?_
    refine thenK_n ?_
    refine KC.ret ?_
    exact ⟨.inl rfl, _, rfl, fin_d (by rw [leastC_no fun j hj => hall j (by omega)]; rfl)⟩

def eigC (m : List (List Int)) : Nat := leastC (prodI m.length (gainM m) (waysI m.length (gainM m))) m.length
def eigF (m : List (List Int)) (i : Nat) : Int := waysI m.length (gainM m) i (eigC m)
noncomputable def eigD (m : List (List Int)) : DV := if connE m = 0 then rowG m.length (eigF m) else Dnil
noncomputable def eigV (m : List (List Int)) : List Int := if connE m = 0 then (List.range m.length).map (eigF m) else []
theorem eig_ints (m : List (List Int)) : Ints (eigD m) (eigV m) := by unfold eigD eigV; split; exact rowG_ints _; exact .nil
def rowX (f : Nat → Int) (j : Nat) : XV := .d (DI (f j))
theorem row_fin {k n : Nat} {f : Nat → Int} {old : Nat → XV} {σ : List VObj} {id : Nat} (h : σ[id]? = some ⟨mixL n (rowX f) old n, 0⟩) : deepen (freezeAll σ) (k + 2) (.osl id 0 n 1 n true) = some (rowG n f) := by
  rw [deepen_cells (k := k) (ds := (List.range n).map fun j => DI (f j)) (cells := mixL n (rowX f) old n) (by simp [freezeAll, h]) (by rw [mixL_full]; simp [rowX, Function.comp_def]) (by simp)]
  rfl
set_option maxRecDepth 10000 in
theorem Eigen36 {d : DV} {m : List (List Int)} (hd : Mat d m) (hl : m.length ≤ 9223372036854775807) (hr : ∀ r ∈ m, r.length ≤ 9223372036854775807) : DeepCall Try.prog 36 [d] (.tup [eigD m, DI (connE m)]) := by
  refine deepCall_K 5 Try.func36 rfl (Nat.le_of_ble_eq_true rfl) fun M W0 => ?_
  refine KC.seq ?_
  refine KC.region ?_
  refine KT.step rfl rfl (K.assign rfl) ?_
  refine KT.step rfl rfl (K.assign rfl) ?_
  refine KT.nil ?_
  refine thenK_n ?_
  refine KC.seq ?_
  refine KC.region ?_
  refine KT.step rfl rfl (K.move rfl) ?_
  refine KT.step rfl rfl (K.call1 rfl plainTry_68 (connected68 hd hl hr)) ?_
  refine KT.step rfl rfl (K.move rfl) ?_
  refine KT.step rfl rfl (K.extract rfl rfl) ?_
  refine KT.step rfl rfl (K.extract rfl rfl) ?_
  refine KT.step rfl rfl (K.assign rfl) ?_
  refine KT.step rfl rfl (K.assign rfl) ?_
  refine KT.nil ?_
  refine thenK_n ?_
  refine KC.seq ?_
  refine KC.seq ?_
  refine KC.region ?_
  refine KT.step rfl rfl (K.move rfl) ?_
  refine KT.step rfl rfl (K.neq rfl rfl) ?_
  refine KT.nil ?_
  refine thenK_n ?_
  refine KC.cond rfl (fun hc17 => ?_) (fun hc17 => ?_)
  · skip
    replace hc17 := of_decide_eq_true hc17
    refine KC.seq ?_
    refine KC.region ?_
    refine KT.step rfl rfl (K.move rfl) ?_
    refine KT.step rfl rfl (K.assign rfl) ?_
    refine KT.step rfl rfl (K.assign rfl) ?_
    refine KT.nil ?_
    refine thenK_n ?_
    refine KC.ret ?_
    refine thenK_r ?_
    exact ⟨.inl rfl, _, rfl, by show some _ = some _; unfold eigD; rw [if_neg hc17]; rfl⟩
  · skip
    replace hc17 := of_decide_eq_false hc17
    have hc0 : connE m = 0 := by omega
    obtain ⟨hm0, hcon⟩ := connE_inv hc0
    obtain ⟨hg, hG⟩ := meas_G hm0
    have gm : Mat (connG m) (genM m.length m.length (gainM m)) := by unfold connG; rw [if_pos hc0]; exact genD_mat
    have hn6 := hg.n6
    have hc := hg.crit.1
    refine KC.skip ?_
    refine thenK_n ?_
    refine KC.seq ?_
    refine KC.region ?_
    refine KT.step rfl rfl (K.move rfl) ?_
    refine KT.step rfl rfl (K.call1 rfl plainTry_59 (ways59 gm hg.n1 (by omega) hg.gd (by omega) hg.sup)) ?_
    refine KT.step rfl rfl (K.assign rfl) ?_
    refine KT.nil ?_
    refine thenK_n ?_
    refine KC.seq ?_
    refine KC.region ?_
    refine KT.step rfl rfl (K.move rfl) ?_
    refine KT.step rfl rfl (K.move rfl) ?_
    refine KT.step rfl rfl (K.call2 rfl rfl plainTry_69 (leastCrit69 gm genD_mat hg.n1 (by omega) (fun i j => (hg.gd i j).mono (by omega)) (fun i j => (hg.wgood i j).mono (by omega)))) ?_
    refine KT.step rfl rfl (K.assign rfl) ?_
    refine KT.nil ?_
    refine thenK_n ?_
    refine KC.seq ?_
    refine KC.region ?_
    refine KT.step rfl rfl (K.move rfl) ?_
    refine KT.step rfl rfl (K.len rfl hd Try.underlying22) ?_
    refine KT.step rfl rfl (K.make rfl rfl (Nat.le_refl _) (by omega) Try.underlying33 Try.one3) ?_
    rw [mixL_rep (n := m.length) (f := rowX (eigF m))]
    refine KT.step rfl rfl (K.assign rfl) ?_
    refine KT.nil ?_
    refine thenK_n ?_
    refine KC.seq ?_
    refine KC.seq ?_
    refine KC.region ?_
    refine KT.step rfl rfl (K.move rfl) ?_
    refine KT.step rfl rfl (K.len rfl genD_mat Try.underlying22) ?_
    rw [genM_len]
    refine KT.step rfl rfl (K.move rfl) ?_
    refine KT.nil ?_
    refine thenK_n ?_
    refine KC.block ?_
    refine KC.loop (fun i : Nat => [⟨mixL m.length (rowX (eigF m)) (fun _ => .d (.lit (.int .i64 0))) i, 0⟩]) (fun i => [(0, .d d), (7, .d (DI (eigC m : Nat))), (8, .osl 0 0 m.length 1 m.length true), (27, .d (genD m.length m.length (waysI m.length (gainM m)))), (28, .d (DI (m.length : Nat))), (29, .d (DI (i : Nat)))]) (fun i => i ≤ m.length) (fun i => m.length - i) 0 (Nat.zero_le _) rfl (by simp [Go.Vm.look, extK, enterK, eigC]) ?_
    intro i hi
    refine KC.seq ?_
    refine KC.region ?_
    refine KT.step rfl rfl (K.lss rfl rfl) ?_
    refine KT.nil ?_
    refine thenK_n ?_
    refine KC.seq ?_
    refine KC.cond rfl (fun hc30 => ?_) (fun hc30 => ?_)
    · skip
      replace hc30 := of_decide_eq_true hc30
      refine KC.skip ?_
      refine thenK_n ?_
      refine KC.seq ?_
      refine KC.block ?_
      refine KC.seq ?_
      refine KC.region ?_
      refine KT.step rfl rfl (K.move rfl) ?_
      refine KT.idx rfl rfl rfl (genD_mat (R := m.length)) rfl (by rw [genM_len]; omega) Try.underlying22 Try.size33 fun c32 cs32 hq32 => ?_
      rw [genM_row] at hq32
      refine KT.step rfl rfl (K.load rfl Try.agg33) ?_
      refine KT.step rfl rfl (K.assign rfl) ?_
      refine KT.step rfl rfl (K.assign rfl) ?_
      refine KT.nil ?_
      refine thenK_n ?_
      refine KC.region ?_
      refine KT.step rfl rfl (K.move rfl) ?_
      refine KT.step rfl rfl (K.move rfl) ?_
      refine KT.step rfl rfl (K.move rfl) ?_
      refine KT.step rfl rfl (K.move rfl) ?_
      refine KT.idxI rfl rfl rfl (by assumption) rfl (by simp; exact hc) Try.underlying33 Try.size3 fun cs38 => ?_
      rw [get_range]
      refine KT.step rfl rfl (K.load rfl Try.agg3) ?_
      refine KT.step rfl rfl (K.idxO rfl rfl (by omega) Try.underlying33 Try.size3) ?_
      refine KT.step rfl rfl (K.storeO rfl rfl rfl (by rw [mixL_len]; omega) rfl rfl Try.size3) ?_
      refine KT.nil ?_
      refine blockK_n ?_
      refine thenK_n ?_
      refine KC.region ?_
      refine KT.step rfl rfl (K.add rfl rfl (wrap_id (by omega))) ?_
      refine KT.step rfl rfl (K.move rfl) ?_
      refine KT.nil ?_
      refine thenK_n ?_
      refine ⟨i + 1, by omega, by omega, ?_, by simp [Go.Vm.look, extK]⟩
      rw [← mixL_set (f := rowX (eigF m)) (show i < m.length by omega)]; rfl
    · skip
      replace hc30 := of_decide_eq_false hc30
      refine KC.exit ?_
      refine thenK_x ?_
      refine thenK_x ?_
      refine blockK_e ?_
      refine thenK_n ?_
      refine KC.seq ?_
      refine KC.region ?_
      refine KT.step rfl rfl (K.move rfl) ?_
      refine KT.step rfl rfl (K.assign rfl) ?_
      refine KT.step rfl rfl (K.assign rfl) ?_
      refine KT.nil ?_
      refine thenK_n ?_
      refine KC.ret ?_
      obtain rfl : i = m.length := by omega
      refine ⟨.inl rfl, _, rfl, ?_⟩
      have hE : eigD m = rowG m.length (eigF m) := by unfold eigD; rw [if_pos hc0]
      rw [hE, hc0]
      exact deepen_tup2 (k := 3) (row_fin (k := 2) rfl)

theorem few_eigV (m : List (List Int)) : eigV (fewM m) = eigV m := few_fun eigV [] (fun m h => by unfold eigV; rw [connE_bad h]; rfl) m
/-- The greatest of the first j sums. -/
def BestJ (m : List (List Int)) (i j : Nat) (b : Int) : Prop := (∀ k, k < j → mf m i k ≠ Nv → (measF m).2 * mf m i k + eigF m k ≤ b) ∧ (b = -1125899906842624 ∨ ∃ k, k < j ∧ mf m i k ≠ Nv ∧ b = (measF m).2 * mf m i k + eigF m k)
theorem BestJ.step {m : List (List Int)} {i j : Nat} {b : Int} (h : BestJ m i j b) (hne : mf m i j ≠ Nv) : BestJ m i (j + 1) (max b ((measF m).2 * mf m i j + eigF m j)) := by
  obtain ⟨h1, h2⟩ := h
  refine ⟨fun k hk hn => ?_, ?_⟩
  · by_cases e : k = j
    · subst e; omega
    · have := h1 k (by omega) hn; omega
  · by_cases e : b ≤ (measF m).2 * mf m i j + eigF m j
    · exact .inr ⟨j, by omega, hne, by omega⟩
    · rcases h2 with h2 | ⟨k, hk, hn, he⟩
      · exact .inl (by omega)
      · exact .inr ⟨k, by omega, hn, by omega⟩
theorem BestJ.skip {m : List (List Int)} {i j : Nat} {b : Int} (h : BestJ m i j b) (hne : mf m i j = Nv) : BestJ m i (j + 1) b := by
  obtain ⟨h1, h2⟩ := h
  refine ⟨fun k hk hn => ?_, ?_⟩
  · by_cases e : k = j
    · subst e; exact absurd hne hn
    · exact h1 k (by omega) hn
  · rcases h2 with h2 | ⟨k, hk, hn, he⟩
    · exact .inl h2
    · exact .inr ⟨k, by omega, hn, he⟩
end Go.Proofs.Ythbnnffmhnjpjaa

