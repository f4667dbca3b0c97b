/-
  CONTRACTS for LatticeChecks: the checks of the program.
-/
import Derived.Test.YtlomhajhoecoiaaChkM
namespace Go.Proofs.Ytlomhajhoecoiaa
open Go.Vm Go.Big Go.Det
theorem plainTry_65 : plainFn Try.prog 65 = true := by kernel_rfl
theorem plainTry_66 : plainFn Try.prog 66 = true := by kernel_rfl
theorem plainTry_30 : plainFn Try.prog 30 = true := by kernel_rfl
theorem plainTry_31 : plainFn Try.prog 31 = true := by kernel_rfl
set_option maxRecDepth 10000 in
theorem equal27 {d e : DV} {x y : List Int} (hd : Ints d x) (he : Ints e y) (hl : x.length ≤ 9223372036854775807) :
    DeepCall Try.prog 27 [d, e] (DB (decide (x = y))) := by
  refine deepCall_K 5 Try.func27 rfl (Nat.le_of_ble_eq_true rfl) fun M W0 => ?_
  refine KC.seq ?_
  refine KC.region ?_
  refine KT.step rfl rfl (K.assign rfl) ?_
  refine KT.nil ?_
  refine thenK_n ?_
  refine KC.seq ?_
  refine KC.seq ?_
  refine KC.region ?_
  refine KT.step rfl rfl (K.move rfl) ?_
  refine KT.step rfl rfl (K.len rfl (by assumption) Try.underlying35) ?_
  refine KT.step rfl rfl (K.move rfl) ?_
  refine KT.step rfl rfl (K.len rfl (by assumption) Try.underlying35) ?_
  refine KT.step rfl rfl (K.neq rfl rfl) ?_
  refine KT.nil ?_
  refine thenK_n ?_
  refine KC.cond rfl (fun hc10 => ?_) (fun hc10 => ?_)
  · skip
    replace hc10 := of_decide_eq_true hc10
    refine KC.seq ?_
    refine KC.region ?_
    refine KT.step rfl rfl (K.assign rfl) ?_
    refine KT.nil ?_
    refine thenK_n ?_
    refine KC.ret ?_
    refine thenK_r ?_
    exact ⟨.inl rfl, _, rfl, fin_b (decide_eq_false fun h => by subst h; omega)⟩
  · skip
    replace hc10 := of_decide_eq_false hc10
    refine KC.skip ?_
    refine thenK_n ?_
    refine KC.seq ?_
    refine KC.seq ?_
    refine KC.region ?_
    refine KT.step rfl rfl (K.move rfl) ?_
    refine KT.step rfl rfl (K.len rfl (by assumption) Try.underlying35) ?_
    refine KT.step rfl rfl (K.move rfl) ?_
    refine KT.nil ?_
    refine thenK_n ?_
    refine KC.block ?_
    refine KC.loop (fun _ : Nat => []) (fun i => [(0, .d d), (1, .d e), (12, .d (DI x.length)), (13, .d (DI i))]) (fun i => i ≤ x.length ∧ x.take i = y.take i) (fun i => x.length - i) 0 ⟨Nat.zero_le _, rfl⟩ rfl (by simp [Go.Vm.look, extK, enterK]) ?_
    intro i hi
    obtain ⟨hi, hall⟩ := hi
    refine KC.seq ?_
    refine KC.region ?_
    refine KT.step rfl rfl (K.lss rfl rfl) ?_
    refine KT.nil ?_
    refine thenK_n ?_
    refine KC.seq ?_
    refine KC.cond rfl (fun hc14 => ?_) (fun hc14 => ?_)
    · skip
      replace hc14 := of_decide_eq_true hc14
      refine KC.skip ?_
      refine thenK_n ?_
      refine KC.seq ?_
      refine KC.block ?_
      refine KC.seq ?_
      refine KC.region ?_
      refine KT.step rfl rfl (K.move rfl) ?_
      refine KT.step rfl rfl (K.assign rfl) ?_
      refine KT.nil ?_
      refine thenK_n ?_
      refine KC.seq ?_
      refine KC.draw Try.mixed ?_
      refine KT.step rfl rfl (K.move rfl) ?_
      refine KT.step rfl rfl (K.move rfl) ?_
      refine KT.idxI rfl rfl rfl (by assumption) rfl (by omega) Try.underlying35 Try.size3 fun cs18 => ?_
      refine KT.step rfl rfl (K.load rfl Try.agg3) ?_
      refine KT.step rfl rfl (K.move rfl) ?_
      refine KT.step rfl rfl (K.move rfl) ?_
      refine KT.idxI rfl rfl rfl (by assumption) rfl (by omega) Try.underlying35 Try.size3 fun cs22 => ?_
      refine KT.step rfl rfl (K.load rfl Try.agg3) ?_
      refine KT.step rfl rfl (K.neq rfl rfl) ?_
      refine KT.nil ?_
      refine ⟨by kernel_rfl, ?_⟩
      refine thenK_n ?_
      refine KC.cond rfl (fun hc24 => ?_) (fun hc24 => ?_)
      · skip
        replace hc24 := of_decide_eq_true hc24
        refine KC.seq ?_
        refine KC.region ?_
        refine KT.step rfl rfl (K.assign rfl) ?_
        refine KT.nil ?_
        refine thenK_n ?_
        refine KC.ret ?_
        refine blockK_r ?_
        refine thenK_r ?_
        refine thenK_r ?_
        refine blockK_r ?_
        refine thenK_r ?_
        exact ⟨.inl rfl, _, rfl, fin_b (decide_eq_false fun h => by subst h; exact hc24 rfl)⟩
      · skip
        replace hc24 := of_decide_eq_false hc24
        refine KC.skip ?_
        refine blockK_n ?_
        refine thenK_n ?_
        refine KC.region ?_
        refine KT.step rfl rfl (K.add rfl rfl (wrap_id (by omega))) ?_
        refine KT.step rfl rfl (K.move rfl) ?_
        refine KT.nil ?_
        refine thenK_n ?_
        refine ⟨i + 1, ⟨by omega, ?_⟩, by omega, rfl, by simp [Go.Vm.look, extK]⟩
        rw [List.take_succ_eq_append_getElem (by omega), List.take_succ_eq_append_getElem (by omega), hall, Classical.not_not.1 hc24]
    · skip
      replace hc14 := of_decide_eq_false hc14
      refine KC.exit ?_
      refine thenK_x ?_
      refine thenK_x ?_
      refine blockK_e ?_
      refine thenK_n ?_
      refine KC.seq ?_
      refine KC.region ?_
      refine KT.step rfl rfl (K.assign rfl) ?_
      refine KT.nil ?_
      refine thenK_n ?_
      refine KC.ret ?_
      have hx : x.take i = x := List.take_of_length_le (by omega)
      have hy : y.take i = y := List.take_of_length_le (by omega)
      rw [hx, hy] at hall
      exact ⟨.inl rfl, _, rfl, fin_b (decide_eq_true hall)⟩
set_option maxRecDepth 10000 in
theorem equalFunc55 {d e : DV} {x y : List (List Int)} (hd : Mat d x) (he : Mat e y) (hl : x.length ≤ 9223372036854775807) (hr : ∀ r ∈ x, r.length ≤ 9223372036854775807) :
    DeepCall Try.prog 55 [d, e, .fn (.func 27) [] []] (DB (decide (x = y))) := by
  refine deepCall_K 5 Try.func55 rfl (Nat.le_of_ble_eq_true rfl) fun M W0 => ?_
  refine KC.seq ?_
  refine KC.region ?_
  refine KT.step rfl rfl (K.assign rfl) ?_
  refine KT.nil ?_
  refine thenK_n ?_
  refine KC.seq ?_
  refine KC.seq ?_
  refine KC.region ?_
  refine KT.step rfl rfl (K.move rfl) ?_
  refine KT.step rfl rfl (K.len rfl (by assumption) Try.underlying22) ?_
  refine KT.step rfl rfl (K.move rfl) ?_
  refine KT.step rfl rfl (K.len rfl (by assumption) Try.underlying22) ?_
  refine KT.step rfl rfl (K.neq rfl rfl) ?_
  refine KT.nil ?_
  refine thenK_n ?_
  refine KC.cond rfl (fun hc14 => ?_) (fun hc14 => ?_)
  · skip
    replace hc14 := of_decide_eq_true hc14
    refine KC.seq ?_
    refine KC.region ?_
    refine KT.step rfl rfl (K.assign rfl) ?_
    refine KT.nil ?_
    refine thenK_n ?_
    refine KC.ret ?_
    refine thenK_r ?_
    exact ⟨.inl rfl, _, rfl, fin_b (decide_eq_false fun h => by subst h; omega)⟩
  · skip
    replace hc14 := of_decide_eq_false hc14
    refine KC.skip ?_
    refine thenK_n ?_
    refine KC.seq ?_
    refine KC.seq ?_
    refine KC.region ?_
    refine KT.step rfl rfl (K.move rfl) ?_
    refine KT.step rfl rfl (K.len rfl (by assumption) Try.underlying22) ?_
    refine KT.step rfl rfl (K.move rfl) ?_
    refine KT.nil ?_
    refine thenK_n ?_
    refine KC.block ?_
    refine KC.loop (fun _ : Nat => []) (fun i => [(0, .d d), (1, .d e), (2, .d (.fn (.func 27) [] [])), (15, .d d), (16, .d (DI x.length)), (17, .d (DI i))]) (fun i => i ≤ x.length ∧ x.take i = y.take i) (fun i => x.length - i) 0 ⟨Nat.zero_le _, rfl⟩ rfl (by simp [Go.Vm.look, extK, enterK]) ?_
    intro i hi
    obtain ⟨hi, hall⟩ := hi
    refine KC.seq ?_
    refine KC.region ?_
    refine KT.step rfl rfl (K.lss rfl rfl) ?_
    refine KT.nil ?_
    refine thenK_n ?_
    refine KC.seq ?_
    refine KC.cond rfl (fun hc18 => ?_) (fun hc18 => ?_)
    · skip
      replace hc18 := of_decide_eq_true hc18
      refine KC.skip ?_
      refine thenK_n ?_
      refine KC.seq ?_
      refine KC.block ?_
      refine KC.seq ?_
      refine KC.region ?_
      refine KT.step rfl rfl (K.move rfl) ?_
      refine KT.idx rfl rfl rfl (by assumption) rfl (by omega) Try.underlying22 Try.size35 fun c20 cs20 hq20 => ?_
      refine KT.step rfl rfl (K.load rfl Try.agg35) ?_
      refine KT.step rfl rfl (K.assign rfl) ?_
      refine KT.step rfl rfl (K.assign rfl) ?_
      refine KT.nil ?_
      refine thenK_n ?_
      refine KC.seq ?_
      refine KC.region ?_
      refine KT.step rfl rfl (K.move rfl) ?_
      refine KT.step rfl rfl (K.move rfl) ?_
      refine KT.idx rfl rfl rfl (by assumption) rfl (by omega) Try.underlying22 Try.size35 fun c24 cs24 hq24 => ?_
      refine KT.step rfl rfl (K.load rfl Try.agg35) ?_
      refine KT.step rfl rfl (K.assign rfl) ?_
      refine KT.nil ?_
      refine thenK_n ?_
      refine KC.seq ?_
      refine KC.region ?_
      refine KT.step rfl rfl (K.move rfl) ?_
      refine KT.step rfl rfl (K.move rfl) ?_
      refine KT.step rfl rfl (K.move rfl) ?_
      refine KT.step rfl rfl (K.callW rfl rfl rfl plainTry_27 (equal27 hq20 hq24 (hr _ (List.getElem_mem _)))) ?_
      refine KT.step rfl rfl (K.not rfl) ?_
      refine KT.nil ?_
      refine thenK_n ?_
      refine KC.cond rfl (fun hc30 => ?_) (fun hc30 => ?_)
      · skip
        replace hc30 : ¬ x[i] = y[i] := by simpa using hc30
        refine KC.seq ?_
        refine KC.region ?_
        refine KT.step rfl rfl (K.assign rfl) ?_
        refine KT.nil ?_
        refine thenK_n ?_
        refine KC.ret ?_
        refine blockK_r ?_
        refine thenK_r ?_
        refine thenK_r ?_
        refine blockK_r ?_
        refine thenK_r ?_
        exact ⟨.inl rfl, _, rfl, fin_b (decide_eq_false fun h => by subst h; exact hc30 rfl)⟩
      · skip
        replace hc30 : x[i] = y[i] := by simpa using hc30
        refine KC.skip ?_
        refine blockK_n ?_
        refine thenK_n ?_
        refine KC.region ?_
        refine KT.step rfl rfl (K.add rfl rfl (wrap_id (by omega))) ?_
        refine KT.step rfl rfl (K.move rfl) ?_
        refine KT.nil ?_
        refine thenK_n ?_
        refine ⟨i + 1, ⟨by omega, ?_⟩, by omega, rfl, by simp [Go.Vm.look, extK]⟩
        rw [List.take_succ_eq_append_getElem (by omega), List.take_succ_eq_append_getElem (by omega), hall, hc30]
    · skip
      replace hc18 := of_decide_eq_false hc18
      refine KC.exit ?_
      refine thenK_x ?_
      refine thenK_x ?_
      refine blockK_e ?_
      refine thenK_n ?_
      refine KC.seq ?_
      refine KC.region ?_
      refine KT.step rfl rfl (K.assign rfl) ?_
      refine KT.nil ?_
      refine thenK_n ?_
      refine KC.ret ?_
      have hx : x.take i = x := List.take_of_length_le (by omega)
      have hy : y.take i = y := List.take_of_length_le (by omega)
      rw [hx, hy] at hall
      exact ⟨.inl rfl, _, rfl, fin_b (decide_eq_true hall)⟩

theorem valid_facts {a : List (List Int)} (h : validB a = true) : 1 ≤ a.length ∧ a.length ≤ 4 ∧ 1 ≤ (hd0 a).length ∧ (hd0 a).length ≤ 5 ∧ (∀ r ∈ a, r.length = (hd0 a).length) ∧ Ent 20 a := by
  unfold validB at h
  simp only [Bool.and_eq_true, decide_eq_true_eq, List.all_eq_true] at h
  obtain ⟨⟨⟨h1, h2⟩, h3, h4⟩, h5⟩ := h
  refine ⟨h1, h2, h3, h4, fun r hr => ?_, fun r hr x hx => ?_⟩
  · have := h5 r hr
    simp only [rowB, Bool.and_eq_true, decide_eq_true_eq] at this
    omega
  · have := h5 r hr
    simp only [rowB, Bool.and_eq_true, inB, List.all_eq_true] at this
    have h6 := this.2 x hx
    simp only [inB1, Bool.and_eq_true, decide_eq_true_eq] at h6
    omega
theorem fits_facts {m : List (List Int)} {r n : Nat} (h : fitsB m r n 1099511627776 = true) : m.length = r ∧ (∀ row ∈ m, row.length = n) ∧ Ent (2 ^ 40) m := by
  unfold fitsB at h
  simp only [Bool.and_eq_true, decide_eq_true_eq, List.all_eq_true] at h
  obtain ⟨h1, h5⟩ := h
  refine ⟨by omega, fun r hr => ?_, fun r hr x hx => ?_⟩
  · have := h5 r hr
    simp only [rowB, Bool.and_eq_true, decide_eq_true_eq] at this
    omega
  · have := h5 r hr
    simp only [rowB, Bool.and_eq_true, inB, List.all_eq_true] at this
    have h6 := this.2 x hx
    simp only [inB1, Bool.and_eq_true, decide_eq_true_eq] at h6
    omega
theorem dotF_exact {f g : Nat → Int} : ∀ n, n ≤ 5 → (∀ k, k < n → (f k).natAbs ≤ 2 ^ 40) → (∀ k, k < n → (g k).natAbs ≤ 20) → dotF f g n = dotZ f g n
  | 0, _, _, _ => rfl
  | n + 1, hn, hf, hg => by
    have ih := dotF_exact n (by omega) (fun k hk => hf k (by omega)) (fun k hk => hg k (by omega))
    have b1 := dotZ_bd n (fun k hk => hf k (by omega)) (fun k hk => hg k (by omega))
    have b2 : (f n * g n).natAbs ≤ 2 ^ 40 * 20 := by rw [Int.natAbs_mul]; exact Nat.mul_le_mul (hf n (by omega)) (hg n (by omega))
    have b3 : n * (2 ^ 40 * 20) ≤ 5 * (2 ^ 40 * 20) := Nat.mul_le_mul_right _ (by omega)
    rw [dotF, dotZ, ih]
    generalize f n * g n = t at *
    generalize dotZ f g n = s at *
    have e1 : w64 t = t := wrap_id (by omega)
    rw [e1]
    exact wrap_id (by omega)
noncomputable def hermAll (a h u : List (List Int)) : Bool := (fitsB h a.length (hd0 a).length 1099511627776 && fitsB u a.length a.length 1099511627776) && ((hermB h (hd0 a).length && uniP u a.length) && decide (genM u.length (hd0 a).length (prodF u a (hd0 a).length) = h))
noncomputable def smithAll (a : List (List Int)) (s : List Int) (u v : List (List Int)) : Bool := ((decide (s.length = min a.length (hd0 a).length) && fitsB u a.length a.length 1099511627776) && fitsB v (hd0 a).length (hd0 a).length 1099511627776) && (((smithB s && uniP u a.length) && uniP v (hd0 a).length) && diagB (genM u.length (hd0 a).length (prodF u a (hd0 a).length)) v s (hd0 a).length)
set_option maxRecDepth 10000 in
theorem makesHermite65 {d e f : DV} {a h u : List (List Int)} (hv : validB a = true) (hd : Mat d a) (he : Mat e h) (hf : Mat f u) (hhl : h.length ≤ 9223372036854775807) (hhr : ∀ row ∈ h, row.length ≤ 9223372036854775807) (hul : u.length ≤ 9223372036854775807) (hur : ∀ row ∈ u, row.length ≤ 9223372036854775807) : DeepCall Try.prog 65 [d, e, f] (DB (hermAll a h u)) := by
  obtain ⟨v1, v2, v3, v4, v5, v6⟩ := valid_facts hv
  have h0 : 0 < a.length := by omega
  have e0 := hd0_eq h0
  refine deepCall_K 5 Try.func65 rfl (Nat.le_of_ble_eq_true rfl) fun M W0 => ?_
  refine KC.seq ?_
  refine KC.region ?_
  refine KT.step rfl rfl (K.assign rfl) ?_
  refine KT.nil ?_
  refine thenK_n ?_
  refine KC.seq ?_
  refine KC.draw Try.mixed ?_
  refine KT.step rfl rfl (K.move rfl) ?_
  refine KT.step rfl rfl (K.len rfl hd Try.underlying22) ?_
  refine KT.step rfl rfl (K.move rfl) ?_
  refine KT.idx rfl rfl rfl hd rfl h0 Try.underlying22 Try.size35 fun c12 cs12 hq12 => ?_
  refine KT.step rfl rfl (K.load rfl Try.agg35) ?_
  refine KT.step rfl rfl (K.len rfl hq12 Try.underlying35) ?_
  rw [e0]
  refine KT.step rfl rfl (K.assign rfl) ?_
  refine KT.step rfl rfl (K.assign rfl) ?_
  refine KT.nil ?_
  refine ⟨by kernel_rfl, ?_⟩
  refine thenK_n ?_
  refine KC.seq ?_
  refine KC.seq ?_
  refine KC.region ?_
  refine KT.step rfl rfl (K.move rfl) ?_
  refine KT.step rfl rfl (K.move rfl) ?_
  refine KT.step rfl rfl (K.move rfl) ?_
  refine KT.step rfl rfl (K.call4 rfl rfl rfl rfl plainTry_79 (fits79 he hhl hhr (by decide))) ?_
  refine KT.step rfl rfl (K.not rfl) ?_
  refine KT.step rfl rfl (K.move rfl) ?_
  refine KT.bcase (fun hb20 => ?_) (fun hb20 => ?_)
  · skip
    refine KT.skip rfl rfl ?_
    refine KT.skip rfl rfl ?_
    refine KT.skip rfl rfl ?_
    refine KT.skip rfl rfl ?_
    refine KT.skip rfl rfl ?_
    refine KT.step rfl rfl (K.pick rfl (fun _ => rfl) (fun h => by cases h)) ?_
    refine KT.nil ?_
    refine thenK_n ?_
    refine KC.cond rfl (fun hc26 => ?_) (fun hc26 => ?_)
    · skip
      refine KC.seq ?_
      refine KC.region ?_
      refine KT.step rfl rfl (K.assign rfl) ?_
      refine KT.nil ?_
      refine thenK_n ?_
      refine KC.ret ?_
      refine thenK_r ?_
      refine ⟨.inl rfl, _, rfl, fin_b ?_⟩
      unfold hermAll
      rw [Bool.not_eq_true'] at hb20
      simp only [hb20, Bool.true_and, Bool.and_true, Bool.false_and, Bool.and_false]
    · cases hc26
  · skip
    refine KT.step rfl rfl (K.move rfl) ?_
    refine KT.step rfl rfl (K.move rfl) ?_
    refine KT.step rfl rfl (K.move rfl) ?_
    refine KT.step rfl rfl (K.call4 rfl rfl rfl rfl plainTry_79 (fits79 hf hul hur (by decide))) ?_
    refine KT.step rfl rfl (K.not rfl) ?_
    refine KT.step rfl rfl (K.pick rfl (fun h => by cases h) (fun _ => rfl)) ?_
    refine KT.nil ?_
    refine thenK_n ?_
    refine KC.cond rfl (fun hc26 => ?_) (fun hc26 => ?_)
    · skip
      refine KC.seq ?_
      refine KC.region ?_
      refine KT.step rfl rfl (K.assign rfl) ?_
      refine KT.nil ?_
      refine thenK_n ?_
      refine KC.ret ?_
      refine thenK_r ?_
      refine ⟨.inl rfl, _, rfl, fin_b ?_⟩
      unfold hermAll
      rw [Bool.not_eq_false'] at hb20
      rw [Bool.not_eq_true'] at hc26
      simp only [hb20, hc26, Bool.true_and, Bool.and_true, Bool.false_and, Bool.and_false]
    · skip
      obtain ⟨w1, w2, w3⟩ := fits_facts (m := h) (r := a.length) (n := (hd0 a).length) (by simpa using hb20)
      obtain ⟨u1, u2, u3⟩ := fits_facts (m := u) (r := a.length) (n := a.length) (by simpa using hc26)
      refine KC.skip ?_
      refine thenK_n ?_
      refine KC.seq ?_
      refine KC.region ?_
      refine KT.step rfl rfl (K.move rfl) ?_
      refine KT.step rfl rfl (K.call1 rfl plainTry_95 (isHermite95 he w2 (by omega) (by omega) (by omega))) ?_
      refine KT.step rfl rfl (K.move rfl) ?_
      refine KT.bcase (fun hb29 => ?_) (fun hb29 => ?_)
      · skip
        refine KT.step rfl rfl (K.move rfl) ?_
        refine KT.step rfl rfl (K.call1 rfl plainTry_96 (unimodular96 hf u1 u2 (by omega) u3)) ?_
        refine KT.step rfl rfl (K.pick rfl (fun _ => rfl) (fun h => by cases h)) ?_
        refine KT.step rfl rfl (K.move rfl) ?_
        refine KT.bcase (fun hb33 => ?_) (fun hb33 => ?_)
        · skip
          refine KT.step rfl rfl (K.move rfl) ?_
          refine KT.step rfl rfl (K.move rfl) ?_
          refine KT.step rfl rfl (K.call2 rfl rfl plainTry_97 (product97 hf hd u2 v5 h0 (by omega) (by omega) (by omega))) ?_
          refine KT.step rfl rfl (K.move rfl) ?_
          refine KT.step rfl rfl (K.call3 rfl rfl rfl plainTry_55 (equalFunc55 genD_mat he (by simp [genM]; omega) (fun r hr => by obtain ⟨k, _, rfl⟩ := List.mem_map.1 hr; rw [List.length_map, List.length_range]; omega))) ?_
          refine KT.step rfl rfl (K.pick rfl (fun _ => rfl) (fun h => by cases h)) ?_
          refine KT.step rfl rfl (K.assign rfl) ?_
          refine KT.nil ?_
          refine thenK_n ?_
          refine KC.ret ?_
          refine ⟨.inl rfl, _, rfl, fin_b ?_⟩
          unfold hermAll
          rw [Bool.not_eq_false'] at hb20
          rw [Bool.not_eq_false'] at hc26
          simp only [hb20, hc26, hb29, hb33, Bool.true_and, Bool.and_true, Bool.false_and, Bool.and_false]
        · skip
          refine KT.skip rfl rfl ?_
          refine KT.skip rfl rfl ?_
          refine KT.skip rfl rfl ?_
          refine KT.skip rfl rfl ?_
          refine KT.skip rfl rfl ?_
          refine KT.step rfl rfl (K.pick rfl (fun h => by cases h) (fun _ => rfl)) ?_
          refine KT.step rfl rfl (K.assign rfl) ?_
          refine KT.nil ?_
          refine thenK_n ?_
          refine KC.ret ?_
          refine ⟨.inl rfl, _, rfl, fin_b ?_⟩
          unfold hermAll
          rw [Bool.not_eq_false'] at hb20
          rw [Bool.not_eq_false'] at hc26
          simp only [hb20, hc26, hb29, hb33, Bool.true_and, Bool.and_true, Bool.false_and, Bool.and_false]
      · skip
        refine KT.skip rfl rfl ?_
        refine KT.skip rfl rfl ?_
        refine KT.step rfl rfl (K.pick rfl (fun h => by cases h) (fun _ => rfl)) ?_
        refine KT.step rfl rfl (K.move rfl) ?_
        refine KT.skip rfl rfl ?_
        refine KT.skip rfl rfl ?_
        refine KT.skip rfl rfl ?_
        refine KT.skip rfl rfl ?_
        refine KT.skip rfl rfl ?_
        refine KT.step rfl rfl (K.pick rfl (fun h => by cases h) (fun _ => rfl)) ?_
        refine KT.step rfl rfl (K.assign rfl) ?_
        refine KT.nil ?_
        refine thenK_n ?_
        refine KC.ret ?_
        refine ⟨.inl rfl, _, rfl, fin_b ?_⟩
        unfold hermAll
        rw [Bool.not_eq_false'] at hb20
        rw [Bool.not_eq_false'] at hc26
        simp only [hb20, hc26, hb29, Bool.true_and, Bool.and_true, Bool.false_and, Bool.and_false]
set_option maxRecDepth 10000 in
theorem makesSmith66 {d e f g : DV} {a u v : List (List Int)} {s : List Int} (hv : validB a = true) (hd : Mat d a) (he : Ints e s) (hf : Mat f u) (hg : Mat g v) (hsl : s.length ≤ 9223372036854775807) (bs : ∀ x ∈ s, -9223372036854775808 ≤ x ∧ x ≤ 9223372036854775807) (hul : u.length ≤ 9223372036854775807) (hur : ∀ row ∈ u, row.length ≤ 9223372036854775807) (hvl : v.length ≤ 9223372036854775807) (hvr : ∀ row ∈ v, row.length ≤ 9223372036854775807) : DeepCall Try.prog 66 [d, e, f, g] (DB (smithAll a s u v)) := by
  obtain ⟨v1, v2, v3, v4, v5, v6⟩ := valid_facts hv
  have h0 : 0 < a.length := by omega
  have e0 := hd0_eq h0
  refine deepCall_K 5 Try.func66 rfl (Nat.le_of_ble_eq_true rfl) fun M W0 => ?_
  refine KC.seq ?_
  refine KC.region ?_
  refine KT.step rfl rfl (K.assign rfl) ?_
  refine KT.nil ?_
  refine thenK_n ?_
  refine KC.seq ?_
  refine KC.draw Try.mixed ?_
  refine KT.step rfl rfl (K.move rfl) ?_
  refine KT.step rfl rfl (K.len rfl hd Try.underlying22) ?_
  refine KT.step rfl rfl (K.move rfl) ?_
  refine KT.idx rfl rfl rfl hd rfl h0 Try.underlying22 Try.size35 fun c14 cs14 hq14 => ?_
  refine KT.step rfl rfl (K.load rfl Try.agg35) ?_
  refine KT.step rfl rfl (K.len rfl hq14 Try.underlying35) ?_
  rw [e0]
  refine KT.step rfl rfl (K.assign rfl) ?_
  refine KT.step rfl rfl (K.assign rfl) ?_
  refine KT.nil ?_
  refine ⟨by kernel_rfl, ?_⟩
  refine thenK_n ?_
  refine KC.seq ?_
  refine KC.seq ?_
  refine KC.region ?_
  refine KT.step rfl rfl (K.move rfl) ?_
  refine KT.step rfl rfl (K.len rfl he Try.underlying35) ?_
  refine KT.step rfl rfl (K.move rfl) ?_
  refine KT.step rfl rfl (K.move rfl) ?_
  refine KT.step rfl rfl (K.minN (a := a.length) (b := (hd0 a).length) rfl rfl) ?_
  refine KT.step rfl rfl (K.neq rfl rfl) ?_
  refine KT.step rfl rfl (K.move rfl) ?_
  refine KT.bcase (fun hb23 => ?_) (fun hb23 => ?_)
  · skip
    replace hb23 := of_decide_eq_true hb23
    refine KT.skip rfl rfl ?_
    refine KT.skip rfl rfl ?_
    refine KT.skip rfl rfl ?_
    refine KT.skip rfl rfl ?_
    refine KT.skip rfl rfl ?_
    refine KT.step rfl rfl (K.pick rfl (fun _ => rfl) (fun h => by cases h)) ?_
    refine KT.step rfl rfl (K.move rfl) ?_
    refine KT.skip rfl rfl ?_
    refine KT.skip rfl rfl ?_
    refine KT.skip rfl rfl ?_
    refine KT.skip rfl rfl ?_
    refine KT.skip rfl rfl ?_
    refine KT.step rfl rfl (K.pick rfl (fun _ => rfl) (fun h => by cases h)) ?_
    refine KT.nil ?_
    refine thenK_n ?_
    refine KC.cond rfl (fun hc36 => ?_) (fun hc36 => ?_)
    · skip
      refine KC.seq ?_
      refine KC.region ?_
      refine KT.step rfl rfl (K.assign rfl) ?_
      refine KT.nil ?_
      refine thenK_n ?_
      refine KC.ret ?_
      refine thenK_r ?_
      refine ⟨.inl rfl, _, rfl, fin_b ?_⟩
      unfold smithAll
      have hd23 : decide (s.length = min a.length (hd0 a).length) = false := decide_eq_false (by omega)
      simp only [hd23, Bool.true_and, Bool.and_true, Bool.false_and, Bool.and_false]
    · cases hc36
  · skip
    replace hb23 := of_decide_eq_false hb23
    refine KT.step rfl rfl (K.move rfl) ?_
    refine KT.step rfl rfl (K.move rfl) ?_
    refine KT.step rfl rfl (K.move rfl) ?_
    refine KT.step rfl rfl (K.call4 rfl rfl rfl rfl plainTry_79 (fits79 hf hul hur (by decide))) ?_
    refine KT.step rfl rfl (K.not rfl) ?_
    refine KT.step rfl rfl (K.pick rfl (fun h => by cases h) (fun _ => rfl)) ?_
    refine KT.step rfl rfl (K.move rfl) ?_
    refine KT.bcase (fun hb30 => ?_) (fun hb30 => ?_)
    · skip
      refine KT.skip rfl rfl ?_
      refine KT.skip rfl rfl ?_
      refine KT.skip rfl rfl ?_
      refine KT.skip rfl rfl ?_
      refine KT.skip rfl rfl ?_
      refine KT.step rfl rfl (K.pick rfl (fun _ => rfl) (fun h => by cases h)) ?_
      refine KT.nil ?_
      refine thenK_n ?_
      refine KC.cond rfl (fun hc36 => ?_) (fun hc36 => ?_)
      · skip
        refine KC.seq ?_
        refine KC.region ?_
        refine KT.step rfl rfl (K.assign rfl) ?_
        refine KT.nil ?_
        refine thenK_n ?_
        refine KC.ret ?_
        refine thenK_r ?_
        refine ⟨.inl rfl, _, rfl, fin_b ?_⟩
        unfold smithAll
        have hd23 : decide (s.length = min a.length (hd0 a).length) = true := decide_eq_true (by omega)
        rw [Bool.not_eq_true'] at hb30
        simp only [hd23, hb30, Bool.true_and, Bool.and_true, Bool.false_and, Bool.and_false]
      · cases hc36
    · skip
      refine KT.step rfl rfl (K.move rfl) ?_
      refine KT.step rfl rfl (K.move rfl) ?_
      refine KT.step rfl rfl (K.move rfl) ?_
      refine KT.step rfl rfl (K.call4 rfl rfl rfl rfl plainTry_79 (fits79 hg hvl hvr (by decide))) ?_
      refine KT.step rfl rfl (K.not rfl) ?_
      refine KT.step rfl rfl (K.pick rfl (fun h => by cases h) (fun _ => rfl)) ?_
      refine KT.nil ?_
      refine thenK_n ?_
      refine KC.cond rfl (fun hc36 => ?_) (fun hc36 => ?_)
      · skip
        refine KC.seq ?_
        refine KC.region ?_
        refine KT.step rfl rfl (K.assign rfl) ?_
        refine KT.nil ?_
        refine thenK_n ?_
        refine KC.ret ?_
        refine thenK_r ?_
        refine ⟨.inl rfl, _, rfl, fin_b ?_⟩
        unfold smithAll
        have hd23 : decide (s.length = min a.length (hd0 a).length) = true := decide_eq_true (by omega)
        rw [Bool.not_eq_false'] at hb30
        rw [Bool.not_eq_true'] at hc36
        simp only [hd23, hb30, hc36, Bool.true_and, Bool.and_true, Bool.false_and, Bool.and_false]
      · skip
        obtain ⟨u1, u2, u3⟩ := fits_facts (m := u) (r := a.length) (n := a.length) (by simpa using hb30)
        obtain ⟨w1, w2, w3⟩ := fits_facts (m := v) (r := (hd0 a).length) (n := (hd0 a).length) (by simpa using hc36)
        have hsl2 : s.length = min a.length (hd0 a).length := by have := hb23; simp at this; omega
        have hgl : (genM u.length (hd0 a).length (prodF u a (hd0 a).length)).length = u.length := by simp [genM]
        have hp1 : ∀ r ∈ genM u.length (hd0 a).length (prodF u a (hd0 a).length), r.length = v.length := fun r hr => by
          obtain ⟨k, _, rfl⟩ := List.mem_map.1 hr
          simp [w1]
        have hs1 : ∀ i, i < (genM u.length (hd0 a).length (prodF u a (hd0 a).length)).length → i < (hd0 a).length → i < s.length := fun i h1 h2 => by omega
        have hp2 : ∀ r ∈ genM u.length (hd0 a).length (prodF u a (hd0 a).length), ∀ x ∈ r, x.natAbs ≤ 2 ^ 62 := fun r hr x hx => by
          obtain ⟨i, _, rfl⟩ := List.mem_map.1 hr
          obtain ⟨j, _, rfl⟩ := List.mem_map.1 hx
          have hA : ∀ k, k < a.length → (at0 (u.getD i []) k).natAbs ≤ 2 ^ 40 := fun k _ => u3.get i k
          have hC : ∀ k, k < a.length → (at0 (col a j) k).natAbs ≤ 20 := fun k _ => by rw [at0_col]; exact v6.get k j
          rw [prodF, dotF_exact _ (by omega) hA hC]
          refine Nat.le_trans (dotZ_bd _ hA hC) (Nat.le_trans (Nat.mul_le_mul_right _ (show a.length ≤ 5 by omega)) (by decide))
        refine KC.skip ?_
        refine thenK_n ?_
        refine KC.seq ?_
        refine KC.region ?_
        refine KT.step rfl rfl (K.move rfl) ?_
        refine KT.step rfl rfl (K.call1 rfl plainTry_98 (isSmith98 he hsl)) ?_
        refine KT.step rfl rfl (K.move rfl) ?_
        refine KT.bcase (fun hb39 => ?_) (fun hb39 => ?_)
        · skip
          refine KT.step rfl rfl (K.move rfl) ?_
          refine KT.step rfl rfl (K.call1 rfl plainTry_96 (unimodular96 hf u1 u2 (by omega) u3)) ?_
          refine KT.step rfl rfl (K.pick rfl (fun _ => rfl) (fun h => by cases h)) ?_
          refine KT.step rfl rfl (K.move rfl) ?_
          refine KT.bcase (fun hb43 => ?_) (fun hb43 => ?_)
          · skip
            refine KT.step rfl rfl (K.move rfl) ?_
            refine KT.step rfl rfl (K.call1 rfl plainTry_96 (unimodular96 hg w1 w2 (by omega) w3)) ?_
            refine KT.step rfl rfl (K.pick rfl (fun _ => rfl) (fun h => by cases h)) ?_
            refine KT.step rfl rfl (K.move rfl) ?_
            refine KT.bcase (fun hb47 => ?_) (fun hb47 => ?_)
            · skip
              refine KT.step rfl rfl (K.move rfl) ?_
              refine KT.step rfl rfl (K.move rfl) ?_
              refine KT.step rfl rfl (K.call2 rfl rfl plainTry_97 (product97 hf hd u2 v5 h0 (by omega) (by omega) (by omega))) ?_
              refine KT.step rfl rfl (K.move rfl) ?_
              refine KT.step rfl rfl (K.move rfl) ?_
              refine KT.step rfl rfl (K.call3 rfl rfl rfl plainTry_99 (isDiagonal99 genD_mat hg he hp1 w2 w1 (by simp [genM]; omega) (by omega) hs1 hp2 w3 bs)) ?_
              refine KT.step rfl rfl (K.pick rfl (fun _ => rfl) (fun h => by cases h)) ?_
              refine KT.step rfl rfl (K.assign rfl) ?_
              refine KT.nil ?_
              refine thenK_n ?_
              refine KC.ret ?_
              refine ⟨.inl rfl, _, rfl, fin_b ?_⟩
              unfold smithAll
              have hd23 : decide (s.length = min a.length (hd0 a).length) = true := decide_eq_true (by omega)
              rw [Bool.not_eq_false'] at hb30
              rw [Bool.not_eq_false'] at hc36
              simp only [hd23, hb30, hc36, hb39, hb43, hb47, Bool.true_and, Bool.and_true, Bool.false_and, Bool.and_false]
            · skip
              refine KT.skip rfl rfl ?_
              refine KT.skip rfl rfl ?_
              refine KT.skip rfl rfl ?_
              refine KT.skip rfl rfl ?_
              refine KT.skip rfl rfl ?_
              refine KT.skip rfl rfl ?_
              refine KT.step rfl rfl (K.pick rfl (fun h => by cases h) (fun _ => rfl)) ?_
              refine KT.step rfl rfl (K.assign rfl) ?_
              refine KT.nil ?_
              refine thenK_n ?_
              refine KC.ret ?_
              refine ⟨.inl rfl, _, rfl, fin_b ?_⟩
              unfold smithAll
              have hd23 : decide (s.length = min a.length (hd0 a).length) = true := decide_eq_true (by omega)
              rw [Bool.not_eq_false'] at hb30
              rw [Bool.not_eq_false'] at hc36
              simp only [hd23, hb30, hc36, hb39, hb43, hb47, Bool.true_and, Bool.and_true, Bool.false_and, Bool.and_false]
          · skip
            refine KT.skip rfl rfl ?_
            refine KT.skip rfl rfl ?_
            refine KT.step rfl rfl (K.pick rfl (fun h => by cases h) (fun _ => rfl)) ?_
            refine KT.step rfl rfl (K.move rfl) ?_
            refine KT.skip rfl rfl ?_
            refine KT.skip rfl rfl ?_
            refine KT.skip rfl rfl ?_
            refine KT.skip rfl rfl ?_
            refine KT.skip rfl rfl ?_
            refine KT.skip rfl rfl ?_
            refine KT.step rfl rfl (K.pick rfl (fun h => by cases h) (fun _ => rfl)) ?_
            refine KT.step rfl rfl (K.assign rfl) ?_
            refine KT.nil ?_
            refine thenK_n ?_
            refine KC.ret ?_
            refine ⟨.inl rfl, _, rfl, fin_b ?_⟩
            unfold smithAll
            have hd23 : decide (s.length = min a.length (hd0 a).length) = true := decide_eq_true (by omega)
            rw [Bool.not_eq_false'] at hb30
            rw [Bool.not_eq_false'] at hc36
            simp only [hd23, hb30, hc36, hb39, hb43, Bool.true_and, Bool.and_true, Bool.false_and, Bool.and_false]
        · skip
          refine KT.skip rfl rfl ?_
          refine KT.skip rfl rfl ?_
          refine KT.step rfl rfl (K.pick rfl (fun h => by cases h) (fun _ => rfl)) ?_
          refine KT.step rfl rfl (K.move rfl) ?_
          refine KT.skip rfl rfl ?_
          refine KT.skip rfl rfl ?_
          refine KT.step rfl rfl (K.pick rfl (fun h => by cases h) (fun _ => rfl)) ?_
          refine KT.step rfl rfl (K.move rfl) ?_
          refine KT.skip rfl rfl ?_
          refine KT.skip rfl rfl ?_
          refine KT.skip rfl rfl ?_
          refine KT.skip rfl rfl ?_
          refine KT.skip rfl rfl ?_
          refine KT.skip rfl rfl ?_
          refine KT.step rfl rfl (K.pick rfl (fun h => by cases h) (fun _ => rfl)) ?_
          refine KT.step rfl rfl (K.assign rfl) ?_
          refine KT.nil ?_
          refine thenK_n ?_
          refine KC.ret ?_
          refine ⟨.inl rfl, _, rfl, fin_b ?_⟩
          unfold smithAll
          have hd23 : decide (s.length = min a.length (hd0 a).length) = true := decide_eq_true (by omega)
          rw [Bool.not_eq_false'] at hb30
          rw [Bool.not_eq_false'] at hc36
          simp only [hd23, hb30, hc36, hb39, Bool.true_and, Bool.and_true, Bool.false_and, Bool.and_false]

noncomputable def checkH (a h u : List (List Int)) : DV := .tup [DB (validB a && hermAll a h u), DI (if validB a then 0 else 2)]
noncomputable def checkS (a : List (List Int)) (s : List Int) (u v : List (List Int)) : DV := .tup [DB (validB a && smithAll a s u v), DI (if validB a then 0 else 2)]
theorem fin_t {σ : List VObj} {k : Nat} {a a' : Bool} {b b' : Int} (h : a' = a) (h2 : b' = b) : deepen σ (k + 1) (.d (.tup [DB a, DI b])) = some (.tup [DB a', DI b']) := by rw [h, h2]; rfl
set_option maxRecDepth 10000 in
theorem checkH30 {d e f : DV} {a h u : List (List Int)} (hd : Mat d a) (he : Mat e h) (hf : Mat f u) (hal : a.length ≤ 9223372036854775807) (har : ∀ row ∈ a, row.length ≤ 9223372036854775807) (hhl : h.length ≤ 9223372036854775807) (hhr : ∀ row ∈ h, row.length ≤ 9223372036854775807) (hul : u.length ≤ 9223372036854775807) (hur : ∀ row ∈ u, row.length ≤ 9223372036854775807) : DeepCall Try.prog 30 [d, e, f] (checkH a h u) := by
  refine deepCall_K 5 Try.func30 rfl (Nat.le_of_ble_eq_true rfl) fun M W0 => ?_
  refine KC.seq ?_
  refine KC.region ?_
  refine KT.step rfl rfl (K.assign rfl) ?_
  refine KT.step rfl rfl (K.assign rfl) ?_
  refine KT.nil ?_
  refine thenK_n ?_
  refine KC.seq ?_
  refine KC.seq ?_
  refine KC.region ?_
  refine KT.step rfl rfl (K.move rfl) ?_
  refine KT.step rfl rfl (K.call1 rfl plainTry_45 (valid45 hd hal har)) ?_
  refine KT.step rfl rfl (K.not rfl) ?_
  refine KT.nil ?_
  refine thenK_n ?_
  refine KC.cond rfl (fun hc10 => ?_) (fun hc10 => ?_)
  · skip
    refine KC.seq ?_
    refine KC.region ?_
    refine KT.step rfl rfl (K.assign rfl) ?_
    refine KT.step rfl rfl (K.assign rfl) ?_
    refine KT.nil ?_
    refine thenK_n ?_
    refine KC.ret ?_
    refine thenK_r ?_
    refine ⟨.inl rfl, _, rfl, fin_t (k := 4) (σ := freezeAll []) ?_ ?_⟩
    · rw [Bool.not_eq_true'] at hc10
      rw [hc10]; rfl
    · rw [Bool.not_eq_true'] at hc10
      rw [hc10]; rfl
  · skip
    have hva : validB a = true := by rw [Bool.not_eq_false'] at hc10; exact hc10
    refine KC.skip ?_
    refine thenK_n ?_
    refine KC.seq ?_
    refine KC.region ?_
    refine KT.step rfl rfl (K.move rfl) ?_
    refine KT.step rfl rfl (K.move rfl) ?_
    refine KT.step rfl rfl (K.move rfl) ?_
    refine KT.step rfl rfl (K.call3 rfl rfl rfl plainTry_65 (makesHermite65 hva hd he hf hhl hhr hul hur)) ?_
    refine KT.step rfl rfl (K.assign rfl) ?_
    refine KT.step rfl rfl (K.assign rfl) ?_
    refine KT.nil ?_
    refine thenK_n ?_
    refine KC.ret ?_
    refine ⟨.inl rfl, _, rfl, fin_t (k := 4) (σ := freezeAll []) ?_ ?_⟩
    · rw [hva]; rfl
    · rw [hva]; rfl
set_option maxRecDepth 10000 in
theorem checkS31 {d e f g : DV} {a u v : List (List Int)} {s : List Int} (hd : Mat d a) (he : Ints e s) (hf : Mat f u) (hg : Mat g v) (hal : a.length ≤ 9223372036854775807) (har : ∀ row ∈ a, row.length ≤ 9223372036854775807) (hsl : s.length ≤ 9223372036854775807) (bs : ∀ x ∈ s, -9223372036854775808 ≤ x ∧ x ≤ 9223372036854775807) (hul : u.length ≤ 9223372036854775807) (hur : ∀ row ∈ u, row.length ≤ 9223372036854775807) (hvl : v.length ≤ 9223372036854775807) (hvr : ∀ row ∈ v, row.length ≤ 9223372036854775807) : DeepCall Try.prog 31 [d, e, f, g] (checkS a s u v) := by
  refine deepCall_K 5 Try.func31 rfl (Nat.le_of_ble_eq_true rfl) fun M W0 => ?_
  refine KC.seq ?_
  refine KC.region ?_
  refine KT.step rfl rfl (K.assign rfl) ?_
  refine KT.step rfl rfl (K.assign rfl) ?_
  refine KT.nil ?_
  refine thenK_n ?_
  refine KC.seq ?_
  refine KC.seq ?_
  refine KC.region ?_
  refine KT.step rfl rfl (K.move rfl) ?_
  refine KT.step rfl rfl (K.call1 rfl plainTry_45 (valid45 hd hal har)) ?_
  refine KT.step rfl rfl (K.not rfl) ?_
  refine KT.nil ?_
  refine thenK_n ?_
  refine KC.cond rfl (fun hc12 => ?_) (fun hc12 => ?_)
  · skip
    refine KC.seq ?_
    refine KC.region ?_
    refine KT.step rfl rfl (K.assign rfl) ?_
    refine KT.step rfl rfl (K.assign rfl) ?_
    refine KT.nil ?_
    refine thenK_n ?_
    refine KC.ret ?_
    refine thenK_r ?_
    refine ⟨.inl rfl, _, rfl, fin_t (k := 4) (σ := freezeAll []) ?_ ?_⟩
    · rw [Bool.not_eq_true'] at hc12
      rw [hc12]; rfl
    · rw [Bool.not_eq_true'] at hc12
      rw [hc12]; rfl
  · skip
    have hva : validB a = true := by rw [Bool.not_eq_false'] at hc12; exact hc12
    refine KC.skip ?_
    refine thenK_n ?_
    refine KC.seq ?_
    refine KC.region ?_
    refine KT.step rfl rfl (K.move rfl) ?_
    refine KT.step rfl rfl (K.move rfl) ?_
    refine KT.step rfl rfl (K.move rfl) ?_
    refine KT.step rfl rfl (K.move rfl) ?_
    refine KT.step rfl rfl (K.call4 rfl rfl rfl rfl plainTry_66 (makesSmith66 hva hd he hf hg hsl bs hul hur hvl hvr)) ?_
    refine KT.step rfl rfl (K.assign rfl) ?_
    refine KT.step rfl rfl (K.assign rfl) ?_
    refine KT.nil ?_
    refine thenK_n ?_
    refine KC.ret ?_
    refine ⟨.inl rfl, _, rfl, fin_t (k := 4) (σ := freezeAll []) ?_ ?_⟩
    · rw [hva]; rfl
    · rw [hva]; rfl
end Go.Proofs.Ytlomhajhoecoiaa
