import Derived.Test.YtocgjopmlhpjdaaNtSe
/-
  Nets: the law NetReaches.
-/
namespace Go.Proofs.Ytocgjopmlhpjdaa
open Go.Vm Go.RowKit Go.Nt Go.Ht
theorem plainTry_18 : plainFn Try.prog 18 = true := by kernel_rfl
theorem plainTry_17 : plainFn Try.prog 17 = true := by kernel_rfl
theorem plainTry_47 : plainFn Try.prog 47 = true := by kernel_rfl
set_option maxRecDepth 10000 in
theorem equalFunc47 {d e : DV} {x y : List (List Int)} (hd : Mat d x) (he : Mat e y) (hl : x.length ≤ 9223372036854775807) (hr : ∀ r ∈ x, r.length ≤ 9223372036854775807) :
    DeepCall Try.prog 47 [d, e, .fn (.func 23) [] []] (DB (decide (x = y))) := by
  refine deepCall_K 5 Try.func47 rfl (Nat.le_of_ble_eq_true rfl) fun M W0 => ?_
  refine KC.seq ?_
  refine KC.region ?_
  refine KT.step rfl rfl (K.assign rfl) ?_
  refine KT.nil ?_
  refine thenK_n ?_
  refine KC.seq ?_
  refine KC.seq ?_
  refine KC.region ?_
  refine KT.step rfl rfl (K.move rfl) ?_
  refine KT.step rfl rfl (K.len rfl (by assumption) Try.underlying22) ?_
  refine KT.step rfl rfl (K.move rfl) ?_
  refine KT.step rfl rfl (K.len rfl (by assumption) Try.underlying22) ?_
  refine KT.step rfl rfl (K.neq rfl rfl) ?_
  refine KT.nil ?_
  refine thenK_n ?_
  refine KC.cond rfl (fun hc14 => ?_) (fun hc14 => ?_)
  · skip
    replace hc14 := of_decide_eq_true hc14
    refine KC.seq ?_
    refine KC.region ?_
    refine KT.step rfl rfl (K.assign rfl) ?_
    refine KT.nil ?_
    refine thenK_n ?_
    refine KC.ret ?_
    refine thenK_r ?_
    exact ⟨.inl rfl, _, rfl, fin_b (decide_eq_false fun h => by subst h; omega)⟩
  · skip
    replace hc14 := of_decide_eq_false hc14
    refine KC.skip ?_
    refine thenK_n ?_
    refine KC.seq ?_
    refine KC.seq ?_
    refine KC.region ?_
    refine KT.step rfl rfl (K.move rfl) ?_
    refine KT.step rfl rfl (K.len rfl (by assumption) Try.underlying22) ?_
    refine KT.step rfl rfl (K.move rfl) ?_
    refine KT.nil ?_
    refine thenK_n ?_
    refine KC.block ?_
    refine KC.loop (fun _ : Nat => []) (fun i => [(0, .d d), (1, .d e), (2, .d (.fn (.func 23) [] [])), (15, .d d), (16, .d (DI x.length)), (17, .d (DI i))]) (fun i => i ≤ x.length ∧ x.take i = y.take i) (fun i => x.length - i) 0 ⟨Nat.zero_le _, rfl⟩ rfl (by simp [Go.Vm.look, extK, enterK]) ?_
    intro i hi
    obtain ⟨hi, hall⟩ := hi
    refine KC.seq ?_
    refine KC.region ?_
    refine KT.step rfl rfl (K.lss rfl rfl) ?_
    refine KT.nil ?_
    refine thenK_n ?_
    refine KC.seq ?_
    refine KC.cond rfl (fun hc18 => ?_) (fun hc18 => ?_)
    · skip
      replace hc18 := of_decide_eq_true hc18
      refine KC.skip ?_
      refine thenK_n ?_
      refine KC.seq ?_
      refine KC.block ?_
      refine KC.seq ?_
      refine KC.region ?_
      refine KT.step rfl rfl (K.move rfl) ?_
      refine KT.idx rfl rfl rfl (by assumption) rfl (by omega) Try.underlying22 Try.size23 fun c20 cs20 hq20 => ?_
      refine KT.step rfl rfl (K.load rfl Try.agg23) ?_
      refine KT.step rfl rfl (K.assign rfl) ?_
      refine KT.step rfl rfl (K.assign rfl) ?_
      refine KT.nil ?_
      refine thenK_n ?_
      refine KC.seq ?_
      refine KC.region ?_
      refine KT.step rfl rfl (K.move rfl) ?_
      refine KT.step rfl rfl (K.move rfl) ?_
      refine KT.idx rfl rfl rfl (by assumption) rfl (by omega) Try.underlying22 Try.size23 fun c24 cs24 hq24 => ?_
      refine KT.step rfl rfl (K.load rfl Try.agg23) ?_
      refine KT.step rfl rfl (K.assign rfl) ?_
      refine KT.nil ?_
      refine thenK_n ?_
      refine KC.seq ?_
      refine KC.region ?_
      refine KT.step rfl rfl (K.move rfl) ?_
      refine KT.step rfl rfl (K.move rfl) ?_
      refine KT.step rfl rfl (K.move rfl) ?_
      refine KT.step rfl rfl (K.callW rfl rfl rfl plainTry_23 (equal23 hq20 hq24 (hr _ (List.getElem_mem _)))) ?_
      refine KT.step rfl rfl (K.not rfl) ?_
      refine KT.nil ?_
      refine thenK_n ?_
      refine KC.cond rfl (fun hc30 => ?_) (fun hc30 => ?_)
      · skip
        replace hc30 : ¬ x[i] = y[i] := by simpa using hc30
        refine KC.seq ?_
        refine KC.region ?_
        refine KT.step rfl rfl (K.assign rfl) ?_
        refine KT.nil ?_
        refine thenK_n ?_
        refine KC.ret ?_
        refine blockK_r ?_
        refine thenK_r ?_
        refine thenK_r ?_
        refine blockK_r ?_
        refine thenK_r ?_
        exact ⟨.inl rfl, _, rfl, fin_b (decide_eq_false fun h => by subst h; exact hc30 rfl)⟩
      · skip
        replace hc30 : x[i] = y[i] := by simpa using hc30
        refine KC.skip ?_
        refine blockK_n ?_
        refine thenK_n ?_
        refine KC.region ?_
        refine KT.step rfl rfl (K.add rfl rfl (wrap_id (by omega))) ?_
        refine KT.step rfl rfl (K.move rfl) ?_
        refine KT.nil ?_
        refine thenK_n ?_
        refine ⟨i + 1, ⟨by omega, ?_⟩, by omega, rfl, by simp [Go.Vm.look, extK]⟩
        rw [List.take_succ_eq_append_getElem (by omega), List.take_succ_eq_append_getElem (by omega), hall, hc30]
    · skip
      replace hc18 := of_decide_eq_false hc18
      refine KC.exit ?_
      refine thenK_x ?_
      refine thenK_x ?_
      refine blockK_e ?_
      refine thenK_n ?_
      refine KC.seq ?_
      refine KC.region ?_
      refine KT.step rfl rfl (K.assign rfl) ?_
      refine KT.nil ?_
      refine thenK_n ?_
      refine KC.ret ?_
      have hx : x.take i = x := List.take_of_length_le (by omega)
      have hy : y.take i = y := List.take_of_length_le (by omega)
      rw [hx, hy] at hall
      exact ⟨.inl rfl, _, rfl, fin_b (decide_eq_true hall)⟩
set_option maxRecDepth 10000 in
theorem same17 {d e : DV} {x y : List (List Int)} (hd : Mat d x) (he : Mat e y) (hl : x.length ≤ 9223372036854775807) (hr : ∀ r ∈ x, r.length ≤ 9223372036854775807) :
    DeepCall Try.prog 17 [d, e] (DB (decide (x = y))) := by
  refine deepCall_K 5 Try.func17 rfl (Nat.le_of_ble_eq_true rfl) fun M W0 => ?_
  refine KC.seq ?_
  refine KC.region ?_
  refine KT.step rfl rfl (K.assign rfl) ?_
  refine KT.nil ?_
  refine thenK_n ?_
  refine KC.seq ?_
  refine KC.region ?_
  refine KT.step rfl rfl (K.move rfl) ?_
  refine KT.step rfl rfl (K.move rfl) ?_
  refine KT.step rfl rfl (K.callW (ds := [d, e, .fn (.func 23) [] []]) rfl rfl rfl plainTry_47 (equalFunc47 hd he hl hr)) ?_
  refine KT.step rfl rfl (K.assign rfl) ?_
  refine KT.nil ?_
  refine thenK_n ?_
  refine KC.ret ?_
  exact ⟨.inl rfl, _, rfl, fin_d rfl⟩
set_option maxRecDepth 10000 in
theorem own18 {d : DV} {cs : List DV} (hd : SlC d cs) (h1 : ∀ c ∈ cs, SlD c) (hl : cs.length ≤ 1000000) : DeepCall Try.prog 18 [d] (slOf cs) := by
  refine deepCall_K 6 Try.func18 rfl (Nat.le_of_ble_eq_true rfl) fun M W0 => ?_
  refine KC.seq ?_
  refine KC.region ?_
  refine KT.step rfl rfl (K.assign rfl) ?_
  refine KT.nil ?_
  refine thenK_n ?_
  refine KC.seq ?_
  refine KC.region ?_
  refine KT.step rfl rfl (K.assign rfl) ?_
  refine KT.nil ?_
  refine thenK_n ?_
  refine KC.seq ?_
  refine KC.seq ?_
  refine KC.region ?_
  refine KT.step rfl rfl (K.move rfl) ?_
  refine KT.step rfl rfl (K.len (l := cs) rfl (slc_vec hd) Try.underlying26) ?_
  refine KT.step rfl rfl (K.move rfl) ?_
  refine KT.nil ?_
  refine thenK_n ?_
  refine KC.block ?_
  refine KC.loop (fun q : List VObj × XV × Nat => q.1) (fun q => [(3, q.2.1), (6, .d d), (7, .d (DI (cs.length : Nat))), (8, .d (DI (q.2.2 : Nat)))]) (fun q => q.2.2 ≤ cs.length ∧ OwnK 1 q.1 q.2.1 ((cs.take q.2.2).map .d) ∧ (cs.take q.2.2 = [] → q.2.1 = .d Dnil)) (fun q => cs.length - q.2.2) (_, .d Dnil, 0) ⟨Nat.zero_le _, .nil, fun _ => rfl⟩ rfl (by simp [Go.Vm.look, extK, enterK]) ?_
  intro q hq
  obtain ⟨σ0, x, i⟩ := q
  obtain ⟨hi, ow, hnil⟩ := hq
  simp only at hi ow hnil ⊢
  refine KC.seq ?_
  refine KC.region ?_
  refine KT.step rfl rfl (K.lss rfl rfl) ?_
  refine KT.nil ?_
  refine thenK_n ?_
  refine KC.seq ?_
  refine KC.cond rfl (fun hc9 => ?_) (fun hc9 => ?_)
  · skip
    replace hc9 := of_decide_eq_true hc9
    have hic : i < cs.length := by omega
    refine KC.skip ?_
    refine thenK_n ?_
    refine KC.seq ?_
    refine KC.block ?_
    refine KC.seq ?_
    refine KC.region ?_
    obtain ⟨cp, rfl⟩ : ∃ cp, d = .sl cs cs.length cp := by rcases hd with ⟨_, h⟩ | h; (rw [h] at hic; simp at hic); exact h
    refine KT.step rfl rfl (K.idxDK (k := 1) (m := i) rfl rfl hic Try.underlying26 Try.size30) ?_
    rw [Nat.mul_one, List.drop_eq_getElem_cons hic]
    refine KT.step rfl rfl (K.load rfl Try.agg30) ?_
    refine KT.step rfl rfl (K.assign rfl) ?_
    refine KT.nil ?_
    refine thenK_n ?_
    refine KC.region ?_
    refine KT.step rfl rfl (K.move rfl) ?_
    refine KT.step rfl rfl (K.move rfl) ?_
    refine KT.step rfl rfl (K.buildC (k := 1) (cs := [.d cs[i]]) rfl (h1 _ (List.getElem_mem hic)).cells rfl Try.underlying22 Try.size23 Try.one23.zero (by decide)) ?_
    refine KT.appK (k := 1) rfl rfl rfl rfl (ow.pushed _) (List.getElem?_concat_length ..) rfl (by simp [(h1 _ (List.getElem_mem hic)).one]) (by rw [List.length_map, List.length_take]; omega) Try.underlying22 Try.size23 (of_decide_eq_true (by kernel_rfl)) (by kernel_rfl) (by decide) fun σ3 x3 o3 k3 w3 => ?_
    refine KT.step rfl rfl (K.assign rfl) ?_
    refine KT.nil ?_
    refine blockK_n ?_
    refine thenK_n ?_
    refine KC.region ?_
    refine KT.step rfl rfl (K.add rfl rfl (wrap_id (by omega))) ?_
    refine KT.step rfl rfl (K.move rfl) ?_
    refine KT.nil ?_
    refine thenK_n ?_
    refine ⟨(σ3, x3, i + 1), ⟨by simp only; omega, ?_, ?_⟩, by simp only; omega, rfl, by simp [Go.Vm.look, extK]⟩
    · simp only
      rw [List.take_succ_eq_append_getElem hic, List.map_append]; exact o3
    · simp only
      intro h
      have := congrArg List.length h
      rw [List.length_take] at this
      have h9 : min (i + 1) cs.length = 0 := this
      omega
  · skip
    replace hc9 := of_decide_eq_false hc9
    refine KC.exit ?_
    refine thenK_x ?_
    refine thenK_x ?_
    refine blockK_e ?_
    refine thenK_n ?_
    refine KC.seq ?_
    refine KC.region ?_
    refine KT.step rfl rfl (K.move rfl) ?_
    refine KT.step rfl rfl (K.assign rfl) ?_
    refine KT.nil ?_
    refine thenK_n ?_
    refine KC.ret ?_
    obtain rfl : i = cs.length := by omega
    rw [List.take_of_length_le (Nat.le_refl _)] at ow hnil
    exact ⟨.inl rfl, _, rfl, fin_ownS ow hnil⟩
theorem ris_slc {ms : List (List Int)} (hd : ms.Nodup) : SlC (risV ms) ((sortM ms).map numV) := by
  refine .inr ⟨some ms.length, ?_⟩
  unfold risV
  rw [List.length_map, sortM_len hd]
theorem mat_numV {l : List (List Int)} (h0 : ∀ m ∈ l, 0 < m.length) : Mat (slOf (l.map numV)) l := by
  by_cases hn : l = []
  · subst hn; exact .nil
  · rw [slOf_ne (by simpa using hn), List.length_map]
    refine .sl (by simp) fun i c x h1 h2 => ?_
    rw [List.getElem?_map, h2, Option.map_some] at h1
    cases h1
    exact numV_ints x (h0 x (List.mem_of_getElem? h2))
theorem mat_pairs {n : Nat} {ps : List (DV × List Int)} (h : PairsOk n ps) : Mat (slOf (ps.map (·.1))) (ps.map (·.2)) := by
  by_cases hn : ps = []
  · subst hn; exact .nil
  · rw [slOf_ne (by simpa using hn)]
    have e : (ps.map (·.1)).length = (ps.map (·.2)).length := by simp
    rw [e]
    refine .sl e fun i c x h1 h2 => ?_
    rw [List.getElem?_map] at h1 h2
    cases hp : ps[i]? with
    | none => rw [hp] at h1; cases h1
    | some p => rw [hp] at h1 h2; cases h1; cases h2; exact (h p (List.mem_of_getElem? hp)).1
theorem num_sld {l : List (List Int)} : ∀ c ∈ l.map numV, SlD c := fun c hc => by
  obtain ⟨m, _, rfl⟩ := List.mem_map.1 hc
  cases m with
  | nil => exact .nil
  | cons x m => exact .sl _ _ _
end Go.Proofs.Ytocgjopmlhpjdaa

