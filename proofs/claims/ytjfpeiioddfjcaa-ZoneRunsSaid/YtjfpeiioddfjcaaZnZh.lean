import Derived.Test.YtjfpeiioddfjcaaZnZg
/-
  Automata: guards that are written anew.
-/
namespace Go.Proofs.Ytjfpeiioddfjcaa
open Go.Vm Go.Zn
theorem plainTry_79 : plainFn Try.prog 79 = true := by kernel_rfl

theorem fin_own {σ : List VObj} {x : XV} {k n j : Nat} {ds : List DV} (h : OwnK k σ x (ds.map .d)) (hn : ds.length = n * k) (hk : 0 < k) (h0 : ds = [] → x = .d Dnil) : deepen (freezeAll σ) (j + 2) x = some (if ds = [] then Dnil else .sl ds n none) := by
  by_cases hd : ds = []
  · rw [if_pos hd, h0 hd]; rfl
  · rw [if_neg hd]
    generalize hc : ds.map XV.d = cells at h
    cases h with
    | nil =>
      have := congrArg List.length hc
      rw [List.length_map, List.length_nil] at this
      exact absurd (List.eq_nil_of_length_eq_zero this) hd
    | @sl id m cells h hm =>
      subst hc
      have hl : m = n := by
        rw [List.length_map] at hm
        exact Nat.eq_of_mul_eq_mul_right hk (hm.symm.trans hn)
      subst hl
      have hf : (freezeAll σ)[id]? = some ⟨ds.map .d, 1⟩ := by simp [freezeAll, h]
      rw [deepen_osl hf rfl (by rw [List.length_map]; omega), List.drop_zero, List.take_of_length_le (by rw [List.length_map]; omega), mapM_deep]
      rfl
def gdC (L : List G3) : DV := if flatG (L.take 8) = [] then Dnil else .sl (flatG (L.take 8)) (L.take 8).length none
theorem gdC_gds (L : List G3) : Gds (gdC L) (L.take 8) := by
  unfold gdC
  split
  · rename_i h
    have h1 := congrArg List.length h
    rw [flatG_len, List.length_nil] at h1
    have h2 : (L.take 8).length = 0 := by omega
    rw [List.eq_nil_of_length_eq_zero h2]; exact .nil
  · exact .sl
theorem fin_gdC {σ : List VObj} {x : XV} {i j : Nat} {L : List G3} (h : OwnK 3 σ x ((flatG (L.take i)).map .d)) (h0 : i = 0 → x = .d Dnil) (hi : i ≤ L.length) (h8 : i = 8 ∨ i = L.length ∧ i ≤ 8) : deepen (freezeAll σ) (j + 2) x = some (gdC L) := by
  have e : L.take i = L.take 8 := by
    rcases h8 with e | ⟨e, e2⟩
    · rw [e]
    · rw [List.take_of_length_le (by omega), List.take_of_length_le (by omega)]
  rw [fin_own (n := (L.take i).length) h (flatG_len _) (by decide) (fun hf => h0 (by
    have h1 := congrArg List.length hf
    rw [flatG_len, List.length_nil, List.length_take] at h1
    omega)), e]
  rfl
theorem flatG_take1 {L : List G3} {i : Nat} (h : i < L.length) : flatG (L.take (i + 1)) = flatG (L.take i) ++ gd3 L[i] := by
  rw [List.take_add_one, List.getElem?_eq_getElem h]
  exact flatG_snoc _ _
set_option maxRecDepth 10000 in
theorem lguards79 {d : DV} {L : List G3} (hd : Gds d L) (hl : L.length ≤ 9223372036854775807) : DeepCall Try.prog 79 [d] (gdC L) := by
  refine deepCall_K 5 Try.func79 rfl (Nat.le_of_ble_eq_true rfl) fun M W0 => ?_
  refine KC.seq ?_
  refine KC.region ?_
  refine KT.step rfl rfl (K.assign rfl) ?_
  refine KT.nil ?_
  refine thenK_n ?_
  refine KC.seq ?_
  refine KC.region ?_
  refine KT.step rfl rfl (K.assign rfl) ?_
  refine KT.nil ?_
  refine thenK_n ?_
  refine KC.seq ?_
  refine KC.seq ?_
  refine KC.region ?_
  refine KT.step rfl rfl (K.move rfl) ?_
  refine KT.step rfl rfl (K.lenG rfl hd Try.underlying117) ?_
  refine KT.step rfl rfl (K.move rfl) ?_
  refine KT.nil ?_
  refine thenK_n ?_
  refine KC.block ?_
  refine KC.loop (fun p : List VObj × XV × Nat => p.1) (fun p => [(3, p.2.1), (6, .d d), (7, .d (DI (L.length : Nat))), (8, .d (DI (p.2.2 : Nat)))]) (fun p => (p.2.2 ≤ L.length ∧ p.2.2 ≤ 8) ∧ OwnK 3 p.1 p.2.1 ((flatG (L.take p.2.2)).map .d) ∧ (p.2.2 = 0 → p.2.1 = .d Dnil)) (fun p => L.length - p.2.2) (_, .d Dnil, 0) ⟨⟨Nat.zero_le _, Nat.zero_le _⟩, .nil, fun _ => rfl⟩ rfl (by simp [Go.Vm.look, extK, enterK]) ?_
  intro p hp
  obtain ⟨hi, hown, hz0⟩ := hp
  refine KC.seq ?_
  refine KC.region ?_
  refine KT.step rfl rfl (K.lss rfl rfl) ?_
  refine KT.nil ?_
  refine thenK_n ?_
  refine KC.seq ?_
  refine KC.cond rfl (fun hc9 => ?_) (fun hc9 => ?_)
  · skip
    replace hc9 := of_decide_eq_true hc9
    have hil : p.2.2 < L.length := by omega
    refine KC.skip ?_
    refine thenK_n ?_
    refine KC.seq ?_
    refine KC.block ?_
    refine KC.seq ?_
    refine KC.region ?_
    refine KT.step rfl rfl (K.move rfl) ?_
    refine KT.step rfl rfl (K.idxG rfl hd rfl hil Try.underlying117 Try.size36) ?_
    refine KT.step rfl rfl (K.loadG hil rfl Try.agg36 Try.size36) ?_
    refine KT.step rfl rfl (K.alloc Try.zero36) ?_
    refine KT.step rfl rfl (K.assign rfl) ?_
    refine KT.storeL (cs := (gd3 L[p.2.2]).map .d) rfl rfl rfl rfl rfl rfl rfl Try.size36 ?_
    refine KT.nil ?_
    refine thenK_n ?_
    refine KC.seq ?_
    refine KC.seq ?_
    refine KC.region ?_
    refine KT.step rfl rfl (K.move rfl) ?_
    refine KT.step rfl rfl (K.gtr rfl rfl) ?_
    refine KT.nil ?_
    refine thenK_n ?_
    refine KC.cond rfl (fun hc14 => ?_) (fun hc14 => ?_)
    · skip
      replace hc14 := of_decide_eq_true hc14
      refine KC.exit ?_
      refine thenK_x ?_
      refine blockK_x (by decide) ?_
      refine thenK_x ?_
      refine thenK_x ?_
      refine blockK_e ?_
      refine thenK_n ?_
      refine KC.seq ?_
      refine KC.region ?_
      refine KT.step rfl rfl (K.move rfl) ?_
      refine KT.step rfl rfl (K.assign rfl) ?_
      refine KT.nil ?_
      refine thenK_n ?_
      refine KC.ret ?_
      exact ⟨.inl rfl, _, rfl, fin_gdC (hown.pushed _) hz0 hi.1 (.inl (by omega))⟩
    · skip
      replace hc14 := of_decide_eq_false hc14
      refine KC.skip ?_
      refine thenK_n ?_
      refine KC.region ?_
      refine KT.step rfl rfl (K.move rfl) ?_
      refine KT.step rfl rfl (K.fieldAddrO rfl Try.fld36_0 Try.size3) ?_
      refine KT.step rfl rfl (K.loadO rfl (List.getElem?_concat_length ..) (by simp) rfl Try.agg3) ?_
      refine KT.step rfl rfl (K.fieldAddrO rfl Try.fld36_1 Try.size3) ?_
      refine KT.step rfl rfl (K.loadO rfl (List.getElem?_concat_length ..) (by simp) rfl Try.agg3) ?_
      refine KT.step rfl rfl (K.fieldAddrO rfl Try.fld36_2 Try.size3) ?_
      refine KT.step rfl rfl (K.loadO rfl (List.getElem?_concat_length ..) (by simp) rfl Try.agg3) ?_
      refine KT.step rfl rfl (K.buildL rfl (build38 _ _ _)) ?_
      refine KT.step rfl rfl (K.buildC (k := 3) rfl rfl rfl Try.underlying107 Try.size38 Try.zero38 (by decide)) ?_
      refine KT.appK (k := 3) rfl rfl rfl rfl ((hown.pushed _).pushed _) (List.getElem?_concat_length ..) rfl rfl (by rw [List.length_map, flatG_len, List.length_take]; omega) Try.underlying107 Try.size38 (of_decide_eq_true (by kernel_rfl)) (by kernel_rfl) (by omega) fun σ2 x2 ho2 k2 w2 => ?_
      refine KT.step rfl rfl (K.assign rfl) ?_
      refine KT.nil ?_
      refine blockK_n ?_
      refine thenK_n ?_
      refine KC.region ?_
      refine KT.step rfl rfl (K.add rfl rfl (wrap_id (by omega))) ?_
      refine KT.step rfl rfl (K.move rfl) ?_
      refine KT.nil ?_
      refine thenK_n ?_
      refine ⟨(σ2, x2, p.2.2 + 1), ⟨by simp only; omega, ?_, fun h => by simp at h⟩, by simp only; omega, rfl, by simp [Go.Vm.look, extK]⟩
      show OwnK 3 σ2 x2 ((flatG (L.take (p.2.2 + 1))).map .d)
      rw [flatG_take1 hil, List.map_append]
      exact ho2
  · skip
    replace hc9 := of_decide_eq_false hc9
    refine KC.exit ?_
    refine thenK_x ?_
    refine thenK_x ?_
    refine blockK_e ?_
    refine thenK_n ?_
    refine KC.seq ?_
    refine KC.region ?_
    refine KT.step rfl rfl (K.move rfl) ?_
    refine KT.step rfl rfl (K.assign rfl) ?_
    refine KT.nil ?_
    refine thenK_n ?_
    refine KC.ret ?_
    exact ⟨.inl rfl, _, rfl, fin_gdC hown hz0 hi.1 (.inr ⟨by omega, hi.2⟩)⟩
end Go.Proofs.Ytjfpeiioddfjcaa

