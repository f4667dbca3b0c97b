import Derived.Test.YtmfbakipfobaeaaHtEa
/-
  Heat: the utility of a plan, converted loads.
-/
namespace Go.Proofs.Ytmfbakipfobaeaa
open Go.Vm Go.Ht
set_option maxRecDepth 10000 in
theorem fromUtility56 {d : DV} {p : List Ld} (hd : FlD 4 c4 d p) (hl : p.length ≤ 1000) (hb : ∀ x ∈ p, 0 ≤ x.q ∧ x.q ≤ 1000000) : DeepCall Try.prog 56 [d] (DI (utl p)) := by
  refine deepCall_K 5 Try.func56 rfl (Nat.le_of_ble_eq_true rfl) fun M W0 => ?_
  refine KC.seq ?_
  refine KC.region ?_
  refine KT.step rfl rfl (K.assign rfl) ?_
  refine KT.nil ?_
  refine thenK_n ?_
  refine KC.seq ?_
  refine KC.region ?_
  refine KT.step rfl rfl (K.assign rfl) ?_
  refine KT.nil ?_
  refine thenK_n ?_
  refine KC.seq ?_
  refine KC.seq ?_
  refine KC.region ?_
  refine KT.step rfl rfl (K.move rfl) ?_
  refine KT.step rfl rfl (K.lenF rfl hd Try.underlying44) ?_
  refine KT.step rfl rfl (K.move rfl) ?_
  refine KT.nil ?_
  refine thenK_n ?_
  refine KC.block ?_
  refine KC.loop (fun z : List VObj × Nat => z.1) (fun z => [(3, .d (DI (utl (p.take z.2)))), (6, .d d), (7, .d (DI (p.length : Nat))), (8, .d (DI (z.2 : Nat)))]) (fun z => z.2 ≤ p.length) (fun z => p.length - z.2) (_, 0) (Nat.zero_le _) rfl (by simp [Go.Vm.look, extK, enterK, utl]) ?_
  intro z hi
  obtain ⟨σ0, i⟩ := z
  simp only at hi ⊢
  refine KC.seq ?_
  refine KC.region ?_
  refine KT.step rfl rfl (K.lss rfl rfl) ?_
  refine KT.nil ?_
  refine thenK_n ?_
  refine KC.seq ?_
  refine KC.cond rfl (fun hc9 => ?_) (fun hc9 => ?_)
  · skip
    replace hc9 := of_decide_eq_true hc9
    have hil : i < p.length := by omega
    have hub := utl_bd (by decide) hb i hi
    have hxb := hb _ (List.getElem_mem hil)
    have hsn := utl_snoc hil
    refine KC.skip ?_
    refine thenK_n ?_
    refine KC.seq ?_
    refine KC.block ?_
    refine KC.seq ?_
    refine KC.region ?_
    refine KT.step rfl rfl (K.idxF c4_len (m := i) rfl hd rfl hil Try.underlying44 Try.size65) ?_
    refine KT.step rfl rfl (K.loadFl (cs := c4 p[i]) rfl rfl Try.agg65 Try.size65) ?_
    refine KT.step rfl rfl (K.alloc Try.zero65) ?_
    refine KT.storeL (cs := (c4 p[i]).map .d) rfl rfl rfl rfl rfl rfl rfl Try.size65 ?_
    refine KT.nil ?_
    refine thenK_n ?_
    refine KC.seq ?_
    refine KC.region ?_
    refine KT.step rfl rfl (K.fieldAddrO rfl Try.fld65_0 Try.size3) ?_
    refine KT.step rfl rfl (K.loadO (y := .d (DI p[i].h)) rfl (List.getElem?_concat_length ..) (by simp) rfl Try.agg3) ?_
    refine KT.step rfl rfl (K.eql rfl rfl) ?_
    refine KT.nil ?_
    refine thenK_n ?_
    refine KC.cond rfl (fun hc14 => ?_) (fun hc14 => ?_)
    · skip
      replace hc14 := of_decide_eq_true hc14
      refine KC.region ?_
      refine KT.step rfl rfl (K.move rfl) ?_
      refine KT.step rfl rfl (K.fieldAddrO rfl Try.fld65_3 Try.size3) ?_
      refine KT.step rfl rfl (K.loadO (y := .d (DI p[i].q)) rfl (List.getElem?_concat_length ..) (by simp) rfl Try.agg3) ?_
      refine KT.step rfl rfl (K.add rfl rfl (wrap_id (by omega))) ?_
      refine KT.step rfl rfl (K.assign rfl) ?_
      refine KT.nil ?_
      refine blockK_n ?_
      refine thenK_n ?_
      refine KC.region ?_
      refine KT.step rfl rfl (K.add rfl rfl (wrap_id (by omega))) ?_
      refine KT.step rfl rfl (K.move rfl) ?_
      refine KT.nil ?_
      refine thenK_n ?_
      rw [if_pos hc14] at hsn
      exact ⟨(_, i + 1), by simp only; omega, by simp only; omega, rfl, by simp [Go.Vm.look, extK, hsn]⟩
    · skip
      replace hc14 := of_decide_eq_false hc14
      refine KC.skip ?_
      refine blockK_n ?_
      refine thenK_n ?_
      refine KC.region ?_
      refine KT.step rfl rfl (K.add rfl rfl (wrap_id (by omega))) ?_
      refine KT.step rfl rfl (K.move rfl) ?_
      refine KT.nil ?_
      refine thenK_n ?_
      rw [if_neg hc14] at hsn
      exact ⟨(_, i + 1), by simp only; omega, by simp only; omega, rfl, by simp [Go.Vm.look, extK, hsn]⟩
  · skip
    replace hc9 := of_decide_eq_false hc9
    refine KC.exit ?_
    refine thenK_x ?_
    refine thenK_x ?_
    refine blockK_e ?_
    refine thenK_n ?_
    refine KC.seq ?_
    refine KC.region ?_
    refine KT.step rfl rfl (K.move rfl) ?_
    refine KT.step rfl rfl (K.assign rfl) ?_
    refine KT.nil ?_
    refine thenK_n ?_
    refine KC.ret ?_
    have e : p.take i = p := List.take_of_length_le (by omega)
    rw [e]
    exact ⟨.inl rfl, _, rfl, rfl⟩
theorem build65_4 (a b c e : Int) : opBuild Try.prog 65 [(0, .d (DI a)), (1, .d (DI b)), (2, .d (DI c)), (3, .d (DI e))] = some (.d (.agg [DI a, DI b, DI c, DI e])) := by kernel_rfl
theorem build88_4 (a b c e : Int) : opBuild Try.prog 88 [(0, .d (DI a)), (1, .d (DI b)), (2, .d (DI c)), (3, .d (DI e))] = some (.d (.agg [DI a, DI b, DI c, DI e])) := by kernel_rfl
set_option maxRecDepth 10000 in
theorem plan36 {d : DV} {q : List Ld} (hd : FlD 4 c4 d q) (_ : q.length ≤ 9223372036854775807) : DeepCall Try.prog 36 [d] (flV c4 (q.take 202)) := by
  refine deepCall_K 5 Try.func36 rfl (Nat.le_of_ble_eq_true rfl) fun M W0 => ?_
  refine KC.seq ?_
  refine KC.region ?_
  refine KT.step rfl rfl (K.assign rfl) ?_
  refine KT.nil ?_
  refine thenK_n ?_
  refine KC.seq ?_
  refine KC.region ?_
  refine KT.step rfl rfl (K.assign rfl) ?_
  refine KT.nil ?_
  refine thenK_n ?_
  refine KC.seq ?_
  refine KC.seq ?_
  refine KC.region ?_
  refine KT.step rfl rfl (K.move rfl) ?_
  refine KT.step rfl rfl (K.lenF rfl hd Try.underlying49) ?_
  refine KT.step rfl rfl (K.move rfl) ?_
  refine KT.nil ?_
  refine thenK_n ?_
  refine KC.block ?_
  refine KC.loop (fun p : List VObj × XV × Nat => p.1) (fun p => [(0, .d d), (3, p.2.1), (6, .d d), (7, .d (DI (q.length : Nat))), (8, .d (DI (p.2.2 : Nat)))]) (fun p => p.2.2 ≤ q.length ∧ p.2.2 ≤ 202 ∧ OwnK 4 p.1 p.2.1 (((q.take p.2.2).flatMap c4).map .d) ∧ (q.take p.2.2 = [] → p.2.1 = .d Dnil)) (fun p => q.length - p.2.2) (_, .d Dnil, 0) ⟨Nat.zero_le _, Nat.zero_le _, .nil, fun _ => rfl⟩ rfl (by simp [Go.Vm.look, extK, enterK]) ?_
  intro p hp
  obtain ⟨σ0, x, i⟩ := p
  obtain ⟨hi, hi10, o, hn⟩ := hp
  simp only at hi hi10 o hn ⊢
  refine KC.seq ?_
  refine KC.region ?_
  refine KT.step rfl rfl (K.lss rfl rfl) ?_
  refine KT.nil ?_
  refine thenK_n ?_
  refine KC.seq ?_
  refine KC.cond rfl (fun hc9 => ?_) (fun hc9 => ?_)
  · skip
    replace hc9 := of_decide_eq_true hc9
    have hil : i < q.length := by omega
    refine KC.skip ?_
    refine thenK_n ?_
    refine KC.seq ?_
    refine KC.block ?_
    refine KC.seq ?_
    refine KC.region ?_
    refine KT.step rfl rfl (K.move rfl) ?_
    refine KT.step rfl rfl (K.idxF c4_len (m := i) rfl hd rfl hil Try.underlying49 Try.size88) ?_
    refine KT.step rfl rfl (K.loadFl (cs := c4 q[i]) rfl rfl Try.agg88 Try.size88) ?_
    refine KT.step rfl rfl (K.alloc Try.zero88) ?_
    refine KT.step rfl rfl (K.assign rfl) ?_
    refine KT.storeL (cs := (c4 q[i]).map .d) rfl rfl rfl rfl rfl rfl rfl Try.size88 ?_
    refine KT.nil ?_
    refine thenK_n ?_
    refine KC.seq ?_
    refine KC.seq ?_
    refine KC.region ?_
    refine KT.step rfl rfl (K.move rfl) ?_
    refine KT.step rfl rfl (K.gtr rfl rfl) ?_
    refine KT.nil ?_
    refine thenK_n ?_
    refine KC.cond rfl (fun hc14 => ?_) (fun hc14 => ?_)
    · skip
      replace hc14 := of_decide_eq_true hc14
      refine KC.exit ?_
      refine thenK_x ?_
      refine blockK_x (by decide) ?_
      refine thenK_x ?_
      refine thenK_x ?_
      refine blockK_e ?_
      refine thenK_n ?_
      refine KC.seq ?_
      refine KC.region ?_
      refine KT.step rfl rfl (K.move rfl) ?_
      refine KT.step rfl rfl (K.assign rfl) ?_
      refine KT.nil ?_
      refine thenK_n ?_
      refine KC.ret ?_
      refine ⟨.inl rfl, _, rfl, ?_⟩
      rw [← take_end (i := i) (n := 202) (by omega)]
      exact own_fl c4_len (by decide) (o.pushed _) hn
    · skip
      replace hc14 := of_decide_eq_false hc14
      refine KC.skip ?_
      refine thenK_n ?_
      refine KC.region ?_
      refine KT.step rfl rfl (K.move rfl) ?_
      refine KT.step rfl rfl (K.fieldAddrO rfl Try.fld88_0 Try.size3) ?_
      refine KT.step rfl rfl (K.loadO (y := .d (DI q[i].h)) rfl (List.getElem?_concat_length ..) (by simp) rfl Try.agg3) ?_
      refine KT.step rfl rfl (K.fieldAddrO rfl Try.fld88_1 Try.size3) ?_
      refine KT.step rfl rfl (K.loadO (y := .d (DI q[i].c)) rfl (List.getElem?_concat_length ..) (by simp) rfl Try.agg3) ?_
      refine KT.step rfl rfl (K.fieldAddrO rfl Try.fld88_2 Try.size3) ?_
      refine KT.step rfl rfl (K.loadO (y := .d (DI q[i].t)) rfl (List.getElem?_concat_length ..) (by simp) rfl Try.agg3) ?_
      refine KT.step rfl rfl (K.fieldAddrO rfl Try.fld88_3 Try.size3) ?_
      refine KT.step rfl rfl (K.loadO (y := .d (DI q[i].q)) rfl (List.getElem?_concat_length ..) (by simp) rfl Try.agg3) ?_
      refine KT.step rfl rfl (K.buildS rfl (build65_4 _ _ _ _)) ?_
      refine KT.step rfl rfl (K.buildK (k := 4) (ds := c4 q[i]) rfl rfl Try.underlying44 Try.size65 Try.zero65 (by decide)) ?_
      refine KT.appK (k := 4) rfl rfl rfl rfl ((o.pushed _).pushed _) (List.getElem?_concat_length ..) rfl rfl (by rw [List.length_map, flat_len c4_len, List.length_take]; omega) Try.underlying44 Try.size65 (of_decide_eq_true (by kernel_rfl)) (by kernel_rfl) (by decide) fun σ2 x2 ho2 k2 w2 => ?_
      refine KT.step rfl rfl (K.assign rfl) ?_
      refine KT.nil ?_
      refine blockK_n ?_
      refine thenK_n ?_
      refine KC.region ?_
      refine KT.step rfl rfl (K.add rfl rfl (wrap_id (by omega))) ?_
      refine KT.step rfl rfl (K.move rfl) ?_
      refine KT.nil ?_
      refine thenK_n ?_
      refine ⟨(σ2, x2, i + 1), ⟨by simp only; omega, by simp only; omega, ?_, fun h => ?_⟩, by simp only; omega, rfl, by simp [Go.Vm.look, extK]⟩
      · simp only
        rw [flat_take hil, List.map_append]; exact ho2
      · simp only at h
        have := congrArg List.length h
        rw [List.length_take, List.length_nil] at this; omega
  · skip
    replace hc9 := of_decide_eq_false hc9
    refine KC.exit ?_
    refine thenK_x ?_
    refine thenK_x ?_
    refine blockK_e ?_
    refine thenK_n ?_
    refine KC.seq ?_
    refine KC.region ?_
    refine KT.step rfl rfl (K.move rfl) ?_
    refine KT.step rfl rfl (K.assign rfl) ?_
    refine KT.nil ?_
    refine thenK_n ?_
    refine KC.ret ?_
    refine ⟨.inl rfl, _, rfl, ?_⟩
    rw [← take_end (i := i) (n := 202) (by omega)]
    exact own_fl c4_len (by decide) o hn
set_option maxRecDepth 10000 in
theorem own34 {d : DV} {q : List Ld} (hd : FlD 4 c4 d q) (hl : q.length ≤ 1000000) : DeepCall Try.prog 34 [d] (flV c4 q) := by
  refine deepCall_K 5 Try.func34 rfl (Nat.le_of_ble_eq_true rfl) fun M W0 => ?_
  refine KC.seq ?_
  refine KC.region ?_
  refine KT.step rfl rfl (K.assign rfl) ?_
  refine KT.nil ?_
  refine thenK_n ?_
  refine KC.seq ?_
  refine KC.region ?_
  refine KT.step rfl rfl (K.assign rfl) ?_
  refine KT.nil ?_
  refine thenK_n ?_
  refine KC.seq ?_
  refine KC.seq ?_
  refine KC.region ?_
  refine KT.step rfl rfl (K.move rfl) ?_
  refine KT.step rfl rfl (K.lenF rfl hd Try.underlying44) ?_
  refine KT.step rfl rfl (K.move rfl) ?_
  refine KT.nil ?_
  refine thenK_n ?_
  refine KC.block ?_
  refine KC.loop (fun p : List VObj × XV × Nat => p.1) (fun p => [(0, .d d), (3, p.2.1), (6, .d d), (7, .d (DI (q.length : Nat))), (8, .d (DI (p.2.2 : Nat)))]) (fun p => p.2.2 ≤ q.length ∧ OwnK 4 p.1 p.2.1 (((q.take p.2.2).flatMap c4).map .d) ∧ (q.take p.2.2 = [] → p.2.1 = .d Dnil)) (fun p => q.length - p.2.2) (_, .d Dnil, 0) ⟨Nat.zero_le _, .nil, fun _ => rfl⟩ rfl (by simp [Go.Vm.look, extK, enterK]) ?_
  intro p hp
  obtain ⟨σ0, x, i⟩ := p
  obtain ⟨hi, o, hn⟩ := hp
  simp only at hi o hn ⊢
  refine KC.seq ?_
  refine KC.region ?_
  refine KT.step rfl rfl (K.lss rfl rfl) ?_
  refine KT.nil ?_
  refine thenK_n ?_
  refine KC.seq ?_
  refine KC.cond rfl (fun hc9 => ?_) (fun hc9 => ?_)
  · skip
    replace hc9 := of_decide_eq_true hc9
    have hil : i < q.length := by omega
    refine KC.skip ?_
    refine thenK_n ?_
    refine KC.seq ?_
    refine KC.block ?_
    refine KC.seq ?_
    refine KC.region ?_
    refine KT.step rfl rfl (K.idxF c4_len (m := i) rfl hd rfl hil Try.underlying44 Try.size65) ?_
    refine KT.step rfl rfl (K.loadFl (cs := c4 q[i]) rfl rfl Try.agg65 Try.size65) ?_
    refine KT.step rfl rfl (K.alloc Try.zero65) ?_
    refine KT.storeL (cs := (c4 q[i]).map .d) rfl rfl rfl rfl rfl rfl rfl Try.size65 ?_
    refine KT.nil ?_
    refine thenK_n ?_
    refine KC.region ?_
    refine KT.step rfl rfl (K.move rfl) ?_
    refine KT.step rfl rfl (K.fieldAddrO rfl Try.fld65_0 Try.size3) ?_
    refine KT.step rfl rfl (K.loadO (y := .d (DI q[i].h)) rfl (List.getElem?_concat_length ..) (by simp) rfl Try.agg3) ?_
    refine KT.step rfl rfl (K.fieldAddrO rfl Try.fld65_1 Try.size3) ?_
    refine KT.step rfl rfl (K.loadO (y := .d (DI q[i].c)) rfl (List.getElem?_concat_length ..) (by simp) rfl Try.agg3) ?_
    refine KT.step rfl rfl (K.fieldAddrO rfl Try.fld65_2 Try.size3) ?_
    refine KT.step rfl rfl (K.loadO (y := .d (DI q[i].t)) rfl (List.getElem?_concat_length ..) (by simp) rfl Try.agg3) ?_
    refine KT.step rfl rfl (K.fieldAddrO rfl Try.fld65_3 Try.size3) ?_
    refine KT.step rfl rfl (K.loadO (y := .d (DI q[i].q)) rfl (List.getElem?_concat_length ..) (by simp) rfl Try.agg3) ?_
    refine KT.step rfl rfl (K.buildS rfl (build88_4 _ _ _ _)) ?_
    refine KT.step rfl rfl (K.buildK (k := 4) (ds := c4 q[i]) rfl rfl Try.underlying49 Try.size88 Try.zero88 (by decide)) ?_
    refine KT.appK (k := 4) rfl rfl rfl rfl ((o.pushed _).pushed _) (List.getElem?_concat_length ..) rfl rfl (by rw [List.length_map, flat_len c4_len, List.length_take]; omega) Try.underlying49 Try.size88 (of_decide_eq_true (by kernel_rfl)) (by kernel_rfl) (by decide) fun σ2 x2 ho2 k2 w2 => ?_
    refine KT.step rfl rfl (K.assign rfl) ?_
    refine KT.nil ?_
    refine blockK_n ?_
    refine thenK_n ?_
    refine KC.region ?_
    refine KT.step rfl rfl (K.add rfl rfl (wrap_id (by omega))) ?_
    refine KT.step rfl rfl (K.move rfl) ?_
    refine KT.nil ?_
    refine thenK_n ?_
    refine ⟨(σ2, x2, i + 1), ⟨by simp only; omega, ?_, fun h => ?_⟩, by simp only; omega, rfl, by simp [Go.Vm.look, extK]⟩
    · simp only
      rw [flat_take hil, List.map_append]; exact ho2
    · simp only at h
      have := congrArg List.length h
      rw [List.length_take, List.length_nil] at this; omega
  · skip
    replace hc9 := of_decide_eq_false hc9
    refine KC.exit ?_
    refine thenK_x ?_
    refine thenK_x ?_
    refine blockK_e ?_
    refine thenK_n ?_
    refine KC.seq ?_
    refine KC.region ?_
    refine KT.step rfl rfl (K.move rfl) ?_
    refine KT.step rfl rfl (K.assign rfl) ?_
    refine KT.nil ?_
    refine thenK_n ?_
    refine KC.ret ?_
    have e : q.take i = q := List.take_of_length_le (by omega)
    rw [e] at o hn
    exact ⟨.inl rfl, _, rfl, own_fl c4_len (by decide) o hn⟩
end Go.Proofs.Ytmfbakipfobaeaa

