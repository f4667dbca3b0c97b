import Derived.Test.YtocgjopmlhpjdaaNtSf
/-
  Nets: the law NetDead.
-/
namespace Go.Proofs.Ytocgjopmlhpjdaa
open Go.Vm Go.RowKit Go.Nt Go.Ht
theorem plainTry_37 : plainFn Try.prog 37 = true := by kernel_rfl
set_option maxRecDepth 10000 in
theorem equal37 {d e : DV} {x y : List Int} (hd : Ints d x) (he : Ints e y) (hl : x.length ≤ 9223372036854775807) :
    DeepCall Try.prog 37 [d, e] (DB (decide (x = y))) := by
  refine deepCall_K 5 Try.func37 rfl (Nat.le_of_ble_eq_true rfl) fun M W0 => ?_
  refine KC.seq ?_
  refine KC.region ?_
  refine KT.step rfl rfl (K.assign rfl) ?_
  refine KT.nil ?_
  refine thenK_n ?_
  refine KC.seq ?_
  refine KC.seq ?_
  refine KC.region ?_
  refine KT.step rfl rfl (K.move rfl) ?_
  refine KT.step rfl rfl (K.len rfl (by assumption) Try.underlying30) ?_
  refine KT.step rfl rfl (K.move rfl) ?_
  refine KT.step rfl rfl (K.len rfl (by assumption) Try.underlying30) ?_
  refine KT.step rfl rfl (K.neq rfl rfl) ?_
  refine KT.nil ?_
  refine thenK_n ?_
  refine KC.cond rfl (fun hc10 => ?_) (fun hc10 => ?_)
  · skip
    replace hc10 := of_decide_eq_true hc10
    refine KC.seq ?_
    refine KC.region ?_
    refine KT.step rfl rfl (K.assign rfl) ?_
    refine KT.nil ?_
    refine thenK_n ?_
    refine KC.ret ?_
    refine thenK_r ?_
    exact ⟨.inl rfl, _, rfl, fin_b (decide_eq_false fun h => by subst h; omega)⟩
  · skip
    replace hc10 := of_decide_eq_false hc10
    refine KC.skip ?_
    refine thenK_n ?_
    refine KC.seq ?_
    refine KC.seq ?_
    refine KC.region ?_
    refine KT.step rfl rfl (K.move rfl) ?_
    refine KT.step rfl rfl (K.len rfl (by assumption) Try.underlying30) ?_
    refine KT.step rfl rfl (K.move rfl) ?_
    refine KT.nil ?_
    refine thenK_n ?_
    refine KC.block ?_
    refine KC.loop (fun _ : Nat => []) (fun i => [(0, .d d), (1, .d e), (12, .d (DI x.length)), (13, .d (DI i))]) (fun i => i ≤ x.length ∧ x.take i = y.take i) (fun i => x.length - i) 0 ⟨Nat.zero_le _, rfl⟩ rfl (by simp [Go.Vm.look, extK, enterK]) ?_
    intro i hi
    obtain ⟨hi, hall⟩ := hi
    refine KC.seq ?_
    refine KC.region ?_
    refine KT.step rfl rfl (K.lss rfl rfl) ?_
    refine KT.nil ?_
    refine thenK_n ?_
    refine KC.seq ?_
    refine KC.cond rfl (fun hc14 => ?_) (fun hc14 => ?_)
    · skip
      replace hc14 := of_decide_eq_true hc14
      refine KC.skip ?_
      refine thenK_n ?_
      refine KC.seq ?_
      refine KC.block ?_
      refine KC.seq ?_
      refine KC.region ?_
      refine KT.step rfl rfl (K.move rfl) ?_
      refine KT.step rfl rfl (K.assign rfl) ?_
      refine KT.nil ?_
      refine thenK_n ?_
      refine KC.seq ?_
      refine KC.draw Try.mixed ?_
      refine KT.step rfl rfl (K.move rfl) ?_
      refine KT.step rfl rfl (K.move rfl) ?_
      refine KT.idxI rfl rfl rfl (by assumption) rfl (by omega) Try.underlying30 Try.size3 fun cs18 => ?_
      refine KT.step rfl rfl (K.load rfl Try.agg3) ?_
      refine KT.step rfl rfl (K.move rfl) ?_
      refine KT.step rfl rfl (K.move rfl) ?_
      refine KT.idxI rfl rfl rfl (by assumption) rfl (by omega) Try.underlying30 Try.size3 fun cs22 => ?_
      refine KT.step rfl rfl (K.load rfl Try.agg3) ?_
      refine KT.step rfl rfl (K.neq rfl rfl) ?_
      refine KT.nil ?_
      refine ⟨by kernel_rfl, ?_⟩
      refine thenK_n ?_
      refine KC.cond rfl (fun hc24 => ?_) (fun hc24 => ?_)
      · skip
        replace hc24 := of_decide_eq_true hc24
        refine KC.seq ?_
        refine KC.region ?_
        refine KT.step rfl rfl (K.assign rfl) ?_
        refine KT.nil ?_
        refine thenK_n ?_
        refine KC.ret ?_
        refine blockK_r ?_
        refine thenK_r ?_
        refine thenK_r ?_
        refine blockK_r ?_
        refine thenK_r ?_
        exact ⟨.inl rfl, _, rfl, fin_b (decide_eq_false fun h => by subst h; exact hc24 rfl)⟩
      · skip
        replace hc24 := of_decide_eq_false hc24
        refine KC.skip ?_
        refine blockK_n ?_
        refine thenK_n ?_
        refine KC.region ?_
        refine KT.step rfl rfl (K.add rfl rfl (wrap_id (by omega))) ?_
        refine KT.step rfl rfl (K.move rfl) ?_
        refine KT.nil ?_
        refine thenK_n ?_
        refine ⟨i + 1, ⟨by omega, ?_⟩, by omega, rfl, by simp [Go.Vm.look, extK]⟩
        rw [List.take_succ_eq_append_getElem (by omega), List.take_succ_eq_append_getElem (by omega), hall, Classical.not_not.1 hc24]
    · skip
      replace hc14 := of_decide_eq_false hc14
      refine KC.exit ?_
      refine thenK_x ?_
      refine thenK_x ?_
      refine blockK_e ?_
      refine thenK_n ?_
      refine KC.seq ?_
      refine KC.region ?_
      refine KT.step rfl rfl (K.assign rfl) ?_
      refine KT.nil ?_
      refine thenK_n ?_
      refine KC.ret ?_
      have hx : x.take i = x := List.take_of_length_le (by omega)
      have hy : y.take i = y := List.take_of_length_le (by omega)
      rw [hx, hy] at hall
      exact ⟨.inl rfl, _, rfl, fin_b (decide_eq_true hall)⟩
theorem filt_get {α : Type} {p : α → Bool} {l : List α} {i : Nat} (h : i < l.length) (hp : p l[i] = true) : (l.filter p)[((l.take i).filter p).length]? = some l[i] := by
  conv => lhs; rw [← List.take_append_drop i l]
  rw [List.filter_append, List.take_append_drop, List.getElem?_append_right (Nat.le_refl _), Nat.sub_self, List.drop_eq_getElem_cons h, List.filter_cons_of_pos hp]; rfl
theorem ris_eq {ms : List (List Int)} (hd : ms.Nodup) : risV ms = .sl ((sortM ms).map numV) ((sortM ms).map numV).length (some ms.length) := by
  unfold risV; rw [List.length_map, sortM_len hd]
theorem done_mark {pre post : List (List Int)} {start : List Int} {fs : List Ent} (hv : validB pre post start = true) (h : reachE (nxN pre post) pre.length 2000 start = some fs) {m : List Int} (hm : m ∈ marks fs) : markB m start.length = true := by
  have hD := done_of hv h
  obtain ⟨e, he, rfl⟩ := List.mem_map.1 hm
  obtain ⟨i, hi, rfl⟩ := List.getElem_of_mem he
  obtain ⟨h1, h2⟩ := hD.ok i _ (List.getElem?_eq_getElem hi)
  have hle := hD.le
  unfold markB
  rw [h1, decide_eq_true rfl, Bool.true_and, List.all_eq_true]
  intro x hx
  have := h2 x hx
  unfold markI
  rw [decide_eq_true (show 0 ≤ x by omega), decide_eq_true (show x ≤ 1073741824 by omega)]; simp
theorem fireD_dead {pre post : List (List Int)} {start m : List Int} {t : Nat} (h1 : validB pre post start = true) (h2 : markB m start.length = true) (ht : t < pre.length) : ∃ s, fireD pre post start m (t : Int) = .tup [s, DI (if withinB pre[t] m then 0 else 5)] := by
  rw [fireD_ok h1 h2 ht (by rw [(NetOk.of h1).pp]; exact ht)]
  by_cases hw : withinB pre[t] m = true
  · exact ⟨_, by rw [if_pos hw, if_pos hw]⟩
  · exact ⟨_, by rw [if_neg hw, if_neg hw]⟩
set_option maxHeartbeats 2000000 in
set_option maxRecDepth 10000 in
theorem law10 {a b c : DV} {pre post : List (List Int)} {start : List Int} (h : NetD a b c pre post start) : DeepCall Try.prog 10 [.agg [a, b, c]] (DB true) := by
  have h9 := h
  obtain ⟨ha, hb, hc, l1, l2, l3, r1, r2⟩ := h9
  have c1 := Reach12 h.cp
  have c3 := Dead15 h.cp
  rw [rchD_cp] at c1
  rw [dedD_cp] at c3
  unfold rchD at c1
  unfold dedD at c3
  refine deepCall_K 5 Try.func10 rfl (Nat.le_of_ble_eq_true rfl) fun M W0 => ?_
  refine KC.seq ?_
  refine KC.region ?_
  refine KT.step rfl rfl (K.box rfl) ?_
  refine KT.step rfl rfl (K.assign rfl) ?_
  refine KT.nil ?_
  refine thenK_n ?_
  refine KC.seq ?_
  refine KC.region ?_
  refine KT.step rfl rfl (K.loadOA [a, b, c] rfl rfl (by decide) Try.agg25 Try.size25 rfl) ?_
  refine KT.step rfl rfl (K.call1 rfl plainTry_13 (of13 h)) ?_
  rcases hxo : xOf pre post start with _ | fs
  · skip
    rw [hxo] at c1 c3
    obtain ⟨_, hxe⟩ := xOf_no hxo
    refine KT.step rfl rfl (K.call1 rfl plainTry_12 c1) ?_
    refine KT.step rfl rfl (K.move rfl) ?_
    refine KT.step rfl rfl (K.extract rfl rfl) ?_
    refine KT.step rfl rfl (K.extract rfl rfl) ?_
    refine KT.step rfl rfl (K.assign rfl) ?_
    refine KT.step rfl rfl (K.assign rfl) ?_
    refine KT.nil ?_
    refine thenK_n ?_
    refine KC.seq ?_
    refine KC.region ?_
    refine KT.step rfl rfl (K.loadOA [a, b, c] rfl rfl (by decide) Try.agg25 Try.size25 rfl) ?_
    refine KT.step rfl rfl (K.call1 rfl plainTry_13 (of13 h)) ?_
    refine KT.step rfl rfl (K.call1 rfl plainTry_15 c3) ?_
    refine KT.step rfl rfl (K.move rfl) ?_
    refine KT.step rfl rfl (K.extract rfl rfl) ?_
    refine KT.step rfl rfl (K.extract rfl rfl) ?_
    refine KT.step rfl rfl (K.assign rfl) ?_
    refine KT.step rfl rfl (K.assign rfl) ?_
    refine KT.nil ?_
    refine thenK_n ?_
    refine KC.seq ?_
    refine KC.seq ?_
    refine KC.region ?_
    refine KT.step rfl rfl (K.move rfl) ?_
    refine KT.step rfl rfl (K.neq rfl rfl) ?_
    refine KT.step rfl rfl (K.move rfl) ?_
    refine KT.bcase (fun hb28 => ?_) (fun hb28 => ?_)
    · skip
      replace hb28 := of_decide_eq_true hb28
      refine KT.skip rfl rfl ?_
      refine KT.skip rfl rfl ?_
      refine KT.step rfl rfl (K.pick rfl (fun _ => rfl) (fun h => by cases h)) ?_
      refine KT.nil ?_
      refine thenK_n ?_
      refine KC.cond rfl (fun hc31 => ?_) (fun hc31 => ?_)
      · skip
        refine KC.seq ?_
        refine KC.region ?_
        refine KT.step rfl rfl (K.move rfl) ?_
        refine KT.step rfl rfl (K.move rfl) ?_
        refine KT.step rfl rfl (K.eql rfl rfl) ?_
        refine KT.step rfl rfl (K.move rfl) ?_
        refine KT.bcase (fun hb35 => ?_) (fun hb35 => ?_)
        · skip
          replace hb35 := of_decide_eq_true hb35
          refine KT.step rfl rfl (K.move rfl) ?_
          refine KT.step rfl rfl (K.eql rfl rfl) ?_
          refine KT.step rfl rfl (K.move rfl) ?_
          refine KT.bcase (fun hb38 => ?_) (fun hb38 => ?_)
          · skip
            replace hb38 := of_decide_eq_true hb38
            refine KT.skip rfl rfl ?_
            refine KT.skip rfl rfl ?_
            refine KT.step rfl rfl (K.pick rfl (fun _ => rfl) (fun h => by cases h)) ?_
            refine KT.step rfl rfl (K.pick rfl (fun _ => rfl) (fun h => by cases h)) ?_
            refine KT.step rfl rfl (K.move rfl) ?_
            refine KT.step rfl rfl (K.call0 plainTry_19 (awake19)) ?_
            refine KT.step rfl rfl (K.pick rfl (fun _ => rfl) (fun h => by cases h)) ?_
            refine KT.step rfl rfl (K.assign rfl) ?_
            refine KT.nil ?_
            refine thenK_n ?_
            refine KC.ret ?_
            refine thenK_r ?_
            exact ⟨.inl rfl, _, rfl, fin_d rfl⟩
          · skip
            replace hb38 := of_decide_eq_false hb38
            refine KT.step rfl rfl (K.move rfl) ?_
            refine KT.step rfl rfl (K.eql rfl rfl) ?_
            refine KT.step rfl rfl (K.pick rfl (fun h => by cases h) (fun _ => rfl)) ?_
            refine KT.step rfl rfl (K.pick rfl (fun _ => rfl) (fun h => by cases h)) ?_
            refine KT.step rfl rfl (K.move rfl) ?_
            refine KT.bcase (fun hb43 => ?_) (fun hb43 => ?_)
            · skip
              replace hb43 := of_decide_eq_true hb43
              refine KT.step rfl rfl (K.call0 plainTry_19 (awake19)) ?_
              refine KT.step rfl rfl (K.pick rfl (fun _ => rfl) (fun h => by cases h)) ?_
              refine KT.step rfl rfl (K.assign rfl) ?_
              refine KT.nil ?_
              refine thenK_n ?_
              refine KC.ret ?_
              refine thenK_r ?_
              exact ⟨.inl rfl, _, rfl, fin_d rfl⟩
            · skip
              rcases hxe with h | h <;> simp [h] at hb38 hb43
        · skip
          exact absurd hb35 (by simp)
      · cases hc31
    · skip
      rcases hxe with h | h <;> rw [h] at hb28 <;> simp at hb28
  · skip
    rw [hxo] at c1 c3
    obtain ⟨hv, hre, _, hxe⟩ := xOf_yes hxo
    rw [hxe] at c1 c3
    simp only at c1 c3
    have hD := done_of hv hre
    have hN := NetOk.of hv
    have hn0 := hN.n0
    have hn6 := hN.n6
    obtain ⟨hlen, _⟩ := inv_bnd hD.toInvE (by have := hD.le; omega)
    rw [ris_eq hD.nd] at c1
    rw [ris_eq (hD.nd.filter _), sortM_filter hD.nd] at c3
    obtain ⟨X, hX⟩ : ∃ X, X = sortM (marks fs) := ⟨_, rfl⟩
    rw [← hX] at c1 c3
    have hXm : ∀ m ∈ X, m ∈ marks fs := fun m hm => by rw [hX] at hm; exact sortM_mem hm
    have hXl : ∀ m ∈ X, m.length = start.length := fun m hm => hlen m (hXm m hm)
    have hXn : X.length ≤ 2000 := by rw [hX, sortM_len hD.nd, marks_len]; exact hD.le
    have hFn : (X.filter (stopB pre post)).length ≤ X.length := List.length_filter_le _ _
    have lX : (X.map numV).length = X.length := List.length_map ..
    have lF : ((X.filter (stopB pre post)).map numV).length = (X.filter (stopB pre post)).length := List.length_map ..
    refine KT.step rfl rfl (K.call1 rfl plainTry_12 c1) ?_
    refine KT.step rfl rfl (K.move rfl) ?_
    refine KT.step rfl rfl (K.extract rfl rfl) ?_
    refine KT.step rfl rfl (K.extract rfl rfl) ?_
    refine KT.step rfl rfl (K.assign rfl) ?_
    refine KT.step rfl rfl (K.assign rfl) ?_
    refine KT.nil ?_
    refine thenK_n ?_
    refine KC.seq ?_
    refine KC.region ?_
    refine KT.step rfl rfl (K.loadOA [a, b, c] rfl rfl (by decide) Try.agg25 Try.size25 rfl) ?_
    refine KT.step rfl rfl (K.call1 rfl plainTry_13 (of13 h)) ?_
    refine KT.step rfl rfl (K.call1 rfl plainTry_15 c3) ?_
    refine KT.step rfl rfl (K.move rfl) ?_
    refine KT.step rfl rfl (K.extract rfl rfl) ?_
    refine KT.step rfl rfl (K.extract rfl rfl) ?_
    refine KT.step rfl rfl (K.assign rfl) ?_
    refine KT.step rfl rfl (K.assign rfl) ?_
    refine KT.nil ?_
    refine thenK_n ?_
    refine KC.seq ?_
    refine KC.seq ?_
    refine KC.region ?_
    refine KT.step rfl rfl (K.move rfl) ?_
    refine KT.step rfl rfl (K.neq rfl rfl) ?_
    refine KT.step rfl rfl (K.move rfl) ?_
    refine KT.bcase (fun hb28 => ?_) (fun hb28 => ?_)
    · skip
      exact absurd hb28 (by simp)
    · skip
      replace hb28 := of_decide_eq_false hb28
      refine KT.step rfl rfl (K.move rfl) ?_
      refine KT.step rfl rfl (K.neq rfl rfl) ?_
      refine KT.step rfl rfl (K.pick rfl (fun h => by cases h) (fun _ => rfl)) ?_
      refine KT.nil ?_
      refine thenK_n ?_
      refine KC.cond rfl (fun hc31 => ?_) (fun hc31 => ?_)
      · skip
        exact absurd hc31 (by simp)
      · skip
        replace hc31 := of_decide_eq_false hc31
        refine KC.skip ?_
        refine thenK_n ?_
        refine KC.seq ?_
        refine KC.region ?_
        refine KT.step rfl rfl (K.assign rfl) ?_
        refine KT.nil ?_
        refine thenK_n ?_
        refine KC.seq ?_
        refine KC.seq ?_
        refine KC.region ?_
        refine KT.step rfl rfl (K.move rfl) ?_
        refine KT.step rfl rfl (K.len (l := X.map numV) rfl (slc_vec (.inr ⟨_, rfl⟩)) Try.underlying26) ?_
        refine KT.step rfl rfl (K.move rfl) ?_
        refine KT.nil ?_
        refine thenK_n ?_
        refine KC.block ?_
        refine KC.loop (fun _ : Nat => [⟨[.d a, .d b, .d c], 0⟩]) (fun i => [(1, .optr 0 0), (5, .d (.sl ((X.filter (stopB pre post)).map numV) ((X.filter (stopB pre post)).map numV).length (some ((marks fs).filter (stopB pre post)).length))), (7, .d (DI (((X.take i).filter (stopB pre post)).length : Nat))), (46, .d (.sl (X.map numV) (X.map numV).length (some (marks fs).length))), (47, .d (DI ((X.map numV).length : Nat))), (48, .d (DI (i : Nat)))]) (fun i => i ≤ X.length) (fun i => X.length - i) 0 (Nat.zero_le _) rfl (by simp [Go.Vm.look, extK, enterK]) ?_
        intro i hi
        refine KC.seq ?_
        refine KC.region ?_
        refine KT.step rfl rfl (K.lss rfl rfl) ?_
        refine KT.nil ?_
        refine thenK_n ?_
        refine KC.seq ?_
        refine KC.cond rfl (fun hc49 => ?_) (fun hc49 => ?_)
        · skip
          replace hc49 := of_decide_eq_true hc49
          have hic : i < (X.map numV).length := by omega
          have hiX : i < X.length := by omega
          refine KC.skip ?_
          refine thenK_n ?_
          refine KC.seq ?_
          refine KC.block ?_
          refine KC.seq ?_
          refine KC.region ?_
          refine KT.step rfl rfl (K.idxDK (k := 1) (m := i) rfl rfl hic Try.underlying26 Try.size30) ?_
          rw [Nat.mul_one, List.drop_eq_getElem_cons hic, List.getElem_map]
          refine KT.step rfl rfl (K.load rfl Try.agg30) ?_
          refine KT.step rfl rfl (K.assign rfl) ?_
          refine KT.nil ?_
          refine thenK_n ?_
          refine KC.seq ?_
          refine KC.region ?_
          refine KT.step rfl rfl (K.assign rfl) ?_
          refine KT.nil ?_
          refine thenK_n ?_
          refine KC.seq ?_
          refine KC.seq ?_
          refine KC.region ?_
          refine KT.step rfl rfl (K.fieldAddrO rfl Try.fld25_0 Try.size22) ?_
          refine KT.step rfl rfl (K.loadO (y := .d a) rfl rfl (by simp) rfl Try.agg22) ?_
          refine KT.step rfl rfl (K.len rfl ha Try.underlying22) ?_
          refine KT.step rfl rfl (K.move rfl) ?_
          refine KT.nil ?_
          refine thenK_n ?_
          refine KC.block ?_
          refine KC.loop (fun _ : Nat => [⟨[.d a, .d b, .d c], 0⟩]) (fun t => [(1, .optr 0 0), (5, .d (.sl ((X.filter (stopB pre post)).map numV) ((X.filter (stopB pre post)).map numV).length (some ((marks fs).filter (stopB pre post)).length))), (7, .d (DI (((X.take i).filter (stopB pre post)).length : Nat))), (9, .d (numV X[i])), (10, .d (DB ((List.range t).all fun u => !withinB (pre.getD u []) X[i]))), (46, .d (.sl (X.map numV) (X.map numV).length (some (marks fs).length))), (47, .d (DI ((X.map numV).length : Nat))), (48, .d (DI (i : Nat))), (54, .d (DI (pre.length : Nat))), (55, .d (DI (t : Nat)))]) (fun t => t ≤ pre.length) (fun t => pre.length - t) 0 (Nat.zero_le _) rfl (by simp [Go.Vm.look, extK, enterK]) ?_
          intro t ht
          refine KC.seq ?_
          refine KC.region ?_
          refine KT.step rfl rfl (K.lss rfl rfl) ?_
          refine KT.nil ?_
          refine thenK_n ?_
          refine KC.seq ?_
          refine KC.cond rfl (fun hc56 => ?_) (fun hc56 => ?_)
          · skip
            replace hc56 := of_decide_eq_true hc56
            have htl : t < pre.length := by omega
            refine KC.skip ?_
            refine thenK_n ?_
            refine KC.seq ?_
            refine KC.block ?_
            refine KC.seq ?_
            refine KC.region ?_
            refine KT.step rfl rfl (K.move rfl) ?_
            refine KT.step rfl rfl (K.assign rfl) ?_
            refine KT.nil ?_
            refine thenK_n ?_
            refine KC.seq ?_
            refine KC.region ?_
            refine KT.step rfl rfl (K.loadOA [a, b, c] rfl rfl (by decide) Try.agg25 Try.size25 rfl) ?_
            refine KT.step rfl rfl (K.call1 rfl plainTry_13 (of13 h)) ?_
            refine KT.step rfl rfl (K.move rfl) ?_
            refine KT.step rfl rfl (K.move rfl) ?_
            obtain ⟨s6, hs6⟩ := fireD_dead (m := X[i]) hv (done_mark hv hre (hXm _ (List.getElem_mem hiX))) htl
            have c6 := fire39 (t := (t : Nat)) h.cp (numV_ints X[i] (by rw [hXl _ (List.getElem_mem hiX)]; exact hn0)) (by rw [hXl _ (List.getElem_mem hiX)]; omega)
            obtain ⟨ec1, ec2, ec3⟩ := valid_cp (.inl hv)
            rw [ec1, ec2, ec3, hs6] at c6
            refine KT.step rfl rfl (K.call3 rfl rfl rfl plainTry_39 c6) ?_
            refine KT.step rfl rfl (K.move rfl) ?_
            refine KT.step rfl rfl (K.extract rfl rfl) ?_
            refine KT.step rfl rfl (K.extract rfl rfl) ?_
            refine KT.step rfl rfl (K.assign rfl) ?_
            refine KT.step rfl rfl (K.assign rfl) ?_
            refine KT.nil ?_
            refine thenK_n ?_
            refine KC.region ?_
            refine KT.step rfl rfl (K.move rfl) ?_
            refine KT.step rfl rfl (K.move rfl) ?_
            refine KT.bcase (fun hb67 => ?_) (fun hb67 => ?_)
            · skip
              refine KT.step rfl rfl (K.move rfl) ?_
              refine KT.step rfl rfl (K.eql rfl rfl) ?_
              refine KT.step rfl rfl (K.pick rfl (fun _ => rfl) (fun h => by cases h)) ?_
              refine KT.step rfl rfl (K.assign rfl) ?_
              refine KT.nil ?_
              refine blockK_n ?_
              refine thenK_n ?_
              refine KC.region ?_
              refine KT.step rfl rfl (K.add rfl rfl (wrap_id (by omega))) ?_
              refine KT.step rfl rfl (K.move rfl) ?_
              refine KT.nil ?_
              refine thenK_n ?_
              refine ⟨t + 1, by omega, by omega, rfl, ?_⟩
              rw [range_all, hb67]
              by_cases hw : withinB pre[t] X[i] = true <;> simp [Go.Vm.look, extK, List.getElem?_eq_getElem htl, hw]
            · skip
              refine KT.skip rfl rfl ?_
              refine KT.skip rfl rfl ?_
              refine KT.step rfl rfl (K.pick rfl (fun h => by cases h) (fun _ => rfl)) ?_
              refine KT.step rfl rfl (K.assign rfl) ?_
              refine KT.nil ?_
              refine blockK_n ?_
              refine thenK_n ?_
              refine KC.region ?_
              refine KT.step rfl rfl (K.add rfl rfl (wrap_id (by omega))) ?_
              refine KT.step rfl rfl (K.move rfl) ?_
              refine KT.nil ?_
              refine thenK_n ?_
              refine ⟨t + 1, by omega, by omega, rfl, ?_⟩
              rw [range_all, hb67]
              by_cases hw : withinB pre[t] X[i] = true <;> simp [Go.Vm.look, extK, List.getElem?_eq_getElem htl, hw]
          · skip
            replace hc56 := of_decide_eq_false hc56
            refine KC.exit ?_
            refine thenK_x ?_
            refine thenK_x ?_
            refine blockK_e ?_
            refine thenK_n ?_
            refine KC.seq ?_
            refine KC.region ?_
            refine KT.step rfl rfl (K.move rfl) ?_
            refine KT.nil ?_
            refine thenK_n ?_
            refine KC.cond rfl (fun hc72 => ?_) (fun hc72 => ?_)
            · skip
              obtain rfl : t = pre.length := by omega
              have hst : stopB pre post X[i] = true := by rw [stop_all]; exact hc72
              have hg := filt_get hiX hst
              have hkl := (List.getElem?_eq_some_iff.1 hg).1
              have hkf : ((X.take i).filter (stopB pre post)).length < ((X.filter (stopB pre post)).map numV).length := by omega
              have hfk : ((X.filter (stopB pre post)).map numV)[((X.take i).filter (stopB pre post)).length] = numV X[i] := by rw [List.getElem_map]; congr 1; exact (List.getElem?_eq_some_iff.1 hg).2
              refine KC.seq ?_
              refine KC.seq ?_
              refine KC.region ?_
              refine KT.step rfl rfl (K.move rfl) ?_
              refine KT.step rfl rfl (K.move rfl) ?_
              refine KT.step rfl rfl (K.len (l := (X.filter (stopB pre post)).map numV) rfl (slc_vec (.inr ⟨_, rfl⟩)) Try.underlying26) ?_
              refine KT.step rfl rfl (K.geq rfl rfl) ?_
              refine KT.step rfl rfl (K.move rfl) ?_
              refine KT.bcase (fun hb77 => ?_) (fun hb77 => ?_)
              · skip
                have h9 := of_decide_eq_true hb77
                exfalso
                omega
              · skip
                replace hb77 := of_decide_eq_false hb77
                refine KT.step rfl rfl (K.move rfl) ?_
                refine KT.step rfl rfl (K.move rfl) ?_
                refine KT.step rfl rfl (K.idxDK (k := 1) (m := ((X.take i).filter (stopB pre post)).length) rfl rfl hkf Try.underlying26 Try.size30) ?_
                rw [Nat.mul_one, List.drop_eq_getElem_cons hkf, hfk]
                refine KT.step rfl rfl (K.load rfl Try.agg30) ?_
                refine KT.step rfl rfl (K.move rfl) ?_
                refine KT.step rfl rfl (K.call2 rfl rfl plainTry_37 (equal37 (numV_ints X[i] (by rw [hXl _ (List.getElem_mem hiX)]; exact hn0)) (numV_ints X[i] (by rw [hXl _ (List.getElem_mem hiX)]; exact hn0)) (by rw [hXl _ (List.getElem_mem hiX)]; omega))) ?_
                refine KT.step rfl rfl (K.not rfl) ?_
                refine KT.step rfl rfl (K.pick rfl (fun h => by cases h) (fun _ => rfl)) ?_
                refine KT.nil ?_
                refine thenK_n ?_
                refine KC.cond rfl (fun hc85 => ?_) (fun hc85 => ?_)
                · skip
                  exact absurd hc85 (by simp)
                · skip
                  refine KC.skip ?_
                  refine thenK_n ?_
                  refine KC.region ?_
                  refine KT.step rfl rfl (K.move rfl) ?_
                  refine KT.step rfl rfl (K.add rfl rfl (wrap_id (by omega))) ?_
                  refine KT.step rfl rfl (K.assign rfl) ?_
                  refine KT.nil ?_
                  refine blockK_n ?_
                  refine thenK_n ?_
                  refine KC.region ?_
                  refine KT.step rfl rfl (K.add rfl rfl (wrap_id (by omega))) ?_
                  refine KT.step rfl rfl (K.move rfl) ?_
                  refine KT.nil ?_
                  refine thenK_n ?_
                  refine ⟨i + 1, by omega, by omega, rfl, ?_⟩
                  rw [filt_succ hiX, if_pos hst, List.length_append]
                  simp [Go.Vm.look, extK]
            · skip
              obtain rfl : t = pre.length := by omega
              have hst : ¬ stopB pre post X[i] = true := by rw [stop_all, hc72]; simp
              refine KC.skip ?_
              refine blockK_n ?_
              refine thenK_n ?_
              refine KC.region ?_
              refine KT.step rfl rfl (K.add rfl rfl (wrap_id (by omega))) ?_
              refine KT.step rfl rfl (K.move rfl) ?_
              refine KT.nil ?_
              refine thenK_n ?_
              refine ⟨i + 1, by omega, by omega, rfl, ?_⟩
              rw [filt_succ hiX, if_neg hst]
              simp [Go.Vm.look, extK]
        · skip
          replace hc49 := of_decide_eq_false hc49
          refine KC.exit ?_
          refine thenK_x ?_
          refine thenK_x ?_
          refine blockK_e ?_
          refine thenK_n ?_
          refine KC.seq ?_
          refine KC.region ?_
          refine KT.step rfl rfl (K.move rfl) ?_
          refine KT.step rfl rfl (K.move rfl) ?_
          refine KT.step rfl rfl (K.len (l := (X.filter (stopB pre post)).map numV) rfl (slc_vec (.inr ⟨_, rfl⟩)) Try.underlying26) ?_
          refine KT.step rfl rfl (K.eql rfl rfl) ?_
          refine KT.step rfl rfl (K.move rfl) ?_
          refine KT.bcase (fun hb93 => ?_) (fun hb93 => ?_)
          · skip
            replace hb93 := of_decide_eq_true hb93
            refine KT.step rfl rfl (K.call0 plainTry_19 (awake19)) ?_
            refine KT.step rfl rfl (K.pick rfl (fun _ => rfl) (fun h => by cases h)) ?_
            refine KT.step rfl rfl (K.assign rfl) ?_
            refine KT.nil ?_
            refine thenK_n ?_
            refine KC.ret ?_
            exact ⟨.inl rfl, _, rfl, fin_d rfl⟩
          · skip
            have h9 := of_decide_eq_false hb93
            exfalso
            apply h9
            rw [List.take_of_length_le (show X.length ≤ i by omega), lF]
end Go.Proofs.Ytocgjopmlhpjdaa

