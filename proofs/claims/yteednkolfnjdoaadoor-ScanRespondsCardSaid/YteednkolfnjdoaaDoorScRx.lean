import Derived.Test.YteednkolfnjdoaaDoorScRv
import Derived.Test.YteednkolfnjdoaaDoorScN
/-
  Controllers: the law on responses.
-/
namespace Go.Proofs.YteednkolfnjdoaaDoor
open Go.Vm Go.Sc
theorem row_is {m : Nat} {nx ou : List (List Int)} (hv : VM m nx ou) {s : Nat} (hs : s < nx.length) : ou.getD s [] = (List.range m).map fun i => ouF ou s i := by
  have h1 := hv.a1
  have h3 := (hv.out (i := 0) hs (by omega)).2.2
  refine List.ext_getElem (by rw [List.length_map, List.length_range]; omega) fun i a b => ?_
  simp only [List.getElem_map, List.getElem_range]
  rw [get_D]; rfl
theorem outR_mat {m : Nat} {nx ou : List (List Int)} (hv : VM m nx ou) {od : DV} (ho : Mat od ou) : Mat (outR m nx ou od) (minO m nx.length (nxF nx) (ouF ou)) := by
  obtain ⟨hSl, hS0, hScl, hSre⟩ := stL_ok hv
  have hK : Kept m (nxF nx) (ouF ou) (stL m nx) (kfL m nx ou) (kcL m nx ou) := by
    have key : ∀ j, j ≤ (stL m nx).length → ∃ C, Kept m (nxF nx) (ouF ou) ((stL m nx).take j) (keepK m (nxF nx) (ouF ou) ((stL m nx).take j)) C := by
      intro j
      induction j with
      | zero => exact fun _ => ⟨fun _ => 0, .nil _⟩
      | succ j ih =>
        intro hj
        obtain ⟨C, hC⟩ := ih (by omega)
        rw [List.take_succ_eq_append_getElem (by omega), keepK_snoc]
        by_cases he : ∃ x ∈ keepK m (nxF nx) (ouF ou) ((stL m nx).take j), Eqv m (nxF nx) (ouF ou) (stL m nx)[j] x
        · obtain ⟨x, hx, hxe⟩ := he
          obtain ⟨c, hc⟩ := List.getElem?_of_mem hx
          rw [keepS_old hc hxe]
          exact ⟨_, hC.old hc hxe⟩
        · have hno : ∀ x ∈ keepK m (nxF nx) (ouF ou) ((stL m nx).take j), ¬ Eqv m (nxF nx) (ouF ou) (stL m nx)[j] x := fun x hx h => he ⟨x, hx, h⟩
          rw [keepS_new hno]
          exact ⟨_, hC.new hno⟩
    obtain ⟨C, hC⟩ := key _ (Nat.le_refl _)
    rw [List.take_of_length_le (Nat.le_refl _)] at hC
    exact hC.re
  obtain ⟨_, _, _, hGF, hGl, hGn, _, _, hm2⟩ := clsM hv hK
  rw [← hm2]
  unfold outR
  rw [← numO_len (gsL m nx ou) (qo (ouF ou) (kfL m nx ou)) m]
  refine Vec.sl (by simp [numO_len]) fun i c x hc hx => ?_
  unfold numO at hx
  rw [List.getElem?_map] at hc hx
  cases hp : (gsL m nx ou)[i]? with
  | none => rw [hp] at hc; cases hc
  | some p =>
    rw [hp] at hc hx
    cases hc; cases hx
    have hs := hSl _ (hK.mem (hGl p (List.mem_of_getElem? hp)))
    have hol := hv.oul
    have := getV_vec ho (m := (kfL m nx ou).getD p.1 0) (by omega)
    rw [show ou[(kfL m nx ou).getD p.1 0]'(by omega) = (List.range m).map fun i => qo (ouF ou) (kfL m nx ou) p.1 i by
      rw [← show ou.getD ((kfL m nx ou).getD p.1 0) [] = ou[(kfL m nx ou).getD p.1 0]'(by omega) by rw [List.getD_eq_getElem?_getD, List.getElem?_eq_getElem (by omega)]; rfl]; exact row_is hv hs] at this
    exact this
set_option maxRecDepth 10000 in
theorem empty34 : DeepCall Tryd.prog 34 [.agg [DI 0, Dnil, Dnil]] (DB true) := by
  refine deepCall_K 5 Tryd.func34 rfl (Nat.le_of_ble_eq_true rfl) fun M W0 => ?_
  refine KC.seq ?_
  refine KC.region ?_
  refine KT.step rfl rfl (K.box rfl) ?_
  refine KT.step rfl rfl (K.assign rfl) ?_
  refine KT.nil ?_
  refine thenK_n ?_
  refine KC.seq ?_
  refine KC.region ?_
  refine KT.step rfl rfl (K.fieldAddrO rfl Tryd.fld58_0 Tryd.size3) ?_
  refine KT.step rfl rfl (K.loadO rfl rfl (by simp) rfl Tryd.agg3) ?_
  refine KT.step rfl rfl (K.eql rfl rfl) ?_
  refine KT.step rfl rfl (K.move rfl) ?_
  refine KT.bcase (fun hb6 => ?_) (fun hb6 => ?_)
  · skip
    replace hb6 := of_decide_eq_true hb6
    refine KT.step rfl rfl (K.fieldAddrO rfl Tryd.fld58_1 Tryd.size56) ?_
    refine KT.step rfl rfl (K.loadO rfl rfl (by simp) rfl Tryd.agg56) ?_
    refine KT.step rfl rfl (K.len (R := IsI) (l := []) rfl .nil Tryd.underlying56) ?_
    refine KT.step rfl rfl (K.fieldAddrO rfl Tryd.fld58_2 Tryd.size56) ?_
    refine KT.step rfl rfl (K.loadO rfl rfl (by simp) rfl Tryd.agg56) ?_
    refine KT.step rfl rfl (K.len (R := IsI) (l := []) rfl .nil Tryd.underlying56) ?_
    refine KT.step rfl rfl (K.add rfl rfl (wrap_id (by simp))) ?_
    refine KT.step rfl rfl (K.eql rfl rfl) ?_
    refine KT.step rfl rfl (K.pick rfl (fun _ => rfl) (fun h => by cases h)) ?_
    refine KT.step rfl rfl (K.assign rfl) ?_
    refine KT.nil ?_
    refine thenK_n ?_
    refine KC.ret ?_
    exact ⟨.inl rfl, _, rfl, fin_d rfl⟩
  · skip
    simp at hb6
set_option maxHeartbeats 1600000 in
set_option maxRecDepth 10000 in
theorem sameM35 {a b : Int} {nx ou nx2 ou2 : List (List Int)} {d2 e2 : DV} (h2 : Mat d2 nx2) (h3 : Mat e2 ou2) (hlo : ou.length = nx.length) (hr1 : ∀ r ∈ nx, r.length ≤ 9223372036854775807) (hr2 : ∀ r ∈ ou, r.length ≤ 9223372036854775807) (hln : nx.length ≤ 9223372036854775807) : DeepCall Tryd.prog 35 [.agg [DI a, matV nx, matV ou], .agg [DI b, d2, e2]] (DB (decide (a = b ∧ nx = nx2 ∧ ou = ou2))) := by
  refine deepCall_K 5 Tryd.func35 rfl (Nat.le_of_ble_eq_true rfl) fun M W0 => ?_
  refine KC.seq ?_
  refine KC.region ?_
  refine KT.step rfl rfl (K.box rfl) ?_
  refine KT.step rfl rfl (K.box rfl) ?_
  refine KT.step rfl rfl (K.assign rfl) ?_
  refine KT.nil ?_
  refine thenK_n ?_
  refine KC.seq ?_
  refine KC.seq ?_
  refine KC.region ?_
  refine KT.step rfl rfl (K.fieldAddrO rfl Tryd.fld63_0 Tryd.size3) ?_
  refine KT.step rfl rfl (K.loadO rfl rfl (by simp) rfl Tryd.agg3) ?_
  refine KT.step rfl rfl (K.fieldAddrO rfl Tryd.fld63_0 Tryd.size3) ?_
  refine KT.step rfl rfl (K.loadO rfl rfl (by simp) rfl Tryd.agg3) ?_
  refine KT.step rfl rfl (K.neq rfl rfl) ?_
  refine KT.step rfl rfl (K.move rfl) ?_
  refine KT.bcase (fun hb11 => ?_) (fun hb11 => ?_)
  · skip
    replace hb11 := of_decide_eq_true hb11
    refine KT.skip rfl rfl ?_
    refine KT.skip rfl rfl ?_
    refine KT.skip rfl rfl ?_
    refine KT.skip rfl rfl ?_
    refine KT.skip rfl rfl ?_
    refine KT.skip rfl rfl ?_
    refine KT.skip rfl rfl ?_
    refine KT.step rfl rfl (K.pick rfl (fun _ => rfl) (fun h => by cases h)) ?_
    refine KT.step rfl rfl (K.move rfl) ?_
    refine KT.skip rfl rfl ?_
    refine KT.skip rfl rfl ?_
    refine KT.skip rfl rfl ?_
    refine KT.skip rfl rfl ?_
    refine KT.skip rfl rfl ?_
    refine KT.skip rfl rfl ?_
    refine KT.skip rfl rfl ?_
    refine KT.step rfl rfl (K.pick rfl (fun _ => rfl) (fun h => by cases h)) ?_
    refine KT.nil ?_
    refine thenK_n ?_
    refine KC.cond rfl (fun hc28 => ?_) (fun hc28 => ?_)
    · skip
      refine KC.seq ?_
      refine KC.region ?_
      refine KT.step rfl rfl (K.assign rfl) ?_
      refine KT.nil ?_
      refine thenK_n ?_
      refine KC.ret ?_
      refine thenK_r ?_
      exact ⟨.inl rfl, _, rfl, fin_b (decide_eq_false fun h => hb11 h.1)⟩
    · cases hc28
  · skip
    replace hb11 := of_decide_eq_false hb11
    refine KT.step rfl rfl (K.fieldAddrO rfl Tryd.fld63_1 Tryd.size56) ?_
    refine KT.step rfl rfl (K.loadO rfl rfl (by simp) rfl Tryd.agg56) ?_
    refine KT.step rfl rfl (K.len rfl matV_mat Tryd.underlying56) ?_
    refine KT.step rfl rfl (K.fieldAddrO rfl Tryd.fld63_1 Tryd.size56) ?_
    refine KT.step rfl rfl (K.loadO rfl rfl (by simp) rfl Tryd.agg56) ?_
    refine KT.step rfl rfl (K.len rfl h2 Tryd.underlying56) ?_
    refine KT.step rfl rfl (K.neq rfl rfl) ?_
    refine KT.step rfl rfl (K.pick rfl (fun h => by cases h) (fun _ => rfl)) ?_
    refine KT.step rfl rfl (K.move rfl) ?_
    refine KT.bcase (fun hb20 => ?_) (fun hb20 => ?_)
    · skip
      replace hb20 := of_decide_eq_true hb20
      refine KT.skip rfl rfl ?_
      refine KT.skip rfl rfl ?_
      refine KT.skip rfl rfl ?_
      refine KT.skip rfl rfl ?_
      refine KT.skip rfl rfl ?_
      refine KT.skip rfl rfl ?_
      refine KT.skip rfl rfl ?_
      refine KT.step rfl rfl (K.pick rfl (fun _ => rfl) (fun h => by cases h)) ?_
      refine KT.nil ?_
      refine thenK_n ?_
      refine KC.cond rfl (fun hc28 => ?_) (fun hc28 => ?_)
      · skip
        refine KC.seq ?_
        refine KC.region ?_
        refine KT.step rfl rfl (K.assign rfl) ?_
        refine KT.nil ?_
        refine thenK_n ?_
        refine KC.ret ?_
        refine thenK_r ?_
        exact ⟨.inl rfl, _, rfl, fin_b (decide_eq_false fun h => hb20 (by rw [h.2.1]))⟩
      · cases hc28
    · skip
      replace hb20 := of_decide_eq_false hb20
      refine KT.step rfl rfl (K.fieldAddrO rfl Tryd.fld63_2 Tryd.size56) ?_
      refine KT.step rfl rfl (K.loadO rfl rfl (by simp) rfl Tryd.agg56) ?_
      refine KT.step rfl rfl (K.len rfl matV_mat Tryd.underlying56) ?_
      refine KT.step rfl rfl (K.fieldAddrO rfl Tryd.fld63_2 Tryd.size56) ?_
      refine KT.step rfl rfl (K.loadO rfl rfl (by simp) rfl Tryd.agg56) ?_
      refine KT.step rfl rfl (K.len rfl h3 Tryd.underlying56) ?_
      refine KT.step rfl rfl (K.neq rfl rfl) ?_
      refine KT.step rfl rfl (K.pick rfl (fun h => by cases h) (fun _ => rfl)) ?_
      refine KT.nil ?_
      refine thenK_n ?_
      refine KC.cond rfl (fun hc28 => ?_) (fun hc28 => ?_)
      · skip
        replace hc28 := of_decide_eq_true hc28
        refine KC.seq ?_
        refine KC.region ?_
        refine KT.step rfl rfl (K.assign rfl) ?_
        refine KT.nil ?_
        refine thenK_n ?_
        refine KC.ret ?_
        refine thenK_r ?_
        exact ⟨.inl rfl, _, rfl, fin_b (decide_eq_false fun h => hc28 (by rw [h.2.2]))⟩
      · skip
        replace hc28 := of_decide_eq_false hc28
        have hH : a = b ∧ nx.length = nx2.length ∧ ou.length = ou2.length := ⟨Classical.not_not.1 hb11, by omega, by omega⟩
        refine KC.skip ?_
        refine thenK_n ?_
        refine KC.seq ?_
        refine KC.seq ?_
        refine KC.region ?_
        refine KT.step rfl rfl (K.fieldAddrO rfl Tryd.fld63_1 Tryd.size56) ?_
        refine KT.step rfl rfl (K.loadO rfl rfl (by simp) rfl Tryd.agg56) ?_
        refine KT.step rfl rfl (K.len rfl matV_mat Tryd.underlying56) ?_
        refine KT.step rfl rfl (K.move rfl) ?_
        refine KT.nil ?_
        refine thenK_n ?_
        refine KC.block ?_
        refine KC.loop (fun _ : Nat => _) (fun i => [(2, .optr 0 0), (3, .optr 1 0), (31, .d (DI (nx.length : Nat))), (32, .d (DI (i : Nat)))]) (fun i => i ≤ nx.length ∧ nx.take i = nx2.take i ∧ ou.take i = ou2.take i) (fun i => nx.length - i) 0 ⟨Nat.zero_le _, rfl, rfl⟩ rfl (by simp [Go.Vm.look, extK, enterK]) ?_
        intro i hi
        obtain ⟨hi, hall, hall2⟩ := hi
        refine KC.seq ?_
        refine KC.region ?_
        refine KT.step rfl rfl (K.lss rfl rfl) ?_
        refine KT.nil ?_
        refine thenK_n ?_
        refine KC.seq ?_
        refine KC.cond rfl (fun hc33 => ?_) (fun hc33 => ?_)
        · skip
          replace hc33 := of_decide_eq_true hc33
          have hil : i < nx.length := by omega
          have hio : i < ou.length := by omega
          have hi2 : i < nx2.length := by omega
          have hi3 : i < ou2.length := by omega
          refine KC.skip ?_
          refine thenK_n ?_
          refine KC.seq ?_
          refine KC.block ?_
          refine KC.seq ?_
          refine KC.region ?_
          refine KT.step rfl rfl (K.move rfl) ?_
          refine KT.step rfl rfl (K.assign rfl) ?_
          refine KT.nil ?_
          refine thenK_n ?_
          refine KC.seq ?_
          refine KC.draw Tryd.mixed ?_
          refine KT.step rfl rfl (K.fieldAddrO rfl Tryd.fld63_1 Tryd.size56) ?_
          refine KT.step rfl rfl (K.loadO rfl rfl (by simp) rfl Tryd.agg56) ?_
          refine KT.step rfl rfl (K.move rfl) ?_
          refine KT.idx (m := i) rfl rfl rfl matV_mat rfl (by omega) Tryd.underlying56 Tryd.size38 fun c38 cs38 hq38 => ?_
          refine KT.step rfl rfl (K.load rfl Tryd.agg38) ?_
          refine KT.step rfl rfl (K.fieldAddrO rfl Tryd.fld63_1 Tryd.size56) ?_
          refine KT.step rfl rfl (K.loadO rfl rfl (by simp) rfl Tryd.agg56) ?_
          refine KT.step rfl rfl (K.move rfl) ?_
          refine KT.idx (m := i) rfl rfl rfl h2 rfl (by omega) Tryd.underlying56 Tryd.size38 fun c43 cs43 hq43 => ?_
          refine KT.step rfl rfl (K.load rfl Tryd.agg38) ?_
          refine KT.step rfl rfl (K.call2 rfl rfl plainTryd_68 (equal68 hq38 hq43 (hr1 _ (List.getElem_mem _)))) ?_
          refine KT.step rfl rfl (K.not rfl) ?_
          refine KT.step rfl rfl (K.move rfl) ?_
          refine KT.bcase (fun hb47 => ?_) (fun hb47 => ?_)
          · skip
            refine KT.skip rfl rfl ?_
            refine KT.skip rfl rfl ?_
            refine KT.skip rfl rfl ?_
            refine KT.skip rfl rfl ?_
            refine KT.skip rfl rfl ?_
            refine KT.skip rfl rfl ?_
            refine KT.skip rfl rfl ?_
            refine KT.skip rfl rfl ?_
            refine KT.skip rfl rfl ?_
            refine KT.skip rfl rfl ?_
            refine KT.skip rfl rfl ?_
            refine KT.skip rfl rfl ?_
            refine KT.step rfl rfl (K.pick rfl (fun _ => rfl) (fun h => by cases h)) ?_
            refine KT.nil ?_
            refine ⟨by kernel_rfl, ?_⟩
            refine thenK_n ?_
            refine KC.cond rfl (fun hc60 => ?_) (fun hc60 => ?_)
            · skip
              refine KC.seq ?_
              refine KC.region ?_
              refine KT.step rfl rfl (K.assign rfl) ?_
              refine KT.nil ?_
              refine thenK_n ?_
              refine KC.ret ?_
              refine blockK_r ?_
              refine thenK_r ?_
              refine thenK_r ?_
              refine blockK_r ?_
              refine thenK_r ?_
              exact ⟨.inl rfl, _, rfl, fin_b (decide_eq_false fun h => by obtain ⟨rfl, rfl, rfl⟩ := h; simp at hb47)⟩
            · cases hc60
          · skip
            refine KT.step rfl rfl (K.fieldAddrO rfl Tryd.fld63_2 Tryd.size56) ?_
            refine KT.step rfl rfl (K.loadO rfl rfl (by simp) rfl Tryd.agg56) ?_
            refine KT.step rfl rfl (K.move rfl) ?_
            refine KT.idx (m := i) rfl rfl rfl matV_mat rfl (by omega) Tryd.underlying56 Tryd.size38 fun c51 cs51 hq51 => ?_
            refine KT.step rfl rfl (K.load rfl Tryd.agg38) ?_
            refine KT.step rfl rfl (K.fieldAddrO rfl Tryd.fld63_2 Tryd.size56) ?_
            refine KT.step rfl rfl (K.loadO rfl rfl (by simp) rfl Tryd.agg56) ?_
            refine KT.step rfl rfl (K.move rfl) ?_
            refine KT.idx (m := i) rfl rfl rfl h3 rfl (by omega) Tryd.underlying56 Tryd.size38 fun c56 cs56 hq56 => ?_
            refine KT.step rfl rfl (K.load rfl Tryd.agg38) ?_
            refine KT.step rfl rfl (K.call2 rfl rfl plainTryd_68 (equal68 hq51 hq56 (hr2 _ (List.getElem_mem _)))) ?_
            refine KT.step rfl rfl (K.not rfl) ?_
            refine KT.step rfl rfl (K.pick rfl (fun h => by cases h) (fun _ => rfl)) ?_
            refine KT.nil ?_
            refine ⟨by kernel_rfl, ?_⟩
            refine thenK_n ?_
            refine KC.cond rfl (fun hc60 => ?_) (fun hc60 => ?_)
            · skip
              refine KC.seq ?_
              refine KC.region ?_
              refine KT.step rfl rfl (K.assign rfl) ?_
              refine KT.nil ?_
              refine thenK_n ?_
              refine KC.ret ?_
              refine blockK_r ?_
              refine thenK_r ?_
              refine thenK_r ?_
              refine blockK_r ?_
              refine thenK_r ?_
              exact ⟨.inl rfl, _, rfl, fin_b (decide_eq_false fun h => by obtain ⟨rfl, rfl, rfl⟩ := h; simp at hc60)⟩
            · skip
              refine KC.skip ?_
              refine blockK_n ?_
              refine thenK_n ?_
              refine KC.region ?_
              refine KT.step rfl rfl (K.add rfl rfl (wrap_id (by omega))) ?_
              refine KT.step rfl rfl (K.move rfl) ?_
              refine KT.nil ?_
              refine thenK_n ?_
              refine ⟨i + 1, ⟨by omega, ?_, ?_⟩, by omega, rfl, by simp [Go.Vm.look, extK]⟩
              · rw [List.take_succ_eq_append_getElem hil, List.take_succ_eq_append_getElem hi2, hall, show nx[i] = nx2[i] by simpa using hb47]
              · rw [List.take_succ_eq_append_getElem hio, List.take_succ_eq_append_getElem hi3, hall2, show ou[i] = ou2[i] by simpa using hc60]
        · skip
          replace hc33 := of_decide_eq_false hc33
          refine KC.exit ?_
          refine thenK_x ?_
          refine thenK_x ?_
          refine blockK_e ?_
          refine thenK_n ?_
          refine KC.seq ?_
          refine KC.region ?_
          refine KT.step rfl rfl (K.assign rfl) ?_
          refine KT.nil ?_
          refine thenK_n ?_
          refine KC.ret ?_
          rw [List.take_of_length_le (by omega), List.take_of_length_le (by omega)] at hall hall2
          exact ⟨.inl rfl, _, rfl, fin_b (decide_eq_true ⟨hH.1, hall, hall2⟩)⟩
set_option maxHeartbeats 3000000 in
set_option maxRecDepth 10000 in
theorem law8 {a : Int} {nd od : DV} {nx ou : List (List Int)} (hn : Mat nd nx) (ho : Mat od ou) (hnl : nx.length ≤ 9223372036854775807) (hol : ou.length ≤ 9223372036854775807) (hnr : ∀ r ∈ nx, r.length ≤ 9223372036854775807) (hor : ∀ r ∈ ou, r.length ≤ 9223372036854775807) {d : DV} {l : List Int} (hd : Ints d l) (hl : l.length ≤ 9223372036854775807) : DeepCall Tryd.prog 8 [.agg [DI a, nd, od], d] (DB true) := by
  have cR := Respond_cut hn ho hnl hol hnr hor (a := a) hd hl
  have cM := Minimize_cut hn ho hnl hol hnr hor (a := a)
  obtain ⟨x1, p1, q1, e1, hm1, o1, o2⟩ := mz_form (a := a) (nx := nx) (ou := ou)
  rw [hm1] at cM
  simp only at cM
  refine deepCall_K 5 Tryd.func8 rfl (Nat.le_of_ble_eq_true rfl) fun M W0 => ?_
  refine KC.seq ?_
  refine KC.region ?_
  refine KT.step rfl rfl (K.box rfl) ?_
  refine KT.step rfl rfl (K.assign rfl) ?_
  refine KT.nil ?_
  refine thenK_n ?_
  refine KC.seq ?_
  refine KC.region ?_
  refine KT.step rfl rfl (K.loadOA ([DI a, nd, od]) rfl rfl (by decide) Tryd.agg63 Tryd.size63 rfl) ?_
  refine KT.step rfl rfl (K.call1 rfl plainTryd_39 (machine39 hn ho hnl hol hnr hor)) ?_
  refine KT.step rfl rfl (K.move rfl) ?_
  refine KT.step rfl rfl (K.call2 rfl rfl plainTryd_38 (cR)) ?_
  refine KT.step rfl rfl (K.move rfl) ?_
  refine KT.step rfl rfl (K.extract rfl rfl) ?_
  refine KT.step rfl rfl (K.extract rfl rfl) ?_
  refine KT.step rfl rfl (K.assign rfl) ?_
  refine KT.step rfl rfl (K.assign rfl) ?_
  refine KT.nil ?_
  refine thenK_n ?_
  refine KC.seq ?_
  refine KC.region ?_
  refine KT.step rfl rfl (K.loadOA ([DI a, nd, od]) rfl rfl (by decide) Tryd.agg63 Tryd.size63 rfl) ?_
  refine KT.step rfl rfl (K.call1 rfl plainTryd_39 (machine39 hn ho hnl hol hnr hor)) ?_
  refine KT.step rfl rfl (K.call1 rfl plainTryd_40 (cM)) ?_
  refine KT.step rfl rfl (K.move rfl) ?_
  refine KT.step rfl rfl (K.extract rfl rfl) ?_
  refine KT.step rfl rfl (K.extract rfl rfl) ?_
  refine KT.step rfl rfl (K.alloc Tryd.zero58) ?_
  refine KT.storeL (cs := [.d (DI x1), .d p1, .d q1]) rfl rfl rfl rfl rfl rfl (by simp only [List.all_cons, o1, o2]; rfl) Tryd.size58 ?_
  refine KT.step rfl rfl (K.assign rfl) ?_
  refine KT.nil ?_
  refine thenK_n ?_
  refine KC.seq ?_
  refine KC.seq ?_
  refine KC.region ?_
  refine KT.step rfl rfl (K.loadOA ([DI a, nd, od]) rfl rfl (by decide) Tryd.agg63 Tryd.size63 rfl) ?_
  refine KT.step rfl rfl (K.call1 rfl plainTryd_41 (Right41 hn ho hnl hol hnr hor)) ?_
  refine KT.step rfl rfl (K.not rfl) ?_
  refine KT.nil ?_
  refine thenK_n ?_
  refine KC.cond rfl (fun hc26 => ?_) (fun hc26 => ?_)
  · skip
    have hno : ¬ VM a nx ou := fun h => by rw [vmB_iff.2 h] at hc26; cases hc26
    have r0 := rspR_no (l := l) fun h => hno h.1
    have m0 := (mzR_no hno).symm.trans hm1
    obtain ⟨rfl, rfl, rfl, rfl⟩ : x1 = 0 ∧ p1 = Dnil ∧ q1 = Dnil ∧ e1 = 2 := by simp [DI] at m0; exact ⟨m0.1.1.symm, m0.1.2.1.symm, m0.1.2.2.symm, m0.2.symm⟩
    refine KC.seq ?_
    refine KC.region ?_
    refine KT.step rfl rfl (K.move rfl) ?_
    refine KT.step rfl rfl (K.len rfl rspD_ints Tryd.underlying38) ?_
    refine KT.step rfl rfl (K.eql rfl rfl) ?_
    refine KT.step rfl rfl (K.move rfl) ?_
    refine KT.bcase (fun hb30 => ?_) (fun hb30 => ?_)
    · skip
      replace hb30 := of_decide_eq_true hb30
      refine KT.step rfl rfl (K.move rfl) ?_
      refine KT.step rfl rfl (K.eql rfl rfl) ?_
      refine KT.step rfl rfl (K.pick rfl (fun _ => rfl) (fun h => by cases h)) ?_
      refine KT.step rfl rfl (K.move rfl) ?_
      refine KT.bcase (fun hb34 => ?_) (fun hb34 => ?_)
      · skip
        replace hb34 := of_decide_eq_true hb34
        refine KT.step rfl rfl (K.loadOA ([DI 0, Dnil, Dnil]) rfl rfl (by decide) Tryd.agg58 Tryd.size58 rfl) ?_
        refine KT.step rfl rfl (K.call1 rfl plainTryd_34 (empty34)) ?_
        refine KT.step rfl rfl (K.pick rfl (fun _ => rfl) (fun h => by cases h)) ?_
        refine KT.step rfl rfl (K.move rfl) ?_
        refine KT.bcase (fun hb38 => ?_) (fun hb38 => ?_)
        · skip
          refine KT.step rfl rfl (K.move rfl) ?_
          refine KT.step rfl rfl (K.eql rfl rfl) ?_
          refine KT.step rfl rfl (K.pick rfl (fun _ => rfl) (fun h => by cases h)) ?_
          refine KT.step rfl rfl (K.move rfl) ?_
          refine KT.bcase (fun hb42 => ?_) (fun hb42 => ?_)
          · skip
            replace hb42 := of_decide_eq_true hb42
            refine KT.step rfl rfl (K.call0 plainTryd_19 (awake19)) ?_
            refine KT.step rfl rfl (K.pick rfl (fun _ => rfl) (fun h => by cases h)) ?_
            refine KT.step rfl rfl (K.assign rfl) ?_
            refine KT.nil ?_
            refine thenK_n ?_
            refine KC.ret ?_
            refine thenK_r ?_
            exact ⟨.inl rfl, _, rfl, fin_d rfl⟩
          · skip
            simp at hb42
        · skip
          simp at hb38
      · skip
        rw [r0] at hb34; simp at hb34
    · skip
      rw [r0] at hb30; simp at hb30
  · skip
    have hv : VM a nx ou := vmB_iff.1 (by simpa using hc26)
    obtain ⟨m, rfl⟩ : ∃ m : Nat, a = m := ⟨a.toNat, by have := hv.a1; omega⟩
    have m0 := (mzR_yes hv).symm.trans hm1
    obtain ⟨rfl, rfl, rfl, rfl⟩ : x1 = m ∧ p1 = matV (minN m nx.length (nxF nx) (ouF ou)) ∧ q1 = matV (minO m nx.length (nxF nx) (ouF ou)) ∧ e1 = 0 := by simp [DI] at m0; exact ⟨m0.1.1.symm, m0.1.2.1.symm, m0.1.2.2.symm, m0.2.symm⟩
    refine KC.skip ?_
    refine thenK_n ?_
    refine KC.seq ?_
    refine KC.seq ?_
    refine KC.draw Tryd.mixed ?_
    refine KT.step rfl rfl (K.loadOA ([DI (m : Nat), matV (minN m nx.length (nxF nx) (ouF ou)), matV (minO m nx.length (nxF nx) (ouF ou))]) rfl rfl (by decide) Tryd.agg58 Tryd.size58 rfl) ?_
    refine KT.step rfl rfl (K.call1 rfl plainTryd_36 (own36)) ?_
    refine KT.step rfl rfl (K.loadOA ([DI (m : Nat), nd, od]) rfl rfl (by decide) Tryd.agg63 Tryd.size63 rfl) ?_
    refine KT.step rfl rfl (K.call1 rfl plainTryd_42 (rMinimize42 hn ho hv)) ?_
    refine KT.step rfl rfl (K.call2 rfl rfl plainTryd_35 (sameM35 (a := (m : Int)) (b := (m : Int)) matV_mat (outR_mat hv ho) minO_len (vmRows (vmMin hv)).1 (vmRows (vmMin hv)).2 (by have := (vmMin hv).n16; omega))) ?_
    refine KT.step rfl rfl (K.not rfl) ?_
    refine KT.step rfl rfl (K.move rfl) ?_
    refine KT.bcase (fun hb51 => ?_) (fun hb51 => ?_)
    · skip
      simp at hb51
    · skip
      refine KT.step rfl rfl (K.move rfl) ?_
      refine KT.step rfl rfl (K.neq rfl rfl) ?_
      refine KT.step rfl rfl (K.pick rfl (fun h => by cases h) (fun _ => rfl)) ?_
      refine KT.nil ?_
      refine ⟨by kernel_rfl, ?_⟩
      refine thenK_n ?_
      refine KC.cond rfl (fun hc54 => ?_) (fun hc54 => ?_)
      · skip
        simp at hc54
      · skip
        replace hc54 := of_decide_eq_false hc54
        refine KC.skip ?_
        refine thenK_n ?_
        refine KC.seq ?_
        refine KC.seq ?_
        refine KC.region ?_
        refine KT.step rfl rfl (K.move rfl) ?_
        refine KT.step rfl rfl (K.fieldAddrO rfl Tryd.fld63_0 Tryd.size3) ?_
        refine KT.step rfl rfl (K.loadO rfl rfl (by simp) rfl Tryd.agg3) ?_
        refine KT.step rfl rfl (K.call3 rfl rfl rfl plainTryd_32 (Word32 hd hl _ _)) ?_
        refine KT.step rfl rfl (K.not rfl) ?_
        refine KT.nil ?_
        refine thenK_n ?_
        refine KC.cond rfl (fun hc59 => ?_) (fun hc59 => ?_)
        · skip
          have hw : ¬ wordB l 1000 m = true := fun h => by rw [h] at hc59; cases hc59
          have r0 := rspR_no (nx := nx) (ou := ou) (l := l) (a := (m : Int)) fun h => hw h.2
          refine KC.seq ?_
          refine KC.region ?_
          refine KT.step rfl rfl (K.move rfl) ?_
          refine KT.step rfl rfl (K.len rfl rspD_ints Tryd.underlying38) ?_
          refine KT.step rfl rfl (K.eql rfl rfl) ?_
          refine KT.step rfl rfl (K.move rfl) ?_
          refine KT.bcase (fun hb63 => ?_) (fun hb63 => ?_)
          · skip
            replace hb63 := of_decide_eq_true hb63
            refine KT.step rfl rfl (K.move rfl) ?_
            refine KT.step rfl rfl (K.eql rfl rfl) ?_
            refine KT.step rfl rfl (K.pick rfl (fun _ => rfl) (fun h => by cases h)) ?_
            refine KT.step rfl rfl (K.move rfl) ?_
            refine KT.bcase (fun hb67 => ?_) (fun hb67 => ?_)
            · skip
              replace hb67 := of_decide_eq_true hb67
              refine KT.step rfl rfl (K.call0 plainTryd_19 (awake19)) ?_
              refine KT.step rfl rfl (K.pick rfl (fun _ => rfl) (fun h => by cases h)) ?_
              refine KT.step rfl rfl (K.assign rfl) ?_
              refine KT.nil ?_
              refine thenK_n ?_
              refine KC.ret ?_
              refine thenK_r ?_
              exact ⟨.inl rfl, _, rfl, fin_d rfl⟩
            · skip
              rw [r0] at hb67; simp at hb67
          · skip
            rw [r0] at hb63; simp at hb63
        · skip
          have hw : wordB l 1000 m = true := by simpa using hc59
          obtain ⟨k1, k2⟩ := word_nat hw
          have r1 := rspR_yes hv hw
          refine KC.skip ?_
          refine thenK_n ?_
          refine KC.seq ?_
          refine KC.region ?_
          refine KT.step rfl rfl (K.loadOA ([DI (m : Nat), nd, od]) rfl rfl (by decide) Tryd.agg63 Tryd.size63 rfl) ?_
          refine KT.step rfl rfl (K.move rfl) ?_
          refine KT.step rfl rfl (K.call3 rfl rfl rfl plainTryd_43 (rRespond43 hn ho hv hv.n1 (w := l.map Int.toNat) (by rw [k1]; exact hd) (k2 m rfl) (by rw [List.length_map]; have := (wordB_iff.1 hw).1; omega))) ?_
          refine KT.step rfl rfl (K.move rfl) ?_
          refine KT.step rfl rfl (K.extract rfl rfl) ?_
          refine KT.step rfl rfl (K.extract rfl rfl) ?_
          refine KT.step rfl rfl (K.assign rfl) ?_
          refine KT.step rfl rfl (K.assign rfl) ?_
          refine KT.nil ?_
          refine thenK_n ?_
          refine KC.seq ?_
          refine KC.region ?_
          refine KT.step rfl rfl (K.move rfl) ?_
          refine KT.step rfl rfl (K.move rfl) ?_
          refine KT.step rfl rfl (K.call2 rfl rfl plainTryd_24 (equal24 rspD_ints ownV_ints (by rw [rspR_yes hv hw, respL_len]; rw [List.length_map]; exact hl))) ?_
          refine KT.step rfl rfl (K.move rfl) ?_
          refine KT.bcase (fun hb79 => ?_) (fun hb79 => ?_)
          · skip
            refine KT.step rfl rfl (K.move rfl) ?_
            refine KT.step rfl rfl (K.eql rfl rfl) ?_
            refine KT.step rfl rfl (K.pick rfl (fun _ => rfl) (fun h => by cases h)) ?_
            refine KT.step rfl rfl (K.move rfl) ?_
            refine KT.bcase (fun hb83 => ?_) (fun hb83 => ?_)
            · skip
              replace hb83 := of_decide_eq_true hb83
              refine KT.step rfl rfl (K.call0 plainTryd_19 (awake19)) ?_
              refine KT.step rfl rfl (K.pick rfl (fun _ => rfl) (fun h => by cases h)) ?_
              refine KT.step rfl rfl (K.assign rfl) ?_
              refine KT.nil ?_
              refine thenK_n ?_
              refine KC.ret ?_
              exact ⟨.inl rfl, _, rfl, fin_d rfl⟩
            · skip
              rw [r1] at hb83; simp at hb83
          · skip
            rw [r1] at hb79; simp at hb79
end Go.Proofs.YteednkolfnjdoaaDoor

