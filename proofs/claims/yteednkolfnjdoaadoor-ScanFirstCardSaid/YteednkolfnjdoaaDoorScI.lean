import Derived.Test.YteednkolfnjdoaaDoorScH
import Derived.Test.YteednkolfnjdoaaDoorBaQ
/-
  Controllers: the law on the first parting word.
-/
namespace Go.Proofs.YteednkolfnjdoaaDoor
open Go.Vm Go.Sc
theorem apR_cut {a b : Int} {nx ou nx2 ou2 : List (List Int)} : apR a (cutM nx) (cutM ou) b (cutM nx2) (cutM ou2) = apR a nx ou b nx2 ou2 := by
  by_cases h : VM a nx ou ∧ VM b nx2 ou2 ∧ a = b
  · rw [(VM_cut h.1).1, (VM_cut h.1).2, (VM_cut h.2.1).1, (VM_cut h.2.1).2]
  · rw [apR_no h, apR_no fun h2 => h ⟨vm_cut.1 h2.1, vm_cut.1 h2.2.1, h2.2.2⟩]
theorem rspR_cut {a : Int} {nx ou : List (List Int)} {l : List Int} : rspR a (cutM nx) (cutM ou) l = rspR a nx ou l := by
  by_cases h : VM a nx ou ∧ wordB l 1000 a = true
  · rw [(VM_cut h.1).1, (VM_cut h.1).2]
  · rw [rspR_no h, rspR_no fun h2 => h ⟨vm_cut.1 h2.1, h2.2⟩]
theorem cutB {m : List (List Int)} : (cutM m).length ≤ 9223372036854775807 ∧ ∀ r ∈ cutM m, r.length ≤ 9223372036854775807 := ⟨by have := cut_len m; omega, fun r hr => by have := cut_row m r hr; omega⟩
theorem Apart_cut {a : Int} {nd od : DV} {nx ou : List (List Int)} (hn : Mat nd nx) (ho : Mat od ou) (_ : nx.length ≤ 9223372036854775807) (_ : ou.length ≤ 9223372036854775807) (_ : ∀ r ∈ nx, r.length ≤ 9223372036854775807) (_ : ∀ r ∈ ou, r.length ≤ 9223372036854775807) {b : Int} {nd2 od2 : DV} {nx2 ou2 : List (List Int)} (hn2 : Mat nd2 nx2) (ho2 : Mat od2 ou2) (_ : nx2.length ≤ 9223372036854775807) (_ : ou2.length ≤ 9223372036854775807) (_ : ∀ r ∈ nx2, r.length ≤ 9223372036854775807) (_ : ∀ r ∈ ou2, r.length ≤ 9223372036854775807) : DeepCall Tryd.prog 44 [.agg [DI a, rows18 nx nd, rows18 ou od], .agg [DI b, rows18 nx2 nd2, rows18 ou2 od2]] (.tup [wO (apR a nx ou b nx2 ou2).1, DI (apR a nx ou b nx2 ou2).2]) := by
  have h := Apart44 (a := a) (b := b) (rows18_mat hn) (rows18_mat ho) cutB.1 cutB.1 cutB.2 cutB.2 (rows18_mat hn2) (rows18_mat ho2) cutB.1 cutB.1 cutB.2 cutB.2
  rw [show (nx.take 18).map (List.take 10) = cutM nx from rfl, show (ou.take 18).map (List.take 10) = cutM ou from rfl, show (nx2.take 18).map (List.take 10) = cutM nx2 from rfl, show (ou2.take 18).map (List.take 10) = cutM ou2 from rfl, apR_cut] at h
  exact h
theorem Respond_cut {a : Int} {nd od : DV} {nx ou : List (List Int)} (hn : Mat nd nx) (ho : Mat od ou) (_ : nx.length ≤ 9223372036854775807) (_ : ou.length ≤ 9223372036854775807) (_ : ∀ r ∈ nx, r.length ≤ 9223372036854775807) (_ : ∀ r ∈ ou, r.length ≤ 9223372036854775807) {d : DV} {l : List Int} (hd : Ints d l) (hl : l.length ≤ 9223372036854775807) : DeepCall Tryd.prog 38 [.agg [DI a, rows18 nx nd, rows18 ou od], d] (.tup [rspD a nx ou l, DI (rspR a nx ou l).2]) := by
  have h := Respond38 (a := a) (rows18_mat hn) (rows18_mat ho) cutB.1 cutB.1 cutB.2 cutB.2 hd hl
  rw [show (nx.take 18).map (List.take 10) = cutM nx from rfl, show (ou.take 18).map (List.take 10) = cutM ou from rfl] at h
  unfold rspD at h ⊢
  rw [rspR_cut] at h
  exact h
/-- The two ways that Apart goes. -/
theorem ap_cases {a b : Int} {nx ou nx2 ou2 : List (List Int)} : ∃ W E, apR a nx ou b nx2 ou2 = (W, E) ∧ apR b nx2 ou2 a nx ou = (W, E) ∧ ((W = none ∧ (E = 2 ∨ E = 5)) ∨ ∃ (w : List Nat) (m : Nat), W = some w ∧ E = 0 ∧ a = m ∧ b = m ∧ VM m nx ou ∧ VM m nx2 ou2 ∧ partW m nx ou nx2 ou2 0 0 = some w) := by
  by_cases h : VM a nx ou ∧ VM b nx2 ou2 ∧ a = b
  · obtain ⟨h1, h2, rfl⟩ := h
    obtain ⟨m, rfl⟩ : ∃ m : Nat, a = m := ⟨a.toNat, by have := h1.a1; omega⟩
    cases hp : partW m nx ou nx2 ou2 0 0 with
    | none => exact ⟨none, 5, apR_none h1 h2 hp, apR_none h2 h1 (by rw [part_swap]; exact hp), .inl ⟨rfl, .inr rfl⟩⟩
    | some w => exact ⟨some w, 0, apR_some h1 h2 hp, apR_some h2 h1 (by rw [part_swap]; exact hp), .inr ⟨w, m, rfl, rfl, rfl, rfl, h1, h2, hp⟩⟩
  · exact ⟨none, 2, apR_no h, apR_no fun h2 => h ⟨h2.2.1, h2.1, h2.2.2.symm⟩, .inl ⟨rfl, .inl rfl⟩⟩
theorem wO_ints {W : Option (List Nat)} : Ints (wO W) (wZ (W.getD [])) := by
  cases W with
  | none => exact .nil
  | some w => exact wV_ints w
theorem rsp_err {m : Int} {nx ou nx2 ou2 : List (List Int)} {l : List Int} (h1 : VM m nx ou) (h2 : VM m nx2 ou2) : (rspR m nx2 ou2 l).2 = (rspR m nx ou l).2 := by
  cases hw : wordB l 1000 m with
  | true => rw [rspR_yes h1 hw, rspR_yes h2 hw]
  | false => rw [rspR_no fun h => absurd h.2 (by rw [hw]; decide), rspR_no fun h => absurd h.2 (by rw [hw]; decide)]
theorem rsp_zero {m : Int} {nx ou : List (List Int)} {l : List Int} (h : (rspR m nx ou l).2 = 0) : VM m nx ou ∧ wordB l 1000 m = true := Classical.byContradiction fun hn => by rw [rspR_no hn] at h; cases h
theorem get_D {l : List Int} {i : Nat} (h : i < l.length) : l[i] = l.getD i 0 := by simp [h]
theorem rspl_len {a : Int} {nx ou : List (List Int)} {l : List Int} : (rspR a nx ou l).1.length ≤ l.length := by
  by_cases h : VM a nx ou ∧ wordB l 1000 a = true
  · rw [rspR_yes h.1 h.2, respL_len, List.length_map]; exact Nat.le_refl _
  · rw [rspR_no h]; simp
theorem wZ_toNat (w : List Nat) : (wZ w).map Int.toNat = w := by
  unfold wZ; rw [List.map_map]
  conv => rhs; rw [← List.map_id w]
  exact List.map_congr_left fun x _ => by simp
theorem word_ok {m : Nat} {w : List Nat} (h : OkW m w) (hl : w.length ≤ 1000) : wordB (wZ w) 1000 m = true := wordB_iff.2 ⟨by rw [wZ_len]; omega, fun x hx => by
  obtain ⟨y, hy, rfl⟩ := List.mem_map.1 hx
  have := h y hy
  omega⟩
set_option maxHeartbeats 1600000 in
set_option maxRecDepth 10000 in
theorem law13 {a : Int} {nd od : DV} {nx ou : List (List Int)} (hn : Mat nd nx) (ho : Mat od ou) (hnl : nx.length ≤ 9223372036854775807) (hol : ou.length ≤ 9223372036854775807) (hnr : ∀ r ∈ nx, r.length ≤ 9223372036854775807) (hor : ∀ r ∈ ou, r.length ≤ 9223372036854775807) {b : Int} {nd2 od2 : DV} {nx2 ou2 : List (List Int)} (hn2 : Mat nd2 nx2) (ho2 : Mat od2 ou2) (hnl2 : nx2.length ≤ 9223372036854775807) (hol2 : ou2.length ≤ 9223372036854775807) (hnr2 : ∀ r ∈ nx2, r.length ≤ 9223372036854775807) (hor2 : ∀ r ∈ ou2, r.length ≤ 9223372036854775807) {d : DV} {l : List Int} (hd : Ints d l) (hl : l.length ≤ 9223372036854775807) : DeepCall Tryd.prog 13 [.agg [DI a, nd, od], .agg [DI b, nd2, od2], d] (DB true) := by
  obtain ⟨W, E, hA, hB, hc⟩ := ap_cases (a := a) (b := b) (nx := nx) (ou := ou) (nx2 := nx2) (ou2 := ou2)
  have cA := Apart_cut hn ho hnl hol hnr hor hn2 ho2 hnl2 hol2 hnr2 hor2 (a := a) (b := b)
  have cB := Apart_cut hn2 ho2 hnl2 hol2 hnr2 hor2 hn ho hnl hol hnr hor (a := b) (b := a)
  rw [hA] at cA
  rw [hB] at cB
  simp only at cA cB
  refine deepCall_K 5 Tryd.func13 rfl (Nat.le_of_ble_eq_true rfl) fun M W0 => ?_
  refine KC.seq ?_
  refine KC.region ?_
  refine KT.step rfl rfl (K.box rfl) ?_
  refine KT.step rfl rfl (K.box rfl) ?_
  refine KT.step rfl rfl (K.assign rfl) ?_
  refine KT.nil ?_
  refine thenK_n ?_
  refine KC.seq ?_
  refine KC.draw Tryd.mixed ?_
  refine KT.step rfl rfl (K.loadOA ([DI a, nd, od]) rfl rfl (by decide) Tryd.agg63 Tryd.size63 rfl) ?_
  refine KT.step rfl rfl (K.call1 rfl plainTryd_39 (machine39 hn ho hnl hol hnr hor)) ?_
  refine KT.step rfl rfl (K.loadOA ([DI b, nd2, od2]) rfl rfl (by decide) Tryd.agg63 Tryd.size63 rfl) ?_
  refine KT.step rfl rfl (K.call1 rfl plainTryd_39 (machine39 hn2 ho2 hnl2 hol2 hnr2 hor2)) ?_
  refine KT.step rfl rfl (K.call2 rfl rfl plainTryd_44 (cA)) ?_
  refine KT.step rfl rfl (K.move rfl) ?_
  refine KT.step rfl rfl (K.extract rfl rfl) ?_
  refine KT.step rfl rfl (K.extract rfl rfl) ?_
  refine KT.step rfl rfl (K.assign rfl) ?_
  refine KT.step rfl rfl (K.assign rfl) ?_
  refine KT.nil ?_
  refine ⟨by kernel_rfl, ?_⟩
  refine thenK_n ?_
  refine KC.seq ?_
  refine KC.draw Tryd.mixed ?_
  refine KT.step rfl rfl (K.loadOA ([DI b, nd2, od2]) rfl rfl (by decide) Tryd.agg63 Tryd.size63 rfl) ?_
  refine KT.step rfl rfl (K.call1 rfl plainTryd_39 (machine39 hn2 ho2 hnl2 hol2 hnr2 hor2)) ?_
  refine KT.step rfl rfl (K.loadOA ([DI a, nd, od]) rfl rfl (by decide) Tryd.agg63 Tryd.size63 rfl) ?_
  refine KT.step rfl rfl (K.call1 rfl plainTryd_39 (machine39 hn ho hnl hol hnr hor)) ?_
  refine KT.step rfl rfl (K.call2 rfl rfl plainTryd_44 (cB)) ?_
  refine KT.step rfl rfl (K.move rfl) ?_
  refine KT.step rfl rfl (K.extract rfl rfl) ?_
  refine KT.step rfl rfl (K.extract rfl rfl) ?_
  refine KT.step rfl rfl (K.assign rfl) ?_
  refine KT.step rfl rfl (K.assign rfl) ?_
  refine KT.nil ?_
  refine ⟨by kernel_rfl, ?_⟩
  refine thenK_n ?_
  refine KC.seq ?_
  refine KC.seq ?_
  refine KC.region ?_
  refine KT.step rfl rfl (K.move rfl) ?_
  refine KT.step rfl rfl (K.move rfl) ?_
  refine KT.step rfl rfl (K.neq rfl rfl) ?_
  refine KT.step rfl rfl (K.move rfl) ?_
  refine KT.bcase (fun hb37 => ?_) (fun hb37 => ?_)
  · skip
    simp at hb37
  · skip
    replace hb37 := of_decide_eq_false hb37
    refine KT.step rfl rfl (K.move rfl) ?_
    refine KT.step rfl rfl (K.move rfl) ?_
    have hWl : (wZ (W.getD [])).length ≤ 9223372036854775807 := by
      rcases hc with ⟨rfl, _⟩ | ⟨w, m, rfl, _, rfl, _, hv, hv2, hp⟩
      · simp [wZ]
      · have := part_len hv hv2 (by have := hv.n1; omega) (by have := hv2.n1; omega) hp
        have h1 : nx.length * nx2.length ≤ 16 * 16 := Nat.mul_le_mul hv.n16 hv2.n16
        rw [wZ_len]; simp only [Option.getD_some]; omega
    refine KT.step rfl rfl (K.call2 rfl rfl plainTryd_24 (equal24 (wO_ints (W := W)) (wO_ints (W := W)) hWl)) ?_
    refine KT.step rfl rfl (K.not rfl) ?_
    refine KT.step rfl rfl (K.pick rfl (fun h => by cases h) (fun _ => rfl)) ?_
    refine KT.nil ?_
    refine thenK_n ?_
    refine KC.cond rfl (fun hc42 => ?_) (fun hc42 => ?_)
    · skip
      simp at hc42
    · skip
      refine KC.skip ?_
      refine thenK_n ?_
      refine KC.seq ?_
      refine KC.seq ?_
      refine KC.region ?_
      refine KT.step rfl rfl (K.move rfl) ?_
      refine KT.step rfl rfl (K.neq rfl rfl) ?_
      refine KT.step rfl rfl (K.move rfl) ?_
      refine KT.bcase (fun hb45 => ?_) (fun hb45 => ?_)
      · skip
        replace hb45 := of_decide_eq_true hb45
        refine KT.skip rfl rfl ?_
        refine KT.skip rfl rfl ?_
        refine KT.skip rfl rfl ?_
        refine KT.step rfl rfl (K.pick rfl (fun _ => rfl) (fun h => by cases h)) ?_
        refine KT.nil ?_
        refine thenK_n ?_
        refine KC.cond rfl (fun hc49 => ?_) (fun hc49 => ?_)
        · skip
          refine KC.seq ?_
          refine KC.region ?_
          refine KT.step rfl rfl (K.move rfl) ?_
          refine KT.step rfl rfl (K.eql rfl rfl) ?_
          refine KT.step rfl rfl (K.move rfl) ?_
          refine KT.bcase (fun hb52 => ?_) (fun hb52 => ?_)
          · skip
            replace hb52 := of_decide_eq_true hb52
            refine KT.skip rfl rfl ?_
            refine KT.skip rfl rfl ?_
            refine KT.step rfl rfl (K.pick rfl (fun _ => rfl) (fun h => by cases h)) ?_
            refine KT.step rfl rfl (K.move rfl) ?_
            refine KT.step rfl rfl (K.call0 plainTryd_19 (awake19)) ?_
            refine KT.step rfl rfl (K.pick rfl (fun _ => rfl) (fun h => by cases h)) ?_
            refine KT.step rfl rfl (K.assign rfl) ?_
            refine KT.nil ?_
            refine thenK_n ?_
            refine KC.ret ?_
            refine thenK_r ?_
            exact ⟨.inl rfl, _, rfl, fin_d rfl⟩
          · skip
            replace hb52 := of_decide_eq_false hb52
            refine KT.step rfl rfl (K.move rfl) ?_
            refine KT.step rfl rfl (K.eql rfl rfl) ?_
            refine KT.step rfl rfl (K.pick rfl (fun h => by cases h) (fun _ => rfl)) ?_
            refine KT.step rfl rfl (K.move rfl) ?_
            refine KT.bcase (fun hb56 => ?_) (fun hb56 => ?_)
            · skip
              replace hb56 := of_decide_eq_true hb56
              refine KT.step rfl rfl (K.call0 plainTryd_19 (awake19)) ?_
              refine KT.step rfl rfl (K.pick rfl (fun _ => rfl) (fun h => by cases h)) ?_
              refine KT.step rfl rfl (K.assign rfl) ?_
              refine KT.nil ?_
              refine thenK_n ?_
              refine KC.ret ?_
              refine thenK_r ?_
              exact ⟨.inl rfl, _, rfl, fin_d rfl⟩
            · skip
              have hb5 := of_decide_eq_false hb56
              rcases hc with ⟨_, h | h⟩ | ⟨w, m, _, h, _⟩ <;> omega
        · cases hc49
      · skip
        replace hb45 := of_decide_eq_false hb45
        obtain ⟨w, m, rfl, rfl, rfl, rfl, hv, hv2, hp⟩ := hc.resolve_left fun h => by rcases h with ⟨_, h | h⟩ <;> omega
        obtain ⟨u, i, hwu, hwok, hdif, hsame⟩ := resp_part hp
        have hpl := part_len hv hv2 (by have := hv.n1; omega) (by have := hv2.n1; omega) hp
        have h256 : nx.length * nx2.length ≤ 16 * 16 := Nat.mul_le_mul hv.n16 hv2.n16
        have hwl : w.length ≤ 1000 := by omega
        have hwz := wZ_len w
        have hul : w.length = u.length + 1 := by rw [hwu]; simp
        have r1 : rspR (m : Int) nx ou (wZ w) = (respL (nxF nx) (ouF ou) 0 w, 0) := by rw [rspR_yes hv (word_ok hwok hwl), wZ_toNat]
        have r2 : rspR (m : Int) nx2 ou2 (wZ w) = (respL (nxF nx2) (ouF ou2) 0 w, 0) := by rw [rspR_yes hv2 (word_ok hwok hwl), wZ_toNat]
        have L1 : (rspR (m : Int) nx ou (wZ w)).1.length = w.length := by rw [r1]; exact respL_len _ _ _ _
        have L2 : (rspR (m : Int) nx2 ou2 (wZ w)).1.length = w.length := by rw [r2]; exact respL_len _ _ _ _
        have hku : ((wZ w).length : Int) - 1 = (u.length : Nat) := by omega
        have wu : w.take u.length = u := by rw [hwu]; simp
        have wi : w.getD u.length 0 = i := by rw [hwu]; simp
        have E1 : (rspR (m : Int) nx ou (wZ w)).1.getD u.length 0 = ouF ou (runW (nxF nx) 0 u) i := by
          rw [r1, ← get_D (by rw [respL_len]; omega), respL_get _ _ _ _ (by omega), wu, wi]
        have E2 : (rspR (m : Int) nx2 ou2 (wZ w)).1.getD u.length 0 = ouF ou2 (runW (nxF nx2) 0 u) i := by
          rw [r2, ← get_D (by rw [respL_len]; omega), respL_get _ _ _ _ (by omega), wu, wi]
        have htk : (rspR (m : Int) nx ou (wZ w)).1.take u.length = (rspR (m : Int) nx2 ou2 (wZ w)).1.take u.length := by
          rw [r1, r2]
          refine List.ext_getElem (by simp [respL_len]) fun k h1 h2 => ?_
          have hk : k < u.length := by simp at h1; omega
          rw [List.getElem_take, List.getElem_take, respL_get _ _ _ _ (by omega), respL_get _ _ _ _ (by omega)]
          have e1 : w.take k = u.take k := by rw [hwu, List.take_append_of_le_length (by omega)]
          have e2 : w.getD k 0 = u.getD k 0 := by rw [hwu]; simp [hk, List.getElem?_append_left]
          rw [e1, e2]
          exact hsame k hk
        refine KT.step rfl rfl (K.move rfl) ?_
        refine KT.step rfl rfl (K.len rfl (wV_ints w) Tryd.underlying38) ?_
        refine KT.step rfl rfl (K.eql rfl rfl) ?_
        refine KT.step rfl rfl (K.pick rfl (fun h => by cases h) (fun _ => rfl)) ?_
        refine KT.nil ?_
        refine thenK_n ?_
        refine KC.cond rfl (fun hc49 => ?_) (fun hc49 => ?_)
        · skip
          have h9 := of_decide_eq_true hc49
          have h8 : w.length = u.length + 1 := hul
          have h7 : ((wZ w).length : Int) = 0 := h9
          omega
        · skip
          replace hc49 := of_decide_eq_false hc49
          refine KC.skip ?_
          refine thenK_n ?_
          refine KC.seq ?_
          refine KC.region ?_
          refine KT.step rfl rfl (K.loadOA ([DI (m : Int), nd, od]) rfl rfl (by decide) Tryd.agg63 Tryd.size63 rfl) ?_
          refine KT.step rfl rfl (K.call1 rfl plainTryd_39 (machine39 hn ho hnl hol hnr hor)) ?_
          refine KT.step rfl rfl (K.move rfl) ?_
          refine KT.step rfl rfl (K.call2 rfl rfl plainTryd_38 (Respond_cut hn ho hnl hol hnr hor (wV_ints w) (by omega))) ?_
          refine KT.step rfl rfl (K.move rfl) ?_
          refine KT.step rfl rfl (K.extract rfl rfl) ?_
          refine KT.step rfl rfl (K.extract rfl rfl) ?_
          refine KT.step rfl rfl (K.assign rfl) ?_
          refine KT.step rfl rfl (K.assign rfl) ?_
          refine KT.nil ?_
          refine thenK_n ?_
          refine KC.seq ?_
          refine KC.region ?_
          refine KT.step rfl rfl (K.loadOA ([DI (m : Int), nd2, od2]) rfl rfl (by decide) Tryd.agg63 Tryd.size63 rfl) ?_
          refine KT.step rfl rfl (K.call1 rfl plainTryd_39 (machine39 hn2 ho2 hnl2 hol2 hnr2 hor2)) ?_
          refine KT.step rfl rfl (K.move rfl) ?_
          refine KT.step rfl rfl (K.call2 rfl rfl plainTryd_38 (Respond_cut hn2 ho2 hnl2 hol2 hnr2 hor2 (wV_ints w) (by omega))) ?_
          refine KT.step rfl rfl (K.move rfl) ?_
          refine KT.step rfl rfl (K.extract rfl rfl) ?_
          refine KT.step rfl rfl (K.extract rfl rfl) ?_
          refine KT.step rfl rfl (K.assign rfl) ?_
          refine KT.step rfl rfl (K.assign rfl) ?_
          refine KT.nil ?_
          refine thenK_n ?_
          refine KC.seq ?_
          refine KC.region ?_
          refine KT.step rfl rfl (K.move rfl) ?_
          refine KT.step rfl rfl (K.len rfl (wV_ints w) Tryd.underlying38) ?_
          refine KT.step rfl rfl (K.sub rfl rfl (wrap_id (by omega))) ?_
          refine KT.step rfl rfl (K.assign rfl) ?_
          refine KT.nil ?_
          refine thenK_n ?_
          refine KC.seq ?_
          refine KC.seq ?_
          refine KC.draw Tryd.mixed ?_
          refine KT.step rfl rfl (K.move rfl) ?_
          refine KT.step rfl rfl (K.neq rfl rfl) ?_
          refine KT.step rfl rfl (K.move rfl) ?_
          refine KT.bcase (fun hb78 => ?_) (fun hb78 => ?_)
          · skip
            rw [r1] at hb78; simp at hb78
          · skip
            replace hb78 := of_decide_eq_false hb78
            refine KT.step rfl rfl (K.move rfl) ?_
            refine KT.step rfl rfl (K.neq rfl rfl) ?_
            refine KT.step rfl rfl (K.pick rfl (fun h => by cases h) (fun _ => rfl)) ?_
            refine KT.step rfl rfl (K.move rfl) ?_
            refine KT.bcase (fun hb82 => ?_) (fun hb82 => ?_)
            · skip
              rw [r2] at hb82; simp at hb82
            · skip
              replace hb82 := of_decide_eq_false hb82
              refine KT.step rfl rfl (K.move rfl) ?_
              refine KT.step rfl rfl (K.len rfl rspD_ints Tryd.underlying38) ?_
              refine KT.step rfl rfl (K.move rfl) ?_
              refine KT.step rfl rfl (K.len rfl (wV_ints w) Tryd.underlying38) ?_
              refine KT.step rfl rfl (K.neq rfl rfl) ?_
              refine KT.step rfl rfl (K.pick rfl (fun h => by cases h) (fun _ => rfl)) ?_
              refine KT.step rfl rfl (K.move rfl) ?_
              refine KT.bcase (fun hb89 => ?_) (fun hb89 => ?_)
              · skip
                rw [L1, wZ_len] at hb89; simp at hb89
              · skip
                replace hb89 := of_decide_eq_false hb89
                refine KT.step rfl rfl (K.move rfl) ?_
                refine KT.step rfl rfl (K.len rfl rspD_ints Tryd.underlying38) ?_
                refine KT.step rfl rfl (K.move rfl) ?_
                refine KT.step rfl rfl (K.len rfl (wV_ints w) Tryd.underlying38) ?_
                refine KT.step rfl rfl (K.neq rfl rfl) ?_
                refine KT.step rfl rfl (K.pick rfl (fun h => by cases h) (fun _ => rfl)) ?_
                refine KT.step rfl rfl (K.move rfl) ?_
                refine KT.bcase (fun hb96 => ?_) (fun hb96 => ?_)
                · skip
                  rw [L2, wZ_len] at hb96; simp at hb96
                · skip
                  replace hb96 := of_decide_eq_false hb96
                  refine KT.step rfl rfl (K.move rfl) ?_
                  refine KT.step rfl rfl (K.move rfl) ?_
                  refine KT.sliceTo (m := u.length) rfl rfl rfl (rspD_ints (a := (m : Int)) (nx := nx) (ou := ou) (l := wZ w)) (congrArg (fun z => some (XV.d (DI z))) hku) (by rw [L1]; omega) Tryd.underlying38 Tryd.size3 fun r99 hq99 => ?_
                  refine KT.step rfl rfl (K.move rfl) ?_
                  refine KT.step rfl rfl (K.move rfl) ?_
                  refine KT.sliceTo (m := u.length) rfl rfl rfl (rspD_ints (a := (m : Int)) (nx := nx2) (ou := ou2) (l := wZ w)) (congrArg (fun z => some (XV.d (DI z))) hku) (by rw [L2]; omega) Tryd.underlying38 Tryd.size3 fun r102 hq102 => ?_
                  refine KT.step rfl rfl (K.call2 rfl rfl plainTryd_24 (equal24 hq99 hq102 (by rw [List.length_take, L1]; omega))) ?_
                  refine KT.step rfl rfl (K.not rfl) ?_
                  refine KT.step rfl rfl (K.pick rfl (fun h => by cases h) (fun _ => rfl)) ?_
                  refine KT.step rfl rfl (K.move rfl) ?_
                  refine KT.bcase (fun hb106 => ?_) (fun hb106 => ?_)
                  · skip
                    rw [decide_eq_true htk] at hb106; cases hb106
                  · skip
                    refine KT.step rfl rfl (K.move rfl) ?_
                    refine KT.step rfl rfl (K.move rfl) ?_
                    refine KT.idxI (m := u.length) rfl rfl rfl (rspD_ints (a := (m : Int)) (nx := nx) (ou := ou) (l := wZ w)) (congrArg (fun z => some (XV.d (DI z))) hku) (by rw [L1]; omega) Tryd.underlying38 Tryd.size3 fun cs109 => ?_
                    refine KT.step rfl rfl (K.load rfl Tryd.agg3) ?_
                    refine KT.step rfl rfl (K.move rfl) ?_
                    refine KT.step rfl rfl (K.move rfl) ?_
                    refine KT.idxI (m := u.length) rfl rfl rfl (rspD_ints (a := (m : Int)) (nx := nx2) (ou := ou2) (l := wZ w)) (congrArg (fun z => some (XV.d (DI z))) hku) (by rw [L2]; omega) Tryd.underlying38 Tryd.size3 fun cs113 => ?_
                    refine KT.step rfl rfl (K.load rfl Tryd.agg3) ?_
                    refine KT.step rfl rfl (K.eql rfl rfl) ?_
                    refine KT.step rfl rfl (K.pick rfl (fun h => by cases h) (fun _ => rfl)) ?_
                    refine KT.nil ?_
                    refine ⟨by kernel_rfl, ?_⟩
                    refine thenK_n ?_
                    refine KC.cond rfl (fun hc116 => ?_) (fun hc116 => ?_)
                    · skip
                      exact absurd (of_decide_eq_true hc116) (by rw [get_D, get_D, E1, E2]; exact hdif)
                    · skip
                      replace hc116 := of_decide_eq_false hc116
                      refine KC.skip ?_
                      refine thenK_n ?_
                      refine KC.seq ?_
                      refine KC.region ?_
                      refine KT.step rfl rfl (K.loadOA ([DI (m : Int), nd, od]) rfl rfl (by decide) Tryd.agg63 Tryd.size63 rfl) ?_
                      refine KT.step rfl rfl (K.call1 rfl plainTryd_39 (machine39 hn ho hnl hol hnr hor)) ?_
                      refine KT.step rfl rfl (K.move rfl) ?_
                      refine KT.step rfl rfl (K.call2 rfl rfl plainTryd_38 (Respond_cut hn ho hnl hol hnr hor hd hl)) ?_
                      refine KT.step rfl rfl (K.move rfl) ?_
                      refine KT.step rfl rfl (K.extract rfl rfl) ?_
                      refine KT.step rfl rfl (K.extract rfl rfl) ?_
                      refine KT.step rfl rfl (K.assign rfl) ?_
                      refine KT.step rfl rfl (K.assign rfl) ?_
                      refine KT.nil ?_
                      refine thenK_n ?_
                      refine KC.seq ?_
                      refine KC.region ?_
                      refine KT.step rfl rfl (K.loadOA ([DI (m : Int), nd2, od2]) rfl rfl (by decide) Tryd.agg63 Tryd.size63 rfl) ?_
                      refine KT.step rfl rfl (K.call1 rfl plainTryd_39 (machine39 hn2 ho2 hnl2 hol2 hnr2 hor2)) ?_
                      refine KT.step rfl rfl (K.move rfl) ?_
                      refine KT.step rfl rfl (K.call2 rfl rfl plainTryd_38 (Respond_cut hn2 ho2 hnl2 hol2 hnr2 hor2 hd hl)) ?_
                      refine KT.step rfl rfl (K.move rfl) ?_
                      refine KT.step rfl rfl (K.extract rfl rfl) ?_
                      refine KT.step rfl rfl (K.extract rfl rfl) ?_
                      refine KT.step rfl rfl (K.assign rfl) ?_
                      refine KT.step rfl rfl (K.assign rfl) ?_
                      refine KT.nil ?_
                      refine thenK_n ?_
                      refine KC.seq ?_
                      refine KC.seq ?_
                      refine KC.region ?_
                      refine KT.step rfl rfl (K.move rfl) ?_
                      refine KT.step rfl rfl (K.neq rfl rfl) ?_
                      refine KT.step rfl rfl (K.move rfl) ?_
                      refine KT.bcase (fun hb133 => ?_) (fun hb133 => ?_)
                      · skip
                        replace hb133 := of_decide_eq_true hb133
                        refine KT.skip rfl rfl ?_
                        refine KT.skip rfl rfl ?_
                        refine KT.step rfl rfl (K.pick rfl (fun _ => rfl) (fun h => by cases h)) ?_
                        refine KT.step rfl rfl (K.move rfl) ?_
                        refine KT.skip rfl rfl ?_
                        refine KT.skip rfl rfl ?_
                        refine KT.skip rfl rfl ?_
                        refine KT.step rfl rfl (K.pick rfl (fun _ => rfl) (fun h => by cases h)) ?_
                        refine KT.nil ?_
                        refine thenK_n ?_
                        refine KC.cond rfl (fun hc141 => ?_) (fun hc141 => ?_)
                        · skip
                          refine KC.seq ?_
                          refine KC.region ?_
                          refine KT.step rfl rfl (K.move rfl) ?_
                          refine KT.step rfl rfl (K.move rfl) ?_
                          refine KT.step rfl rfl (K.eql rfl rfl) ?_
                          refine KT.step rfl rfl (K.move rfl) ?_
                          refine KT.bcase (fun hb145 => ?_) (fun hb145 => ?_)
                          · skip
                            replace hb145 := of_decide_eq_true hb145
                            refine KT.step rfl rfl (K.call0 plainTryd_19 (awake19)) ?_
                            refine KT.step rfl rfl (K.pick rfl (fun _ => rfl) (fun h => by cases h)) ?_
                            refine KT.step rfl rfl (K.assign rfl) ?_
                            refine KT.nil ?_
                            refine thenK_n ?_
                            refine KC.ret ?_
                            refine thenK_r ?_
                            exact ⟨.inl rfl, _, rfl, fin_d rfl⟩
                          · skip
                            exact absurd (rsp_err hv hv2).symm (of_decide_eq_false hb145)
                        · cases hc141
                      · skip
                        replace hb133 := of_decide_eq_false hb133
                        refine KT.step rfl rfl (K.move rfl) ?_
                        refine KT.step rfl rfl (K.neq rfl rfl) ?_
                        refine KT.step rfl rfl (K.pick rfl (fun h => by cases h) (fun _ => rfl)) ?_
                        refine KT.step rfl rfl (K.move rfl) ?_
                        refine KT.bcase (fun hb137 => ?_) (fun hb137 => ?_)
                        · skip
                          replace hb137 := of_decide_eq_true hb137
                          refine KT.skip rfl rfl ?_
                          refine KT.skip rfl rfl ?_
                          refine KT.skip rfl rfl ?_
                          refine KT.step rfl rfl (K.pick rfl (fun _ => rfl) (fun h => by cases h)) ?_
                          refine KT.nil ?_
                          refine thenK_n ?_
                          refine KC.cond rfl (fun hc141 => ?_) (fun hc141 => ?_)
                          · skip
                            refine KC.seq ?_
                            refine KC.region ?_
                            refine KT.step rfl rfl (K.move rfl) ?_
                            refine KT.step rfl rfl (K.move rfl) ?_
                            refine KT.step rfl rfl (K.eql rfl rfl) ?_
                            refine KT.step rfl rfl (K.move rfl) ?_
                            refine KT.bcase (fun hb145 => ?_) (fun hb145 => ?_)
                            · skip
                              replace hb145 := of_decide_eq_true hb145
                              refine KT.step rfl rfl (K.call0 plainTryd_19 (awake19)) ?_
                              refine KT.step rfl rfl (K.pick rfl (fun _ => rfl) (fun h => by cases h)) ?_
                              refine KT.step rfl rfl (K.assign rfl) ?_
                              refine KT.nil ?_
                              refine thenK_n ?_
                              refine KC.ret ?_
                              refine thenK_r ?_
                              exact ⟨.inl rfl, _, rfl, fin_d rfl⟩
                            · skip
                              exact absurd (rsp_err hv hv2).symm (of_decide_eq_false hb145)
                          · cases hc141
                        · skip
                          replace hb137 := of_decide_eq_false hb137
                          refine KT.step rfl rfl (K.move rfl) ?_
                          refine KT.step rfl rfl (K.move rfl) ?_
                          refine KT.step rfl rfl (K.call2 rfl rfl plainTryd_24 (equal24 rspD_ints rspD_ints (by have := rspl_len (a := (m : Int)) (nx := nx) (ou := ou) (l := l); omega))) ?_
                          refine KT.step rfl rfl (K.pick rfl (fun h => by cases h) (fun _ => rfl)) ?_
                          refine KT.nil ?_
                          refine thenK_n ?_
                          refine KC.cond rfl (fun hc141 => ?_) (fun hc141 => ?_)
                          · skip
                            refine KC.seq ?_
                            refine KC.region ?_
                            refine KT.step rfl rfl (K.move rfl) ?_
                            refine KT.step rfl rfl (K.move rfl) ?_
                            refine KT.step rfl rfl (K.eql rfl rfl) ?_
                            refine KT.step rfl rfl (K.move rfl) ?_
                            refine KT.bcase (fun hb145 => ?_) (fun hb145 => ?_)
                            · skip
                              replace hb145 := of_decide_eq_true hb145
                              refine KT.step rfl rfl (K.call0 plainTryd_19 (awake19)) ?_
                              refine KT.step rfl rfl (K.pick rfl (fun _ => rfl) (fun h => by cases h)) ?_
                              refine KT.step rfl rfl (K.assign rfl) ?_
                              refine KT.nil ?_
                              refine thenK_n ?_
                              refine KC.ret ?_
                              refine thenK_r ?_
                              exact ⟨.inl rfl, _, rfl, fin_d rfl⟩
                            · skip
                              exact absurd (rsp_err hv hv2).symm (of_decide_eq_false hb145)
                          · skip
                            have z1 := rsp_zero (Classical.not_not.1 hb133)
                            obtain ⟨k1, k2⟩ := word_nat z1.2
                            have hdf : respL (nxF nx) (ouF ou) 0 (l.map Int.toNat) ≠ respL (nxF nx2) (ouF ou2) 0 (l.map Int.toNat) := by
                              have h9 := of_decide_eq_false hc141
                              rw [rspR_yes hv z1.2, rspR_yes hv2 z1.2] at h9
                              exact h9
                            have hfin := part_first hp (k2 m rfl) hdf
                            rw [List.length_map] at hfin
                            have hwz := wZ_len w
                            refine KC.skip ?_
                            refine thenK_n ?_
                            refine KC.seq ?_
                            refine KC.region ?_
                            refine KT.step rfl rfl (K.move rfl) ?_
                            refine KT.step rfl rfl (K.len rfl hd Tryd.underlying38) ?_
                            refine KT.step rfl rfl (K.move rfl) ?_
                            refine KT.step rfl rfl (K.len rfl (wV_ints w) Tryd.underlying38) ?_
                            refine KT.step rfl rfl (K.gtr rfl rfl) ?_
                            refine KT.step rfl rfl (K.move rfl) ?_
                            refine KT.bcase (fun hb153 => ?_) (fun hb153 => ?_)
                            · skip
                              replace hb153 := of_decide_eq_true hb153
                              refine KT.skip rfl rfl ?_
                              refine KT.skip rfl rfl ?_
                              refine KT.skip rfl rfl ?_
                              refine KT.skip rfl rfl ?_
                              refine KT.skip rfl rfl ?_
                              refine KT.skip rfl rfl ?_
                              refine KT.skip rfl rfl ?_
                              refine KT.skip rfl rfl ?_
                              refine KT.skip rfl rfl ?_
                              refine KT.skip rfl rfl ?_
                              refine KT.skip rfl rfl ?_
                              refine KT.step rfl rfl (K.pick rfl (fun _ => rfl) (fun h => by cases h)) ?_
                              refine KT.step rfl rfl (K.move rfl) ?_
                              refine KT.step rfl rfl (K.call0 plainTryd_19 (awake19)) ?_
                              refine KT.step rfl rfl (K.pick rfl (fun _ => rfl) (fun h => by cases h)) ?_
                              refine KT.step rfl rfl (K.assign rfl) ?_
                              refine KT.nil ?_
                              refine thenK_n ?_
                              refine KC.ret ?_
                              exact ⟨.inl rfl, _, rfl, fin_d rfl⟩
                            · skip
                              replace hb153 := of_decide_eq_false hb153
                              refine KT.step rfl rfl (K.move rfl) ?_
                              refine KT.step rfl rfl (K.len rfl hd Tryd.underlying38) ?_
                              refine KT.step rfl rfl (K.move rfl) ?_
                              refine KT.step rfl rfl (K.len rfl (wV_ints w) Tryd.underlying38) ?_
                              refine KT.step rfl rfl (K.eql rfl rfl) ?_
                              refine KT.step rfl rfl (K.move rfl) ?_
                              refine KT.bcase (fun hb159 => ?_) (fun hb159 => ?_)
                              · skip
                                replace hb159 := of_decide_eq_true hb159
                                have hcm : cmpL (wZ w) l ≤ 0 := by
                                  rcases hfin with h | ⟨h1, h2⟩
                                  · rw [wZ_len] at hb159; omega
                                  · rw [← k1]; exact cmpL_le (by rw [List.length_map]; exact h1) h2
                                refine KT.step rfl rfl (K.move rfl) ?_
                                refine KT.step rfl rfl (K.move rfl) ?_
                                refine KT.step rfl rfl (K.call2 rfl rfl plainTryd_48 (cmpL48 (wV_ints w) hd (by omega))) ?_
                                refine KT.step rfl rfl (K.leq rfl rfl) ?_
                                refine KT.step rfl rfl (K.pick rfl (fun _ => rfl) (fun h => by cases h)) ?_
                                refine KT.step rfl rfl (K.pick rfl (fun h => by cases h) (fun _ => rfl)) ?_
                                refine KT.step rfl rfl (K.move rfl) ?_
                                refine KT.bcase (fun hb166 => ?_) (fun hb166 => ?_)
                                · skip
                                  replace hb166 := of_decide_eq_true hb166
                                  refine KT.step rfl rfl (K.call0 plainTryd_19 (awake19)) ?_
                                  refine KT.step rfl rfl (K.pick rfl (fun _ => rfl) (fun h => by cases h)) ?_
                                  refine KT.step rfl rfl (K.assign rfl) ?_
                                  refine KT.nil ?_
                                  refine thenK_n ?_
                                  refine KC.ret ?_
                                  exact ⟨.inl rfl, _, rfl, fin_d rfl⟩
                                · skip
                                  exact absurd hcm (of_decide_eq_false hb166)
                              · skip
                                have h9 := of_decide_eq_false hb159
                                rw [wZ_len] at h9 hb153
                                omega
end Go.Proofs.YteednkolfnjdoaaDoor

