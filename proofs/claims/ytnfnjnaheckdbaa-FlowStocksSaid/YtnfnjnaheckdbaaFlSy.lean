import Derived.Test.YtnfnjnaheckdbaaFlSx
import Derived.Test.YtnfnjnaheckdbaaFlS
import Derived.Test.YtnfnjnaheckdbaaVmMa
import Derived.Test.YtnfnjnaheckdbaaFlU
/-
  The law FlowStocks: with more stock on a link there is still a schedule, and no firing begins later.
-/
namespace Go.Proofs.Ytnfnjnaheckdbaa
open Go.Vm Go.Fl
set_option maxRecDepth 10000 in
theorem ofO {M : Nat → Prop} {W0 : World} {o0 : VObj} {d : DV} {n : Int} {L : List LZ} (hd : Lks d L) : InCall Try.prog M W0 19 [o0] [.d (.agg [DI n, d])] (fun σ2 x2 => σ2[0]? = some o0 ∧ ∃ x, x2 = aggX [.d (DI n), x] ∧ OwnK 5 σ2 x ((flatK (L.take 12)).map .d) ∧ (∀ j, idX x = some j → 1 ≤ j)) := by
  refine inCall_K Try.func19 rfl (Nat.le_of_ble_eq_true rfl) ?_
  refine KC.seq ?_
  refine KC.region ?_
  refine KT.step rfl rfl (K.box rfl) ?_
  refine KT.step rfl rfl (K.alloc Try.zero31) ?_
  refine KT.nil ?_
  refine thenK_n ?_
  refine KC.seq ?_
  refine KC.region ?_
  refine KT.step rfl rfl (K.fieldAddrO rfl Try.fld24_0 Try.size3) ?_
  refine KT.step rfl rfl (K.loadO rfl rfl (by simp) rfl Try.agg3) ?_
  refine KT.step rfl rfl (K.buildL rfl (build31n _)) ?_
  refine KT.step rfl rfl (K.alloc Try.zero31) ?_
  refine KT.step rfl rfl (K.storeN rfl rfl rfl (Nat.le_refl 2) rfl Try.size31) ?_
  refine KT.nil ?_
  refine thenK_n ?_
  refine KC.seq ?_
  refine KC.seq ?_
  refine KC.region ?_
  refine KT.step rfl rfl (K.fieldAddrO rfl Try.fld24_1 Try.size22) ?_
  refine KT.step rfl rfl (K.loadO rfl rfl (by simp) rfl Try.agg22) ?_
  refine KT.step rfl rfl (K.lenL rfl hd Try.underlying22) ?_
  refine KT.step rfl rfl (K.move rfl) ?_
  refine KT.nil ?_
  refine thenK_n ?_
  refine KC.block ?_
  refine KC.loop (fun p : List VObj × XV × Nat => p.1) (fun p => [(2, .optr 2 0), (3, .optr 3 0), (10, .d d), (11, .d (DI (L.length : Nat))), (12, .d (DI (p.2.2 : Nat)))]) (fun p : List VObj × XV × Nat => p.2.2 ≤ L.length ∧ p.2.2 ≤ 12 ∧ p.1[0]? = some o0 ∧ p.1[2]? = some ⟨[.d (DI 0), .d Dnil], 0⟩ ∧ p.1[3]? = some ⟨[.d (DI n), p.2.1], 0⟩ ∧ OwnK 5 p.1 p.2.1 ((flatK (L.take p.2.2)).map .d) ∧ (∀ j, idX p.2.1 = some j → 4 ≤ j) ∧ (p.2.2 = 0 → p.2.1 = .d Dnil)) (fun p => L.length - p.2.2) (_, .d Dnil, 0) ⟨Nat.zero_le _, Nat.zero_le _, rfl, rfl, rfl, .nil, fun j hj => (by cases hj), fun _ => rfl⟩ rfl (by simp [Go.Vm.look, extK, enterK]) ?_
  intro p hp
  obtain ⟨σ0, x, i⟩ := p
  obtain ⟨hi, hi12, y0, y1, y2, hown, hid, hnil⟩ := hp
  simp only at hi hi12 y0 y1 y2 hown hid hnil ⊢
  have g2 := (List.getElem?_eq_some_iff.1 y2).1
  refine KC.seq ?_
  refine KC.region ?_
  refine KT.step rfl rfl (K.lss rfl rfl) ?_
  refine KT.nil ?_
  refine thenK_n ?_
  refine KC.seq ?_
  refine KC.cond rfl (fun hc13 => ?_) (fun hc13 => ?_)
  · skip
    replace hc13 := of_decide_eq_true hc13
    have hil : i < L.length := by omega
    refine KC.skip ?_
    refine thenK_n ?_
    refine KC.seq ?_
    refine KC.block ?_
    refine KC.seq ?_
    refine KC.region ?_
    refine KT.step rfl rfl (K.move rfl) ?_
    refine KT.step rfl rfl (K.idxL rfl hd rfl hil Try.underlying22 Try.size57) ?_
    refine KT.step rfl rfl (K.loadL hil rfl Try.agg57 Try.size57) ?_
    refine KT.step rfl rfl (K.alloc Try.zero57) ?_
    refine KT.step rfl rfl (K.assign rfl) ?_
    refine KT.storeH (cs := (lk5 L[i]).map XV.d) rfl rfl rfl rfl (List.getElem?_concat_length ..) rfl (Nat.le_refl _) rfl Try.size57 fun σ1 l1 u1 v1 => ?_
    try simp only [List.length_append, List.length_cons, List.length_nil] at l1
    replace u1 := u1.trans (congrArg (fun c => some (VObj.mk c 0)) (splice_all (by rfl)))
    have y0 := (v1 (0) (by omega)).trans ((List.getElem?_append_left (by omega)).trans y0)
    have y1 := (v1 (2) (by omega)).trans ((List.getElem?_append_left (by omega)).trans y1)
    have y2 := (v1 (3) (by omega)).trans ((List.getElem?_append_left (by omega)).trans y2)
    have x1 := u1
    refine KT.nil ?_
    refine thenK_n ?_
    refine KC.seq ?_
    refine KC.seq ?_
    refine KC.region ?_
    refine KT.step rfl rfl (K.move rfl) ?_
    refine KT.step rfl rfl (K.gtr rfl rfl) ?_
    refine KT.nil ?_
    refine thenK_n ?_
    refine KC.cond rfl (fun hc18 => ?_) (fun hc18 => ?_)
    · skip
      replace hc18 := of_decide_eq_true hc18
      replace hown := hown.keep (σ' := σ1) fun j hj => (v1 j (by have := hown.lt hj; omega)).trans (List.getElem?_append_left (hown.lt hj))
      refine KC.exit ?_
      refine thenK_x ?_
      refine blockK_x (by decide) ?_
      refine thenK_x ?_
      refine thenK_x ?_
      refine blockK_e ?_
      refine thenK_n ?_
      refine KC.seq ?_
      refine KC.region ?_
      refine KT.step rfl rfl (K.loadOAgg (m := 2) rfl y2 (by simp) Try.agg31 Try.size31 (by simp)) ?_
      have et : L.take i = L.take 12 := by
        rcases Nat.lt_or_ge i L.length with h | h
        · rw [show i = 12 by omega]
        · rw [List.take_of_length_le h, List.take_of_length_le (by omega)]
      rw [et] at hown
      obtain ⟨hf1, hf2⟩ := ownL_end (n := n) hown (fun h => hnil (by
        rcases List.take_eq_nil_iff.1 h with h | h
        · cases h
        · rw [h] at hi; simpa using hi))
      refine KT.storeH (cs := [.d (DI n), x]) rfl rfl rfl rfl y1 hf2 (by simp) (by rw [List.all_cons, List.all_cons, hown.cells.2]; rfl) Try.size31 fun σ4 l4 u4 v4 => ?_
      replace u4 := u4.trans (congrArg (fun c => some (VObj.mk c 0)) (splice_all (by simp)))
      refine KT.nil ?_
      refine thenK_n ?_
      refine KC.ret ?_
      have hown4 : OwnK 5 σ4 x ((flatK (L.take 12)).map .d) := hown.keep fun j hj => v4 j (by have := hid j hj; omega)
      exact ⟨.inl rfl, _, resK_agg (m := 2) rfl rfl u4 (by simp) Try.agg31 Try.size31 (Nat.le_refl 2), (v4 0 (by omega)).trans y0, x, rfl, hown4, fun j hj => by have := hid j hj; omega⟩
    · skip
      replace hc18 := of_decide_eq_false hc18
      refine KC.skip ?_
      refine thenK_n ?_
      refine KC.region ?_
      refine KT.step rfl rfl (K.fieldAddrO rfl Try.fld31_1 Try.size29) ?_
      refine KT.step rfl rfl (K.loadO rfl y2 (by simp) rfl Try.agg29) ?_
      refine KT.step rfl rfl (K.fieldAddrO rfl Try.fld57_0 Try.size3) ?_
      refine KT.step rfl rfl (K.loadO rfl x1 (by simp) rfl Try.agg3) ?_
      refine KT.step rfl rfl (K.fieldAddrO rfl Try.fld57_1 Try.size3) ?_
      refine KT.step rfl rfl (K.loadO rfl x1 (by simp) rfl Try.agg3) ?_
      refine KT.step rfl rfl (K.fieldAddrO rfl Try.fld57_2 Try.size3) ?_
      refine KT.step rfl rfl (K.loadO rfl x1 (by simp) rfl Try.agg3) ?_
      refine KT.step rfl rfl (K.fieldAddrO rfl Try.fld57_3 Try.size3) ?_
      refine KT.step rfl rfl (K.loadO rfl x1 (by simp) rfl Try.agg3) ?_
      refine KT.step rfl rfl (K.fieldAddrO rfl Try.fld57_4 Try.size3) ?_
      refine KT.step rfl rfl (K.loadO rfl x1 (by simp) rfl Try.agg3) ?_
      refine KT.step rfl rfl (K.buildL rfl (build62 _ _ _ _ _)) ?_
      refine KT.step rfl rfl (K.buildC (k := 5) (cs := (lk5 L[i]).map .d) rfl rfl rfl Try.underlying29 Try.size62 Try.zero62 (by omega)) ?_
      refine KT.appK (k := 5) rfl rfl rfl rfl ((hown.keep fun j hj => (v1 j (by have := hown.lt hj; omega)).trans (List.getElem?_append_left (hown.lt hj))).pushed _) (List.getElem?_concat_length ..) rfl rfl (by rw [List.length_map, flatK_len, List.length_take]; omega) Try.underlying29 Try.size62 (of_decide_eq_true (by kernel_rfl)) (by kernel_rfl) (by omega) fun σ2 x2 ho2 k2 w2 => ?_
      have z0 := (k2 0 (fun h => by have := hid 0 h; omega) (by simp only [List.length_append, List.length_cons, List.length_nil]; omega)).trans ((List.getElem?_append_left (by omega)).trans y0)
      have z1 := (k2 2 (fun h => by have := hid 2 h; omega) (by simp only [List.length_append, List.length_cons, List.length_nil]; omega)).trans ((List.getElem?_append_left (by omega)).trans y1)
      have z2 := (k2 3 (fun h => by have := hid 3 h; omega) (by simp only [List.length_append, List.length_cons, List.length_nil]; omega)).trans ((List.getElem?_append_left (by omega)).trans y2)
      refine KT.step rfl rfl (K.fieldAddrO rfl Try.fld31_1 Try.size29) ?_
      obtain ⟨j2, w3, w4⟩ := w2
      simp only [List.length_append, List.length_cons, List.length_nil] at w4
      refine KT.storeG rfl rfl rfl rfl z2 (by simp) ho2.cells.1 ho2.cells.2 Try.size29 fun σ3 l3 u3 v3 => ?_
      replace z1 := (v3 2 (by omega)).trans z1
      replace z0 := (v3 0 (by omega)).trans z0
      refine KT.nil ?_
      refine blockK_n ?_
      refine thenK_n ?_
      refine KC.region ?_
      refine KT.step rfl rfl (K.add rfl rfl (wrap_id (by omega))) ?_
      refine KT.step rfl rfl (K.move rfl) ?_
      refine KT.nil ?_
      refine thenK_n ?_
      refine ⟨(σ3, x2, i + 1), ⟨by simp only; omega, by simp only; omega, z0, z1, u3, ?_, fun j hj => ?_, fun h => by simp at h⟩, by simp only; omega, rfl, by simp [Go.Vm.look, extK]⟩
      · simp only
        rw [List.take_succ_eq_append_getElem hil, flatK_snoc, List.map_append]
        exact ho2.keep fun j hj => v3 j (by rw [w3] at hj; cases hj; omega)
      · simp only at hj
        rw [w3] at hj; cases hj; omega
  · skip
    replace hc13 := of_decide_eq_false hc13
    refine KC.exit ?_
    refine thenK_x ?_
    refine thenK_x ?_
    refine blockK_e ?_
    refine thenK_n ?_
    refine KC.seq ?_
    refine KC.region ?_
    refine KT.step rfl rfl (K.loadOAgg (m := 2) rfl y2 (by simp) Try.agg31 Try.size31 (by simp)) ?_
    have et : L.take i = L.take 12 := by
      rcases Nat.lt_or_ge i L.length with h | h
      · rw [show i = 12 by omega]
      · rw [List.take_of_length_le h, List.take_of_length_le (by omega)]
    rw [et] at hown
    obtain ⟨hf1, hf2⟩ := ownL_end (n := n) hown (fun h => hnil (by
      rcases List.take_eq_nil_iff.1 h with h | h
      · cases h
      · rw [h] at hi; simpa using hi))
    refine KT.storeH (cs := [.d (DI n), x]) rfl rfl rfl rfl y1 hf2 (by simp) (by rw [List.all_cons, List.all_cons, hown.cells.2]; rfl) Try.size31 fun σ4 l4 u4 v4 => ?_
    replace u4 := u4.trans (congrArg (fun c => some (VObj.mk c 0)) (splice_all (by simp)))
    refine KT.nil ?_
    refine thenK_n ?_
    refine KC.ret ?_
    have hown4 : OwnK 5 σ4 x ((flatK (L.take 12)).map .d) := hown.keep fun j hj => v4 j (by have := hid j hj; omega)
    exact ⟨.inl rfl, _, resK_agg (m := 2) rfl rfl u4 (by simp) Try.agg31 Try.size31 (Nat.le_refl 2), (v4 0 (by omega)).trans y0, x, rfl, hown4, fun j hj => by have := hid j hj; omega⟩
theorem own_osl {σ : List VObj} {x : XV} {L : List LZ} (h : OwnK 5 σ x ((flatK L).map .d)) (hne : L ≠ []) : ∃ id, x = .osl id 0 L.length 5 L.length false ∧ σ[id]? = some ⟨(flatK L).map .d, 0⟩ := by
  generalize hc : (flatK L).map XV.d = cells at h
  cases h with
  | nil =>
    have := congrArg List.length hc
    rw [List.length_map, flatK_len] at this
    cases L with
    | nil => exact absurd rfl hne
    | cons a l => simp at this
  | @sl id m cells h hn =>
    subst hc
    have hm : m = L.length := by rw [List.length_map, flatK_len] at hn; omega
    subst hm
    exact ⟨id, rfl, h⟩
/-- The stock of a link among the cells. -/
theorem flatK_stock : ∀ (L : List LN) (m : Nat) (h : m < L.length), ((flatK (L.map LN.z)).map XV.d)[0 + m * 5 + 4]? = some (.d (DI (L[m].s : Nat)))
  | [], m, h => absurd h (Nat.not_lt_zero _)
  | l :: L, 0, _ => by simp [flatK, lk5, LN.z]
  | l :: L, m + 1, h => by
    have ih := flatK_stock L m (by simpa using h)
    rw [show 0 + (m + 1) * 5 + 4 = (0 + m * 5 + 4) + 5 by omega]
    simp only [List.getElem_cons_succ]
    rw [← ih]
    simp only [flatK, List.map_cons, List.flatMap_cons, List.map_append]
    rw [List.getElem?_append_right (by simp [lk5])]
    simp [lk5]
theorem flatK_put : ∀ (L : List LN) (m : Nat) (h : m < L.length) (v : Nat), ((flatK (L.map LN.z)).map XV.d).set (0 + m * 5 + 4) (.d (DI (v : Nat))) = (flatK ((L.set m ⟨L[m].f, L[m].t, L[m].g, L[m].k, v⟩).map LN.z)).map XV.d
  | [], m, h, _ => absurd h (Nat.not_lt_zero _)
  | l :: L, 0, _, v => by simp [flatK, lk5, LN.z]
  | l :: L, m + 1, h, v => by
    have ih := flatK_put L m (by simpa using h) v
    rw [show 0 + (m + 1) * 5 + 4 = (0 + m * 5 + 4) + 5 by omega]
    simp only [List.getElem_cons_succ, List.set_cons_succ, flatK, List.map_cons, List.flatMap_cons, List.map_append] at ih ⊢
    rw [List.set_append_right _ _ (by simp [lk5]), show 0 + m * 5 + 4 + 5 - ((lk5 l.z).map XV.d).length = 0 + m * 5 + 4 by simp [lk5], ih]
theorem laterNil : DeepCall Try.prog 38 [Dnil, Dnil] (DB true) := runFn_sound (inl := fun f => f == 9999) (len := 200) (k := 20) (f := 38) Try.mixed (by kernel_rfl)
theorem st_err {n pe : Int} {L : List LZ} {tm : List Int} (h : (scA n L).2 ≠ 0) : (stA n L tm pe).2 = (scA n L).2 ∨ (stA n L tm pe).2 = 2 := by
  unfold stA
  by_cases ht : tmB tm n pe = true
  · rw [if_pos ht, if_neg h]; exact .inl rfl
  · rw [if_neg ht]; exact .inr rfl
set_option maxRecDepth 10000 in
theorem stocks_no {d td : DV} {n pe lk : Int} {L : List LZ} {tm : List Int} (hd : Lks d L) (hl : L.length ≤ 9223372036854775807) (htd : Ints td tm) (htl : tm.length ≤ 9223372036854775807) (h : (scA n (L.take 12)).2 ≠ 0 ∨ L.length = 0 ∨ validB n L = false) : DeepCall Try.prog 14 [.agg [DI n, d], td, DI pe, DI lk] (DB true) := by
  have hlt : (L.take 12).length ≤ 9223372036854775807 := by rw [List.length_take]; omega
  have hse := fun h => st_err (n := n) (pe := pe) (L := L.take 12) (tm := tm) h
  refine deepCall_K 5 Try.func14 rfl (Nat.le_of_ble_eq_true rfl) fun M W0 => ?_
  refine KC.seq ?_
  refine KC.region ?_
  refine KT.step rfl rfl (K.box rfl) ?_
  refine KT.step rfl rfl (K.assign rfl) ?_
  refine KT.nil ?_
  refine thenK_n ?_
  refine KC.seq ?_
  refine KC.region ?_
  refine KT.step rfl rfl (K.loadOA ([DI n, d]) rfl rfl (by decide) Try.agg24 Try.size24 rfl) ?_
  refine KT.step rfl rfl (K.call1 rfl plainTry_19 (of19 hd hl)) ?_
  refine KT.step rfl rfl (K.call1 rfl plainTry_23 (schedule_any (lkD_lks _) hlt)) ?_
  refine KT.step rfl rfl (K.move rfl) ?_
  refine KT.step rfl rfl (K.extract rfl rfl) ?_
  refine KT.step rfl rfl (K.extract rfl rfl) ?_
  refine KT.step rfl rfl (K.assign rfl) ?_
  refine KT.step rfl rfl (K.assign rfl) ?_
  refine KT.nil ?_
  refine thenK_n ?_
  refine KC.seq ?_
  refine KC.region ?_
  refine KT.step rfl rfl (K.loadOA ([DI n, d]) rfl rfl (by decide) Try.agg24 Try.size24 rfl) ?_
  refine KT.step rfl rfl (K.call1 rfl plainTry_19 (of19 hd hl)) ?_
  refine KT.step rfl rfl (K.move rfl) ?_
  refine KT.step rfl rfl (K.move rfl) ?_
  refine KT.step rfl rfl (K.call3 rfl rfl rfl plainTry_32 (startsOf32 (lkD_lks _) hlt htd htl)) ?_
  refine KT.step rfl rfl (K.move rfl) ?_
  refine KT.step rfl rfl (K.extract rfl rfl) ?_
  refine KT.step rfl rfl (K.extract rfl rfl) ?_
  refine KT.step rfl rfl (K.assign rfl) ?_
  refine KT.step rfl rfl (K.assign rfl) ?_
  refine KT.nil ?_
  refine thenK_n ?_
  refine KC.seq ?_
  refine KC.seq ?_
  refine KC.region ?_
  refine KT.step rfl rfl (K.move rfl) ?_
  refine KT.step rfl rfl (K.neq rfl rfl) ?_
  refine KT.step rfl rfl (K.move rfl) ?_
  refine KT.bcase (fun hb34 => ?_) (fun hb34 => ?_)
  · skip
    replace hb34 := of_decide_eq_true hb34
    refine KT.skip rfl rfl ?_
    refine KT.skip rfl rfl ?_
    refine KT.skip rfl rfl ?_
    refine KT.skip rfl rfl ?_
    refine KT.step rfl rfl (K.pick rfl (fun _ => rfl) (fun h => by cases h)) ?_
    refine KT.step rfl rfl (K.move rfl) ?_
    refine KT.skip rfl rfl ?_
    refine KT.skip rfl rfl ?_
    refine KT.skip rfl rfl ?_
    refine KT.step rfl rfl (K.pick rfl (fun _ => rfl) (fun h => by cases h)) ?_
    refine KT.nil ?_
    refine thenK_n ?_
    refine KC.cond rfl (fun hc44 => ?_) (fun hc44 => ?_)
    · skip
      refine KC.seq ?_
      refine KC.region ?_
      refine KT.step rfl rfl (K.move rfl) ?_
      refine KT.step rfl rfl (K.eql rfl rfl) ?_
      refine KT.step rfl rfl (K.move rfl) ?_
      refine KT.bcase (fun hb47 => ?_) (fun hb47 => ?_)
      · skip
        replace hb47 := of_decide_eq_true hb47
        refine KT.skip rfl rfl ?_
        refine KT.skip rfl rfl ?_
        refine KT.skip rfl rfl ?_
        refine KT.step rfl rfl (K.pick rfl (fun _ => rfl) (fun h => by cases h)) ?_
        refine KT.step rfl rfl (K.move rfl) ?_
        refine KT.skip rfl rfl ?_
        refine KT.skip rfl rfl ?_
        refine KT.step rfl rfl (K.pick rfl (fun _ => rfl) (fun h => by cases h)) ?_
        refine KT.step rfl rfl (K.move rfl) ?_
        refine KT.step rfl rfl (K.call0 plainTry_22 (awake22)) ?_
        refine KT.step rfl rfl (K.pick rfl (fun _ => rfl) (fun h => by cases h)) ?_
        refine KT.step rfl rfl (K.assign rfl) ?_
        refine KT.nil ?_
        refine thenK_n ?_
        refine KC.ret ?_
        refine thenK_r ?_
        exact ⟨.inl rfl, _, rfl, rfl⟩
      · skip
        replace hb47 := of_decide_eq_false hb47
        refine KT.step rfl rfl (K.move rfl) ?_
        refine KT.step rfl rfl (K.move rfl) ?_
        refine KT.step rfl rfl (K.eql rfl rfl) ?_
        refine KT.step rfl rfl (K.pick rfl (fun h => by cases h) (fun _ => rfl)) ?_
        refine KT.step rfl rfl (K.move rfl) ?_
        refine KT.bcase (fun hb52 => ?_) (fun hb52 => ?_)
        · skip
          replace hb52 := of_decide_eq_true hb52
          refine KT.skip rfl rfl ?_
          refine KT.skip rfl rfl ?_
          refine KT.step rfl rfl (K.pick rfl (fun _ => rfl) (fun h => by cases h)) ?_
          refine KT.step rfl rfl (K.move rfl) ?_
          refine KT.step rfl rfl (K.call0 plainTry_22 (awake22)) ?_
          refine KT.step rfl rfl (K.pick rfl (fun _ => rfl) (fun h => by cases h)) ?_
          refine KT.step rfl rfl (K.assign rfl) ?_
          refine KT.nil ?_
          refine thenK_n ?_
          refine KC.ret ?_
          refine thenK_r ?_
          exact ⟨.inl rfl, _, rfl, rfl⟩
        · skip
          replace hb52 := of_decide_eq_false hb52
          refine KT.step rfl rfl (K.move rfl) ?_
          refine KT.step rfl rfl (K.eql rfl rfl) ?_
          refine KT.step rfl rfl (K.pick rfl (fun h => by cases h) (fun _ => rfl)) ?_
          refine KT.step rfl rfl (K.move rfl) ?_
          refine KT.bcase (fun hb56 => ?_) (fun hb56 => ?_)
          · skip
            replace hb56 := of_decide_eq_true hb56
            refine KT.step rfl rfl (K.call0 plainTry_22 (awake22)) ?_
            refine KT.step rfl rfl (K.pick rfl (fun _ => rfl) (fun h => by cases h)) ?_
            refine KT.step rfl rfl (K.assign rfl) ?_
            refine KT.nil ?_
            refine thenK_n ?_
            refine KC.ret ?_
            refine thenK_r ?_
            exact ⟨.inl rfl, _, rfl, rfl⟩
          · skip
            have h1 : (scA n (L.take 12)).2 ≠ 0 := hb47
            have h2 : (stA n (L.take 12) tm pe).2 ≠ (scA n (L.take 12)).2 := hb52
            have h3 : (stA n (L.take 12) tm pe).2 ≠ 2 := of_decide_eq_false hb56
            exact (hse h1).elim (fun e => absurd e h2) (fun e => absurd e h3)
    · cases hc44
  · skip
    replace hb34 := of_decide_eq_false hb34
    refine KT.step rfl rfl (K.fieldAddrO rfl Try.fld24_1 Try.size22) ?_
    refine KT.step rfl rfl (K.loadO rfl rfl (by simp) rfl Try.agg22) ?_
    refine KT.step rfl rfl (K.lenL rfl hd Try.underlying22) ?_
    refine KT.step rfl rfl (K.eql rfl rfl) ?_
    refine KT.step rfl rfl (K.pick rfl (fun h => by cases h) (fun _ => rfl)) ?_
    refine KT.step rfl rfl (K.move rfl) ?_
    refine KT.bcase (fun hb40 => ?_) (fun hb40 => ?_)
    · skip
      replace hb40 := of_decide_eq_true hb40
      refine KT.skip rfl rfl ?_
      refine KT.skip rfl rfl ?_
      refine KT.skip rfl rfl ?_
      refine KT.step rfl rfl (K.pick rfl (fun _ => rfl) (fun h => by cases h)) ?_
      refine KT.nil ?_
      refine thenK_n ?_
      refine KC.cond rfl (fun hc44 => ?_) (fun hc44 => ?_)
      · skip
        refine KC.seq ?_
        refine KC.region ?_
        refine KT.step rfl rfl (K.move rfl) ?_
        refine KT.step rfl rfl (K.eql rfl rfl) ?_
        refine KT.step rfl rfl (K.move rfl) ?_
        refine KT.bcase (fun hb47 => ?_) (fun hb47 => ?_)
        · skip
          replace hb47 := of_decide_eq_true hb47
          refine KT.skip rfl rfl ?_
          refine KT.skip rfl rfl ?_
          refine KT.skip rfl rfl ?_
          refine KT.step rfl rfl (K.pick rfl (fun _ => rfl) (fun h => by cases h)) ?_
          refine KT.step rfl rfl (K.move rfl) ?_
          refine KT.skip rfl rfl ?_
          refine KT.skip rfl rfl ?_
          refine KT.step rfl rfl (K.pick rfl (fun _ => rfl) (fun h => by cases h)) ?_
          refine KT.step rfl rfl (K.move rfl) ?_
          refine KT.step rfl rfl (K.call0 plainTry_22 (awake22)) ?_
          refine KT.step rfl rfl (K.pick rfl (fun _ => rfl) (fun h => by cases h)) ?_
          refine KT.step rfl rfl (K.assign rfl) ?_
          refine KT.nil ?_
          refine thenK_n ?_
          refine KC.ret ?_
          refine thenK_r ?_
          exact ⟨.inl rfl, _, rfl, rfl⟩
        · skip
          replace hb47 := of_decide_eq_false hb47
          refine KT.step rfl rfl (K.move rfl) ?_
          refine KT.step rfl rfl (K.move rfl) ?_
          refine KT.step rfl rfl (K.eql rfl rfl) ?_
          refine KT.step rfl rfl (K.pick rfl (fun h => by cases h) (fun _ => rfl)) ?_
          refine KT.step rfl rfl (K.move rfl) ?_
          refine KT.bcase (fun hb52 => ?_) (fun hb52 => ?_)
          · skip
            replace hb52 := of_decide_eq_true hb52
            refine KT.skip rfl rfl ?_
            refine KT.skip rfl rfl ?_
            refine KT.step rfl rfl (K.pick rfl (fun _ => rfl) (fun h => by cases h)) ?_
            refine KT.step rfl rfl (K.move rfl) ?_
            refine KT.step rfl rfl (K.call0 plainTry_22 (awake22)) ?_
            refine KT.step rfl rfl (K.pick rfl (fun _ => rfl) (fun h => by cases h)) ?_
            refine KT.step rfl rfl (K.assign rfl) ?_
            refine KT.nil ?_
            refine thenK_n ?_
            refine KC.ret ?_
            refine thenK_r ?_
            exact ⟨.inl rfl, _, rfl, rfl⟩
          · skip
            replace hb52 := of_decide_eq_false hb52
            refine KT.step rfl rfl (K.move rfl) ?_
            refine KT.step rfl rfl (K.eql rfl rfl) ?_
            refine KT.step rfl rfl (K.pick rfl (fun h => by cases h) (fun _ => rfl)) ?_
            refine KT.step rfl rfl (K.move rfl) ?_
            refine KT.bcase (fun hb56 => ?_) (fun hb56 => ?_)
            · skip
              replace hb56 := of_decide_eq_true hb56
              refine KT.step rfl rfl (K.call0 plainTry_22 (awake22)) ?_
              refine KT.step rfl rfl (K.pick rfl (fun _ => rfl) (fun h => by cases h)) ?_
              refine KT.step rfl rfl (K.assign rfl) ?_
              refine KT.nil ?_
              refine thenK_n ?_
              refine KC.ret ?_
              refine thenK_r ?_
              exact ⟨.inl rfl, _, rfl, rfl⟩
            · skip
              have h1 : (scA n (L.take 12)).2 ≠ 0 := hb47
              have h2 : (stA n (L.take 12) tm pe).2 ≠ (scA n (L.take 12)).2 := hb52
              have h3 : (stA n (L.take 12) tm pe).2 ≠ 2 := of_decide_eq_false hb56
              exact (hse h1).elim (fun e => absurd e h2) (fun e => absurd e h3)
      · cases hc44
    · skip
      replace hb40 := of_decide_eq_false hb40
      refine KT.step rfl rfl (K.loadOA ([DI n, d]) rfl rfl (by decide) Try.agg24 Try.size24 rfl) ?_
      refine KT.step rfl rfl (K.call1 rfl plainTry_35 (rvalid35 hd hl)) ?_
      refine KT.step rfl rfl (K.not rfl) ?_
      refine KT.step rfl rfl (K.pick rfl (fun h => by cases h) (fun _ => rfl)) ?_
      refine KT.nil ?_
      refine thenK_n ?_
      refine KC.cond rfl (fun hc44 => ?_) (fun hc44 => ?_)
      · skip
        refine KC.seq ?_
        refine KC.region ?_
        refine KT.step rfl rfl (K.move rfl) ?_
        refine KT.step rfl rfl (K.eql rfl rfl) ?_
        refine KT.step rfl rfl (K.move rfl) ?_
        refine KT.bcase (fun hb47 => ?_) (fun hb47 => ?_)
        · skip
          replace hb47 := of_decide_eq_true hb47
          refine KT.skip rfl rfl ?_
          refine KT.skip rfl rfl ?_
          refine KT.skip rfl rfl ?_
          refine KT.step rfl rfl (K.pick rfl (fun _ => rfl) (fun h => by cases h)) ?_
          refine KT.step rfl rfl (K.move rfl) ?_
          refine KT.skip rfl rfl ?_
          refine KT.skip rfl rfl ?_
          refine KT.step rfl rfl (K.pick rfl (fun _ => rfl) (fun h => by cases h)) ?_
          refine KT.step rfl rfl (K.move rfl) ?_
          refine KT.step rfl rfl (K.call0 plainTry_22 (awake22)) ?_
          refine KT.step rfl rfl (K.pick rfl (fun _ => rfl) (fun h => by cases h)) ?_
          refine KT.step rfl rfl (K.assign rfl) ?_
          refine KT.nil ?_
          refine thenK_n ?_
          refine KC.ret ?_
          refine thenK_r ?_
          exact ⟨.inl rfl, _, rfl, rfl⟩
        · skip
          replace hb47 := of_decide_eq_false hb47
          refine KT.step rfl rfl (K.move rfl) ?_
          refine KT.step rfl rfl (K.move rfl) ?_
          refine KT.step rfl rfl (K.eql rfl rfl) ?_
          refine KT.step rfl rfl (K.pick rfl (fun h => by cases h) (fun _ => rfl)) ?_
          refine KT.step rfl rfl (K.move rfl) ?_
          refine KT.bcase (fun hb52 => ?_) (fun hb52 => ?_)
          · skip
            replace hb52 := of_decide_eq_true hb52
            refine KT.skip rfl rfl ?_
            refine KT.skip rfl rfl ?_
            refine KT.step rfl rfl (K.pick rfl (fun _ => rfl) (fun h => by cases h)) ?_
            refine KT.step rfl rfl (K.move rfl) ?_
            refine KT.step rfl rfl (K.call0 plainTry_22 (awake22)) ?_
            refine KT.step rfl rfl (K.pick rfl (fun _ => rfl) (fun h => by cases h)) ?_
            refine KT.step rfl rfl (K.assign rfl) ?_
            refine KT.nil ?_
            refine thenK_n ?_
            refine KC.ret ?_
            refine thenK_r ?_
            exact ⟨.inl rfl, _, rfl, rfl⟩
          · skip
            replace hb52 := of_decide_eq_false hb52
            refine KT.step rfl rfl (K.move rfl) ?_
            refine KT.step rfl rfl (K.eql rfl rfl) ?_
            refine KT.step rfl rfl (K.pick rfl (fun h => by cases h) (fun _ => rfl)) ?_
            refine KT.step rfl rfl (K.move rfl) ?_
            refine KT.bcase (fun hb56 => ?_) (fun hb56 => ?_)
            · skip
              replace hb56 := of_decide_eq_true hb56
              refine KT.step rfl rfl (K.call0 plainTry_22 (awake22)) ?_
              refine KT.step rfl rfl (K.pick rfl (fun _ => rfl) (fun h => by cases h)) ?_
              refine KT.step rfl rfl (K.assign rfl) ?_
              refine KT.nil ?_
              refine thenK_n ?_
              refine KC.ret ?_
              refine thenK_r ?_
              exact ⟨.inl rfl, _, rfl, rfl⟩
            · skip
              have h1 : (scA n (L.take 12)).2 ≠ 0 := hb47
              have h2 : (stA n (L.take 12) tm pe).2 ≠ (scA n (L.take 12)).2 := hb52
              have h3 : (stA n (L.take 12) tm pe).2 ≠ 2 := of_decide_eq_false hb56
              exact (hse h1).elim (fun e => absurd e h2) (fun e => absurd e h3)
      · skip
        rw [Bool.not_eq_false'] at hc44
        rcases h with h | h | h
        · exact absurd (Classical.not_not.1 hb34) h
        · exact absurd h (by omega)
        · rw [h] at hc44; cases hc44
set_option maxHeartbeats 2000000 in
set_option maxRecDepth 10000 in
theorem stocks_ok {d td : DV} {N : Nat} {pe lk : Int} {L : List LN} {q : Nat → Nat} {s : List Nat} {tm : List Int} (hd : Lks d (L.map LN.z)) (hr : RepG N L q) (h12 : (L.map LN.z).take 12 = L.map LN.z) (htd : Ints td tm) (htl : tm.length ≤ 9223372036854775807) (hf : first0 L N q = some s) (hsc : scA (N : Int) (L.map LN.z) = (zs s, 0)) (h0 : L.length ≠ 0) : DeepCall Try.prog 14 [.agg [DI (N : Nat), d], td, DI pe, DI lk] (DB true) := by
  have hl : (L.map LN.z).length ≤ 9223372036854775807 := by have := hr.len; rw [List.length_map]; omega
  have hof := of19 (n := (N : Int)) hd hl
  unfold ofD at hof
  rw [h12] at hof
  have hsch := schedule_any (n := (N : Int)) (lkD_lks (L.map LN.z)) hl
  rw [hsc] at hsch
  have hst1 := startsOf32 (n := (N : Int)) (pe := pe) (lkD_lks (L.map LN.z)) hl htd htl
  have hrv := rvalid35 (n := (N : Int)) hd hl
  rw [hr.v] at hrv
  have hlen := hr.len
  have hml : (L.map LN.z).length = L.length := List.length_map ..
  refine deepCall_K 5 Try.func14 rfl (Nat.le_of_ble_eq_true rfl) fun M W0 => ?_
  refine KC.seq ?_
  refine KC.region ?_
  refine KT.step rfl rfl (K.box rfl) ?_
  refine KT.step rfl rfl (K.assign rfl) ?_
  refine KT.nil ?_
  refine thenK_n ?_
  refine KC.seq ?_
  refine KC.region ?_
  refine KT.step rfl rfl (K.loadOA ([DI (N : Nat), d]) rfl rfl (by decide) Try.agg24 Try.size24 rfl) ?_
  refine KT.step rfl rfl (K.call1 rfl plainTry_19 (hof)) ?_
  refine KT.step rfl rfl (K.call1 rfl plainTry_23 (hsch)) ?_
  refine KT.step rfl rfl (K.move rfl) ?_
  refine KT.step rfl rfl (K.extract rfl rfl) ?_
  refine KT.step rfl rfl (K.extract rfl rfl) ?_
  refine KT.step rfl rfl (K.assign rfl) ?_
  refine KT.step rfl rfl (K.assign rfl) ?_
  refine KT.nil ?_
  refine thenK_n ?_
  refine KC.seq ?_
  refine KC.region ?_
  refine KT.step rfl rfl (K.loadOA ([DI (N : Nat), d]) rfl rfl (by decide) Try.agg24 Try.size24 rfl) ?_
  refine KT.step rfl rfl (K.call1 rfl plainTry_19 (hof)) ?_
  refine KT.step rfl rfl (K.move rfl) ?_
  refine KT.step rfl rfl (K.move rfl) ?_
  refine KT.step rfl rfl (K.call3 rfl rfl rfl plainTry_32 (hst1)) ?_
  refine KT.step rfl rfl (K.move rfl) ?_
  refine KT.step rfl rfl (K.extract rfl rfl) ?_
  refine KT.step rfl rfl (K.extract rfl rfl) ?_
  refine KT.step rfl rfl (K.assign rfl) ?_
  refine KT.step rfl rfl (K.assign rfl) ?_
  refine KT.nil ?_
  refine thenK_n ?_
  refine KC.seq ?_
  refine KC.seq ?_
  refine KC.region ?_
  refine KT.step rfl rfl (K.move rfl) ?_
  refine KT.step rfl rfl (K.neq rfl rfl) ?_
  refine KT.step rfl rfl (K.move rfl) ?_
  refine KT.bcase (fun hb34 => ?_) (fun hb34 => ?_)
  · skip
    exact absurd rfl (of_decide_eq_true hb34)
  · skip
    replace hb34 := of_decide_eq_false hb34
    refine KT.step rfl rfl (K.fieldAddrO rfl Try.fld24_1 Try.size22) ?_
    refine KT.step rfl rfl (K.loadO rfl rfl (by simp) rfl Try.agg22) ?_
    refine KT.step rfl rfl (K.lenL rfl hd Try.underlying22) ?_
    refine KT.step rfl rfl (K.eql rfl rfl) ?_
    refine KT.step rfl rfl (K.pick rfl (fun h => by cases h) (fun _ => rfl)) ?_
    refine KT.step rfl rfl (K.move rfl) ?_
    refine KT.bcase (fun hb40 => ?_) (fun hb40 => ?_)
    · skip
      exact absurd (of_decide_eq_true hb40) (by rw [hml]; omega)
    · skip
      replace hb40 := of_decide_eq_false hb40
      refine KT.step rfl rfl (K.loadOA ([DI (N : Nat), d]) rfl rfl (by decide) Try.agg24 Try.size24 rfl) ?_
      refine KT.step rfl rfl (K.call1 rfl plainTry_35 (hrv)) ?_
      refine KT.step rfl rfl (K.not rfl) ?_
      refine KT.step rfl rfl (K.pick rfl (fun h => by cases h) (fun _ => rfl)) ?_
      refine KT.nil ?_
      refine thenK_n ?_
      refine KC.cond rfl (fun hc44 => ?_) (fun hc44 => ?_)
      · skip
        exact absurd hc44 (by decide)
      · skip
        refine KC.skip ?_
        refine thenK_n ?_
        refine KC.seq ?_
        refine KC.regionL ?_
        refine KL.step rfl rfl (K.loadOA ([DI (N : Nat), d]) rfl rfl (by decide) Try.agg24 Try.size24 rfl) ?_
        refine KL.call rfl rfl rfl rfl rfl plainTry_19 (ofO (o0 := ⟨[.d (DI (N : Nat)), .d d], 0⟩) hd) fun σ2 x2 hq => ?_
        obtain ⟨q0, x, rfl, hown, hlo⟩ := hq
        rw [h12] at hown
        obtain ⟨ix, rfl, hix⟩ := own_osl hown (fun h => by have := congrArg List.length h; rw [List.length_map] at this; exact h0 this)
        have hixl := (List.getElem?_eq_some_iff.1 hix).1
        refine KL.step rfl rfl (K.alloc Try.zero31) ?_
        refine KL.step rfl rfl (K.storeN (cells := [.d (DI 0), .d Dnil]) rfl rfl (List.getElem?_concat_length ..) (by exact Nat.le_refl 2) rfl Try.size31) ?_
        refine KL.nil ?_
        refine thenK_n ?_
        refine KC.seq ?_
        have eSt : ∀ (a b : VObj), (σ2 ++ [a]).set σ2.length b = σ2 ++ [b] := fun a b => by rw [List.set_append_right _ _ (Nat.le_refl _), Nat.sub_self]; rfl
        rw [eSt]
        have yT : (σ2 ++ [(⟨[.d (DI (N : Nat)), .osl ix 0 (L.map LN.z).length 5 (L.map LN.z).length false], 0⟩ : VObj)])[σ2.length]? = some ⟨[.d (DI (N : Nat)), .osl ix 0 (L.map LN.z).length 5 (L.map LN.z).length false], 0⟩ := List.getElem?_concat_length ..
        have yX : (σ2 ++ [(⟨[.d (DI (N : Nat)), .osl ix 0 (L.map LN.z).length 5 (L.map LN.z).length false], 0⟩ : VObj)])[ix]? = some ⟨(flatK (L.map LN.z)).map .d, 0⟩ := (List.getElem?_append_left hixl).trans hix
        refine KC.draw Try.mixed ?_
        refine KT.step rfl rfl (K.fieldAddrO rfl Try.fld31_1 Try.size29) ?_
        refine KT.step rfl rfl (K.loadO (y := .osl ix 0 (L.map LN.z).length 5 (L.map LN.z).length false) rfl yT (by simp) rfl Try.agg29) ?_
        refine KT.step rfl rfl (K.move rfl) ?_
        refine KT.step rfl rfl (K.conv rfl Try.underlying3 Try.underlying59 (wrapUI _)) ?_
        refine KT.step rfl rfl (K.fieldAddrO rfl Try.fld31_1 Try.size29) ?_
        refine KT.step rfl rfl (K.loadO (y := .osl ix 0 (L.map LN.z).length 5 (L.map LN.z).length false) rfl yT (by simp) rfl Try.agg29) ?_
        refine KT.step rfl rfl (K.lenO rfl Try.underlying29) ?_
        refine KT.step rfl rfl (K.conv rfl Try.underlying3 Try.underlying59 (show IntKind.u64.wrap (((L.map LN.z).length : Nat) : Int) = (L.length : Int) from by rw [hml, wrapU, Nat.mod_eq_of_lt (by omega)])) ?_
        refine KT.step rfl rfl (K.rem rfl rfl (by omega) (tmodN (lk % 2 ^ 64).toNat L.length)) ?_
        have hkk : (lk % 2 ^ 64).toNat % L.length < L.length := Nat.mod_lt _ (by omega)
        refine KT.step rfl rfl (K.conv rfl Try.underlying59 Try.underlying3 (wrapN (a := (lk % 2 ^ 64).toNat % L.length) (by omega))) ?_
        generalize (lk % 2 ^ 64).toNat % L.length = kk at hkk ⊢
        refine KT.step rfl rfl (K.idxOK (m := kk) (k := 5) rfl rfl (by omega) Try.underlying29 Try.size62) ?_
        refine KT.step rfl rfl (K.assign rfl) ?_
        refine KT.nil ?_
        refine ⟨by kernel_rfl, ?_⟩
        refine thenK_n ?_
        refine KC.seq ?_
        refine KC.region ?_
        refine KT.step rfl rfl (K.move rfl) ?_
        refine KT.step rfl rfl (K.move rfl) ?_
        refine KT.step rfl rfl (K.nilCheckO rfl) ?_
        refine KT.step rfl rfl (K.fieldAddrO rfl Try.fld62_4 Try.size3) ?_
        refine KT.step rfl rfl (K.loadO (y := .d (DI (L[kk].s : Nat))) rfl yX (by simp) (flatK_stock L kk hkk) Try.agg3) ?_
        have hs20 := (hr.ok _ (List.getElem_mem hkk)).s
        refine KT.step rfl rfl (K.add rfl rfl (wrap_id (by omega))) ?_
        refine KT.step rfl rfl (K.min2 rfl rfl) ?_
        refine KT.step rfl rfl (K.nilCheckO rfl) ?_
        refine KT.step rfl rfl (K.fieldAddrO rfl Try.fld62_4 Try.size3) ?_
        refine KT.storeG rfl rfl rfl rfl yX (by rw [List.length_map, flatK_len, List.length_map]; show 0 + kk * 5 + 4 < L.length * 5; omega) rfl rfl Try.size3 fun σ3 l3 u3 v3 => ?_
        have zT := (v3 σ2.length (by omega)).trans yT
        have hv : (min 20 (((L[kk].s : Nat) : Int) + 1)) = ((min 20 (L[kk].s + 1) : Nat) : Int) := by omega
        obtain ⟨L2, hL2⟩ : ∃ L2, L.set kk (upL (L.getD kk ⟨0, 0, 0, 0, 0⟩)) = L2 := ⟨_, rfl⟩
        have hgd : L.getD kk ⟨0, 0, 0, 0, 0⟩ = L[kk] := by rw [List.getD_eq_getElem?_getD, List.getElem?_eq_getElem hkk]; rfl
        have u4 : σ3[ix]? = some ⟨(flatK (L2.map LN.z)).map .d, 0⟩ := by
          rw [← hL2, hgd]
          have h9 := flatK_put L kk hkk (min 20 (L[kk].s + 1))
          have e9 : upL L[kk] = ⟨L[kk].f, L[kk].t, L[kk].g, L[kk].k, min 20 (L[kk].s + 1)⟩ := rfl
          rw [e9, ← h9, ← hv]
          exact u3
        have hM : MoreL L L2 := by rw [← hL2]; exact more_set kk hkk hr.ok
        have h2l : L2.length = L.length := more_len hM
        have hv2 : validB (N : Int) (L2.map LN.z) = true := by
          obtain ⟨a1, a2, a3, a4⟩ := validB_iff.1 hr.v
          refine validB_iff.2 ⟨a1, a2, by rw [List.length_map] at a3 ⊢; omega, ?_⟩
          rw [List.all_eq_true] at a4 ⊢
          intro z hz
          obtain ⟨l, hl2, rfl⟩ := List.mem_map.1 hz
          rw [← hL2] at hl2
          rcases List.mem_or_eq_of_mem_set hl2 with h | h
          · exact a4 _ (List.mem_map_of_mem h)
          · rw [hgd] at h
            have h5 := okZ_iff.1 (a4 _ (List.mem_map_of_mem (List.getElem_mem hkk)))
            rw [h]
            refine okZ_iff.2 ⟨h5.1, h5.2.1, h5.2.2.1, h5.2.2.2.1, h5.2.2.2.2.1, h5.2.2.2.2.2.1, h5.2.2.2.2.2.2.1, h5.2.2.2.2.2.2.2.1, ?_, ?_⟩
            · show (0 : Int) ≤ ((min 20 (L[kk].s + 1) : Nat) : Int)
              omega
            · show ((min 20 (L[kk].s + 1) : Nat) : Int) ≤ 20
              omega
        obtain ⟨s', hr', hf', hsl, hcmp, hall⟩ := more_all hr hf hM hv2
        have hs60 : s.length ≤ 60 := by rw [greedy_len hr.n6 hf]; exact hr.sum
        have hl2 : (L2.map LN.z).length ≤ 9223372036854775807 := by rw [List.length_map]; omega
        have hsc2 : scA (N : Int) (L2.map LN.z) = (zs s', 0) := by
          unfold scA
          rw [hr'.r, if_pos rfl, toN_z]
          simp only [Int.toNat_natCast]
          rw [hf']
        have hsch2 := schedule_any (n := (N : Int)) (lkD_lks (L2.map LN.z)) hl2
        rw [hsc2] at hsch2
        have hst2 := startsOf32 (n := (N : Int)) (pe := pe) (lkD_lks (L2.map LN.z)) hl2 htd htl
        have heq : (stA (N : Int) (L.map LN.z) tm pe).2 = (stA (N : Int) (L2.map LN.z) tm pe).2 := by
          unfold stA
          rw [hsc, hsc2, hr.r, hr'.r]
          split
          · rw [if_pos rfl, if_pos rfl]
            split <;> rfl
          · rfl
        have hlat : DeepCall Try.prog 38 [stR (N : Int) (L.map LN.z) tm pe, stR (N : Int) (L2.map LN.z) tm pe] (DB true) := by
          by_cases hE : (stA (N : Int) (L.map LN.z) tm pe).2 = 0
          · obtain ⟨N', Ln', q', t', e1, e2, hrr, hff, _, htm, h4, hR⟩ := stA_ok hE
            obtain rfl : N = N' := by omega
            obtain rfl : L = Ln' := by rw [← toN_z L, e2, toN_z]
            obtain rfl := hr.inj hrr
            rw [hf] at hff; cases hff
            obtain ⟨N', Ln', q', t', e1, e2, hrr, hff, _, _, _, hR2⟩ := stA_ok (heq ▸ hE)
            obtain rfl : N = N' := by omega
            obtain rfl : L2 = Ln' := by rw [← toN_z L2, e2, toN_z]
            obtain rfl := hr'.inj hrr
            rw [hf'] at hff; cases hff
            rw [hR, hR2]
            obtain ⟨_, _, _, hp20⟩ := tmB_iff.1 htm
            exact later38 (fun j hj => hall tm pe.toNat j hj) hr.n6 (fun j hj => by rw [runS_cnt hr hf pe.toNat hj]; exact Nat.le_trans (Nat.mul_le_mul (hr.le j) (show pe.toNat ≤ 20 by omega)) (by decide))
          · have r1 : stR (N : Int) (L.map LN.z) tm pe = Dnil := by unfold stR; rw [if_neg hE]
            have r2 : stR (N : Int) (L2.map LN.z) tm pe = Dnil := by unfold stR; rw [if_neg (heq ▸ hE)]
            rw [r1, r2]; exact laterNil
        have hne2 : L2.map LN.z ≠ [] := fun h => by have := congrArg List.length h; rw [List.length_map, h2l] at this; exact h0 this
        have hox : OwnK 5 σ3 (.osl ix 0 (L2.map LN.z).length 5 (L2.map LN.z).length false) ((flatK (L2.map LN.z)).map .d) := .sl u4 (by rw [List.length_map, flatK_len])
        have hd1 : deepen (freezeIds σ3 [ix]) 5 (aggX [.d (DI (N : Nat)), .osl ix 0 (L.map LN.z).length 5 (L.map LN.z).length false]) = some (.agg [DI (N : Nat), lkD (L2.map LN.z)]) := by
          have k1 := freezeIds_in (ids := [ix]) (by simp) u4
          have k2 : deepen (freezeIds σ3 [ix]) 4 (.osl ix 0 (L.map LN.z).length 5 (L.map LN.z).length false) = some (lkD (L2.map LN.z)) := by
            rw [show (L.map LN.z).length = (L2.map LN.z).length by rw [List.length_map, List.length_map]; omega]
            rw [deepen_osl k1 rfl (by simp only [List.length_map, flatK_len]; omega)]
            rw [List.drop_zero, List.take_of_length_le (by simp only [List.length_map, flatK_len]; omega), mapM_deep]
            cases hc : L2.map LN.z with
            | nil => exact absurd hc hne2
            | cons a l =>
              rfl
          show (([XV.d (DI (N : Nat)), XV.osl ix 0 (L.map LN.z).length 5 (L.map LN.z).length false] : List XV).mapM (deepen (freezeIds σ3 [ix]) 4)).map DV.agg = _
          rw [List.mapM_cons, List.mapM_cons, k2]; rfl
        have hdeep : ([aggX [.d (DI (N : Nat)), .osl ix 0 (L.map LN.z).length 5 (L.map LN.z).length false]] : List XV).mapM (deepen (freezeIds σ3 [ix]) 5) = some [.agg [DI (N : Nat), lkD (L2.map LN.z)]] := mapM_one hd1
        have hdeep2 : ([aggX [.d (DI (N : Nat)), .osl ix 0 (L.map LN.z).length 5 (L.map LN.z).length false], .d td, .d (DI pe)] : List XV).mapM (deepen (freezeIds (freezeIds σ3 [ix]) []) 5) = some [.agg [DI (N : Nat), lkD (L2.map LN.z)], td, DI pe] := by
          rw [freezeIds_nil, List.mapM_cons, hd1]; rfl
        have zF : (freezeIds σ3 [ix])[σ2.length]? = some ⟨[.d (DI (N : Nat)), .osl ix 0 (L.map LN.z).length 5 (L.map LN.z).length false], 0⟩ := (freezeIds_not (by simp; omega)).trans zT
        refine KT.nil ?_
        refine thenK_n ?_
        refine KC.seq ?_
        refine KC.region ?_
        refine KT.step rfl rfl (K.loadOAgg (m := 2) (ob := ⟨[.d (DI (N : Nat)), .osl ix 0 (L.map LN.z).length 5 (L.map LN.z).length false], 0⟩) rfl zT (by simp) Try.agg31 Try.size31 (by simp)) ?_
        refine KT.step rfl rfl (K.callZ (xs := [aggX [.d (DI (N : Nat)), .osl ix 0 (L.map LN.z).length 5 (L.map LN.z).length false]]) (ds := [.agg [DI (N : Nat), lkD (L2.map LN.z)]]) [ix] 5 rfl plainTry_23 hdeep hsch2) ?_
        refine KT.step rfl rfl (K.move rfl) ?_
        refine KT.step rfl rfl (K.extract rfl rfl) ?_
        refine KT.step rfl rfl (K.extract rfl rfl) ?_
        refine KT.step rfl rfl (K.assign rfl) ?_
        refine KT.step rfl rfl (K.assign rfl) ?_
        refine KT.nil ?_
        refine thenK_n ?_
        refine KC.seq ?_
        refine KC.region ?_
        refine KT.step rfl rfl (K.loadOAgg (m := 2) (ob := ⟨[.d (DI (N : Nat)), .osl ix 0 (L.map LN.z).length 5 (L.map LN.z).length false], 0⟩) rfl zF (by simp) Try.agg31 Try.size31 (by simp)) ?_
        refine KT.step rfl rfl (K.move rfl) ?_
        refine KT.step rfl rfl (K.move rfl) ?_
        refine KT.step rfl rfl (K.callZ (xs := [aggX [.d (DI (N : Nat)), .osl ix 0 (L.map LN.z).length 5 (L.map LN.z).length false], .d td, .d (DI pe)]) (ds := [.agg [DI (N : Nat), lkD (L2.map LN.z)], td, DI pe]) [] 5 rfl plainTry_32 hdeep2 hst2) ?_
        refine KT.step rfl rfl (K.move rfl) ?_
        refine KT.step rfl rfl (K.extract rfl rfl) ?_
        refine KT.step rfl rfl (K.extract rfl rfl) ?_
        refine KT.step rfl rfl (K.assign rfl) ?_
        refine KT.step rfl rfl (K.assign rfl) ?_
        refine KT.nil ?_
        refine thenK_n ?_
        refine KC.seq ?_
        refine KC.seq ?_
        refine KC.region ?_
        refine KT.step rfl rfl (K.move rfl) ?_
        refine KT.step rfl rfl (K.neq rfl rfl) ?_
        refine KT.step rfl rfl (K.move rfl) ?_
        refine KT.bcase (fun hb95 => ?_) (fun hb95 => ?_)
        · skip
          exact absurd rfl (of_decide_eq_true hb95)
        · skip
          replace hb95 := of_decide_eq_false hb95
          refine KT.step rfl rfl (K.move rfl) ?_
          refine KT.step rfl rfl (K.len rfl (lsD_ints (zs s)) Try.underlying25) ?_
          refine KT.step rfl rfl (K.move rfl) ?_
          refine KT.step rfl rfl (K.len rfl (lsD_ints (zs s')) Try.underlying25) ?_
          refine KT.step rfl rfl (K.neq rfl rfl) ?_
          refine KT.step rfl rfl (K.pick rfl (fun h => by cases h) (fun _ => rfl)) ?_
          refine KT.step rfl rfl (K.move rfl) ?_
          refine KT.bcase (fun hb102 => ?_) (fun hb102 => ?_)
          · skip
            exact absurd (by simp only [zs, List.length_map]; omega) (of_decide_eq_true hb102)
          · skip
            replace hb102 := of_decide_eq_false hb102
            refine KT.step rfl rfl (K.move rfl) ?_
            refine KT.step rfl rfl (K.move rfl) ?_
            refine KT.step rfl rfl (K.call2 rfl rfl plainTry_36 (compare36 (lsD_ints _) (lsD_ints _) (by simp only [zs, List.length_map]; omega) (by simp only [zs, List.length_map]; omega))) ?_
            refine KT.step rfl rfl (K.gtr rfl rfl) ?_
            refine KT.step rfl rfl (K.pick rfl (fun h => by cases h) (fun _ => rfl)) ?_
            refine KT.step rfl rfl (K.move rfl) ?_
            refine KT.bcase (fun hb108 => ?_) (fun hb108 => ?_)
            · skip
              exact absurd (of_decide_eq_true hb108) (by show ¬ (0 < cmpL (zs s') (zs s)); omega)
            · skip
              replace hb108 := of_decide_eq_false hb108
              refine KT.step rfl rfl (K.move rfl) ?_
              refine KT.step rfl rfl (K.move rfl) ?_
              refine KT.step rfl rfl (K.neq rfl rfl) ?_
              refine KT.step rfl rfl (K.pick rfl (fun h => by cases h) (fun _ => rfl)) ?_
              refine KT.nil ?_
              refine thenK_n ?_
              refine KC.cond rfl (fun hc112 => ?_) (fun hc112 => ?_)
              · skip
                exact absurd heq (of_decide_eq_true hc112)
              · skip
                replace hc112 := of_decide_eq_false hc112
                refine KC.skip ?_
                refine thenK_n ?_
                refine KC.seq ?_
                refine KC.region ?_
                refine KT.step rfl rfl (K.move rfl) ?_
                refine KT.step rfl rfl (K.move rfl) ?_
                refine KT.step rfl rfl (K.call2 rfl rfl plainTry_38 (hlat)) ?_
                refine KT.step rfl rfl (K.move rfl) ?_
                refine KT.bcase (fun hb116 => ?_) (fun hb116 => ?_)
                · skip
                  refine KT.step rfl rfl (K.call0 plainTry_22 (awake22)) ?_
                  refine KT.step rfl rfl (K.pick rfl (fun _ => rfl) (fun h => by cases h)) ?_
                  refine KT.step rfl rfl (K.assign rfl) ?_
                  refine KT.nil ?_
                  refine thenK_n ?_
                  refine KC.ret ?_
                  exact ⟨.inl rfl, _, rfl, rfl⟩
                · skip
                  cases hb116
theorem law14 {d td : DV} {n pe lk : Int} {L : List LZ} {tm : List Int} (hd : Lks d L) (hl : L.length ≤ 9223372036854775807) (htd : Ints td tm) (htl : tm.length ≤ 9223372036854775807) : DeepCall Try.prog 14 [.agg [DI n, d], td, DI pe, DI lk] (DB true) := by
  by_cases h : (scA n (L.take 12)).2 ≠ 0 ∨ L.length = 0 ∨ validB n L = false
  · exact stocks_no hd hl htd htl h
  · have h1 : (scA n (L.take 12)).2 = 0 := Classical.not_not.1 fun h1 => h (.inl h1)
    have h2 : L.length ≠ 0 := fun h2 => h (.inr (.inl h2))
    obtain ⟨N, Ln, q, s, e1, e2, hr, hf, hsc⟩ := sc_of h1
    obtain ⟨h3, h4⟩ := take12 e2 hr.len
    rw [h4] at hsc
    subst e1 h3
    exact stocks_ok hd hr h4 htd htl hf hsc (by rw [List.length_map] at h2; exact h2)
end Go.Proofs.Ytnfnjnaheckdbaa

