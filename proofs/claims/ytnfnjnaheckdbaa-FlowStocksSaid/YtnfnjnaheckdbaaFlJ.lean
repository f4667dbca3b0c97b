import Derived.Test.YtnfnjnaheckdbaaFlI
/-
  Dataflow graphs: Peaks of the program; the graph that the laws hand over.
-/
namespace Go.Proofs.Ytnfnjnaheckdbaa
open Go.Vm Go.Fl
theorem plainTry_19 : plainFn Try.prog 19 = true := by kernel_rfl
theorem build31n (n : Int) : pureRun Try.prog (Instr.build 31 #[(0, .int .i64 n)]) = some (.agg #[.int .i64 n, .slice none 0 0]) := by kernel_rfl
theorem build62 (a b c d e : Int) : pureRun Try.prog (Instr.build 62 #[(0, .int .i64 a), (1, .int .i64 b), (2, .int .i64 c), (3, .int .i64 d), (4, .int .i64 e)]) = some (.agg #[.int .i64 a, .int .i64 b, .int .i64 c, .int .i64 d, .int .i64 e]) := by kernel_rfl
/-- A slice of links of one's own making. -/
def lkD (L : List LZ) : DV := match L with | [] => Dnil | _ => .sl (flatK L) L.length none
theorem lkD_lks (L : List LZ) : Lks (lkD L) L := by
  cases L with
  | nil => exact .nil
  | cons a l => exact .sl
theorem ownL_end {σ : List VObj} {x : XV} {L : List LZ} {n : Int} (h : OwnK 5 σ x ((flatK L).map .d)) (hne : L = [] → x = .d Dnil) : deepen (freezeAll σ) 5 (aggX [.d (DI n), x]) = some (.agg [DI n, lkD L]) ∧ cellsX (aggX [.d (DI n), x]) = [.d (DI n), x] := by
  cases L with
  | nil => rw [hne rfl]; exact ⟨rfl, rfl⟩
  | cons a l =>
    generalize hc : (flatK (a :: l)).map XV.d = cells at h
    cases h with
    | nil => have := congrArg List.length hc; rw [List.length_map, flatK_len] at this; simp at this
    | @sl id m cells h hn =>
      subst hc
      have hm : m = (a :: l).length := by rw [List.length_map, flatK_len] at hn; omega
      subst hm
      refine ⟨?_, rfl⟩
      show (([XV.d (DI n), XV.osl id 0 (a :: l).length 5 (a :: l).length false] : List XV).mapM (deepen (freezeAll σ) 4)).map DV.agg = _
      have h1 : (freezeAll σ)[id]? = some ⟨(flatK (a :: l)).map .d, 1⟩ := by simp [freezeAll, h]
      have h2 : deepen (freezeAll σ) 4 (.osl id 0 (a :: l).length 5 (a :: l).length false) = some (.sl (flatK (a :: l)) (a :: l).length none) := by
        rw [deepen_osl h1 rfl (by rw [List.length_map, flatK_len]; omega)]
        rw [List.drop_zero, List.take_of_length_le (by rw [List.length_map, flatK_len]; omega), mapM_deep]; rfl
      rw [List.mapM_cons, List.mapM_cons, h2]; rfl
abbrev ofD (n : Int) (L : List LZ) : DV := .agg [DI n, lkD (L.take 12)]
set_option maxRecDepth 10000 in
theorem of19 {d : DV} {n : Int} {L : List LZ} (hd : Lks d L) (_ : L.length ≤ 9223372036854775807) : DeepCall Try.prog 19 [.agg [DI n, d]] (ofD n L) := by
  refine deepCall_K 5 Try.func19 rfl (Nat.le_of_ble_eq_true rfl) fun M W0 => ?_
  refine KC.seq ?_
  refine KC.region ?_
  refine KT.step rfl rfl (K.box rfl) ?_
  refine KT.step rfl rfl (K.alloc Try.zero31) ?_
  refine KT.nil ?_
  refine thenK_n ?_
  refine KC.seq ?_
  refine KC.region ?_
  refine KT.step rfl rfl (K.fieldAddrO rfl Try.fld24_0 Try.size3) ?_
  refine KT.step rfl rfl (K.loadO rfl rfl (by simp) rfl Try.agg3) ?_
  refine KT.step rfl rfl (K.buildL rfl (build31n _)) ?_
  refine KT.step rfl rfl (K.alloc Try.zero31) ?_
  refine KT.step rfl rfl (K.storeN rfl rfl rfl (Nat.le_refl 2) rfl Try.size31) ?_
  refine KT.nil ?_
  refine thenK_n ?_
  refine KC.seq ?_
  refine KC.seq ?_
  refine KC.region ?_
  refine KT.step rfl rfl (K.fieldAddrO rfl Try.fld24_1 Try.size22) ?_
  refine KT.step rfl rfl (K.loadO rfl rfl (by simp) rfl Try.agg22) ?_
  refine KT.step rfl rfl (K.lenL rfl hd Try.underlying22) ?_
  refine KT.step rfl rfl (K.move rfl) ?_
  refine KT.nil ?_
  refine thenK_n ?_
  refine KC.block ?_
  refine KC.loop (fun p : List VObj × XV × Nat => p.1) (fun p => [(2, .optr 1 0), (3, .optr 2 0), (10, .d d), (11, .d (DI (L.length : Nat))), (12, .d (DI (p.2.2 : Nat)))]) (fun p : List VObj × XV × Nat => p.2.2 ≤ L.length ∧ p.2.2 ≤ 12 ∧ p.1[1]? = some ⟨[.d (DI 0), .d Dnil], 0⟩ ∧ p.1[2]? = some ⟨[.d (DI n), p.2.1], 0⟩ ∧ OwnK 5 p.1 p.2.1 ((flatK (L.take p.2.2)).map .d) ∧ (∀ j, idX p.2.1 = some j → 3 ≤ j) ∧ (p.2.2 = 0 → p.2.1 = .d Dnil)) (fun p => L.length - p.2.2) (_, .d Dnil, 0) ⟨Nat.zero_le _, Nat.zero_le _, rfl, rfl, .nil, fun j hj => (by cases hj), fun _ => rfl⟩ rfl (by simp [Go.Vm.look, extK, enterK]) ?_
  intro p hp
  obtain ⟨σ0, x, i⟩ := p
  obtain ⟨hi, hi12, y1, y2, hown, hid, hnil⟩ := hp
  simp only at hi hi12 y1 y2 hown hid hnil ⊢
  have g2 := (List.getElem?_eq_some_iff.1 y2).1
  refine KC.seq ?_
  refine KC.region ?_
  refine KT.step rfl rfl (K.lss rfl rfl) ?_
  refine KT.nil ?_
  refine thenK_n ?_
  refine KC.seq ?_
  refine KC.cond rfl (fun hc13 => ?_) (fun hc13 => ?_)
  · skip
    replace hc13 := of_decide_eq_true hc13
    have hil : i < L.length := by omega
    refine KC.skip ?_
    refine thenK_n ?_
    refine KC.seq ?_
    refine KC.block ?_
    refine KC.seq ?_
    refine KC.region ?_
    refine KT.step rfl rfl (K.move rfl) ?_
    refine KT.step rfl rfl (K.idxL rfl hd rfl hil Try.underlying22 Try.size57) ?_
    refine KT.step rfl rfl (K.loadL hil rfl Try.agg57 Try.size57) ?_
    refine KT.step rfl rfl (K.alloc Try.zero57) ?_
    refine KT.step rfl rfl (K.assign rfl) ?_
    refine KT.storeH (cs := (lk5 L[i]).map XV.d) rfl rfl rfl rfl (List.getElem?_concat_length ..) rfl (Nat.le_refl _) rfl Try.size57 fun σ1 l1 u1 v1 => ?_
    try simp only [List.length_append, List.length_cons, List.length_nil] at l1
    replace u1 := u1.trans (congrArg (fun c => some (VObj.mk c 0)) (splice_all (by rfl)))
    have y1 := (v1 (1) (by omega)).trans ((List.getElem?_append_left (by omega)).trans y1)
    have y2 := (v1 (2) (by omega)).trans ((List.getElem?_append_left (by omega)).trans y2)
    have x1 := u1
    refine KT.nil ?_
    refine thenK_n ?_
    refine KC.seq ?_
    refine KC.seq ?_
    refine KC.region ?_
    refine KT.step rfl rfl (K.move rfl) ?_
    refine KT.step rfl rfl (K.gtr rfl rfl) ?_
    refine KT.nil ?_
    refine thenK_n ?_
    refine KC.cond rfl (fun hc18 => ?_) (fun hc18 => ?_)
    · skip
      replace hc18 := of_decide_eq_true hc18
      replace hown := hown.keep (σ' := σ1) fun j hj => (v1 j (by have := hown.lt hj; omega)).trans (List.getElem?_append_left (hown.lt hj))
      refine KC.exit ?_
      refine thenK_x ?_
      refine blockK_x (by decide) ?_
      refine thenK_x ?_
      refine thenK_x ?_
      refine blockK_e ?_
      refine thenK_n ?_
      refine KC.seq ?_
      refine KC.region ?_
      refine KT.step rfl rfl (K.loadOAgg (m := 2) rfl y2 (by simp) Try.agg31 Try.size31 (by simp)) ?_
      have et : L.take i = L.take 12 := by
        rcases Nat.lt_or_ge i L.length with h | h
        · rw [show i = 12 by omega]
        · rw [List.take_of_length_le h, List.take_of_length_le (by omega)]
      rw [et] at hown
      obtain ⟨hf1, hf2⟩ := ownL_end (n := n) hown (fun h => hnil (by
        rcases List.take_eq_nil_iff.1 h with h | h
        · cases h
        · rw [h] at hi; simpa using hi))
      refine KT.storeH (cs := [.d (DI n), x]) rfl rfl rfl rfl y1 hf2 (by simp) (by rw [List.all_cons, List.all_cons, hown.cells.2]; rfl) Try.size31 fun σ4 l4 u4 v4 => ?_
      replace u4 := u4.trans (congrArg (fun c => some (VObj.mk c 0)) (splice_all (by simp)))
      refine KT.nil ?_
      refine thenK_n ?_
      refine KC.ret ?_
      refine ⟨.inl rfl, _, resK_agg (m := 2) rfl rfl u4 (by simp) Try.agg31 Try.size31 (Nat.le_refl 2), ?_⟩
      rw [List.drop_zero, List.take_of_length_le (Nat.le_refl 2)]
      have hown4 : OwnK 5 σ4 x ((flatK (L.take 12)).map .d) := hown.keep fun j hj => v4 j (by have := hid j hj; omega)
      exact (ownL_end (n := n) hown4 (fun h => hnil (by
        rcases List.take_eq_nil_iff.1 h with h | h
        · cases h
        · rw [h] at hi; simpa using hi))).1
    · skip
      replace hc18 := of_decide_eq_false hc18
      refine KC.skip ?_
      refine thenK_n ?_
      refine KC.region ?_
      refine KT.step rfl rfl (K.fieldAddrO rfl Try.fld31_1 Try.size29) ?_
      refine KT.step rfl rfl (K.loadO rfl y2 (by simp) rfl Try.agg29) ?_
      refine KT.step rfl rfl (K.fieldAddrO rfl Try.fld57_0 Try.size3) ?_
      refine KT.step rfl rfl (K.loadO rfl x1 (by simp) rfl Try.agg3) ?_
      refine KT.step rfl rfl (K.fieldAddrO rfl Try.fld57_1 Try.size3) ?_
      refine KT.step rfl rfl (K.loadO rfl x1 (by simp) rfl Try.agg3) ?_
      refine KT.step rfl rfl (K.fieldAddrO rfl Try.fld57_2 Try.size3) ?_
      refine KT.step rfl rfl (K.loadO rfl x1 (by simp) rfl Try.agg3) ?_
      refine KT.step rfl rfl (K.fieldAddrO rfl Try.fld57_3 Try.size3) ?_
      refine KT.step rfl rfl (K.loadO rfl x1 (by simp) rfl Try.agg3) ?_
      refine KT.step rfl rfl (K.fieldAddrO rfl Try.fld57_4 Try.size3) ?_
      refine KT.step rfl rfl (K.loadO rfl x1 (by simp) rfl Try.agg3) ?_
      refine KT.step rfl rfl (K.buildL rfl (build62 _ _ _ _ _)) ?_
      refine KT.step rfl rfl (K.buildC (k := 5) (cs := (lk5 L[i]).map .d) rfl rfl rfl Try.underlying29 Try.size62 Try.zero62 (by omega)) ?_
      refine KT.appK (k := 5) rfl rfl rfl rfl ((hown.keep fun j hj => (v1 j (by have := hown.lt hj; omega)).trans (List.getElem?_append_left (hown.lt hj))).pushed _) (List.getElem?_concat_length ..) rfl rfl (by rw [List.length_map, flatK_len, List.length_take]; omega) Try.underlying29 Try.size62 (of_decide_eq_true (by kernel_rfl)) (by kernel_rfl) (by omega) fun σ2 x2 ho2 k2 w2 => ?_
      have z1 := (k2 1 (fun h => by have := hid 1 h; omega) (by simp only [List.length_append, List.length_cons, List.length_nil]; omega)).trans ((List.getElem?_append_left (by omega)).trans y1)
      have z2 := (k2 2 (fun h => by have := hid 2 h; omega) (by simp only [List.length_append, List.length_cons, List.length_nil]; omega)).trans ((List.getElem?_append_left (by omega)).trans y2)
      refine KT.step rfl rfl (K.fieldAddrO rfl Try.fld31_1 Try.size29) ?_
      obtain ⟨j2, w3, w4⟩ := w2
      simp only [List.length_append, List.length_cons, List.length_nil] at w4
      refine KT.storeG rfl rfl rfl rfl z2 (by simp) ho2.cells.1 ho2.cells.2 Try.size29 fun σ3 l3 u3 v3 => ?_
      replace z1 := (v3 1 (by omega)).trans z1
      refine KT.nil ?_
      refine blockK_n ?_
      refine thenK_n ?_
      refine KC.region ?_
      refine KT.step rfl rfl (K.add rfl rfl (wrap_id (by omega))) ?_
      refine KT.step rfl rfl (K.move rfl) ?_
      refine KT.nil ?_
      refine thenK_n ?_
      refine ⟨(σ3, x2, i + 1), ⟨by simp only; omega, by simp only; omega, z1, u3, ?_, fun j hj => ?_, fun h => by simp at h⟩, by simp only; omega, rfl, by simp [Go.Vm.look, extK]⟩
      · simp only
        rw [List.take_succ_eq_append_getElem hil, flatK_snoc, List.map_append]
        exact ho2.keep fun j hj => v3 j (by rw [w3] at hj; cases hj; omega)
      · simp only at hj
        rw [w3] at hj; cases hj; omega
  · skip
    replace hc13 := of_decide_eq_false hc13
    refine KC.exit ?_
    refine thenK_x ?_
    refine thenK_x ?_
    refine blockK_e ?_
    refine thenK_n ?_
    refine KC.seq ?_
    refine KC.region ?_
    refine KT.step rfl rfl (K.loadOAgg (m := 2) rfl y2 (by simp) Try.agg31 Try.size31 (by simp)) ?_
    have et : L.take i = L.take 12 := by
      rcases Nat.lt_or_ge i L.length with h | h
      · rw [show i = 12 by omega]
      · rw [List.take_of_length_le h, List.take_of_length_le (by omega)]
    rw [et] at hown
    obtain ⟨hf1, hf2⟩ := ownL_end (n := n) hown (fun h => hnil (by
      rcases List.take_eq_nil_iff.1 h with h | h
      · cases h
      · rw [h] at hi; simpa using hi))
    refine KT.storeH (cs := [.d (DI n), x]) rfl rfl rfl rfl y1 hf2 (by simp) (by rw [List.all_cons, List.all_cons, hown.cells.2]; rfl) Try.size31 fun σ4 l4 u4 v4 => ?_
    replace u4 := u4.trans (congrArg (fun c => some (VObj.mk c 0)) (splice_all (by simp)))
    refine KT.nil ?_
    refine thenK_n ?_
    refine KC.ret ?_
    refine ⟨.inl rfl, _, resK_agg (m := 2) rfl rfl u4 (by simp) Try.agg31 Try.size31 (Nat.le_refl 2), ?_⟩
    rw [List.drop_zero, List.take_of_length_le (Nat.le_refl 2)]
    have hown4 : OwnK 5 σ4 x ((flatK (L.take 12)).map .d) := hown.keep fun j hj => v4 j (by have := hid j hj; omega)
    exact (ownL_end (n := n) hown4 (fun h => hnil (by
      rcases List.take_eq_nil_iff.1 h with h | h
      · cases h
      · rw [h] at hi; simpa using hi))).1
end Go.Proofs.Ytnfnjnaheckdbaa

