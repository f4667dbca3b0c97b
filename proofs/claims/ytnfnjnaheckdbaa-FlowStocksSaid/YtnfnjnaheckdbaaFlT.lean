import Derived.Test.YtnfnjnaheckdbaaFlS
/-
  The law FlowScales: twice as many loads everywhere change nothing.
-/
namespace Go.Proofs.Ytnfnjnaheckdbaa
open Go.Vm Go.Fl
theorem build57 (a b c d e : Int) : pureRun Try.prog (Instr.build 57 #[(0, .int .i64 a), (1, .int .i64 b), (2, .int .i64 c), (3, .int .i64 d), (4, .int .i64 e)]) = some (.agg #[.int .i64 a, .int .i64 b, .int .i64 c, .int .i64 d, .int .i64 e]) := by kernel_rfl
def dblZ (l : LZ) : LZ := ⟨l.f, l.t, 2 * l.g, 2 * l.k, 2 * l.s⟩
def smallZ (l : LZ) : Bool := decide (l.g ≤ 3) && decide (l.k ≤ 3) && decide (l.s ≤ 10) && decide (1 ≤ l.g) && decide (1 ≤ l.k) && decide (0 ≤ l.s)
theorem dblZ_z (L : List LN) : (L.map LN.z).map dblZ = (L.map dbl).map LN.z := by
  rw [List.map_map, List.map_map]
  refine List.map_congr_left fun l _ => ?_
  simp [LN.z, dblZ, dbl]
theorem okZ_dbl {n : Int} {l : LZ} (h : smallZ l = true) : okZ n (dblZ l) = okZ n l := by
  simp only [smallZ, Bool.and_eq_true, decide_eq_true_eq] at h
  rw [Bool.eq_iff_iff, okZ_iff, okZ_iff]
  simp only [dblZ]
  omega
theorem all_congr {α : Type} {p q : α → Bool} : ∀ {L : List α}, (∀ l ∈ L, p l = q l) → L.all p = L.all q
  | [], _ => rfl
  | a :: L, h => by rw [List.all_cons, List.all_cons, h a (by simp), all_congr fun l hl => h l (List.mem_cons_of_mem _ hl)]
theorem valid_dbl {n : Int} {L : List LZ} (h : L.all smallZ = true) : validB n (L.map dblZ) = validB n L := by
  have e : (L.map dblZ).all (okZ n) = L.all (okZ n) := by
    rw [List.all_map]
    exact all_congr fun l hl => okZ_dbl (List.all_eq_true.1 h l hl)
  unfold validB
  rw [e, List.length_map]
theorem repA_dbl {n : Int} {L : List LZ} (h : L.all smallZ = true) : repA n (L.map dblZ) = repA n L := by
  cases hv : validB n L with
  | false => rw [repA_bad hv, repA_bad (by rw [valid_dbl h]; exact hv)]
  | true =>
    obtain ⟨N, Ln, h1, h2, h3, h4, h5, h6⟩ := valid_nat hv
    subst h1 h4
    have hv2 : validB (N : Int) ((Ln.map dbl).map LN.z) = true := by rw [← dblZ_z, valid_dbl h]; exact hv
    rw [dblZ_z, repA_ok hv, repA_ok hv2]
    unfold repO
    rw [dbl_fold]
theorem rp_dbl {n : Int} {L : List LZ} (h : L.all smallZ = true) : rpD n (L.map dblZ) = rpD n L := by
  unfold rpD; rw [repA_dbl h]
theorem sc_dbl {n : Int} {L : List LZ} (h : L.all smallZ = true) : scA n (L.map dblZ) = scA n L := by
  unfold scA
  rw [repA_dbl h]
  by_cases he : (repA n L).2 = 0
  · rw [if_pos he, if_pos he]
    obtain ⟨N, Ln, q, h1, h2, hr⟩ := repG_of he
    subst h1 h2
    rw [dblZ_z, toN_z, toN_z]
    simp only [first0, dbl_greedy]
  · rw [if_neg he, if_neg he]
theorem freezeIds_nil (σ : List VObj) : freezeIds σ [] = σ := by
  unfold freezeIds
  refine List.ext_getElem? fun k => ?_
  rw [List.getElem?_mapIdx]
  cases σ[k]? <;> simp
theorem freezeL {σ : List VObj} {x : XV} {L : List LZ} {n : Int} (h : OwnK 5 σ x ((flatK L).map .d)) (hne : L = [] → x = .d Dnil) : ∃ ids, (∀ j ∈ ids, idX x = some j) ∧ deepen (freezeIds σ ids) 5 (aggX [.d (DI n), x]) = some (.agg [DI n, lkD L]) := by
  cases L with
  | nil => exact ⟨[], fun j hj => by simp at hj, by rw [hne rfl]; rfl⟩
  | cons a l =>
    generalize hc : (flatK (a :: l)).map XV.d = cells at h
    cases h with
    | nil => have := congrArg List.length hc; rw [List.length_map, flatK_len] at this; simp at this
    | @sl id m cells h hn =>
      subst hc
      have hm : m = (a :: l).length := by rw [List.length_map, flatK_len] at hn; omega
      subst hm
      refine ⟨[id], fun j hj => by simp at hj; subst hj; rfl, ?_⟩
      show (([XV.d (DI n), XV.osl id 0 (a :: l).length 5 (a :: l).length false] : List XV).mapM (deepen (freezeIds σ [id]) 4)).map DV.agg = _
      have h1 := freezeIds_in (ids := [id]) (by simp) h
      have h2 : deepen (freezeIds σ [id]) 4 (.osl id 0 (a :: l).length 5 (a :: l).length false) = some (.sl (flatK (a :: l)) (a :: l).length none) := by
        rw [deepen_osl h1 rfl (by rw [List.length_map, flatK_len]; omega)]
        rw [List.drop_zero, List.take_of_length_le (by rw [List.length_map, flatK_len]; omega), mapM_deep]; rfl
      rw [List.mapM_cons, List.mapM_cons, h2]; rfl
theorem mapM_one {σ : List VObj} {k : Nat} {x : XV} {d : DV} (h : deepen σ k x = some d) : ([x] : List XV).mapM (deepen σ k) = some [d] := by
  rw [List.mapM_cons, h]; rfl
set_option maxRecDepth 10000 in
theorem scales {d : DV} {n : Int} {L : List LZ} (hd : Lks d L) (hl : L.length ≤ 9223372036854775807) : DeepCall Try.prog 11 [.agg [DI n, d]] (DB true) := by
  have hlt : (L.take 12).length ≤ 9223372036854775807 := by rw [List.length_take]; omega
  have hse : (repA n (L.take 12)).2 = 0 → (scA n (L.take 12)).2 = 0 ∨ (scA n (L.take 12)).2 = 8 := scA_err
  refine deepCall_K 5 Try.func11 rfl (Nat.le_of_ble_eq_true rfl) fun M W0 => ?_
  refine KC.seq ?_
  refine KC.region ?_
  refine KT.step rfl rfl (K.box rfl) ?_
  refine KT.step rfl rfl (K.assign rfl) ?_
  refine KT.nil ?_
  refine thenK_n ?_
  refine KC.seq ?_
  refine KC.region ?_
  refine KT.step rfl rfl (K.loadOA ([DI n, d]) rfl rfl (by decide) Try.agg24 Try.size24 rfl) ?_
  refine KT.step rfl rfl (K.call1 rfl plainTry_19 (of19 hd hl)) ?_
  refine KT.step rfl rfl (K.call1 rfl plainTry_18 (repeat_any (lkD_lks _) hlt)) ?_
  refine KT.step rfl rfl (K.move rfl) ?_
  refine KT.step rfl rfl (K.extract rfl rfl) ?_
  refine KT.step rfl rfl (K.extract rfl rfl) ?_
  refine KT.step rfl rfl (K.assign rfl) ?_
  refine KT.step rfl rfl (K.assign rfl) ?_
  refine KT.nil ?_
  refine thenK_n ?_
  refine KC.seq ?_
  refine KC.region ?_
  refine KT.step rfl rfl (K.loadOA ([DI n, d]) rfl rfl (by decide) Try.agg24 Try.size24 rfl) ?_
  refine KT.step rfl rfl (K.call1 rfl plainTry_19 (of19 hd hl)) ?_
  refine KT.step rfl rfl (K.call1 rfl plainTry_23 (schedule_any (lkD_lks _) hlt)) ?_
  refine KT.step rfl rfl (K.move rfl) ?_
  refine KT.step rfl rfl (K.extract rfl rfl) ?_
  refine KT.step rfl rfl (K.extract rfl rfl) ?_
  refine KT.step rfl rfl (K.assign rfl) ?_
  refine KT.step rfl rfl (K.assign rfl) ?_
  refine KT.nil ?_
  refine thenK_n ?_
  refine KC.seq ?_
  refine KC.region ?_
  refine KT.step rfl rfl (K.alloc Try.zero24) ?_
  refine KT.nil ?_
  refine thenK_n ?_
  refine KC.seq ?_
  refine KC.region ?_
  refine KT.step rfl rfl (K.fieldAddrO rfl Try.fld24_0 Try.size3) ?_
  refine KT.step rfl rfl (K.loadO rfl rfl (by simp) rfl Try.agg3) ?_
  refine KT.step rfl rfl (K.fieldAddrO rfl Try.fld24_0 Try.size3) ?_
  refine KT.step rfl rfl (K.storeO rfl rfl rfl (by decide) rfl rfl Try.size3) ?_
  refine KT.nil ?_
  refine thenK_n ?_
  refine KC.seq ?_
  refine KC.seq ?_
  refine KC.region ?_
  refine KT.step rfl rfl (K.fieldAddrO rfl Try.fld24_1 Try.size22) ?_
  refine KT.step rfl rfl (K.loadO rfl rfl (by simp) rfl Try.agg22) ?_
  refine KT.step rfl rfl (K.lenL rfl hd Try.underlying22) ?_
  refine KT.step rfl rfl (K.move rfl) ?_
  refine KT.nil ?_
  refine thenK_n ?_
  refine KC.block ?_
  refine KC.loop (fun p : List VObj × XV × Nat => p.1) (fun p => [(3, .d (rpD n (L.take 12))), (4, .d (DI (repA n (L.take 12)).2)), (5, .d (lsD (scA n (L.take 12)).1)), (6, .d (DI (scA n (L.take 12)).2)), (7, .optr 1 0), (30, .d d), (31, .d (DI (L.length : Nat))), (32, .d (DI (p.2.2 : Nat)))]) (fun p : List VObj × XV × Nat => p.2.2 ≤ L.length ∧ p.2.2 ≤ 12 ∧ p.1[1]? = some ⟨[.d (DI n), p.2.1], 0⟩ ∧ OwnK 5 p.1 p.2.1 ((flatK ((L.take p.2.2).map dblZ)).map .d) ∧ (∀ j, idX p.2.1 = some j → 2 ≤ j) ∧ (p.2.2 = 0 → p.2.1 = .d Dnil) ∧ (L.take p.2.2).all smallZ = true) (fun p => L.length - p.2.2) (_, .d Dnil, 0) ⟨Nat.zero_le _, Nat.zero_le _, rfl, .nil, fun j hj => (by cases hj), fun _ => rfl, by simp⟩ rfl (by simp [Go.Vm.look, extK, enterK]) ?_
  intro p hp
  obtain ⟨σ0, x, i⟩ := p
  obtain ⟨hi, hi12, y1, hown, hid, hnil, hall⟩ := hp
  simp only at hi hi12 y1 hown hid hnil hall ⊢
  have g1 := (List.getElem?_eq_some_iff.1 y1).1
  refine KC.seq ?_
  refine KC.region ?_
  refine KT.step rfl rfl (K.lss rfl rfl) ?_
  refine KT.nil ?_
  refine thenK_n ?_
  refine KC.seq ?_
  refine KC.cond rfl (fun hc33 => ?_) (fun hc33 => ?_)
  · skip
    replace hc33 := of_decide_eq_true hc33
    have hil : i < L.length := by omega
    refine KC.skip ?_
    refine thenK_n ?_
    refine KC.seq ?_
    refine KC.block ?_
    refine KC.seq ?_
    refine KC.region ?_
    refine KT.step rfl rfl (K.move rfl) ?_
    refine KT.step rfl rfl (K.idxL rfl hd rfl hil Try.underlying22 Try.size57) ?_
    refine KT.step rfl rfl (K.loadL hil rfl Try.agg57 Try.size57) ?_
    refine KT.step rfl rfl (K.alloc Try.zero57) ?_
    refine KT.step rfl rfl (K.assign rfl) ?_
    refine KT.storeH (cs := (lk5 L[i]).map XV.d) rfl rfl rfl rfl (List.getElem?_concat_length ..) rfl (Nat.le_refl _) rfl Try.size57 fun σ1 l1 u1 v1 => ?_
    try simp only [List.length_append, List.length_cons, List.length_nil, List.length_set] at l1
    replace u1 := u1.trans (congrArg (fun c => some (VObj.mk c 0)) (splice_all (by rfl)))
    have y1 := (v1 (1) (by omega)).trans ((List.getElem?_append_left (by omega)).trans y1)
    have x1 := u1
    refine KT.nil ?_
    refine thenK_n ?_
    refine KC.seq ?_
    refine KC.seq ?_
    refine KC.region ?_
    refine KT.step rfl rfl (K.move rfl) ?_
    refine KT.step rfl rfl (K.gtr rfl rfl) ?_
    refine KT.step rfl rfl (K.move rfl) ?_
    refine KT.bcase (fun hb39 => ?_) (fun hb39 => ?_)
    · skip
      replace hb39 := of_decide_eq_true hb39
      refine KT.skip rfl rfl ?_
      refine KT.skip rfl rfl ?_
      refine KT.skip rfl rfl ?_
      refine KT.step rfl rfl (K.pick rfl (fun _ => rfl) (fun h => by cases h)) ?_
      refine KT.step rfl rfl (K.move rfl) ?_
      refine KT.skip rfl rfl ?_
      refine KT.skip rfl rfl ?_
      refine KT.skip rfl rfl ?_
      refine KT.step rfl rfl (K.pick rfl (fun _ => rfl) (fun h => by cases h)) ?_
      refine KT.step rfl rfl (K.move rfl) ?_
      refine KT.skip rfl rfl ?_
      refine KT.skip rfl rfl ?_
      refine KT.skip rfl rfl ?_
      refine KT.step rfl rfl (K.pick rfl (fun _ => rfl) (fun h => by cases h)) ?_
      refine KT.step rfl rfl (K.move rfl) ?_
      refine KT.skip rfl rfl ?_
      refine KT.skip rfl rfl ?_
      refine KT.skip rfl rfl ?_
      refine KT.step rfl rfl (K.pick rfl (fun _ => rfl) (fun h => by cases h)) ?_
      refine KT.step rfl rfl (K.move rfl) ?_
      refine KT.skip rfl rfl ?_
      refine KT.skip rfl rfl ?_
      refine KT.skip rfl rfl ?_
      refine KT.step rfl rfl (K.pick rfl (fun _ => rfl) (fun h => by cases h)) ?_
      refine KT.step rfl rfl (K.move rfl) ?_
      refine KT.skip rfl rfl ?_
      refine KT.skip rfl rfl ?_
      refine KT.skip rfl rfl ?_
      refine KT.step rfl rfl (K.pick rfl (fun _ => rfl) (fun h => by cases h)) ?_
      refine KT.nil ?_
      refine thenK_n ?_
      refine KC.cond rfl (fun hc68 => ?_) (fun hc68 => ?_)
      · skip
        refine KC.seq ?_
        refine KC.region ?_
        refine KT.step rfl rfl (K.move rfl) ?_
        refine KT.step rfl rfl (K.neq rfl rfl) ?_
        refine KT.step rfl rfl (K.move rfl) ?_
        refine KT.bcase (fun hb71 => ?_) (fun hb71 => ?_)
        · skip
          replace hb71 := of_decide_eq_true hb71
          refine KT.skip rfl rfl ?_
          refine KT.skip rfl rfl ?_
          refine KT.step rfl rfl (K.pick rfl (fun _ => rfl) (fun h => by cases h)) ?_
          refine KT.step rfl rfl (K.move rfl) ?_
          refine KT.skip rfl rfl ?_
          refine KT.skip rfl rfl ?_
          refine KT.step rfl rfl (K.pick rfl (fun _ => rfl) (fun h => by cases h)) ?_
          refine KT.step rfl rfl (K.move rfl) ?_
          refine KT.step rfl rfl (K.call0 plainTry_22 (awake22)) ?_
          refine KT.step rfl rfl (K.pick rfl (fun _ => rfl) (fun h => by cases h)) ?_
          refine KT.step rfl rfl (K.assign rfl) ?_
          refine KT.nil ?_
          refine thenK_n ?_
          refine KC.ret ?_
          refine thenK_r ?_
          refine blockK_r ?_
          refine thenK_r ?_
          refine thenK_r ?_
          refine blockK_r ?_
          refine thenK_r ?_
          exact ⟨.inl rfl, _, rfl, rfl⟩
        · skip
          replace hb71 := of_decide_eq_false hb71
          refine KT.step rfl rfl (K.move rfl) ?_
          refine KT.step rfl rfl (K.eql rfl rfl) ?_
          refine KT.step rfl rfl (K.pick rfl (fun h => by cases h) (fun _ => rfl)) ?_
          refine KT.step rfl rfl (K.move rfl) ?_
          refine KT.bcase (fun hb75 => ?_) (fun hb75 => ?_)
          · skip
            replace hb75 := of_decide_eq_true hb75
            refine KT.skip rfl rfl ?_
            refine KT.skip rfl rfl ?_
            refine KT.step rfl rfl (K.pick rfl (fun _ => rfl) (fun h => by cases h)) ?_
            refine KT.step rfl rfl (K.move rfl) ?_
            refine KT.step rfl rfl (K.call0 plainTry_22 (awake22)) ?_
            refine KT.step rfl rfl (K.pick rfl (fun _ => rfl) (fun h => by cases h)) ?_
            refine KT.step rfl rfl (K.assign rfl) ?_
            refine KT.nil ?_
            refine thenK_n ?_
            refine KC.ret ?_
            refine thenK_r ?_
            refine blockK_r ?_
            refine thenK_r ?_
            refine thenK_r ?_
            refine blockK_r ?_
            refine thenK_r ?_
            exact ⟨.inl rfl, _, rfl, rfl⟩
          · skip
            replace hb75 := of_decide_eq_false hb75
            refine KT.step rfl rfl (K.move rfl) ?_
            refine KT.step rfl rfl (K.eql rfl rfl) ?_
            refine KT.step rfl rfl (K.pick rfl (fun h => by cases h) (fun _ => rfl)) ?_
            refine KT.step rfl rfl (K.move rfl) ?_
            refine KT.bcase (fun hb79 => ?_) (fun hb79 => ?_)
            · skip
              replace hb79 := of_decide_eq_true hb79
              refine KT.step rfl rfl (K.call0 plainTry_22 (awake22)) ?_
              refine KT.step rfl rfl (K.pick rfl (fun _ => rfl) (fun h => by cases h)) ?_
              refine KT.step rfl rfl (K.assign rfl) ?_
              refine KT.nil ?_
              refine thenK_n ?_
              refine KC.ret ?_
              refine thenK_r ?_
              refine blockK_r ?_
              refine thenK_r ?_
              refine thenK_r ?_
              refine blockK_r ?_
              refine thenK_r ?_
              exact ⟨.inl rfl, _, rfl, rfl⟩
            · skip
              exfalso; replace hb79 := of_decide_eq_false hb79; have := hse (Classical.not_not.1 hb71); omega
      · cases hc68
    · skip
      replace hb39 := of_decide_eq_false hb39
      refine KT.step rfl rfl (K.fieldAddrO rfl Try.fld57_2 Try.size3) ?_
      refine KT.step rfl rfl (K.loadO rfl x1 (by simp) rfl Try.agg3) ?_
      refine KT.step rfl rfl (K.gtr rfl rfl) ?_
      refine KT.step rfl rfl (K.pick rfl (fun h => by cases h) (fun _ => rfl)) ?_
      refine KT.step rfl rfl (K.move rfl) ?_
      refine KT.bcase (fun hb44 => ?_) (fun hb44 => ?_)
      · skip
        replace hb44 := of_decide_eq_true hb44
        refine KT.skip rfl rfl ?_
        refine KT.skip rfl rfl ?_
        refine KT.skip rfl rfl ?_
        refine KT.step rfl rfl (K.pick rfl (fun _ => rfl) (fun h => by cases h)) ?_
        refine KT.step rfl rfl (K.move rfl) ?_
        refine KT.skip rfl rfl ?_
        refine KT.skip rfl rfl ?_
        refine KT.skip rfl rfl ?_
        refine KT.step rfl rfl (K.pick rfl (fun _ => rfl) (fun h => by cases h)) ?_
        refine KT.step rfl rfl (K.move rfl) ?_
        refine KT.skip rfl rfl ?_
        refine KT.skip rfl rfl ?_
        refine KT.skip rfl rfl ?_
        refine KT.step rfl rfl (K.pick rfl (fun _ => rfl) (fun h => by cases h)) ?_
        refine KT.step rfl rfl (K.move rfl) ?_
        refine KT.skip rfl rfl ?_
        refine KT.skip rfl rfl ?_
        refine KT.skip rfl rfl ?_
        refine KT.step rfl rfl (K.pick rfl (fun _ => rfl) (fun h => by cases h)) ?_
        refine KT.step rfl rfl (K.move rfl) ?_
        refine KT.skip rfl rfl ?_
        refine KT.skip rfl rfl ?_
        refine KT.skip rfl rfl ?_
        refine KT.step rfl rfl (K.pick rfl (fun _ => rfl) (fun h => by cases h)) ?_
        refine KT.nil ?_
        refine thenK_n ?_
        refine KC.cond rfl (fun hc68 => ?_) (fun hc68 => ?_)
        · skip
          refine KC.seq ?_
          refine KC.region ?_
          refine KT.step rfl rfl (K.move rfl) ?_
          refine KT.step rfl rfl (K.neq rfl rfl) ?_
          refine KT.step rfl rfl (K.move rfl) ?_
          refine KT.bcase (fun hb71 => ?_) (fun hb71 => ?_)
          · skip
            replace hb71 := of_decide_eq_true hb71
            refine KT.skip rfl rfl ?_
            refine KT.skip rfl rfl ?_
            refine KT.step rfl rfl (K.pick rfl (fun _ => rfl) (fun h => by cases h)) ?_
            refine KT.step rfl rfl (K.move rfl) ?_
            refine KT.skip rfl rfl ?_
            refine KT.skip rfl rfl ?_
            refine KT.step rfl rfl (K.pick rfl (fun _ => rfl) (fun h => by cases h)) ?_
            refine KT.step rfl rfl (K.move rfl) ?_
            refine KT.step rfl rfl (K.call0 plainTry_22 (awake22)) ?_
            refine KT.step rfl rfl (K.pick rfl (fun _ => rfl) (fun h => by cases h)) ?_
            refine KT.step rfl rfl (K.assign rfl) ?_
            refine KT.nil ?_
            refine thenK_n ?_
            refine KC.ret ?_
            refine thenK_r ?_
            refine blockK_r ?_
            refine thenK_r ?_
            refine thenK_r ?_
            refine blockK_r ?_
            refine thenK_r ?_
            exact ⟨.inl rfl, _, rfl, rfl⟩
          · skip
            replace hb71 := of_decide_eq_false hb71
            refine KT.step rfl rfl (K.move rfl) ?_
            refine KT.step rfl rfl (K.eql rfl rfl) ?_
            refine KT.step rfl rfl (K.pick rfl (fun h => by cases h) (fun _ => rfl)) ?_
            refine KT.step rfl rfl (K.move rfl) ?_
            refine KT.bcase (fun hb75 => ?_) (fun hb75 => ?_)
            · skip
              replace hb75 := of_decide_eq_true hb75
              refine KT.skip rfl rfl ?_
              refine KT.skip rfl rfl ?_
              refine KT.step rfl rfl (K.pick rfl (fun _ => rfl) (fun h => by cases h)) ?_
              refine KT.step rfl rfl (K.move rfl) ?_
              refine KT.step rfl rfl (K.call0 plainTry_22 (awake22)) ?_
              refine KT.step rfl rfl (K.pick rfl (fun _ => rfl) (fun h => by cases h)) ?_
              refine KT.step rfl rfl (K.assign rfl) ?_
              refine KT.nil ?_
              refine thenK_n ?_
              refine KC.ret ?_
              refine thenK_r ?_
              refine blockK_r ?_
              refine thenK_r ?_
              refine thenK_r ?_
              refine blockK_r ?_
              refine thenK_r ?_
              exact ⟨.inl rfl, _, rfl, rfl⟩
            · skip
              replace hb75 := of_decide_eq_false hb75
              refine KT.step rfl rfl (K.move rfl) ?_
              refine KT.step rfl rfl (K.eql rfl rfl) ?_
              refine KT.step rfl rfl (K.pick rfl (fun h => by cases h) (fun _ => rfl)) ?_
              refine KT.step rfl rfl (K.move rfl) ?_
              refine KT.bcase (fun hb79 => ?_) (fun hb79 => ?_)
              · skip
                replace hb79 := of_decide_eq_true hb79
                refine KT.step rfl rfl (K.call0 plainTry_22 (awake22)) ?_
                refine KT.step rfl rfl (K.pick rfl (fun _ => rfl) (fun h => by cases h)) ?_
                refine KT.step rfl rfl (K.assign rfl) ?_
                refine KT.nil ?_
                refine thenK_n ?_
                refine KC.ret ?_
                refine thenK_r ?_
                refine blockK_r ?_
                refine thenK_r ?_
                refine thenK_r ?_
                refine blockK_r ?_
                refine thenK_r ?_
                exact ⟨.inl rfl, _, rfl, rfl⟩
              · skip
                exfalso; replace hb79 := of_decide_eq_false hb79; have := hse (Classical.not_not.1 hb71); omega
        · cases hc68
      · skip
        replace hb44 := of_decide_eq_false hb44
        refine KT.step rfl rfl (K.fieldAddrO rfl Try.fld57_3 Try.size3) ?_
        refine KT.step rfl rfl (K.loadO rfl x1 (by simp) rfl Try.agg3) ?_
        refine KT.step rfl rfl (K.gtr rfl rfl) ?_
        refine KT.step rfl rfl (K.pick rfl (fun h => by cases h) (fun _ => rfl)) ?_
        refine KT.step rfl rfl (K.move rfl) ?_
        refine KT.bcase (fun hb49 => ?_) (fun hb49 => ?_)
        · skip
          replace hb49 := of_decide_eq_true hb49
          refine KT.skip rfl rfl ?_
          refine KT.skip rfl rfl ?_
          refine KT.skip rfl rfl ?_
          refine KT.step rfl rfl (K.pick rfl (fun _ => rfl) (fun h => by cases h)) ?_
          refine KT.step rfl rfl (K.move rfl) ?_
          refine KT.skip rfl rfl ?_
          refine KT.skip rfl rfl ?_
          refine KT.skip rfl rfl ?_
          refine KT.step rfl rfl (K.pick rfl (fun _ => rfl) (fun h => by cases h)) ?_
          refine KT.step rfl rfl (K.move rfl) ?_
          refine KT.skip rfl rfl ?_
          refine KT.skip rfl rfl ?_
          refine KT.skip rfl rfl ?_
          refine KT.step rfl rfl (K.pick rfl (fun _ => rfl) (fun h => by cases h)) ?_
          refine KT.step rfl rfl (K.move rfl) ?_
          refine KT.skip rfl rfl ?_
          refine KT.skip rfl rfl ?_
          refine KT.skip rfl rfl ?_
          refine KT.step rfl rfl (K.pick rfl (fun _ => rfl) (fun h => by cases h)) ?_
          refine KT.nil ?_
          refine thenK_n ?_
          refine KC.cond rfl (fun hc68 => ?_) (fun hc68 => ?_)
          · skip
            refine KC.seq ?_
            refine KC.region ?_
            refine KT.step rfl rfl (K.move rfl) ?_
            refine KT.step rfl rfl (K.neq rfl rfl) ?_
            refine KT.step rfl rfl (K.move rfl) ?_
            refine KT.bcase (fun hb71 => ?_) (fun hb71 => ?_)
            · skip
              replace hb71 := of_decide_eq_true hb71
              refine KT.skip rfl rfl ?_
              refine KT.skip rfl rfl ?_
              refine KT.step rfl rfl (K.pick rfl (fun _ => rfl) (fun h => by cases h)) ?_
              refine KT.step rfl rfl (K.move rfl) ?_
              refine KT.skip rfl rfl ?_
              refine KT.skip rfl rfl ?_
              refine KT.step rfl rfl (K.pick rfl (fun _ => rfl) (fun h => by cases h)) ?_
              refine KT.step rfl rfl (K.move rfl) ?_
              refine KT.step rfl rfl (K.call0 plainTry_22 (awake22)) ?_
              refine KT.step rfl rfl (K.pick rfl (fun _ => rfl) (fun h => by cases h)) ?_
              refine KT.step rfl rfl (K.assign rfl) ?_
              refine KT.nil ?_
              refine thenK_n ?_
              refine KC.ret ?_
              refine thenK_r ?_
              refine blockK_r ?_
              refine thenK_r ?_
              refine thenK_r ?_
              refine blockK_r ?_
              refine thenK_r ?_
              exact ⟨.inl rfl, _, rfl, rfl⟩
            · skip
              replace hb71 := of_decide_eq_false hb71
              refine KT.step rfl rfl (K.move rfl) ?_
              refine KT.step rfl rfl (K.eql rfl rfl) ?_
              refine KT.step rfl rfl (K.pick rfl (fun h => by cases h) (fun _ => rfl)) ?_
              refine KT.step rfl rfl (K.move rfl) ?_
              refine KT.bcase (fun hb75 => ?_) (fun hb75 => ?_)
              · skip
                replace hb75 := of_decide_eq_true hb75
                refine KT.skip rfl rfl ?_
                refine KT.skip rfl rfl ?_
                refine KT.step rfl rfl (K.pick rfl (fun _ => rfl) (fun h => by cases h)) ?_
                refine KT.step rfl rfl (K.move rfl) ?_
                refine KT.step rfl rfl (K.call0 plainTry_22 (awake22)) ?_
                refine KT.step rfl rfl (K.pick rfl (fun _ => rfl) (fun h => by cases h)) ?_
                refine KT.step rfl rfl (K.assign rfl) ?_
                refine KT.nil ?_
                refine thenK_n ?_
                refine KC.ret ?_
                refine thenK_r ?_
                refine blockK_r ?_
                refine thenK_r ?_
                refine thenK_r ?_
                refine blockK_r ?_
                refine thenK_r ?_
                exact ⟨.inl rfl, _, rfl, rfl⟩
              · skip
                replace hb75 := of_decide_eq_false hb75
                refine KT.step rfl rfl (K.move rfl) ?_
                refine KT.step rfl rfl (K.eql rfl rfl) ?_
                refine KT.step rfl rfl (K.pick rfl (fun h => by cases h) (fun _ => rfl)) ?_
                refine KT.step rfl rfl (K.move rfl) ?_
                refine KT.bcase (fun hb79 => ?_) (fun hb79 => ?_)
                · skip
                  replace hb79 := of_decide_eq_true hb79
                  refine KT.step rfl rfl (K.call0 plainTry_22 (awake22)) ?_
                  refine KT.step rfl rfl (K.pick rfl (fun _ => rfl) (fun h => by cases h)) ?_
                  refine KT.step rfl rfl (K.assign rfl) ?_
                  refine KT.nil ?_
                  refine thenK_n ?_
                  refine KC.ret ?_
                  refine thenK_r ?_
                  refine blockK_r ?_
                  refine thenK_r ?_
                  refine thenK_r ?_
                  refine blockK_r ?_
                  refine thenK_r ?_
                  exact ⟨.inl rfl, _, rfl, rfl⟩
                · skip
                  exfalso; replace hb79 := of_decide_eq_false hb79; have := hse (Classical.not_not.1 hb71); omega
          · cases hc68
        · skip
          replace hb49 := of_decide_eq_false hb49
          refine KT.step rfl rfl (K.fieldAddrO rfl Try.fld57_4 Try.size3) ?_
          refine KT.step rfl rfl (K.loadO rfl x1 (by simp) rfl Try.agg3) ?_
          refine KT.step rfl rfl (K.gtr rfl rfl) ?_
          refine KT.step rfl rfl (K.pick rfl (fun h => by cases h) (fun _ => rfl)) ?_
          refine KT.step rfl rfl (K.move rfl) ?_
          refine KT.bcase (fun hb54 => ?_) (fun hb54 => ?_)
          · skip
            replace hb54 := of_decide_eq_true hb54
            refine KT.skip rfl rfl ?_
            refine KT.skip rfl rfl ?_
            refine KT.skip rfl rfl ?_
            refine KT.step rfl rfl (K.pick rfl (fun _ => rfl) (fun h => by cases h)) ?_
            refine KT.step rfl rfl (K.move rfl) ?_
            refine KT.skip rfl rfl ?_
            refine KT.skip rfl rfl ?_
            refine KT.skip rfl rfl ?_
            refine KT.step rfl rfl (K.pick rfl (fun _ => rfl) (fun h => by cases h)) ?_
            refine KT.step rfl rfl (K.move rfl) ?_
            refine KT.skip rfl rfl ?_
            refine KT.skip rfl rfl ?_
            refine KT.skip rfl rfl ?_
            refine KT.step rfl rfl (K.pick rfl (fun _ => rfl) (fun h => by cases h)) ?_
            refine KT.nil ?_
            refine thenK_n ?_
            refine KC.cond rfl (fun hc68 => ?_) (fun hc68 => ?_)
            · skip
              refine KC.seq ?_
              refine KC.region ?_
              refine KT.step rfl rfl (K.move rfl) ?_
              refine KT.step rfl rfl (K.neq rfl rfl) ?_
              refine KT.step rfl rfl (K.move rfl) ?_
              refine KT.bcase (fun hb71 => ?_) (fun hb71 => ?_)
              · skip
                replace hb71 := of_decide_eq_true hb71
                refine KT.skip rfl rfl ?_
                refine KT.skip rfl rfl ?_
                refine KT.step rfl rfl (K.pick rfl (fun _ => rfl) (fun h => by cases h)) ?_
                refine KT.step rfl rfl (K.move rfl) ?_
                refine KT.skip rfl rfl ?_
                refine KT.skip rfl rfl ?_
                refine KT.step rfl rfl (K.pick rfl (fun _ => rfl) (fun h => by cases h)) ?_
                refine KT.step rfl rfl (K.move rfl) ?_
                refine KT.step rfl rfl (K.call0 plainTry_22 (awake22)) ?_
                refine KT.step rfl rfl (K.pick rfl (fun _ => rfl) (fun h => by cases h)) ?_
                refine KT.step rfl rfl (K.assign rfl) ?_
                refine KT.nil ?_
                refine thenK_n ?_
                refine KC.ret ?_
                refine thenK_r ?_
                refine blockK_r ?_
                refine thenK_r ?_
                refine thenK_r ?_
                refine blockK_r ?_
                refine thenK_r ?_
                exact ⟨.inl rfl, _, rfl, rfl⟩
              · skip
                replace hb71 := of_decide_eq_false hb71
                refine KT.step rfl rfl (K.move rfl) ?_
                refine KT.step rfl rfl (K.eql rfl rfl) ?_
                refine KT.step rfl rfl (K.pick rfl (fun h => by cases h) (fun _ => rfl)) ?_
                refine KT.step rfl rfl (K.move rfl) ?_
                refine KT.bcase (fun hb75 => ?_) (fun hb75 => ?_)
                · skip
                  replace hb75 := of_decide_eq_true hb75
                  refine KT.skip rfl rfl ?_
                  refine KT.skip rfl rfl ?_
                  refine KT.step rfl rfl (K.pick rfl (fun _ => rfl) (fun h => by cases h)) ?_
                  refine KT.step rfl rfl (K.move rfl) ?_
                  refine KT.step rfl rfl (K.call0 plainTry_22 (awake22)) ?_
                  refine KT.step rfl rfl (K.pick rfl (fun _ => rfl) (fun h => by cases h)) ?_
                  refine KT.step rfl rfl (K.assign rfl) ?_
                  refine KT.nil ?_
                  refine thenK_n ?_
                  refine KC.ret ?_
                  refine thenK_r ?_
                  refine blockK_r ?_
                  refine thenK_r ?_
                  refine thenK_r ?_
                  refine blockK_r ?_
                  refine thenK_r ?_
                  exact ⟨.inl rfl, _, rfl, rfl⟩
                · skip
                  replace hb75 := of_decide_eq_false hb75
                  refine KT.step rfl rfl (K.move rfl) ?_
                  refine KT.step rfl rfl (K.eql rfl rfl) ?_
                  refine KT.step rfl rfl (K.pick rfl (fun h => by cases h) (fun _ => rfl)) ?_
                  refine KT.step rfl rfl (K.move rfl) ?_
                  refine KT.bcase (fun hb79 => ?_) (fun hb79 => ?_)
                  · skip
                    replace hb79 := of_decide_eq_true hb79
                    refine KT.step rfl rfl (K.call0 plainTry_22 (awake22)) ?_
                    refine KT.step rfl rfl (K.pick rfl (fun _ => rfl) (fun h => by cases h)) ?_
                    refine KT.step rfl rfl (K.assign rfl) ?_
                    refine KT.nil ?_
                    refine thenK_n ?_
                    refine KC.ret ?_
                    refine thenK_r ?_
                    refine blockK_r ?_
                    refine thenK_r ?_
                    refine thenK_r ?_
                    refine blockK_r ?_
                    refine thenK_r ?_
                    exact ⟨.inl rfl, _, rfl, rfl⟩
                  · skip
                    exfalso; replace hb79 := of_decide_eq_false hb79; have := hse (Classical.not_not.1 hb71); omega
            · cases hc68
          · skip
            replace hb54 := of_decide_eq_false hb54
            refine KT.step rfl rfl (K.fieldAddrO rfl Try.fld57_2 Try.size3) ?_
            refine KT.step rfl rfl (K.loadO rfl x1 (by simp) rfl Try.agg3) ?_
            refine KT.step rfl rfl (K.lss rfl rfl) ?_
            refine KT.step rfl rfl (K.pick rfl (fun h => by cases h) (fun _ => rfl)) ?_
            refine KT.step rfl rfl (K.move rfl) ?_
            refine KT.bcase (fun hb59 => ?_) (fun hb59 => ?_)
            · skip
              replace hb59 := of_decide_eq_true hb59
              refine KT.skip rfl rfl ?_
              refine KT.skip rfl rfl ?_
              refine KT.skip rfl rfl ?_
              refine KT.step rfl rfl (K.pick rfl (fun _ => rfl) (fun h => by cases h)) ?_
              refine KT.step rfl rfl (K.move rfl) ?_
              refine KT.skip rfl rfl ?_
              refine KT.skip rfl rfl ?_
              refine KT.skip rfl rfl ?_
              refine KT.step rfl rfl (K.pick rfl (fun _ => rfl) (fun h => by cases h)) ?_
              refine KT.nil ?_
              refine thenK_n ?_
              refine KC.cond rfl (fun hc68 => ?_) (fun hc68 => ?_)
              · skip
                refine KC.seq ?_
                refine KC.region ?_
                refine KT.step rfl rfl (K.move rfl) ?_
                refine KT.step rfl rfl (K.neq rfl rfl) ?_
                refine KT.step rfl rfl (K.move rfl) ?_
                refine KT.bcase (fun hb71 => ?_) (fun hb71 => ?_)
                · skip
                  replace hb71 := of_decide_eq_true hb71
                  refine KT.skip rfl rfl ?_
                  refine KT.skip rfl rfl ?_
                  refine KT.step rfl rfl (K.pick rfl (fun _ => rfl) (fun h => by cases h)) ?_
                  refine KT.step rfl rfl (K.move rfl) ?_
                  refine KT.skip rfl rfl ?_
                  refine KT.skip rfl rfl ?_
                  refine KT.step rfl rfl (K.pick rfl (fun _ => rfl) (fun h => by cases h)) ?_
                  refine KT.step rfl rfl (K.move rfl) ?_
                  refine KT.step rfl rfl (K.call0 plainTry_22 (awake22)) ?_
                  refine KT.step rfl rfl (K.pick rfl (fun _ => rfl) (fun h => by cases h)) ?_
                  refine KT.step rfl rfl (K.assign rfl) ?_
                  refine KT.nil ?_
                  refine thenK_n ?_
                  refine KC.ret ?_
                  refine thenK_r ?_
                  refine blockK_r ?_
                  refine thenK_r ?_
                  refine thenK_r ?_
                  refine blockK_r ?_
                  refine thenK_r ?_
                  exact ⟨.inl rfl, _, rfl, rfl⟩
                · skip
                  replace hb71 := of_decide_eq_false hb71
                  refine KT.step rfl rfl (K.move rfl) ?_
                  refine KT.step rfl rfl (K.eql rfl rfl) ?_
                  refine KT.step rfl rfl (K.pick rfl (fun h => by cases h) (fun _ => rfl)) ?_
                  refine KT.step rfl rfl (K.move rfl) ?_
                  refine KT.bcase (fun hb75 => ?_) (fun hb75 => ?_)
                  · skip
                    replace hb75 := of_decide_eq_true hb75
                    refine KT.skip rfl rfl ?_
                    refine KT.skip rfl rfl ?_
                    refine KT.step rfl rfl (K.pick rfl (fun _ => rfl) (fun h => by cases h)) ?_
                    refine KT.step rfl rfl (K.move rfl) ?_
                    refine KT.step rfl rfl (K.call0 plainTry_22 (awake22)) ?_
                    refine KT.step rfl rfl (K.pick rfl (fun _ => rfl) (fun h => by cases h)) ?_
                    refine KT.step rfl rfl (K.assign rfl) ?_
                    refine KT.nil ?_
                    refine thenK_n ?_
                    refine KC.ret ?_
                    refine thenK_r ?_
                    refine blockK_r ?_
                    refine thenK_r ?_
                    refine thenK_r ?_
                    refine blockK_r ?_
                    refine thenK_r ?_
                    exact ⟨.inl rfl, _, rfl, rfl⟩
                  · skip
                    replace hb75 := of_decide_eq_false hb75
                    refine KT.step rfl rfl (K.move rfl) ?_
                    refine KT.step rfl rfl (K.eql rfl rfl) ?_
                    refine KT.step rfl rfl (K.pick rfl (fun h => by cases h) (fun _ => rfl)) ?_
                    refine KT.step rfl rfl (K.move rfl) ?_
                    refine KT.bcase (fun hb79 => ?_) (fun hb79 => ?_)
                    · skip
                      replace hb79 := of_decide_eq_true hb79
                      refine KT.step rfl rfl (K.call0 plainTry_22 (awake22)) ?_
                      refine KT.step rfl rfl (K.pick rfl (fun _ => rfl) (fun h => by cases h)) ?_
                      refine KT.step rfl rfl (K.assign rfl) ?_
                      refine KT.nil ?_
                      refine thenK_n ?_
                      refine KC.ret ?_
                      refine thenK_r ?_
                      refine blockK_r ?_
                      refine thenK_r ?_
                      refine thenK_r ?_
                      refine blockK_r ?_
                      refine thenK_r ?_
                      exact ⟨.inl rfl, _, rfl, rfl⟩
                    · skip
                      exfalso; replace hb79 := of_decide_eq_false hb79; have := hse (Classical.not_not.1 hb71); omega
              · cases hc68
            · skip
              replace hb59 := of_decide_eq_false hb59
              refine KT.step rfl rfl (K.fieldAddrO rfl Try.fld57_3 Try.size3) ?_
              refine KT.step rfl rfl (K.loadO rfl x1 (by simp) rfl Try.agg3) ?_
              refine KT.step rfl rfl (K.lss rfl rfl) ?_
              refine KT.step rfl rfl (K.pick rfl (fun h => by cases h) (fun _ => rfl)) ?_
              refine KT.step rfl rfl (K.move rfl) ?_
              refine KT.bcase (fun hb64 => ?_) (fun hb64 => ?_)
              · skip
                replace hb64 := of_decide_eq_true hb64
                refine KT.skip rfl rfl ?_
                refine KT.skip rfl rfl ?_
                refine KT.skip rfl rfl ?_
                refine KT.step rfl rfl (K.pick rfl (fun _ => rfl) (fun h => by cases h)) ?_
                refine KT.nil ?_
                refine thenK_n ?_
                refine KC.cond rfl (fun hc68 => ?_) (fun hc68 => ?_)
                · skip
                  refine KC.seq ?_
                  refine KC.region ?_
                  refine KT.step rfl rfl (K.move rfl) ?_
                  refine KT.step rfl rfl (K.neq rfl rfl) ?_
                  refine KT.step rfl rfl (K.move rfl) ?_
                  refine KT.bcase (fun hb71 => ?_) (fun hb71 => ?_)
                  · skip
                    replace hb71 := of_decide_eq_true hb71
                    refine KT.skip rfl rfl ?_
                    refine KT.skip rfl rfl ?_
                    refine KT.step rfl rfl (K.pick rfl (fun _ => rfl) (fun h => by cases h)) ?_
                    refine KT.step rfl rfl (K.move rfl) ?_
                    refine KT.skip rfl rfl ?_
                    refine KT.skip rfl rfl ?_
                    refine KT.step rfl rfl (K.pick rfl (fun _ => rfl) (fun h => by cases h)) ?_
                    refine KT.step rfl rfl (K.move rfl) ?_
                    refine KT.step rfl rfl (K.call0 plainTry_22 (awake22)) ?_
                    refine KT.step rfl rfl (K.pick rfl (fun _ => rfl) (fun h => by cases h)) ?_
                    refine KT.step rfl rfl (K.assign rfl) ?_
                    refine KT.nil ?_
                    refine thenK_n ?_
                    refine KC.ret ?_
                    refine thenK_r ?_
                    refine blockK_r ?_
                    refine thenK_r ?_
                    refine thenK_r ?_
                    refine blockK_r ?_
                    refine thenK_r ?_
                    exact ⟨.inl rfl, _, rfl, rfl⟩
                  · skip
                    replace hb71 := of_decide_eq_false hb71
                    refine KT.step rfl rfl (K.move rfl) ?_
                    refine KT.step rfl rfl (K.eql rfl rfl) ?_
                    refine KT.step rfl rfl (K.pick rfl (fun h => by cases h) (fun _ => rfl)) ?_
                    refine KT.step rfl rfl (K.move rfl) ?_
                    refine KT.bcase (fun hb75 => ?_) (fun hb75 => ?_)
                    · skip
                      replace hb75 := of_decide_eq_true hb75
                      refine KT.skip rfl rfl ?_
                      refine KT.skip rfl rfl ?_
                      refine KT.step rfl rfl (K.pick rfl (fun _ => rfl) (fun h => by cases h)) ?_
                      refine KT.step rfl rfl (K.move rfl) ?_
                      refine KT.step rfl rfl (K.call0 plainTry_22 (awake22)) ?_
                      refine KT.step rfl rfl (K.pick rfl (fun _ => rfl) (fun h => by cases h)) ?_
                      refine KT.step rfl rfl (K.assign rfl) ?_
                      refine KT.nil ?_
                      refine thenK_n ?_
                      refine KC.ret ?_
                      refine thenK_r ?_
                      refine blockK_r ?_
                      refine thenK_r ?_
                      refine thenK_r ?_
                      refine blockK_r ?_
                      refine thenK_r ?_
                      exact ⟨.inl rfl, _, rfl, rfl⟩
                    · skip
                      replace hb75 := of_decide_eq_false hb75
                      refine KT.step rfl rfl (K.move rfl) ?_
                      refine KT.step rfl rfl (K.eql rfl rfl) ?_
                      refine KT.step rfl rfl (K.pick rfl (fun h => by cases h) (fun _ => rfl)) ?_
                      refine KT.step rfl rfl (K.move rfl) ?_
                      refine KT.bcase (fun hb79 => ?_) (fun hb79 => ?_)
                      · skip
                        replace hb79 := of_decide_eq_true hb79
                        refine KT.step rfl rfl (K.call0 plainTry_22 (awake22)) ?_
                        refine KT.step rfl rfl (K.pick rfl (fun _ => rfl) (fun h => by cases h)) ?_
                        refine KT.step rfl rfl (K.assign rfl) ?_
                        refine KT.nil ?_
                        refine thenK_n ?_
                        refine KC.ret ?_
                        refine thenK_r ?_
                        refine blockK_r ?_
                        refine thenK_r ?_
                        refine thenK_r ?_
                        refine blockK_r ?_
                        refine thenK_r ?_
                        exact ⟨.inl rfl, _, rfl, rfl⟩
                      · skip
                        exfalso; replace hb79 := of_decide_eq_false hb79; have := hse (Classical.not_not.1 hb71); omega
                · cases hc68
              · skip
                replace hb64 := of_decide_eq_false hb64
                refine KT.step rfl rfl (K.fieldAddrO rfl Try.fld57_4 Try.size3) ?_
                refine KT.step rfl rfl (K.loadO rfl x1 (by simp) rfl Try.agg3) ?_
                refine KT.step rfl rfl (K.lss rfl rfl) ?_
                refine KT.step rfl rfl (K.pick rfl (fun h => by cases h) (fun _ => rfl)) ?_
                refine KT.nil ?_
                refine thenK_n ?_
                refine KC.cond rfl (fun hc68 => ?_) (fun hc68 => ?_)
                · skip
                  replace hc68 := of_decide_eq_true hc68
                  refine KC.seq ?_
                  refine KC.region ?_
                  refine KT.step rfl rfl (K.move rfl) ?_
                  refine KT.step rfl rfl (K.neq rfl rfl) ?_
                  refine KT.step rfl rfl (K.move rfl) ?_
                  refine KT.bcase (fun hb71 => ?_) (fun hb71 => ?_)
                  · skip
                    replace hb71 := of_decide_eq_true hb71
                    refine KT.skip rfl rfl ?_
                    refine KT.skip rfl rfl ?_
                    refine KT.step rfl rfl (K.pick rfl (fun _ => rfl) (fun h => by cases h)) ?_
                    refine KT.step rfl rfl (K.move rfl) ?_
                    refine KT.skip rfl rfl ?_
                    refine KT.skip rfl rfl ?_
                    refine KT.step rfl rfl (K.pick rfl (fun _ => rfl) (fun h => by cases h)) ?_
                    refine KT.step rfl rfl (K.move rfl) ?_
                    refine KT.step rfl rfl (K.call0 plainTry_22 (awake22)) ?_
                    refine KT.step rfl rfl (K.pick rfl (fun _ => rfl) (fun h => by cases h)) ?_
                    refine KT.step rfl rfl (K.assign rfl) ?_
                    refine KT.nil ?_
                    refine thenK_n ?_
                    refine KC.ret ?_
                    refine thenK_r ?_
                    refine blockK_r ?_
                    refine thenK_r ?_
                    refine thenK_r ?_
                    refine blockK_r ?_
                    refine thenK_r ?_
                    exact ⟨.inl rfl, _, rfl, rfl⟩
                  · skip
                    replace hb71 := of_decide_eq_false hb71
                    refine KT.step rfl rfl (K.move rfl) ?_
                    refine KT.step rfl rfl (K.eql rfl rfl) ?_
                    refine KT.step rfl rfl (K.pick rfl (fun h => by cases h) (fun _ => rfl)) ?_
                    refine KT.step rfl rfl (K.move rfl) ?_
                    refine KT.bcase (fun hb75 => ?_) (fun hb75 => ?_)
                    · skip
                      replace hb75 := of_decide_eq_true hb75
                      refine KT.skip rfl rfl ?_
                      refine KT.skip rfl rfl ?_
                      refine KT.step rfl rfl (K.pick rfl (fun _ => rfl) (fun h => by cases h)) ?_
                      refine KT.step rfl rfl (K.move rfl) ?_
                      refine KT.step rfl rfl (K.call0 plainTry_22 (awake22)) ?_
                      refine KT.step rfl rfl (K.pick rfl (fun _ => rfl) (fun h => by cases h)) ?_
                      refine KT.step rfl rfl (K.assign rfl) ?_
                      refine KT.nil ?_
                      refine thenK_n ?_
                      refine KC.ret ?_
                      refine thenK_r ?_
                      refine blockK_r ?_
                      refine thenK_r ?_
                      refine thenK_r ?_
                      refine blockK_r ?_
                      refine thenK_r ?_
                      exact ⟨.inl rfl, _, rfl, rfl⟩
                    · skip
                      replace hb75 := of_decide_eq_false hb75
                      refine KT.step rfl rfl (K.move rfl) ?_
                      refine KT.step rfl rfl (K.eql rfl rfl) ?_
                      refine KT.step rfl rfl (K.pick rfl (fun h => by cases h) (fun _ => rfl)) ?_
                      refine KT.step rfl rfl (K.move rfl) ?_
                      refine KT.bcase (fun hb79 => ?_) (fun hb79 => ?_)
                      · skip
                        replace hb79 := of_decide_eq_true hb79
                        refine KT.step rfl rfl (K.call0 plainTry_22 (awake22)) ?_
                        refine KT.step rfl rfl (K.pick rfl (fun _ => rfl) (fun h => by cases h)) ?_
                        refine KT.step rfl rfl (K.assign rfl) ?_
                        refine KT.nil ?_
                        refine thenK_n ?_
                        refine KC.ret ?_
                        refine thenK_r ?_
                        refine blockK_r ?_
                        refine thenK_r ?_
                        refine thenK_r ?_
                        refine blockK_r ?_
                        refine thenK_r ?_
                        exact ⟨.inl rfl, _, rfl, rfl⟩
                      · skip
                        exfalso; replace hb79 := of_decide_eq_false hb79; have := hse (Classical.not_not.1 hb71); omega
                · skip
                  replace hc68 := of_decide_eq_false hc68
                  refine KC.skip ?_
                  refine thenK_n ?_
                  refine KC.region ?_
                  refine KT.step rfl rfl (K.fieldAddrO rfl Try.fld24_1 Try.size22) ?_
                  refine KT.step rfl rfl (K.loadO rfl y1 (by simp) rfl Try.agg22) ?_
                  refine KT.step rfl rfl (K.fieldAddrO rfl Try.fld57_0 Try.size3) ?_
                  refine KT.step rfl rfl (K.loadO rfl x1 (by simp) rfl Try.agg3) ?_
                  refine KT.step rfl rfl (K.fieldAddrO rfl Try.fld57_1 Try.size3) ?_
                  refine KT.step rfl rfl (K.loadO rfl x1 (by simp) rfl Try.agg3) ?_
                  refine KT.step rfl rfl (K.fieldAddrO rfl Try.fld57_2 Try.size3) ?_
                  refine KT.step rfl rfl (K.loadO rfl x1 (by simp) rfl Try.agg3) ?_
                  refine KT.step rfl rfl (K.mul rfl rfl (wrap_id (by omega))) ?_
                  refine KT.step rfl rfl (K.fieldAddrO rfl Try.fld57_3 Try.size3) ?_
                  refine KT.step rfl rfl (K.loadO rfl x1 (by simp) rfl Try.agg3) ?_
                  refine KT.step rfl rfl (K.mul rfl rfl (wrap_id (by omega))) ?_
                  refine KT.step rfl rfl (K.fieldAddrO rfl Try.fld57_4 Try.size3) ?_
                  refine KT.step rfl rfl (K.loadO rfl x1 (by simp) rfl Try.agg3) ?_
                  refine KT.step rfl rfl (K.mul rfl rfl (wrap_id (by omega))) ?_
                  refine KT.step rfl rfl (K.buildL rfl (build57 _ _ _ _ _)) ?_
                  refine KT.step rfl rfl (K.buildC (k := 5) (cs := (lk5 (dblZ L[i])).map .d) rfl rfl rfl Try.underlying22 Try.size57 Try.zero57 (by omega)) ?_
                  refine KT.appK (k := 5) rfl rfl rfl rfl ((hown.keep fun j hj => (v1 j (by have := hown.lt hj; omega)).trans (List.getElem?_append_left (hown.lt hj))).pushed _) (List.getElem?_concat_length ..) rfl rfl (by rw [List.length_map, flatK_len, List.length_map, List.length_take]; omega) Try.underlying22 Try.size57 (of_decide_eq_true (by kernel_rfl)) (by kernel_rfl) (by omega) fun σ2 x2 ho2 k2 w2 => ?_
                  have z1 := (k2 1 (fun h => by have := hid 1 h; omega) (by simp only [List.length_append, List.length_cons, List.length_nil]; omega)).trans ((List.getElem?_append_left (by omega)).trans y1)
                  obtain ⟨j2, w3, w4⟩ := w2
                  simp only [List.length_append, List.length_cons, List.length_nil] at w4
                  refine KT.step rfl rfl (K.fieldAddrO rfl Try.fld24_1 Try.size22) ?_
                  refine KT.storeG rfl rfl rfl rfl z1 (by simp) ho2.cells.1 ho2.cells.2 Try.size22 fun σ3 l3 u3 v3 => ?_
                  refine KT.nil ?_
                  refine blockK_n ?_
                  refine thenK_n ?_
                  refine KC.region ?_
                  refine KT.step rfl rfl (K.add rfl rfl (wrap_id (by omega))) ?_
                  refine KT.step rfl rfl (K.move rfl) ?_
                  refine KT.nil ?_
                  refine thenK_n ?_
                  refine ⟨(σ3, x2, i + 1), ⟨by simp only; omega, by simp only; omega, u3, ?_, fun j hj => ?_, fun h => by simp at h, ?_⟩, by simp only; omega, rfl, by simp [Go.Vm.look, extK]⟩
                  · simp only
                    rw [List.take_succ_eq_append_getElem hil, List.map_append, List.map_cons, List.map_nil, flatK_snoc, List.map_append]
                    exact ho2.keep fun j hj => v3 j (by rw [w3] at hj; cases hj; omega)
                  · simp only at hj
                    rw [w3] at hj; cases hj; omega
                  · simp only
                    rw [all_take _ hil, hall, Bool.true_and]
                    simp only [smallZ, Bool.and_eq_true, decide_eq_true_eq]
                    omega
  · skip
    replace hc33 := of_decide_eq_false hc33
    obtain rfl : i = L.length := by omega
    rw [List.take_length] at hown hall
    have et : L.take 12 = L := List.take_of_length_le (by omega)
    have et2 : (L.map dblZ).take 12 = L.map dblZ := List.take_of_length_le (by rw [List.length_map]; omega)
    have hl2 : (L.map dblZ).length ≤ 9223372036854775807 := by rw [List.length_map]; exact hl
    obtain ⟨ids, hids, hfz⟩ := freezeL (n := n) hown (fun h => hnil (by rw [List.map_eq_nil_iff] at h; rw [h]; rfl))
    have hof := of19 (n := n) (lkD_lks (L.map dblZ)) hl2
    unfold ofD at hof
    rw [et2] at hof
    have hrep := repeat_any (n := n) (lkD_lks (L.map dblZ)) hl2
    have e1 : rpD n L = rpD n (L.take 12) := by rw [et]
    have e2 : repA n L = repA n (L.take 12) := by rw [et]
    have e3 : scA n L = scA n (L.take 12) := by rw [et]
    rw [rp_dbl hall, repA_dbl hall, e1, e2] at hrep
    have hsch := schedule_any (n := n) (lkD_lks (L.map dblZ)) hl2
    rw [sc_dbl hall, e3] at hsch
    refine KC.exit ?_
    refine thenK_x ?_
    refine thenK_x ?_
    refine blockK_e ?_
    refine thenK_n ?_
    refine KC.seq ?_
    refine KC.region ?_
    refine KT.step rfl rfl (K.loadOAgg (m := 2) rfl y1 (by simp) Try.agg24 Try.size24 (by simp)) ?_
    refine KT.step rfl rfl (K.callZ ids 5 rfl plainTry_19 (mapM_one hfz) hof) ?_
    refine KT.step rfl rfl (K.call1 rfl plainTry_18 (hrep)) ?_
    refine KT.step rfl rfl (K.move rfl) ?_
    refine KT.step rfl rfl (K.extract rfl rfl) ?_
    refine KT.step rfl rfl (K.extract rfl rfl) ?_
    refine KT.step rfl rfl (K.assign rfl) ?_
    refine KT.step rfl rfl (K.assign rfl) ?_
    refine KT.nil ?_
    refine thenK_n ?_
    refine KC.seq ?_
    refine KC.region ?_
    have y1f := (freezeIds_not (ids := ids) (j := 1) (fun h => by have := hid 1 (hids 1 h); omega)).trans y1
    refine KT.step rfl rfl (K.loadOAgg (m := 2) rfl y1f (by simp) Try.agg24 Try.size24 (by simp)) ?_
    refine KT.step rfl rfl (K.callZ [] 5 rfl plainTry_19 (mapM_one (by rw [freezeIds_nil]; exact hfz)) hof) ?_
    refine KT.step rfl rfl (K.call1 rfl plainTry_23 (hsch)) ?_
    refine KT.step rfl rfl (K.move rfl) ?_
    refine KT.step rfl rfl (K.extract rfl rfl) ?_
    refine KT.step rfl rfl (K.extract rfl rfl) ?_
    refine KT.step rfl rfl (K.assign rfl) ?_
    refine KT.step rfl rfl (K.assign rfl) ?_
    refine KT.nil ?_
    refine thenK_n ?_
    refine KC.seq ?_
    refine KC.region ?_
    refine KT.step rfl rfl (K.move rfl) ?_
    refine KT.step rfl rfl (K.move rfl) ?_
    refine KT.step rfl rfl (K.eql rfl rfl) ?_
    refine KT.step rfl rfl (K.move rfl) ?_
    refine KT.bcase (fun hb117 => ?_) (fun hb117 => ?_)
    · skip
      replace hb117 := of_decide_eq_true hb117
      refine KT.step rfl rfl (K.move rfl) ?_
      refine KT.step rfl rfl (K.move rfl) ?_
      refine KT.step rfl rfl (K.eql rfl rfl) ?_
      refine KT.step rfl rfl (K.pick rfl (fun _ => rfl) (fun h => by cases h)) ?_
      refine KT.step rfl rfl (K.move rfl) ?_
      refine KT.bcase (fun hb122 => ?_) (fun hb122 => ?_)
      · skip
        replace hb122 := of_decide_eq_true hb122
        refine KT.step rfl rfl (K.move rfl) ?_
        refine KT.step rfl rfl (K.move rfl) ?_
        refine KT.step rfl rfl (K.call2 rfl rfl plainTry_21 (equal21 (rpD_ints _ _) (rpD_ints _ _) (rpI_len _ _))) ?_
        refine KT.step rfl rfl (K.pick rfl (fun _ => rfl) (fun h => by cases h)) ?_
        refine KT.step rfl rfl (K.move rfl) ?_
        refine KT.bcase (fun hb127 => ?_) (fun hb127 => ?_)
        · skip
          refine KT.step rfl rfl (K.move rfl) ?_
          refine KT.step rfl rfl (K.move rfl) ?_
          refine KT.step rfl rfl (K.call2 rfl rfl plainTry_21 (equal21 (lsD_ints _) (lsD_ints _) (scA_len _ _))) ?_
          refine KT.step rfl rfl (K.pick rfl (fun _ => rfl) (fun h => by cases h)) ?_
          refine KT.step rfl rfl (K.move rfl) ?_
          refine KT.bcase (fun hb132 => ?_) (fun hb132 => ?_)
          · skip
            refine KT.step rfl rfl (K.call0 plainTry_22 (awake22)) ?_
            refine KT.step rfl rfl (K.pick rfl (fun _ => rfl) (fun h => by cases h)) ?_
            refine KT.step rfl rfl (K.assign rfl) ?_
            refine KT.nil ?_
            refine thenK_n ?_
            refine KC.ret ?_
            exact ⟨.inl rfl, _, rfl, fin_b (by simp)⟩
          · skip
            exact absurd rfl (of_decide_eq_false hb132)
        · skip
          exact absurd rfl (of_decide_eq_false hb127)
      · skip
        exact absurd rfl (of_decide_eq_false hb122)
    · skip
      exact absurd rfl (of_decide_eq_false hb117)
end Go.Proofs.Ytnfnjnaheckdbaa

