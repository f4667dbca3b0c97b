import Derived.Test.YtocgjopmlhpjdaaNtZm
/-
  Nets: the law NetCovers.
-/
namespace Go.Proofs.Ytocgjopmlhpjdaa
open Go.Vm Go.RowKit Go.Nt Go.Ht
theorem covO_cp (pre post : List (List Int)) (start : List Int) : covO (cp pre) (cp post) (start.take 8) = covO pre post start ∧ covE (cp pre) (cp post) (start.take 8) = covE pre post start := by
  by_cases h : validB pre post start = true
  · obtain ⟨e1, e2, e3⟩ := valid_cp (.inl h)
    rw [e1, e2, e3]; exact ⟨rfl, rfl⟩
  · have h2 := h
    rw [← validB_cp] at h2
    unfold covO covE
    rw [if_neg h, if_neg h2, if_neg h, if_neg h2]; exact ⟨rfl, rfl⟩
theorem cvD_cp (pre post : List (List Int)) (start : List Int) : cvD (cp pre) (cp post) (start.take 8) = cvD pre post start := by
  obtain ⟨e1, e2⟩ := covO_cp pre post start
  unfold cvD; rw [e1, e2]
theorem cvsD_cp (pre post : List (List Int)) (start m : List Int) : cvsD (cp pre) (cp post) (start.take 8) (m.take 8) = cvsD pre post start m := by
  by_cases h : validB pre post start = true
  · obtain ⟨e1, e2, e3⟩ := valid_cp (.inl h)
    rw [e1, e2, e3]
    obtain ⟨v1, v2, v3, v4, v5, v6, v7, v8⟩ := validB_iff.1 h
    by_cases hm : m.length ≤ 8
    · rw [List.take_of_length_le hm]
    · rw [cvsD_bad (m := m) (fun e => by have := fitsB_len e.2; omega), cvsD_bad (m := m.take 8) (fun e => by have := fitsB_len e.2; simp at this; omega)]
  · have h2 := h
    rw [← validB_cp] at h2
    rw [cvsD_bad (fun e => h2 e.1), cvsD_bad (fun e => h e.1)]
theorem cvsD_is (pre post : List (List Int)) (start m : List Int) : ∃ (b : Bool) (e : Int), cvsD pre post start m = .tup [DB b, DI e] := by
  unfold cvsD
  split
  · cases covT pre post start with
    | none => exact ⟨_, _, rfl⟩
    | some _ => exact ⟨_, _, rfl⟩
  · exact ⟨_, _, rfl⟩
theorem cv_own (pre post : List (List Int)) (start : List Int) : ∃ (r : DV), cvD pre post start = .tup [r, DI (covE pre post start)] ∧ SlC r ((gM pre post start).map numV) := by
  unfold cvD gM
  cases h : covO pre post start with
  | none => exact ⟨Dnil, rfl, .inl ⟨rfl, rfl⟩⟩
  | some ns =>
    obtain ⟨hv, hre, _, _⟩ := covO_yes h
    exact ⟨_, rfl, ris_slc (cov_grt hv hre).2.2.1⟩
set_option maxHeartbeats 2000000 in
set_option maxRecDepth 10000 in
theorem law5 {a b c d : DV} {pre post : List (List Int)} {start m : List Int} (h : NetD a b c pre post start) (hd : Ints d m) (hl : m.length ≤ 9223372036854775807) : DeepCall Try.prog 5 [.agg [a, b, c], d] (DB true) := by
  have h9 := h
  obtain ⟨_, _, hc, _, _, _, _, _⟩ := h9
  have c1 := Cover24 h.cp
  have c2 := rCover25 h
  have c3 := Covers26 h.cp (list8_ints hd) (by simp; omega)
  have c4 := rCovers27 h hd hl
  rw [cvD_cp] at c1
  rw [cvsD_cp] at c3
  rw [cvs_same] at c4
  obtain ⟨r, hr, hrs⟩ := cv_own pre post start
  obtain ⟨lb, le, hlb⟩ := cvsD_is pre post start m
  rw [hr] at c1
  rw [hlb] at c3 c4
  unfold rcvD at c2
  obtain ⟨xl, xm⟩ := gM_ok (pre := pre) (post := post) (start := start)
  have hx0 : ∀ m ∈ gM pre post start, 0 < m.length := fun m hm => by obtain ⟨hv, e⟩ := xm m hm; have := (NetOk.of hv).n0; omega
  have hxr : ∀ m ∈ gM pre post start, m.length ≤ 9223372036854775807 := fun m hm => by obtain ⟨hv, e⟩ := xm m hm; have := (NetOk.of hv).n6; omega
  have m1 := mat_numV hx0
  have m2 := mat_pairs (cL_ok (pre := pre) (post := post) hc)
  rw [cL_snd] at m2
  refine deepCall_K 5 Try.func5 rfl (Nat.le_of_ble_eq_true rfl) fun M W0 => ?_
  refine KC.seq ?_
  refine KC.region ?_
  refine KT.step rfl rfl (K.box rfl) ?_
  refine KT.step rfl rfl (K.assign rfl) ?_
  refine KT.nil ?_
  refine thenK_n ?_
  refine KC.seq ?_
  refine KC.region ?_
  refine KT.step rfl rfl (K.loadOAgg (m := 3) rfl rfl (by simp) Try.agg25 Try.size25 (by simp [cellsX])) ?_
  refine KT.step rfl rfl (K.call1 rfl plainTry_13 (of13 h)) ?_
  refine KT.step rfl rfl (K.call1 rfl plainTry_24 (c1)) ?_
  refine KT.step rfl rfl (K.move rfl) ?_
  refine KT.step rfl rfl (K.extract rfl rfl) ?_
  refine KT.step rfl rfl (K.extract rfl rfl) ?_
  refine KT.step rfl rfl (K.assign rfl) ?_
  refine KT.step rfl rfl (K.assign rfl) ?_
  refine KT.nil ?_
  refine thenK_n ?_
  refine KC.seq ?_
  refine KC.region ?_
  refine KT.step rfl rfl (K.loadOAgg (m := 3) rfl rfl (by simp) Try.agg25 Try.size25 (by simp [cellsX])) ?_
  refine KT.step rfl rfl (K.call1 rfl plainTry_25 (c2)) ?_
  refine KT.step rfl rfl (K.move rfl) ?_
  refine KT.step rfl rfl (K.extract rfl rfl) ?_
  refine KT.step rfl rfl (K.extract rfl rfl) ?_
  refine KT.step rfl rfl (K.assign rfl) ?_
  refine KT.step rfl rfl (K.assign rfl) ?_
  refine KT.nil ?_
  refine thenK_n ?_
  refine KC.seq ?_
  refine KC.region ?_
  refine KT.step rfl rfl (K.loadOAgg (m := 3) rfl rfl (by simp) Try.agg25 Try.size25 (by simp [cellsX])) ?_
  refine KT.step rfl rfl (K.call1 rfl plainTry_13 (of13 h)) ?_
  refine KT.step rfl rfl (K.move rfl) ?_
  refine KT.step rfl rfl (K.call1 rfl plainTry_21 (list21 hd)) ?_
  refine KT.step rfl rfl (K.call2 rfl rfl plainTry_26 (c3)) ?_
  refine KT.step rfl rfl (K.move rfl) ?_
  refine KT.step rfl rfl (K.extract rfl rfl) ?_
  refine KT.step rfl rfl (K.extract rfl rfl) ?_
  refine KT.step rfl rfl (K.assign rfl) ?_
  refine KT.step rfl rfl (K.assign rfl) ?_
  refine KT.nil ?_
  refine thenK_n ?_
  refine KC.seq ?_
  refine KC.region ?_
  refine KT.step rfl rfl (K.loadOAgg (m := 3) rfl rfl (by simp) Try.agg25 Try.size25 (by simp [cellsX])) ?_
  refine KT.step rfl rfl (K.move rfl) ?_
  refine KT.step rfl rfl (K.call2 rfl rfl plainTry_27 (c4)) ?_
  refine KT.step rfl rfl (K.move rfl) ?_
  refine KT.step rfl rfl (K.extract rfl rfl) ?_
  refine KT.step rfl rfl (K.extract rfl rfl) ?_
  refine KT.step rfl rfl (K.assign rfl) ?_
  refine KT.step rfl rfl (K.assign rfl) ?_
  refine KT.nil ?_
  refine thenK_n ?_
  refine KC.seq ?_
  refine KC.region ?_
  refine KT.step rfl rfl (K.move rfl) ?_
  refine KT.step rfl rfl (K.call1 rfl plainTry_18 (own18 hrs num_sld (by rw [List.length_map]; omega))) ?_
  refine KT.step rfl rfl (K.move rfl) ?_
  refine KT.step rfl rfl (K.call2 rfl rfl plainTry_17 (same17 m1 m2 (by omega) hxr)) ?_
  refine KT.step rfl rfl (K.move rfl) ?_
  refine KT.bcase (fun hb42 => ?_) (fun hb42 => ?_)
  · skip
    refine KT.step rfl rfl (K.move rfl) ?_
    refine KT.step rfl rfl (K.move rfl) ?_
    refine KT.step rfl rfl (K.eql rfl rfl) ?_
    refine KT.step rfl rfl (K.pick rfl (fun _ => rfl) (fun h => by cases h)) ?_
    refine KT.step rfl rfl (K.move rfl) ?_
    refine KT.bcase (fun hb47 => ?_) (fun hb47 => ?_)
    · skip
      refine KT.step rfl rfl (K.move rfl) ?_
      refine KT.step rfl rfl (K.move rfl) ?_
      refine KT.step rfl rfl (K.eqB Try.underlying4 rfl rfl) ?_
      refine KT.step rfl rfl (K.pick rfl (fun _ => rfl) (fun h => by cases h)) ?_
      refine KT.step rfl rfl (K.move rfl) ?_
      refine KT.bcase (fun hb52 => ?_) (fun hb52 => ?_)
      · skip
        refine KT.step rfl rfl (K.move rfl) ?_
        refine KT.step rfl rfl (K.move rfl) ?_
        refine KT.step rfl rfl (K.eql rfl rfl) ?_
        refine KT.step rfl rfl (K.pick rfl (fun _ => rfl) (fun h => by cases h)) ?_
        refine KT.step rfl rfl (K.move rfl) ?_
        refine KT.bcase (fun hb57 => ?_) (fun hb57 => ?_)
        · skip
          refine KT.step rfl rfl (K.call0 plainTry_19 (awake19)) ?_
          refine KT.step rfl rfl (K.pick rfl (fun _ => rfl) (fun h => by cases h)) ?_
          refine KT.step rfl rfl (K.assign rfl) ?_
          refine KT.nil ?_
          refine thenK_n ?_
          refine KC.ret ?_
          exact ⟨.inl rfl, _, rfl, fin_d (by simp)⟩
        · skip
          exact absurd hb57 (by simp)
      · skip
        exact absurd hb52 (by simp)
    · skip
      exact absurd hb47 (by simp)
  · skip
    exact absurd hb42 (by simp)
end Go.Proofs.Ytocgjopmlhpjdaa

