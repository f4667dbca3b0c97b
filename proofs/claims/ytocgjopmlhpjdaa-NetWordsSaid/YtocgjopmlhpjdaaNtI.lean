import Derived.Test.YtocgjopmlhpjdaaNtH
/-
  Nets: Word of the reference; the law NetWords.
-/
namespace Go.Proofs.Ytocgjopmlhpjdaa
open Go.Vm Go.RowKit Go.Nt Go.Ht
theorem plainTry_22 : plainFn Try.prog 22 = true := by kernel_rfl
set_option maxHeartbeats 4000000 in
set_option maxRecDepth 10000 in
theorem rWord22 {a b c d : DV} {pre post : List (List Int)} {start m : List Int} (h : NetD a b c pre post start) (hd : Ints d m) (hl : m.length ≤ 9223372036854775807) : DeepCall Try.prog 22 [.agg [a, b, c], d] (wordD pre post start m) := by
  have hN0 := h
  obtain ⟨ha, hb, hc, l1, l2, l3, r1, r2⟩ := h
  refine deepCall_K 9 Try.func22 rfl (Nat.le_of_ble_eq_true rfl) fun M W0 => ?_
  refine KC.seq ?_
  refine KC.region ?_
  refine KT.step rfl rfl (K.box rfl) ?_
  refine KT.step rfl rfl (K.assign rfl) ?_
  refine KT.step rfl rfl (K.assign rfl) ?_
  refine KT.nil ?_
  refine thenK_n ?_
  refine KC.seq ?_
  refine KC.seq ?_
  refine KC.region ?_
  refine KT.step rfl rfl (K.loadOA [a, b, c] rfl rfl (by decide) Try.agg25 Try.size25 rfl) ?_
  refine KT.step rfl rfl (K.call1 rfl plainTry_31 (rvalid31 hN0)) ?_
  refine KT.step rfl rfl (K.not rfl) ?_
  refine KT.step rfl rfl (K.move rfl) ?_
  refine KT.bcase (fun hb12 => ?_) (fun hb12 => ?_)
  · skip
    refine KT.skip rfl rfl ?_
    refine KT.skip rfl rfl ?_
    refine KT.skip rfl rfl ?_
    refine KT.skip rfl rfl ?_
    refine KT.step rfl rfl (K.pick rfl (fun _ => rfl) (fun h => by cases h)) ?_
    refine KT.nil ?_
    refine thenK_n ?_
    refine KC.cond rfl (fun hc17 => ?_) (fun hc17 => ?_)
    · skip
      refine KC.seq ?_
      refine KC.region ?_
      refine KT.step rfl rfl (K.assign rfl) ?_
      refine KT.step rfl rfl (K.assign rfl) ?_
      refine KT.nil ?_
      refine thenK_n ?_
      refine KC.ret ?_
      refine thenK_r ?_
      refine ⟨.inl rfl, _, rfl, ?_⟩
      rw [wordD_bad (by intro h; have h1 := h.1; rw [h1] at hb12; simp at hb12)]; rfl
    · cases hc17
  · skip
    refine KT.step rfl rfl (K.loadOA [a, b, c] rfl rfl (by decide) Try.agg25 Try.size25 rfl) ?_
    refine KT.step rfl rfl (K.move rfl) ?_
    refine KT.step rfl rfl (K.call2 rfl rfl plainTry_52 (plain52 hN0 hd hl)) ?_
    refine KT.step rfl rfl (K.not rfl) ?_
    refine KT.step rfl rfl (K.pick rfl (fun h => by cases h) (fun _ => rfl)) ?_
    refine KT.nil ?_
    refine thenK_n ?_
    refine KC.cond rfl (fun hc17 => ?_) (fun hc17 => ?_)
    · skip
      refine KC.seq ?_
      refine KC.region ?_
      refine KT.step rfl rfl (K.assign rfl) ?_
      refine KT.step rfl rfl (K.assign rfl) ?_
      refine KT.nil ?_
      refine thenK_n ?_
      refine KC.ret ?_
      refine thenK_r ?_
      refine ⟨.inl rfl, _, rfl, ?_⟩
      rw [wordD_bad (by intro h; have h1 := h.2; rw [h1] at hc17; simp at hc17)]; rfl
    · skip
      have hv : validB pre post start = true := by simpa using hb12
      have hf : fitsB m start.length 1073741824 = true := by simpa using hc17
      have hN := NetOk.of hv
      have hn0 := hN.n0
      have hn6 := hN.n6
      have hfl : m.length = start.length := fitsB_len hf
      have hp3 : ∀ r ∈ pre, ∀ x ∈ r, 0 ≤ x ∧ x ≤ 3 := fun r hr => fitsB_mem (allB_mem (validB_iff.1 hv).2.2.2.2.2.2.1 r hr)
      have hq3 : ∀ r ∈ post, ∀ x ∈ r, 0 ≤ x ∧ x ≤ 3 := fun r hr => fitsB_mem (allB_mem (validB_iff.1 hv).2.2.2.2.2.2.2 r hr)
      refine KC.skip ?_
      refine thenK_n ?_
      refine KC.seq ?_
      refine KC.regionL ?_
      refine KL.step rfl rfl (K.loadOA [a, b, c] rfl rfl (by decide) Try.agg25 Try.size25 rfl) ?_
      rcases hre : reachE (nxN pre post) pre.length 2000 start with _ | fs
      · skip
        refine KL.call (R := _) rfl rfl rfl rfl rfl plainTry_43 (reach43 (σ := [⟨[.d a, .d b, .d c], 0⟩]) ha hb hc hN rfl (start_bd hv) hp3 hq3) fun σ1 x1 hR => ?_
        unfold RchQ at hR
        rw [hre] at hR
        simp only at hR
        subst hR
        refine KL.step rfl rfl (K.move rfl) ?_
        refine KL.step rfl rfl (K.extractY rfl rfl) ?_
        refine KL.step rfl rfl (K.extractY rfl rfl) ?_
        refine KL.step rfl rfl (K.assign rfl) ?_
        refine KL.step rfl rfl (K.assign rfl) ?_
        refine KL.nil ?_
        refine thenK_n ?_
        refine KC.seq ?_
        refine KC.seq ?_
        refine KC.region ?_
        refine KT.step rfl rfl (K.move rfl) ?_
        refine KT.step rfl rfl (K.neq rfl rfl) ?_
        refine KT.nil ?_
        refine thenK_n ?_
        refine KC.cond rfl (fun hc24 => ?_) (fun hc24 => ?_)
        · skip
          refine KC.seq ?_
          refine KC.region ?_
          refine KT.step rfl rfl (K.move rfl) ?_
          refine KT.step rfl rfl (K.assign rfl) ?_
          refine KT.step rfl rfl (K.assign rfl) ?_
          refine KT.nil ?_
          refine thenK_n ?_
          refine KC.ret ?_
          refine thenK_r ?_
          refine ⟨.inl rfl, _, rfl, ?_⟩
          rw [wordD_none hv hf hre]; rfl
        · skip
          exact absurd (of_decide_eq_false hc24) (by decide)
      · skip
        refine KL.call (R := _) rfl rfl rfl rfl rfl plainTry_43 (reach43 (σ := [⟨[.d a, .d b, .d c], 0⟩]) ha hb hc hN rfl (start_bd hv) hp3 hq3) fun σ1 x1 hR => ?_
        unfold RchQ at hR
        rw [hre] at hR
        obtain ⟨gid, xm, xw, xr, rfl, hg, hF, hout, hgl, hog⟩ := hR
        have hD := done_of hv hre
        have hpos := obj_ltE hD.hd
        obtain ⟨hlen, hbn⟩ := inv_bnd hD.toInvE (by have := hD.le; omega)
        obtain ⟨mid, exm, rfl, hmid⟩ := OwnL.is (k := 1) (x := xm) (cells := (mkV c fs).map .d) hF.un4.1 (n := fs.length) (by rw [List.length_map, mkV_len, Nat.mul_one]) (by decide) hpos
        obtain ⟨wid, exw, rfl, hwid⟩ := OwnL.is (k := 1) (x := xw) (cells := (wrdV fs).map .d) hF.un4.2.1 (n := fs.length) (by simp [wrdV]) (by decide) hpos
        have hle := hD.le
        refine KL.step rfl rfl (K.move rfl) ?_
        refine KL.step rfl rfl (K.extractY rfl rfl) ?_
        refine KL.step rfl rfl (K.extractY rfl rfl) ?_
        refine KL.step rfl rfl (K.assign rfl) ?_
        refine KL.step rfl rfl (K.assign rfl) ?_
        refine KL.nil ?_
        refine thenK_n ?_
        refine KC.seq ?_
        refine KC.seq ?_
        refine KC.region ?_
        refine KT.step rfl rfl (K.move rfl) ?_
        refine KT.step rfl rfl (K.neq rfl rfl) ?_
        refine KT.nil ?_
        refine thenK_n ?_
        refine KC.cond rfl (fun hc24 => ?_) (fun hc24 => ?_)
        · skip
          exact absurd (of_decide_eq_true hc24) (by decide)
        · skip
          refine KC.skip ?_
          refine thenK_n ?_
          refine KC.seq ?_
          refine KC.region ?_
          refine KT.step rfl rfl (K.move rfl) ?_
          refine KT.step rfl rfl (K.move rfl) ?_
          refine KT.step rfl rfl (K.callO rfl plainTry_53 (find53 hg hmid hc (marks_get hD.hd) hlen hn0 hn6 (by omega) hd hfl)) ?_
          refine KT.step rfl rfl (K.assign rfl) ?_
          refine KT.nil ?_
          refine thenK_n ?_
          refine KC.seq ?_
          refine KC.seq ?_
          refine KC.region ?_
          refine KT.step rfl rfl (K.move rfl) ?_
          refine KT.step rfl rfl (K.lss rfl rfl) ?_
          refine KT.nil ?_
          refine thenK_n ?_
          refine KC.cond rfl (fun hc30 => ?_) (fun hc30 => ?_)
          · skip
            refine KC.seq ?_
            refine KC.region ?_
            refine KT.step rfl rfl (K.assign rfl) ?_
            refine KT.step rfl rfl (K.assign rfl) ?_
            refine KT.nil ?_
            refine thenK_n ?_
            refine KC.ret ?_
            refine thenK_r ?_
            refine ⟨.inl rfl, _, rfl, ?_⟩
            rw [wordD_some hv hf hre, if_neg (findZ_neg (of_decide_eq_true hc30))]; rfl
          · skip
            have hmem := findZ_pos (of_decide_eq_false hc30)
            have hfz : findZ fs m = ((place (marks fs) m : Nat) : Int) := by unfold findZ; rw [if_pos hmem]
            have hpl : place (marks fs) m < fs.length := by rw [← marks_len]; exact place_lt hmem
            obtain ⟨ep, hep⟩ : ∃ e, fs[place (marks fs) m]? = some e := ⟨_, List.getElem?_eq_getElem hpl⟩
            refine KC.skip ?_
            refine thenK_n ?_
            refine KC.seq ?_
            refine KC.region ?_
            refine KT.step rfl rfl (K.move rfl) ?_
            refine KT.step rfl rfl (K.nilCheckO rfl) ?_
            refine KT.step rfl rfl (K.fieldAddrO rfl Try.fld80_1 Try.size22) ?_
            refine KT.step rfl rfl (K.loadO rfl hg (by simp) rfl Try.agg22) ?_
            refine KT.step rfl rfl (K.move rfl) ?_
            refine KT.step rfl rfl (K.idxO (m := place (marks fs) m) rfl (by exact congrArg (fun z => some (XV.d (DI z))) hfz) hpl Try.underlying22 Try.size23) ?_
            refine KT.step rfl rfl (K.loadO (y := .d (wV ep.2.2.2)) rfl hwid (by simp) (by rw [Nat.zero_add, List.getElem?_map]; unfold wrdV; rw [List.getElem?_map, hep]; rfl) Try.agg23) ?_
            refine KT.step rfl rfl (K.assign rfl) ?_
            refine KT.step rfl rfl (K.assign rfl) ?_
            refine KT.nil ?_
            refine thenK_n ?_
            refine KC.ret ?_
            refine ⟨.inl rfl, _, rfl, ?_⟩
            rw [wordD_some hv hf hre, if_pos hmem]
            unfold wordOf
            rw [hep]; rfl
theorem wordD_cp (pre post : List (List Int)) (start m : List Int) : wordD (cp pre) (cp post) (start.take 8) (m.take 8) = wordD pre post start m := by
  by_cases h : validB pre post start = true
  · obtain ⟨e1, e2, e3⟩ := valid_cp (.inl h)
    rw [e1, e2, e3]
    obtain ⟨v1, v2, v3, v4, v5, v6, v7, v8⟩ := validB_iff.1 h
    by_cases hm : m.length ≤ 8
    · rw [List.take_of_length_le hm]
    · rw [wordD_bad (m := m) (fun e => by have := fitsB_len e.2; omega), wordD_bad (m := m.take 8) (fun e => by have := fitsB_len e.2; simp at this; omega)]
  · have h2 := h
    rw [← validB_cp] at h2
    rw [wordD_bad (fun e => h2 e.1), wordD_bad (fun e => h e.1)]
theorem word_le {fs : List Ent} {pre post : List (List Int)} {start m : List Int} (hD : DoneE (nxN pre post) pre.length start.length 2000 start fs) : (wordOf fs m).length ≤ 2000 := by
  unfold wordOf
  cases h : fs[place (marks fs) m]? with
  | none => simp
  | some e =>
    have h1 := word_len hD.toInvE _ e h
    have h2 := obj_ltE h
    have := hD.le
    show e.2.2.2.length ≤ 2000
    omega
theorem wordD_is (pre post : List (List Int)) (start m : List Int) : ∃ (s : DV) (l : List Int) (e : Int), wordD pre post start m = .tup [s, DI e] ∧ Ints s l ∧ l.length ≤ 9223372036854775807 := by
  by_cases h : validB pre post start = true ∧ fitsB m start.length 1073741824 = true
  · cases hre : reachE (nxN pre post) pre.length 2000 start with
    | none => exact ⟨_, [], _, wordD_none h.1 h.2 hre, .nil, by simp⟩
    | some fs =>
      by_cases hm : m ∈ marks fs
      · exact ⟨wV (wordOf fs m), _, 0, by rw [wordD_some h.1 h.2 hre, if_pos hm], wV_ints _, by rw [List.length_map]; have := word_le (m := m) (done_of h.1 hre); omega⟩
      · exact ⟨Dnil, [], 5, by rw [wordD_some h.1 h.2 hre, if_neg hm], .nil, by simp⟩
  · exact ⟨_, [], _, wordD_bad h, .nil, by simp⟩
set_option maxRecDepth 10000 in
theorem law4 {a b c d : DV} {pre post : List (List Int)} {start m : List Int} (h : NetD a b c pre post start) (hd : Ints d m) (hl : m.length ≤ 9223372036854775807) : DeepCall Try.prog 4 [.agg [a, b, c], d] (DB true) := by
  have c1 := Word20 h.cp (list8_ints hd) (by simp; omega)
  rw [wordD_cp] at c1
  have c2 := rWord22 h hd hl
  obtain ⟨s, l, e, hf, hs, hll⟩ := wordD_is pre post start m
  rw [hf] at c1 c2
  refine deepCall_K 5 Try.func4 rfl (Nat.le_of_ble_eq_true rfl) fun M W0 => ?_
  refine KC.seq ?_
  refine KC.region ?_
  refine KT.step rfl rfl (K.box rfl) ?_
  refine KT.step rfl rfl (K.assign rfl) ?_
  refine KT.nil ?_
  refine thenK_n ?_
  refine KC.seq ?_
  refine KC.region ?_
  refine KT.step rfl rfl (K.loadOAgg (m := 3) rfl rfl (by simp) Try.agg25 Try.size25 (by simp [cellsX])) ?_
  refine KT.step rfl rfl (K.call1 rfl plainTry_13 (of13 h)) ?_
  refine KT.step rfl rfl (K.move rfl) ?_
  refine KT.step rfl rfl (K.call1 rfl plainTry_21 (list21 hd)) ?_
  refine KT.step rfl rfl (K.call2 rfl rfl plainTry_20 (c1)) ?_
  refine KT.step rfl rfl (K.move rfl) ?_
  refine KT.step rfl rfl (K.extract rfl rfl) ?_
  refine KT.step rfl rfl (K.extract rfl rfl) ?_
  refine KT.step rfl rfl (K.assign rfl) ?_
  refine KT.step rfl rfl (K.assign rfl) ?_
  refine KT.nil ?_
  refine thenK_n ?_
  refine KC.seq ?_
  refine KC.region ?_
  refine KT.step rfl rfl (K.loadOAgg (m := 3) rfl rfl (by simp) Try.agg25 Try.size25 (by simp [cellsX])) ?_
  refine KT.step rfl rfl (K.move rfl) ?_
  refine KT.step rfl rfl (K.call2 rfl rfl plainTry_22 (c2)) ?_
  refine KT.step rfl rfl (K.move rfl) ?_
  refine KT.step rfl rfl (K.extract rfl rfl) ?_
  refine KT.step rfl rfl (K.extract rfl rfl) ?_
  refine KT.step rfl rfl (K.assign rfl) ?_
  refine KT.step rfl rfl (K.assign rfl) ?_
  refine KT.nil ?_
  refine thenK_n ?_
  refine KC.seq ?_
  refine KC.region ?_
  refine KT.step rfl rfl (K.move rfl) ?_
  refine KT.step rfl rfl (K.move rfl) ?_
  refine KT.step rfl rfl (K.call2 rfl rfl plainTry_23 (equal23 hs hs hll)) ?_
  refine KT.step rfl rfl (K.move rfl) ?_
  refine KT.bcase (fun hb26 => ?_) (fun hb26 => ?_)
  · skip
    refine KT.step rfl rfl (K.move rfl) ?_
    refine KT.step rfl rfl (K.move rfl) ?_
    refine KT.step rfl rfl (K.eql rfl rfl) ?_
    refine KT.step rfl rfl (K.pick rfl (fun _ => rfl) (fun h => by cases h)) ?_
    refine KT.step rfl rfl (K.move rfl) ?_
    refine KT.bcase (fun hb31 => ?_) (fun hb31 => ?_)
    · skip
      refine KT.step rfl rfl (K.call0 plainTry_19 (awake19)) ?_
      refine KT.step rfl rfl (K.pick rfl (fun _ => rfl) (fun h => by cases h)) ?_
      refine KT.step rfl rfl (K.assign rfl) ?_
      refine KT.nil ?_
      refine thenK_n ?_
      refine KC.ret ?_
      exact ⟨.inl rfl, _, rfl, fin_d rfl⟩
    · skip
      exact absurd hb31 (by simp)
  · skip
    exact absurd hb26 (by simp)
end Go.Proofs.Ytocgjopmlhpjdaa

