import Derived.Test.YtocgjopmlhpjdaaNtSb
/-
  Nets: Reach, Dead of the program.
-/
namespace Go.Proofs.Ytocgjopmlhpjdaa
open Go.Vm Go.RowKit Go.Nt Go.Ht
theorem plainTry_12 : plainFn Try.prog 12 = true := by kernel_rfl
theorem plainTry_15 : plainFn Try.prog 15 = true := by kernel_rfl
/-- The graph of a net that has one. -/
def xOf (pre post : List (List Int)) (start : List Int) : Option (List Ent) := if validB pre post start then reachE (nxN pre post) pre.length 2000 start else none
def xE (pre post : List (List Int)) (start : List Int) : Int := if validB pre post start then (match reachE (nxN pre post) pre.length 2000 start with | none => 3 | some _ => 0) else 2
theorem xOf_yes {pre post : List (List Int)} {start : List Int} {fs : List Ent} (h : xOf pre post start = some fs) : validB pre post start = true ∧ reachE (nxN pre post) pre.length 2000 start = some fs ∧
    xplD pre post start = .tup [sysD start.length pre post start, grD fs (nextN (nxN pre post) pre.length fs fs.length 0), DI 0] ∧ xE pre post start = 0 := by
  unfold xOf at h
  by_cases hv : validB pre post start = true
  · rw [if_pos hv] at h
    exact ⟨hv, h, xplD_some hv h, by unfold xE; rw [if_pos hv, h]⟩
  · rw [if_neg hv] at h; cases h
theorem xOf_no {pre post : List (List Int)} {start : List Int} (h : xOf pre post start = none) : xplD pre post start = .tup [zsD, zgD, DI (xE pre post start)] ∧ (xE pre post start = 2 ∨ xE pre post start = 3) := by
  unfold xOf at h
  by_cases hv : validB pre post start = true
  · rw [if_pos hv] at h
    have e : xE pre post start = 3 := by unfold xE; rw [if_pos hv, h]
    exact ⟨by rw [xplD_none hv h, e], .inr e⟩
  · have e : xE pre post start = 2 := by unfold xE; rw [if_neg hv]
    exact ⟨by rw [e]; unfold xplD; rw [if_neg hv], .inl e⟩
/-- Nothing is enabled. -/
def stopB (pre post : List (List Int)) (m : List Int) : Bool := (enL (nxN pre post) m pre.length).isEmpty
def rchD (pre post : List (List Int)) (start : List Int) : DV :=
  .tup [match xOf pre post start with | none => Dnil | some fs => risV (marks fs), DI (xE pre post start)]
def dedD (pre post : List (List Int)) (start : List Int) : DV :=
  .tup [match xOf pre post start with | none => Dnil | some fs => risV ((marks fs).filter (stopB pre post)), DI (xE pre post start)]
theorem next_stop {pre post : List (List Int)} {fs : List Ent} : ∀ i (h : i < (nextN (nxN pre post) pre.length fs fs.length 0).length), (nextN (nxN pre post) pre.length fs fs.length 0)[i].length = 0 ↔ stopB pre post (mrk fs i) = true := fun i h => by
  rw [nextN_len] at h
  rw [nextN_get h, if_pos h, List.length_map]
  unfold stopB
  rw [List.isEmpty_iff, List.length_eq_zero_iff]
theorem keep_all (p : List Int → Bool) (fs : List Ent) : keepM p fs fs.length = (marks fs).filter p := by
  unfold keepM; rw [List.take_of_length_le (by rw [marks_len]; exact Nat.le_refl _)]
set_option maxHeartbeats 4000000 in
set_option maxRecDepth 10000 in
theorem Reach12 {a b c : DV} {pre post : List (List Int)} {start : List Int} (h : NetD a b c pre post start) : DeepCall Try.prog 12 [.agg [a, b, c]] (rchD pre post start) := by
  have hN0 := h
  obtain ⟨ha, hb, hc, l1, l2, l3, r1, r2⟩ := h
  refine deepCall_K 9 Try.func12 rfl (Nat.le_of_ble_eq_true rfl) fun M W0 => ?_
  refine KC.seq ?_
  refine KC.region ?_
  refine KT.step rfl rfl (K.box rfl) ?_
  refine KT.step rfl rfl (K.assign rfl) ?_
  refine KT.step rfl rfl (K.assign rfl) ?_
  refine KT.nil ?_
  refine thenK_n ?_
  refine KC.seq ?_
  refine KC.region ?_
  refine KT.step rfl rfl (K.loadOAgg (m := 3) rfl rfl (by simp) Try.agg32 Try.size32 (by simp [cellsX])) ?_
  rcases hxo : xOf pre post start with _ | fs
  · skip
    refine KT.step rfl rfl (K.call1 rfl plainTry_40 (explored40 hN0)) ?_
    obtain ⟨hxp, hxe⟩ := xOf_no hxo
    rw [hxp]
    refine KT.step rfl rfl (K.move rfl) ?_
    refine KT.step rfl rfl (K.extract rfl rfl) ?_
    refine KT.step rfl rfl (K.extract rfl rfl) ?_
    refine KT.step rfl rfl (K.extract rfl rfl) ?_
    refine KT.step rfl rfl (K.alloc Try.zero66) ?_
    refine KT.step rfl rfl (K.alloc Try.zero71) ?_
    refine KT.putAll (cs := ((DI 0 :: Dnil :: Dnil :: w6 fun _ => 0).map .d)) rfl rfl rfl rfl rfl rfl (by simp [zg, w6, sysC, Value.cells]) (by simp [w6, oneX, Value.oneCell']) Try.size66 ?_
    refine KT.putAll (cs := zg) rfl rfl rfl rfl rfl rfl (by simp [zg, w6, sysC, Value.cells]) rfl Try.size71 ?_
    refine KT.step rfl rfl (K.assign rfl) ?_
    refine KT.nil ?_
    refine thenK_n ?_
    refine KC.seq ?_
    refine KC.seq ?_
    refine KC.region ?_
    refine KT.step rfl rfl (K.move rfl) ?_
    refine KT.step rfl rfl (K.neq rfl rfl) ?_
    refine KT.nil ?_
    refine thenK_n ?_
    refine KC.cond rfl (fun hc14 => ?_) (fun hc14 => ?_)
    · skip
      refine KC.seq ?_
      refine KC.region ?_
      refine KT.step rfl rfl (K.move rfl) ?_
      refine KT.step rfl rfl (K.assign rfl) ?_
      refine KT.step rfl rfl (K.assign rfl) ?_
      refine KT.nil ?_
      refine thenK_n ?_
      refine KC.ret ?_
      refine thenK_r ?_
      refine ⟨.inl rfl, _, rfl, ?_⟩
      unfold rchD
      rw [hxo]; rfl
    · skip
      exact absurd (of_decide_eq_false hc14) (by rcases hxe with h | h <;> rw [h] <;> decide)
  · skip
    refine KT.step rfl rfl (K.call1 rfl plainTry_40 (explored40 hN0)) ?_
    obtain ⟨hv, hre, hxp, hxe⟩ := xOf_yes hxo
    rw [hxp]
    have hD := done_of hv hre
    obtain ⟨hlen, hbn⟩ := inv_bnd hD.toInvE (by have := hD.le; omega)
    have hN := NetOk.of hv
    have hn0 := hN.n0
    have hn6 := hN.n6
    refine KT.step rfl rfl (K.move rfl) ?_
    refine KT.step rfl rfl (K.extract rfl rfl) ?_
    refine KT.step rfl rfl (K.extract rfl rfl) ?_
    refine KT.step rfl rfl (K.extract rfl rfl) ?_
    refine KT.step rfl rfl (K.alloc Try.zero66) ?_
    refine KT.step rfl rfl (K.alloc Try.zero71) ?_
    refine KT.putAll (cs := ((sysC start.length pre post start).map .d)) rfl rfl rfl rfl rfl rfl (by simp [zg, w6, sysC, Value.cells]) (by simp [sysC, w6, oneX, Value.oneCell']) Try.size66 ?_
    refine KT.putAll (cs := (([flV (fun m => w6 (tk m)) (marks fs), .mp ((idxM (marks fs)).map (·.1)) ((List.range fs.length).map fun i => DI ((i : Nat) : Int)), flV fdE fs, .sl ((nextN (nxN pre post) pre.length fs fs.length 0).map (flV arE)) (nextN (nxN pre post) pre.length fs fs.length 0).length none]).map .d)) rfl rfl rfl rfl rfl rfl (by simp [zg, w6, sysC, Value.cells]) one_gc Try.size71 ?_
    refine KT.step rfl rfl (K.assign rfl) ?_
    refine KT.nil ?_
    refine thenK_n ?_
    refine KC.seq ?_
    refine KC.seq ?_
    refine KC.region ?_
    refine KT.step rfl rfl (K.move rfl) ?_
    refine KT.step rfl rfl (K.neq rfl rfl) ?_
    refine KT.nil ?_
    refine thenK_n ?_
    refine KC.cond rfl (fun hc14 => ?_) (fun hc14 => ?_)
    · skip
      exact absurd (of_decide_eq_true hc14) (by decide)
    · skip
      refine KC.skip ?_
      refine thenK_n ?_
      refine KC.seq ?_
      refine KC.region ?_
      refine KT.step rfl rfl (K.loadOA (sysC start.length pre post start) rfl rfl (by decide) Try.agg66 Try.size66 rfl) ?_
      refine KT.step rfl rfl (K.fieldAddrO rfl Try.fld71_0 Try.size62) ?_
      refine KT.step rfl rfl (K.loadO (y := .d (flV (fun m => w6 (tk m)) (marks fs))) rfl rfl (by simp) rfl Try.agg62) ?_
      refine KT.step rfl rfl (K.call2 rfl rfl plainTry_41 (rising41 hn0 hn6 hlen hD.nd (by rw [marks_len]; have := hD.le; omega))) ?_
      refine KT.step rfl rfl (K.assign rfl) ?_
      refine KT.step rfl rfl (K.assign rfl) ?_
      refine KT.nil ?_
      refine thenK_n ?_
      refine KC.ret ?_
      refine ⟨.inl rfl, _, rfl, ?_⟩
      unfold rchD
      rw [hxo, hxe]; rfl
set_option maxHeartbeats 4000000 in
set_option maxRecDepth 10000 in
theorem Dead15 {a b c : DV} {pre post : List (List Int)} {start : List Int} (h : NetD a b c pre post start) : DeepCall Try.prog 15 [.agg [a, b, c]] (dedD pre post start) := by
  have hN0 := h
  obtain ⟨ha, hb, hc, l1, l2, l3, r1, r2⟩ := h
  refine deepCall_K 9 Try.func15 rfl (Nat.le_of_ble_eq_true rfl) fun M W0 => ?_
  refine KC.seq ?_
  refine KC.region ?_
  refine KT.step rfl rfl (K.box rfl) ?_
  refine KT.step rfl rfl (K.assign rfl) ?_
  refine KT.step rfl rfl (K.assign rfl) ?_
  refine KT.nil ?_
  refine thenK_n ?_
  refine KC.seq ?_
  refine KC.region ?_
  refine KT.step rfl rfl (K.loadOAgg (m := 3) rfl rfl (by simp) Try.agg32 Try.size32 (by simp [cellsX])) ?_
  rcases hxo : xOf pre post start with _ | fs
  · skip
    refine KT.step rfl rfl (K.call1 rfl plainTry_40 (explored40 hN0)) ?_
    obtain ⟨hxp, hxe⟩ := xOf_no hxo
    rw [hxp]
    refine KT.step rfl rfl (K.move rfl) ?_
    refine KT.step rfl rfl (K.extract rfl rfl) ?_
    refine KT.step rfl rfl (K.extract rfl rfl) ?_
    refine KT.step rfl rfl (K.extract rfl rfl) ?_
    refine KT.step rfl rfl (K.alloc Try.zero66) ?_
    refine KT.step rfl rfl (K.alloc Try.zero71) ?_
    refine KT.putAll (cs := ((DI 0 :: Dnil :: Dnil :: w6 fun _ => 0).map .d)) rfl rfl rfl rfl rfl rfl (by simp [zg, w6, sysC, Value.cells]) (by simp [w6, oneX, Value.oneCell']) Try.size66 ?_
    refine KT.putAll (cs := zg) rfl rfl rfl rfl rfl rfl (by simp [zg, w6, sysC, Value.cells]) rfl Try.size71 ?_
    refine KT.step rfl rfl (K.assign rfl) ?_
    refine KT.nil ?_
    refine thenK_n ?_
    refine KC.seq ?_
    refine KC.seq ?_
    refine KC.region ?_
    refine KT.step rfl rfl (K.move rfl) ?_
    refine KT.step rfl rfl (K.neq rfl rfl) ?_
    refine KT.nil ?_
    refine thenK_n ?_
    refine KC.cond rfl (fun hc14 => ?_) (fun hc14 => ?_)
    · skip
      refine KC.seq ?_
      refine KC.region ?_
      refine KT.step rfl rfl (K.move rfl) ?_
      refine KT.step rfl rfl (K.assign rfl) ?_
      refine KT.step rfl rfl (K.assign rfl) ?_
      refine KT.nil ?_
      refine thenK_n ?_
      refine KC.ret ?_
      refine thenK_r ?_
      refine ⟨.inl rfl, _, rfl, ?_⟩
      unfold dedD
      rw [hxo]; rfl
    · skip
      exact absurd (of_decide_eq_false hc14) (by rcases hxe with h | h <;> rw [h] <;> decide)
  · skip
    refine KT.step rfl rfl (K.call1 rfl plainTry_40 (explored40 hN0)) ?_
    obtain ⟨hv, hre, hxp, hxe⟩ := xOf_yes hxo
    rw [hxp]
    have hD := done_of hv hre
    obtain ⟨hlen, hbn⟩ := inv_bnd hD.toInvE (by have := hD.le; omega)
    have hN := NetOk.of hv
    have hn0 := hN.n0
    have hn6 := hN.n6
    refine KT.step rfl rfl (K.move rfl) ?_
    refine KT.step rfl rfl (K.extract rfl rfl) ?_
    refine KT.step rfl rfl (K.extract rfl rfl) ?_
    refine KT.step rfl rfl (K.extract rfl rfl) ?_
    refine KT.step rfl rfl (K.alloc Try.zero66) ?_
    refine KT.step rfl rfl (K.alloc Try.zero71) ?_
    refine KT.putAll (cs := ((sysC start.length pre post start).map .d)) rfl rfl rfl rfl rfl rfl (by simp [zg, w6, sysC, Value.cells]) (by simp [sysC, w6, oneX, Value.oneCell']) Try.size66 ?_
    refine KT.putAll (cs := (([flV (fun m => w6 (tk m)) (marks fs), .mp ((idxM (marks fs)).map (·.1)) ((List.range fs.length).map fun i => DI ((i : Nat) : Int)), flV fdE fs, .sl ((nextN (nxN pre post) pre.length fs fs.length 0).map (flV arE)) (nextN (nxN pre post) pre.length fs fs.length 0).length none]).map .d)) rfl rfl rfl rfl rfl rfl (by simp [zg, w6, sysC, Value.cells]) one_gc Try.size71 ?_
    refine KT.step rfl rfl (K.assign rfl) ?_
    refine KT.nil ?_
    refine thenK_n ?_
    refine KC.seq ?_
    refine KC.seq ?_
    refine KC.region ?_
    refine KT.step rfl rfl (K.move rfl) ?_
    refine KT.step rfl rfl (K.neq rfl rfl) ?_
    refine KT.nil ?_
    refine thenK_n ?_
    refine KC.cond rfl (fun hc14 => ?_) (fun hc14 => ?_)
    · skip
      exact absurd (of_decide_eq_true hc14) (by decide)
    · skip
      refine KC.skip ?_
      refine thenK_n ?_
      refine KC.seq ?_
      refine KC.draw Try.mixed ?_
      refine KT.step rfl rfl (K.loadOA (sysC start.length pre post start) rfl rfl (by decide) Try.agg66 Try.size66 rfl) ?_
      refine KT.step rfl rfl (K.loadOA [flV (fun m => w6 (tk m)) (marks fs), .mp ((idxM (marks fs)).map (·.1)) ((List.range fs.length).map fun i => DI ((i : Nat) : Int)), flV fdE fs, .sl ((nextN (nxN pre post) pre.length fs fs.length 0).map (flV arE)) (nextN (nxN pre post) pre.length fs fs.length 0).length none] rfl rfl (by decide) Try.agg71 Try.size71 rfl) ?_
      refine KT.step rfl rfl (K.call1 rfl plainTry_45 (dead45 (p := stopB pre post) (by have := hD.le; omega) (nextN_len fs fs.length 0) next_stop)) ?_
      refine KT.step rfl rfl (K.call2 rfl rfl plainTry_41 (rising41 (ms := keepM (stopB pre post) fs fs.length) hn0 hn6 (fun m hm => hlen m (by rw [keep_all] at hm; exact (List.mem_filter.1 hm).1)) (by rw [keep_all]; exact hD.nd.filter _) (by have := keepM_len (stopB pre post) fs fs.length; have := hD.le; omega))) ?_
      refine KT.step rfl rfl (K.assign rfl) ?_
      refine KT.step rfl rfl (K.assign rfl) ?_
      refine KT.nil ?_
      refine ⟨by kernel_rfl, ?_⟩
      refine thenK_n ?_
      refine KC.ret ?_
      refine ⟨.inl rfl, _, rfl, ?_⟩
      unfold dedD
      rw [hxo, hxe, keep_all]; rfl
end Go.Proofs.Ytocgjopmlhpjdaa

