import Derived.Test.YtocgjopmlhpjdaaNtG
/-
  Nets: word, Word of the program.
-/
namespace Go.Proofs.Ytocgjopmlhpjdaa
open Go.Vm Go.RowKit Go.Nt Go.Ht
theorem plainTry_20 : plainFn Try.prog 20 = true := by kernel_rfl
theorem wV_ints (w : List Nat) : Ints (wV w) (w.map fun i : Nat => (i : Int)) := by
  cases w with
  | nil => exact .nil
  | cons a w =>
    have h : Ints (.sl ((a :: w).map fun i => DI ((i : Nat) : Int)) ((a :: w).map fun i : Nat => (i : Int)).length none) ((a :: w).map fun i : Nat => (i : Int)) := .sl (by simp) fun i c x hc hx => by
      rw [List.getElem?_map] at hc hx
      cases hy : (a :: w)[i]? with
      | none => rw [hy] at hc; cases hc
      | some y => rw [hy] at hc hx; cases hc; cases hx; rfl
    have e : (a :: w).length = ((a :: w).map fun i : Nat => (i : Int)).length := by simp
    rw [wV_ne (List.cons_ne_nil _ _), e]; exact h
set_option maxHeartbeats 1000000 in
set_option maxRecDepth 10000 in
theorem word51 {nx : List Int → Nat → Option (List Int)} {T n : Nat} {s : List Int} {fs : List Ent} {N : List (List (Nat × Nat))} (hI : InvE nx T n s fs) (hl : fs.length ≤ 100000) {i : Nat} {e : Ent} (he : fs[i]? = some e) : DeepCall Try.prog 51 [grD fs N, DI (i : Nat)] (wV e.2.2.2) := by
  have hwl := word_len hI i e he
  have hil := obj_ltE he
  refine deepCall_K 6 Try.func51 rfl (Nat.le_of_ble_eq_true rfl) fun M W0 => ?_
  refine KC.seq ?_
  refine KC.region ?_
  refine KT.step rfl rfl (K.box rfl) ?_
  refine KT.step rfl rfl (K.assign rfl) ?_
  refine KT.nil ?_
  refine thenK_n ?_
  refine KC.seq ?_
  refine KC.region ?_
  refine KT.step rfl rfl (K.assign rfl) ?_
  refine KT.nil ?_
  refine thenK_n ?_
  refine KC.seq ?_
  refine KC.block ?_
  refine KC.loop (fun p : List VObj × XV × Nat × List Nat => p.1) (fun p => [(1, .d (DI (p.2.2.1 : Nat))), (2, .optr 0 0), (5, p.2.1)]) (fun p => p.1[0]? = some ⟨([flV (fun m => w6 (tk m)) (marks fs), .mp ((idxM (marks fs)).map (·.1)) ((List.range fs.length).map fun i => DI ((i : Nat) : Int)), flV fdE fs, .sl (N.map (flV arE)) N.length none]).map .d, 0⟩ ∧ OwnK 1 p.1 p.2.1 (xs (p.2.2.2.map fun i : Nat => (i : Int))) ∧ (p.2.2.2 = [] → p.2.1 = .d Dnil) ∧ idX p.2.1 ≠ some 0 ∧ ∃ q, fs[p.2.2.1]? = some q ∧ e.2.2.2 = q.2.2.2 ++ p.2.2.2.reverse) (fun p => p.2.2.1) (_, .d Dnil, i, []) ⟨rfl, .nil, fun _ => rfl, by simp [idX], e, he, by simp⟩ rfl (by simp [Go.Vm.look, extK, enterK]) ?_
  intro p hp
  obtain ⟨σ0, x, j, l⟩ := p
  obtain ⟨h0, hown, hnil, hx0, q, hq, hw⟩ := hp
  simp only at h0 hown hnil hx0 hq hw ⊢
  refine KC.seq ?_
  refine KC.seq ?_
  refine KC.region ?_
  refine KT.step rfl rfl (K.move rfl) ?_
  refine KT.step rfl rfl (K.neq rfl rfl) ?_
  refine KT.nil ?_
  refine thenK_n ?_
  refine KC.cond rfl (fun hc7 => ?_) (fun hc7 => ?_)
  · skip
    replace hc7 := of_decide_eq_true hc7
    have hj0 : 0 < j := by omega
    obtain ⟨c1, c2, q2, c3, c4, c5⟩ := hI.ch j q hq hj0
    have hjl := obj_ltE hq
    have hfj : fdE fs[j] = [DI (q.2.1 : Nat), DI (q.2.2.1 : Nat)] := by
      rw [List.getElem?_eq_getElem hjl] at hq; cases hq; rfl
    have hll : l.length ≤ i := by rw [hw, List.length_append, List.length_reverse] at hwl; omega
    refine KC.skip ?_
    refine thenK_n ?_
    refine KC.block ?_
    refine KC.seq ?_
    refine KC.region ?_
    refine KT.step rfl rfl (K.move rfl) ?_
    refine KT.step rfl rfl (K.fieldAddrO rfl Try.fld71_2 Try.size68) ?_
    refine KT.step rfl rfl (K.loadO (y := .d (flV fdE fs)) rfl h0 (by simp) rfl Try.agg68) ?_
    refine KT.step rfl rfl (K.move rfl) ?_
    refine KT.step rfl rfl (K.idxF (k := 2) (f := fdE) (m := j) (fun _ => rfl) rfl (flV_ok fs) rfl hjl Try.underlying68 Try.size115) ?_
    rw [hfj]
    refine KT.step rfl rfl (K.fieldAddrD rfl Try.fld115_0 Try.size3) ?_
    refine KT.step rfl rfl (K.load rfl Try.agg3) ?_
    refine KT.step rfl rfl (K.buildC (k := 1) (cs := [.d (DI (q.2.1 : Nat))]) rfl rfl rfl Try.underlying23 Try.size3 Try.one3.zero (by decide)) ?_
    refine KT.appK (k := 1) rfl rfl rfl rfl (hown.pushed _) (List.getElem?_concat_length ..) rfl rfl (by rw [xs_len, List.length_map]; omega) Try.underlying23 Try.size3 (of_decide_eq_true (by kernel_rfl)) (by kernel_rfl) (by decide) fun σ1 x1 ho1 k1 w1 => ?_
    have h1 := (k1 0 hx0 (by rw [List.length_append]; have := obj_lt h0; omega)).trans (obj_left h0)
    obtain ⟨j1, w2, w3⟩ := w1
    refine KT.step rfl rfl (K.assign rfl) ?_
    refine KT.nil ?_
    refine thenK_n ?_
    refine KC.region ?_
    refine KT.step rfl rfl (K.fieldAddrO rfl Try.fld71_2 Try.size68) ?_
    refine KT.step rfl rfl (K.loadO (y := .d (flV fdE fs)) rfl h1 (by simp) rfl Try.agg68) ?_
    refine KT.step rfl rfl (K.move rfl) ?_
    refine KT.step rfl rfl (K.idxF (k := 2) (f := fdE) (m := j) (fun _ => rfl) rfl (flV_ok fs) rfl hjl Try.underlying68 Try.size115) ?_
    rw [hfj]
    refine KT.step rfl rfl (K.fieldAddrD rfl Try.fld115_1 Try.size3) ?_
    refine KT.step rfl rfl (K.load rfl Try.agg3) ?_
    refine KT.step rfl rfl (K.assign rfl) ?_
    refine KT.nil ?_
    refine blockK_n ?_
    refine thenK_n ?_
    refine ⟨(σ1, x1, q.2.2.1, l ++ [q.2.1]), ⟨h1, ?_, fun h => absurd (congrArg List.length h) (by simp), by rw [w2]; intro h; cases h; rw [List.length_append] at w3; have := obj_lt h0; omega, q2, c3, ?_⟩, by simp only; omega, rfl, by simp [Go.Vm.look, extK]⟩
    · simp only
      rw [List.map_append, xs_app]; exact ho1
    · simp only
      rw [hw, c5, List.reverse_append]; simp
  · skip
    replace hc7 := of_decide_eq_false hc7
    obtain rfl : j = 0 := by omega
    rw [hI.hd] at hq
    cases hq
    simp only [List.nil_append] at hw
    have hll : l.length ≤ i := by rw [hw, List.length_reverse] at hwl; exact hwl
    refine KC.exit ?_
    refine thenK_x ?_
    refine thenK_x ?_
    refine blockK_e ?_
    refine thenK_n ?_
    refine KC.seq ?_
    refine KC.region ?_
    refine KT.step rfl rfl (K.move rfl) ?_
    by_cases hl0 : l = []
    · skip
      have hxn := hnil hl0
      subst hxn
      refine KT.step rfl rfl (K.callO rfl plainTry_80 reverse80_nil) ?_
      refine KT.nil ?_
      refine thenK_n ?_
      refine KC.seq ?_
      refine KC.region ?_
      refine KT.step rfl rfl (K.move rfl) ?_
      refine KT.step rfl rfl (K.assign rfl) ?_
      refine KT.nil ?_
      refine thenK_n ?_
      refine KC.ret ?_
      refine ⟨.inl rfl, _, rfl, ?_⟩
      rw [hw, hl0]; rfl
    · skip
      obtain ⟨id, rfl, hid⟩ := hown.is (k := 1) (n := (l.map fun i : Nat => (i : Int)).length) (by rw [xs_len, Nat.mul_one]) (by decide) (by rw [List.length_map]; exact List.length_pos_iff.2 hl0)
      refine KT.step rfl rfl (K.callO rfl plainTry_80 (reverse80 hid (by rw [List.length_map]; omega))) ?_
      refine KT.nil ?_
      refine thenK_n ?_
      refine KC.seq ?_
      refine KC.region ?_
      refine KT.step rfl rfl (K.move rfl) ?_
      refine KT.step rfl rfl (K.assign rfl) ?_
      refine KT.nil ?_
      refine thenK_n ?_
      refine KC.ret ?_
      refine ⟨.inl rfl, _, rfl, ?_⟩
      have hlt := obj_lt hid
      rw [deepen_osl (ob := ⟨xs (l.map fun i : Nat => (i : Int)).reverse, 1⟩) (by simp [freezeAll, hlt]) rfl (by simp [xs_len]), List.drop_zero, List.take_of_length_le (by simp [xs_len]), hw, wV_ne (by simpa using hl0)]
      have e1 : xs (l.map fun i : Nat => (i : Int)).reverse = (l.reverse.map fun i : Nat => DI ((i : Nat) : Int)).map XV.d := by unfold xs; rw [← List.map_reverse, List.map_map, List.map_map]; rfl
      rw [e1, mapM_deep]
      simp
/-- The word of a marking. -/
def wordOf (fs : List Ent) (m : List Int) : List Nat := ((fs[place (marks fs) m]?).map fun e => e.2.2.2).getD []
def wordD (pre post : List (List Int)) (start m : List Int) : DV :=
  if validB pre post start && fitsB m start.length 1073741824 then
    match reachE (nxN pre post) pre.length 2000 start with
    | none => .tup [Dnil, DI 3]
    | some fs => if m ∈ marks fs then .tup [wV (wordOf fs m), DI 0] else .tup [Dnil, DI 5]
  else .tup [Dnil, DI 2]
theorem xplD_none {pre post : List (List Int)} {start : List Int} (hv : validB pre post start = true) (h : reachE (nxN pre post) pre.length 2000 start = none) : xplD pre post start = .tup [zsD, zgD, DI 3] := by unfold xplD; rw [if_pos hv, h]
theorem xplD_some {pre post : List (List Int)} {start : List Int} {fs : List Ent} (hv : validB pre post start = true) (h : reachE (nxN pre post) pre.length 2000 start = some fs) : xplD pre post start = .tup [sysD start.length pre post start, grD fs (nextN (nxN pre post) pre.length fs fs.length 0), DI 0] := by unfold xplD; rw [if_pos hv, h]
theorem wordD_none {pre post : List (List Int)} {start m : List Int} (hv : validB pre post start = true) (hf : fitsB m start.length 1073741824 = true) (h : reachE (nxN pre post) pre.length 2000 start = none) : wordD pre post start m = .tup [Dnil, DI 3] := by unfold wordD; rw [hv, hf, h]; rfl
theorem wordD_some {pre post : List (List Int)} {start m : List Int} {fs : List Ent} (hv : validB pre post start = true) (hf : fitsB m start.length 1073741824 = true) (h : reachE (nxN pre post) pre.length 2000 start = some fs) : wordD pre post start m = if m ∈ marks fs then .tup [wV (wordOf fs m), DI 0] else .tup [Dnil, DI 5] := by unfold wordD; rw [hv, hf, h]; rfl
theorem wordD_bad {pre post : List (List Int)} {start m : List Int} (h : ¬ (validB pre post start = true ∧ fitsB m start.length 1073741824 = true)) : wordD pre post start m = .tup [Dnil, DI 2] := by
  unfold wordD; rw [if_neg (by simpa using h)]
theorem done_of {pre post : List (List Int)} {start : List Int} {fs : List Ent} (hv : validB pre post start = true) (h : reachE (nxN pre post) pre.length 2000 start = some fs) : DoneE (nxN pre post) pre.length start.length 2000 start fs := by
  have hN := NetOk.of hv
  exact reach_spec (nxN_ok hN) (by have := hN.p6; omega) (by decide) rfl (start_bd hv) h
theorem fit_bnd {m : List Int} {n : Nat} (h : fitsB m n 1073741824 = true) : Bnd m := fun x hx => by have := fitsB_mem h x hx; omega
theorem keys_get {l : List (List Int)} {i : Nat} {m : List Int} (h : l[i]? = some m) : ((idxM l).map (·.1))[i]? = some (keyM m) := by
  unfold idxM
  rw [List.getElem?_map, List.getElem?_map, List.getElem?_zipIdx, h]; rfl
theorem keys_inv {l : List (List Int)} {i : Nat} {k : Value} (h : ((idxM l).map (·.1))[i]? = some k) : ∃ m, l[i]? = some m ∧ k = keyM m := by
  rw [List.getElem?_map, Option.map_eq_some_iff] at h
  obtain ⟨p, hp, rfl⟩ := h
  obtain ⟨m, hm, rfl⟩ := idxM_get hp
  exact ⟨m, hm, rfl⟩
set_option maxHeartbeats 4000000 in
set_option maxRecDepth 10000 in
theorem Word20 {a b c d : DV} {pre post : List (List Int)} {start m : List Int} (h : NetD a b c pre post start) (hd : Ints d m) (hl : m.length ≤ 9223372036854775807) : DeepCall Try.prog 20 [.agg [a, b, c], d] (wordD pre post start m) := by
  have hN0 := h
  obtain ⟨ha, hb, hc, l1, l2, l3, r1, r2⟩ := h
  refine deepCall_K 9 Try.func20 rfl (Nat.le_of_ble_eq_true rfl) fun M W0 => ?_
  refine KC.seq ?_
  refine KC.region ?_
  refine KT.step rfl rfl (K.box rfl) ?_
  refine KT.step rfl rfl (K.assign rfl) ?_
  refine KT.step rfl rfl (K.assign rfl) ?_
  refine KT.nil ?_
  refine thenK_n ?_
  refine KC.seq ?_
  refine KC.seq ?_
  refine KC.region ?_
  refine KT.step rfl rfl (K.loadOAgg (m := 3) rfl rfl (by simp) Try.agg32 Try.size32 (by simp [cellsX])) ?_
  refine KT.step rfl rfl (K.call1 rfl plainTry_48 (valid48 hN0)) ?_
  refine KT.step rfl rfl (K.not rfl) ?_
  refine KT.step rfl rfl (K.move rfl) ?_
  refine KT.bcase (fun hb14 => ?_) (fun hb14 => ?_)
  · skip
    refine KT.skip rfl rfl ?_
    refine KT.skip rfl rfl ?_
    refine KT.skip rfl rfl ?_
    refine KT.skip rfl rfl ?_
    refine KT.skip rfl rfl ?_
    refine KT.skip rfl rfl ?_
    refine KT.step rfl rfl (K.pick rfl (fun _ => rfl) (fun h => by cases h)) ?_
    refine KT.nil ?_
    refine thenK_n ?_
    refine KC.cond rfl (fun hc21 => ?_) (fun hc21 => ?_)
    · skip
      refine KC.seq ?_
      refine KC.region ?_
      refine KT.step rfl rfl (K.assign rfl) ?_
      refine KT.step rfl rfl (K.assign rfl) ?_
      refine KT.nil ?_
      refine thenK_n ?_
      refine KC.ret ?_
      refine thenK_r ?_
      refine ⟨.inl rfl, _, rfl, ?_⟩
      rw [wordD_bad (by intro h; have h1 := h.1; rw [h1] at hb14; simp at hb14)]; rfl
    · cases hc21
  · skip
    refine KT.step rfl rfl (K.move rfl) ?_
    refine KT.step rfl rfl (K.fieldAddrO rfl Try.fld32_2 Try.size30) ?_
    refine KT.step rfl rfl (K.loadO rfl rfl (by simp) rfl Try.agg30) ?_
    refine KT.step rfl rfl (K.len rfl hc Try.underlying23) ?_
    refine KT.step rfl rfl (K.call3 rfl rfl rfl plainTry_49 (fits49 hd hl)) ?_
    refine KT.step rfl rfl (K.not rfl) ?_
    refine KT.step rfl rfl (K.pick rfl (fun h => by cases h) (fun _ => rfl)) ?_
    refine KT.nil ?_
    refine thenK_n ?_
    refine KC.cond rfl (fun hc21 => ?_) (fun hc21 => ?_)
    · skip
      refine KC.seq ?_
      refine KC.region ?_
      refine KT.step rfl rfl (K.assign rfl) ?_
      refine KT.step rfl rfl (K.assign rfl) ?_
      refine KT.nil ?_
      refine thenK_n ?_
      refine KC.ret ?_
      refine thenK_r ?_
      refine ⟨.inl rfl, _, rfl, ?_⟩
      rw [wordD_bad (by intro h; have h1 := h.2; rw [h1] at hc21; simp at hc21)]; rfl
    · skip
      have hv : validB pre post start = true := by simpa using hb14
      have hf : fitsB m start.length 1073741824 = true := by simpa using hc21
      have hN := NetOk.of hv
      have hn0 := hN.n0
      have hn6 := hN.n6
      have hfl : m.length = start.length := fitsB_len hf
      refine KC.skip ?_
      refine thenK_n ?_
      refine KC.seq ?_
      refine KC.region ?_
      refine KT.step rfl rfl (K.loadOAgg (m := 3) rfl rfl (by simp) Try.agg32 Try.size32 (by simp [cellsX])) ?_
      rcases hre : reachE (nxN pre post) pre.length 2000 start with _ | fs
      · skip
        refine KT.step rfl rfl (K.call1 rfl plainTry_40 (explored40 hN0)) ?_
        rw [xplD_none hv hre]
        refine KT.step rfl rfl (K.move rfl) ?_
        refine KT.step rfl rfl (K.extract rfl rfl) ?_
        refine KT.step rfl rfl (K.extract rfl rfl) ?_
        refine KT.step rfl rfl (K.extract rfl rfl) ?_
        refine KT.step rfl rfl (K.alloc Try.zero66) ?_
        refine KT.step rfl rfl (K.alloc Try.zero71) ?_
        refine KT.putAll (cs := ((DI 0 :: Dnil :: Dnil :: w6 fun _ => 0).map .d)) rfl rfl rfl rfl rfl rfl (by simp [w6, Value.cells]) (by simp [w6, oneX, Value.oneCell']) Try.size66 ?_
        refine KT.putAll (cs := zg) rfl rfl rfl rfl rfl rfl (by simp [zg, Value.cells]) rfl Try.size71 ?_
        refine KT.step rfl rfl (K.assign rfl) ?_
        refine KT.nil ?_
        refine thenK_n ?_
        refine KC.seq ?_
        refine KC.seq ?_
        refine KC.region ?_
        refine KT.step rfl rfl (K.move rfl) ?_
        refine KT.step rfl rfl (K.neq rfl rfl) ?_
        refine KT.nil ?_
        refine thenK_n ?_
        refine KC.cond rfl (fun hc29 => ?_) (fun hc29 => ?_)
        · skip
          refine KC.seq ?_
          refine KC.region ?_
          refine KT.step rfl rfl (K.move rfl) ?_
          refine KT.step rfl rfl (K.assign rfl) ?_
          refine KT.step rfl rfl (K.assign rfl) ?_
          refine KT.nil ?_
          refine thenK_n ?_
          refine KC.ret ?_
          refine thenK_r ?_
          refine ⟨.inl rfl, _, rfl, ?_⟩
          rw [wordD_none hv hf hre]; rfl
        · skip
          exact absurd (of_decide_eq_false hc29) (by decide)
      · skip
        refine KT.step rfl rfl (K.call1 rfl plainTry_40 (explored40 hN0)) ?_
        rw [xplD_some hv hre]
        refine KT.step rfl rfl (K.move rfl) ?_
        refine KT.step rfl rfl (K.extract rfl rfl) ?_
        refine KT.step rfl rfl (K.extract rfl rfl) ?_
        refine KT.step rfl rfl (K.extract rfl rfl) ?_
        refine KT.step rfl rfl (K.alloc Try.zero66) ?_
        refine KT.step rfl rfl (K.alloc Try.zero71) ?_
        refine KT.putAll (cs := ((sysC start.length pre post start).map .d)) rfl rfl rfl rfl rfl rfl (by simp [w6, sysC, Value.cells]) (by simp [sysC, w6, oneX, Value.oneCell']) Try.size66 ?_
        refine KT.putAll (cs := (([flV (fun m => w6 (tk m)) (marks fs), .mp ((idxM (marks fs)).map (·.1)) ((List.range fs.length).map fun i => DI ((i : Nat) : Int)), flV fdE fs, .sl ((nextN (nxN pre post) pre.length fs fs.length 0).map (flV arE)) (nextN (nxN pre post) pre.length fs fs.length 0).length none]).map .d)) rfl rfl rfl rfl rfl rfl (by simp [w6, Value.cells]) one_gc Try.size71 ?_
        refine KT.step rfl rfl (K.assign rfl) ?_
        refine KT.nil ?_
        refine thenK_n ?_
        refine KC.seq ?_
        refine KC.seq ?_
        refine KC.region ?_
        refine KT.step rfl rfl (K.move rfl) ?_
        refine KT.step rfl rfl (K.neq rfl rfl) ?_
        refine KT.nil ?_
        refine thenK_n ?_
        refine KC.cond rfl (fun hc29 => ?_) (fun hc29 => ?_)
        · skip
          exact absurd (of_decide_eq_true hc29) (by decide)
        · skip
          refine KC.skip ?_
          refine thenK_n ?_
          refine KC.seq ?_
          refine KC.draw Try.mixed ?_
          refine KT.step rfl rfl (K.fieldAddrO rfl Try.fld71_1 Try.size67) ?_
          refine KT.step rfl rfl (K.loadO (y := .d (.mp ((idxM (marks fs)).map (·.1)) ((List.range fs.length).map fun i => DI ((i : Nat) : Int)))) rfl rfl (by simp) rfl Try.agg67) ?_
          refine KT.step rfl rfl (K.move rfl) ?_
          refine KT.step rfl rfl (K.call1 rfl plainTry_50 (tokensOf50 hd (by omega) (by omega))) ?_
          by_cases hmem : m ∈ marks fs
          · skip
            have hD := done_of hv hre
            obtain ⟨hlen, hbn⟩ := inv_bnd hD.toInvE (by have := hD.le; omega)
            have hpg := place_get hmem
            have hpl : place (marks fs) m < fs.length := by rw [← marks_len]; exact place_lt hmem
            obtain ⟨ep, hep⟩ : ∃ e, fs[place (marks fs) m]? = some e := ⟨_, List.getElem?_eq_getElem hpl⟩
            refine KT.step rfl rfl (K.lookMp (i := place (marks fs) m) (k := keyM m) rfl (by simp [idxM, marks_len]) keyR6 Try.underlying67 (fun p hp => by obtain ⟨q, hq⟩ := List.getElem?_of_mem hp; obtain ⟨x, hx, rfl⟩ := keys_inv hq; exact keyM_ok (hbn _ (List.mem_of_getElem? hx))) rfl rfl (keyM_ok (fit_bnd hf)) (keys_get hpg) (by rw [List.getElem?_map, List.getElem?_range hpl]; rfl) (fun j hj => by obtain ⟨x, hx, hk⟩ := keys_inv hj; have e9 := keyM_inj (by rw [hfl, hlen _ (List.mem_of_getElem? hx)]) (by omega) hk; subst e9; exact (place_uniq hD.nd hx).symm)) ?_
            rw [show ∀ x b, lookR true x b = .tup [x, .d (.lit (.bool b))] from fun _ _ => rfl]
            refine KT.step rfl rfl (K.move rfl) ?_
            refine KT.step rfl rfl (K.extractY rfl rfl) ?_
            refine KT.step rfl rfl (K.extractY rfl rfl) ?_
            refine KT.step rfl rfl (K.assign rfl) ?_
            refine KT.step rfl rfl (K.assign rfl) ?_
            refine KT.nil ?_
            refine ⟨by kernel_rfl, ?_⟩
            refine thenK_n ?_
            refine KC.seq ?_
            refine KC.seq ?_
            refine KC.region ?_
            refine KT.step rfl rfl (K.move rfl) ?_
            refine KT.step rfl rfl (K.not rfl) ?_
            refine KT.nil ?_
            refine thenK_n ?_
            refine KC.cond rfl (fun hc40 => ?_) (fun hc40 => ?_)
            · cases hc40
            · skip
              refine KC.skip ?_
              refine thenK_n ?_
              refine KC.seq ?_
              have hD := done_of hv hre
              refine KC.region ?_
              refine KT.step rfl rfl (K.loadOA [flV (fun m => w6 (tk m)) (marks fs), .mp ((idxM (marks fs)).map (·.1)) ((List.range fs.length).map fun i => DI ((i : Nat) : Int)), flV fdE fs, .sl ((nextN (nxN pre post) pre.length fs fs.length 0).map (flV arE)) (nextN (nxN pre post) pre.length fs fs.length 0).length none] rfl rfl (by decide) Try.agg71 Try.size71 rfl) ?_
              refine KT.step rfl rfl (K.move rfl) ?_
              refine KT.step rfl rfl (K.call2 rfl rfl plainTry_51 (word51 hD.toInvE (by have := hD.le; omega) hep)) ?_
              refine KT.step rfl rfl (K.assign rfl) ?_
              refine KT.step rfl rfl (K.assign rfl) ?_
              refine KT.nil ?_
              refine thenK_n ?_
              refine KC.ret ?_
              refine ⟨.inl rfl, _, rfl, ?_⟩
              rw [wordD_some hv hf hre, if_pos hmem]
              unfold wordOf
              rw [hep]; rfl
          · skip
            have hD := done_of hv hre
            obtain ⟨hlen, hbn⟩ := inv_bnd hD.toInvE (by have := hD.le; omega)
            refine KT.step rfl rfl (K.lookMpN (k := keyM m) (z := .int .i64 0) rfl (by simp [idxM, marks_len]) keyR6 Try.underlying67 (by kernel_rfl) (fun p hp => by obtain ⟨q, hq⟩ := List.getElem?_of_mem hp; obtain ⟨x, hx, rfl⟩ := keys_inv hq; exact keyM_ok (hbn _ (List.mem_of_getElem? hx))) rfl rfl (keyM_ok (fit_bnd hf)) (fun k hk e => by obtain ⟨q, hq⟩ := List.getElem?_of_mem hk; obtain ⟨x, hx, rfl⟩ := keys_inv hq; exact hmem (keyM_inj (by rw [hfl, hlen _ (List.mem_of_getElem? hx)]) (by rw [hlen _ (List.mem_of_getElem? hx)]; omega) e ▸ List.mem_of_getElem? hx))) ?_
            rw [show ∀ x b, lookR true x b = .tup [x, .d (.lit (.bool b))] from fun _ _ => rfl]
            refine KT.step rfl rfl (K.move rfl) ?_
            refine KT.step rfl rfl (K.extractY rfl rfl) ?_
            refine KT.step rfl rfl (K.extractY rfl rfl) ?_
            refine KT.step rfl rfl (K.assign rfl) ?_
            refine KT.step rfl rfl (K.assign rfl) ?_
            refine KT.nil ?_
            refine ⟨by kernel_rfl, ?_⟩
            refine thenK_n ?_
            refine KC.seq ?_
            refine KC.seq ?_
            refine KC.region ?_
            refine KT.step rfl rfl (K.move rfl) ?_
            refine KT.step rfl rfl (K.not rfl) ?_
            refine KT.nil ?_
            refine thenK_n ?_
            refine KC.cond rfl (fun hc40 => ?_) (fun hc40 => ?_)
            · skip
              refine KC.seq ?_
              refine KC.region ?_
              refine KT.step rfl rfl (K.assign rfl) ?_
              refine KT.step rfl rfl (K.assign rfl) ?_
              refine KT.nil ?_
              refine thenK_n ?_
              refine KC.ret ?_
              refine thenK_r ?_
              refine ⟨.inl rfl, _, rfl, ?_⟩
              rw [wordD_some hv hf hre, if_neg hmem]; rfl
            · cases hc40
end Go.Proofs.Ytocgjopmlhpjdaa

