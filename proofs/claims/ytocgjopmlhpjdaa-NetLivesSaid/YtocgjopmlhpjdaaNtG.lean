import Derived.Test.YtocgjopmlhpjdaaNtF
import Derived.Test.YtocgjopmlhpjdaaNtWq
import Derived.Test.YtocgjopmlhpjdaaVmK
/-
  Nets: explored, Reverse, word; what the laws copy; awake.
-/
namespace Go.Proofs.Ytocgjopmlhpjdaa
open Go.Vm Go.RowKit Go.Nt Go.Ht
theorem plainTry_40 : plainFn Try.prog 40 = true := by kernel_rfl
/-- The copy of a matrix. -/
def cp (m : List (List Int)) : List (List Int) := (m.take 8).map (List.take 8)
theorem cp_same {m : List (List Int)} (hm : m.length ≤ 8) (hr : ∀ r ∈ m, r.length ≤ 8) : cp m = m := by
  unfold cp
  rw [List.take_of_length_le hm]
  conv => rhs; rw [← List.map_id m]
  refine List.map_congr_left fun r hr' => ?_
  simpa using List.take_of_length_le (hr r hr')
theorem cp_row {m : List (List Int)} (hm : m.length ≤ 8) {r : List Int} (hr : r ∈ m) : r.take 8 ∈ cp m := by
  unfold cp
  rw [List.take_of_length_le hm]
  exact List.mem_map_of_mem hr
theorem take_len {l : List Int} {n : Nat} (h : (l.take 8).length = n) (hn : n ≤ 6) : l.length = n := by simp at h; omega
theorem cp_len {m : List (List Int)} : (cp m).length = min 8 m.length := by simp [cp]
theorem cp_back {m : List (List Int)} {n : Nat} {most : Int} (hn : n ≤ 6) (hm : m.length ≤ 8) (h : allB (cp m) n most = true) : cp m = m := by
  refine cp_same hm fun r hr => ?_
  have := take_len (fitsB_len (allB_mem h _ (cp_row hm hr))) hn
  omega
theorem valid_cp {pre post : List (List Int)} {start : List Int} (h : validB pre post start = true ∨ validB (cp pre) (cp post) (start.take 8) = true) : cp pre = pre ∧ cp post = post ∧ start.take 8 = start := by
  rcases h with h | h
  · obtain ⟨v1, v2, v3, v4, v5, v6, v7, v8⟩ := validB_iff.1 h
    exact ⟨cp_same (by omega) fun r hr => by rw [fitsB_len (allB_mem v7 r hr)]; omega, cp_same (by omega) fun r hr => by rw [fitsB_len (allB_mem v8 r hr)]; omega, List.take_of_length_le (by omega)⟩
  · obtain ⟨v1, v2, v3, v4, v5, v6, v7, v8⟩ := validB_iff.1 h
    have hs : start.length ≤ 6 := by simp at v2; omega
    rw [cp_len] at v4 v5 v6
    rw [cp_len] at v6
    rw [List.take_of_length_le (show start.length ≤ 8 by omega)] at v7 v8
    exact ⟨cp_back hs (by omega) v7, cp_back hs (by omega) v8, List.take_of_length_le (by omega)⟩
theorem validB_cp (pre post : List (List Int)) (start : List Int) : validB (cp pre) (cp post) (start.take 8) = validB pre post start := by
  by_cases h : validB pre post start = true ∨ validB (cp pre) (cp post) (start.take 8) = true
  · obtain ⟨e1, e2, e3⟩ := valid_cp h
    rw [e1, e2, e3]
  · have h1 : validB pre post start = false := by simpa using fun e => h (.inl e)
    have h2 : validB (cp pre) (cp post) (start.take 8) = false := by simpa using fun e => h (.inr e)
    rw [h1, h2]
theorem NetD.cp {a b c : DV} {pre post : List (List Int)} {start : List Int} (h : NetD a b c pre post start) : NetD (rows8 pre a) (rows8 post b) (list8 start c) (cp pre) (cp post) (start.take 8) := by
  have hr : ∀ (m : List (List Int)), ∀ r ∈ Go.Proofs.Ytocgjopmlhpjdaa.cp m, r.length ≤ 9223372036854775807 := fun m r hr => by
    unfold Go.Proofs.Ytocgjopmlhpjdaa.cp at hr
    obtain ⟨q, _, rfl⟩ := List.mem_map.1 hr
    simp; omega
  exact ⟨rows8_mat h.ha, rows8_mat h.hb, list8_ints h.hc, by rw [cp_len]; omega, by rw [cp_len]; omega, by simp; omega, hr pre, hr post⟩
theorem awake19 : DeepCall Try.prog 19 [] (DB true) := runFn_sound (inl := fun f => f == 9999) (len := 3000) (k := 60) (f := 19) Try.mixed (by kernel_rfl)
theorem build66_0 : opBuild Try.prog 66 [] = some (.d (.agg [DI 0, Dnil, Dnil, DI 0, DI 0, DI 0, DI 0, DI 0, DI 0])) := by kernel_rfl
def zsD : DV := .agg (DI 0 :: Dnil :: Dnil :: w6 fun _ => 0)
def zgD : DV := .agg [Dnil, .lit (.map none), Dnil, Dnil]
/-- What explored returns. -/
def xplD (pre post : List (List Int)) (start : List Int) : DV :=
  if validB pre post start then
    match reachE (nxN pre post) pre.length 2000 start with
    | none => .tup [zsD, zgD, DI 3]
    | some fs => .tup [sysD start.length pre post start, grD fs (nextN (nxN pre post) pre.length fs fs.length 0), DI 0]
  else .tup [zsD, zgD, DI 2]
theorem expD_none {pre post : List (List Int)} {s : List Int} (h : reachE (nxN pre post) pre.length 2000 s = none) : expD pre post s = .tup [zgD, DB false] := by unfold expD; rw [h]; rfl
theorem expD_some {pre post : List (List Int)} {s : List Int} {fs : List Ent} (h : reachE (nxN pre post) pre.length 2000 s = some fs) : expD pre post s = .tup [grD fs (nextN (nxN pre post) pre.length fs fs.length 0), DB true] := by unfold expD; rw [h]
theorem start_bd {pre post : List (List Int)} {start : List Int} (h : validB pre post start = true) : ∀ x ∈ start, 0 ≤ x ∧ x ≤ 5 := fitsB_mem (validB_iff.1 h).2.2.1
theorem resK_c2t {P : Program} {σ : List VObj} {kn : Kn} {fn : Func} {a t b u e id id2 m m2 md md2 : Nat} (cs cs2 : List XV) {y : XV} (hr : fn.results = #[.cell a t, .cell b u, .tmp e]) (hl : Go.Vm.look kn a = some (.optr id 0)) (ho : σ[id]? = some ⟨cs, md⟩) (h2 : md < 2) (ha : isAggT P t = some true) (hs : sizeT P t = some m) (hm : cs.length = m)
    (hl2 : Go.Vm.look kn b = some (.optr id2 0)) (ho2 : σ[id2]? = some ⟨cs2, md2⟩) (h3 : md2 < 2) (ha2 : isAggT P u = some true) (hs2 : sizeT P u = some m2) (hm2 : cs2.length = m2) (hy : Go.Vm.look kn e = some y) : resK P fn σ kn = some (.tup [aggX cs, aggX cs2, y]) := by
  unfold resK
  rw [hr]
  have e1 : resVarK P σ kn (.cell a t) = some (aggX cs) := by
    simp only [resVarK, hl, Option.bind_some, opLoad, ho]
    rw [if_neg (fun h => h h2)]
    simp only [takeVar, ha, hs, List.drop_zero]
    rw [if_pos (by omega), List.take_of_length_le (by omega)]; rfl
  have e2 : resVarK P σ kn (.cell b u) = some (aggX cs2) := by
    simp only [resVarK, hl2, Option.bind_some, opLoad, ho2]
    rw [if_neg (fun h => h h3)]
    simp only [takeVar, ha2, hs2, List.drop_zero]
    rw [if_pos (by omega), List.take_of_length_le (by omega)]; rfl
  have e3 : resVarK P σ kn (.tmp e) = some y := hy
  simp only [List.mapM_cons, List.mapM_nil, e1, e2, e3]
  rfl
theorem KTZ.putAll {P : Program} {n : Nat} {ops : Array Oper} {Z : Nat → Prop} {l : List Oper} {σ : List VObj} {kn : Kn} {dst : Option Tmp} {ty : TypeId} {pos : String} {af : Array Edge} {g : Option (Nat × Bool)} {R : List Nat → List Nat → List VObj → Kn → Prop} {x y : Operand} {t : TypeId} {id : Nat} {cells cs : List XV} {v : XV} (hg : guardK ops kn ⟨dst, .store t x y, ty, pos, af, g⟩ = some true) (hd : dstOk n dst = true) (hZ : Z id) (hx : evK kn x = some (.optr id 0)) (hy : evK kn y = some v)
    (ho : σ[id]? = some ⟨cells, 0⟩) (hc : cellsX v = cs) (hz : cells.length = cs.length) (h1 : cs.all oneX = true) (hs : sizeT P t = some cs.length)
    (h : KTZ P n ops Z l (σ.set id ⟨cs, 0⟩) (extK dst undefX kn) (fun fls gs τ k => R (2 :: fls) (2 :: gs) τ k)) :
    KTZ P n ops Z (⟨dst, .store t x y, ty, pos, af, g⟩ :: l) σ kn R := by
  subst hc
  have hk := K.storeN (P := P) (dst := dst) (ty := ty) (pos := pos) (af := af) (g := g) hx hy ho (by omega) h1 hs
  rw [splice_all hz] at hk
  refine KTZ.write hg hd (fun j ob hj hob => ?_) hk h
  exact ⟨ob, by rw [List.getElem?_set_ne (fun e => by subst e; exact hj hZ)]; exact hob, rfl, Iff.rfl⟩
theorem one_fl {α : Type} (f : α → List DV) (l : List α) : oneX (.d (flV f l)) = true := by cases l <;> rfl
theorem one_gc {fs : List Ent} {N : List (List (Nat × Nat))} : (([flV (fun m => w6 (tk m)) (marks fs), .mp ((idxM (marks fs)).map (·.1)) ((List.range fs.length).map fun i => DI ((i : Nat) : Int)), flV fdE fs, .sl (N.map (flV arE)) N.length none].map XV.d).all oneX) = true := by
  simp only [List.map_cons, List.map_nil, List.all_cons, List.all_nil, one_fl, Bool.and_true, Bool.true_and]; rfl
set_option maxHeartbeats 2000000 in
set_option maxRecDepth 10000 in
theorem explored40 {a b c : DV} {pre post : List (List Int)} {start : List Int} (h : NetD a b c pre post start) : DeepCall Try.prog 40 [.agg [a, b, c]] (xplD pre post start) := by
  have hN0 := h
  obtain ⟨ha, hb, hc, l1, l2, l3, r1, r2⟩ := h
  refine deepCall_K 9 Try.func40 rfl (Nat.le_of_ble_eq_true rfl) fun M W0 => ?_
  refine KC.seq ?_
  refine KC.region ?_
  refine KT.step rfl rfl (K.box rfl) ?_
  refine KT.step rfl rfl (K.alloc Try.zero66) ?_
  refine KT.step rfl rfl (K.alloc Try.zero71) ?_
  refine KT.step rfl rfl (K.assign rfl) ?_
  refine KT.nil ?_
  refine thenK_n ?_
  refine KC.seq ?_
  refine KC.seq ?_
  refine KC.region ?_
  refine KT.step rfl rfl (K.loadOAgg (m := 3) rfl rfl (by simp) Try.agg32 Try.size32 (by simp [cellsX])) ?_
  refine KT.step rfl rfl (K.call1 rfl plainTry_48 (valid48 hN0)) ?_
  refine KT.step rfl rfl (K.not rfl) ?_
  refine KT.nil ?_
  refine thenK_n ?_
  refine KC.cond rfl (fun hc10 => ?_) (fun hc10 => ?_)
  · skip
    refine KC.seq ?_
    refine KC.region ?_
    refine KT.step rfl rfl (K.buildS rfl build66_0) ?_
    refine KT.step rfl rfl (K.buildS rfl build71_0) ?_
    refine KT.putAll (cs := ((DI 0 :: Dnil :: Dnil :: w6 fun _ => 0).map .d)) rfl rfl rfl rfl rfl rfl (by simp [w6, Value.cells]) (by simp [w6, oneX, Value.oneCell']) Try.size66 ?_
    refine KT.putAll (cs := zg) rfl rfl rfl rfl rfl rfl (by simp [zg, Value.cells]) rfl Try.size71 ?_
    refine KT.step rfl rfl (K.assign rfl) ?_
    refine KT.nil ?_
    refine thenK_n ?_
    refine KC.ret ?_
    refine thenK_r ?_
    refine ⟨.inl rfl, _, resK_c2t ((DI 0 :: Dnil :: Dnil :: w6 fun _ => 0).map .d) zg rfl rfl rfl (by decide) Try.agg66 Try.size66 (by simp [w6]) rfl rfl (by decide) Try.agg71 Try.size71 rfl rfl, ?_⟩
    unfold xplD
    rw [if_neg (by simpa using hc10)]; rfl
  · skip
    have hv : validB pre post start = true := by simpa using hc10
    have hN := NetOk.of hv
    refine KC.skip ?_
    refine thenK_n ?_
    refine KC.seq ?_
    refine KC.region ?_
    refine KT.step rfl rfl (K.loadOAgg (m := 3) rfl rfl (by simp) Try.agg32 Try.size32 (by simp [cellsX])) ?_
    refine KT.step rfl rfl (K.call1 rfl plainTry_59 (systemOf59 ha hb hc hN.n0 hN.n6 hN.p0 hN.p6 hN.pp hN.rp hN.rq)) ?_
    refine KT.step rfl rfl (K.alloc Try.zero66) ?_
    refine KT.putAll (cs := ((sysC start.length pre post start).map .d)) rfl rfl rfl rfl rfl rfl (by simp [w6, sysC, Value.cells]) (by simp [sysC, w6, oneX, Value.oneCell']) Try.size66 ?_
    refine KT.nil ?_
    refine thenK_n ?_
    refine KC.seq ?_
    refine KC.region ?_
    refine KT.step rfl rfl (K.loadOA (sysC start.length pre post start) rfl rfl (by decide) Try.agg66 Try.size66 rfl) ?_
    rcases hre : reachE (nxN pre post) pre.length 2000 start with _ | fs
    · skip
      refine KT.step rfl rfl (K.call1 rfl plainTry_74 (explore74 hN rfl (start_bd hv))) ?_
      rw [expD_none hre]
      refine KT.step rfl rfl (K.move rfl) ?_
      refine KT.step rfl rfl (K.extract rfl rfl) ?_
      refine KT.step rfl rfl (K.extract rfl rfl) ?_
      refine KT.step rfl rfl (K.alloc Try.zero71) ?_
      refine KT.putAll (cs := zg) rfl rfl rfl rfl rfl rfl (by simp [zg, Value.cells]) rfl Try.size71 ?_
      refine KT.step rfl rfl (K.assign rfl) ?_
      refine KT.nil ?_
      refine thenK_n ?_
      refine KC.seq ?_
      refine KC.seq ?_
      refine KC.region ?_
      refine KT.step rfl rfl (K.move rfl) ?_
      refine KT.step rfl rfl (K.not rfl) ?_
      refine KT.nil ?_
      refine thenK_n ?_
      refine KC.cond rfl (fun hc21 => ?_) (fun hc21 => ?_)
      · skip
        refine KC.seq ?_
        refine KC.region ?_
        refine KT.step rfl rfl (K.buildS rfl build66_0) ?_
        refine KT.step rfl rfl (K.buildS rfl build71_0) ?_
        refine KT.putAll (cs := ((DI 0 :: Dnil :: Dnil :: w6 fun _ => 0).map .d)) rfl rfl rfl rfl rfl rfl (by simp [w6, Value.cells]) (by simp [w6, oneX, Value.oneCell']) Try.size66 ?_
        refine KT.putAll (cs := zg) rfl rfl rfl rfl rfl rfl (by simp [zg, Value.cells]) rfl Try.size71 ?_
        refine KT.step rfl rfl (K.assign rfl) ?_
        refine KT.nil ?_
        refine thenK_n ?_
        refine KC.ret ?_
        refine thenK_r ?_
        refine ⟨.inl rfl, _, resK_c2t ((DI 0 :: Dnil :: Dnil :: w6 fun _ => 0).map .d) zg rfl rfl rfl (by decide) Try.agg66 Try.size66 (by simp [w6]) rfl rfl (by decide) Try.agg71 Try.size71 rfl rfl, ?_⟩
        unfold xplD
        rw [if_pos hv, hre]; rfl
      · cases hc21
    · skip
      refine KT.step rfl rfl (K.call1 rfl plainTry_74 (explore74 hN rfl (start_bd hv))) ?_
      rw [expD_some hre]
      refine KT.step rfl rfl (K.move rfl) ?_
      refine KT.step rfl rfl (K.extract rfl rfl) ?_
      refine KT.step rfl rfl (K.extract rfl rfl) ?_
      refine KT.step rfl rfl (K.alloc Try.zero71) ?_
      refine KT.putAll (cs := ([flV (fun m => w6 (tk m)) (marks fs), .mp ((idxM (marks fs)).map (·.1)) ((List.range fs.length).map fun i => DI ((i : Nat) : Int)), flV fdE fs, .sl ((nextN (nxN pre post) pre.length fs fs.length 0).map (flV arE)) (nextN (nxN pre post) pre.length fs fs.length 0).length none].map .d)) rfl rfl rfl rfl rfl rfl (by simp [w6, Value.cells]) one_gc Try.size71 ?_
      refine KT.step rfl rfl (K.assign rfl) ?_
      refine KT.nil ?_
      refine thenK_n ?_
      refine KC.seq ?_
      refine KC.seq ?_
      refine KC.region ?_
      refine KT.step rfl rfl (K.move rfl) ?_
      refine KT.step rfl rfl (K.not rfl) ?_
      refine KT.nil ?_
      refine thenK_n ?_
      refine KC.cond rfl (fun hc21 => ?_) (fun hc21 => ?_)
      · cases hc21
      · skip
        refine KC.skip ?_
        refine thenK_n ?_
        refine KC.seq ?_
        refine KC.drawZ (fun j => j = 1 ∨ j = 2) Try.mixed ?_
        refine KTZ.load rfl rfl rfl (by simp) (K.loadOA (sysC start.length pre post start) rfl rfl (by decide) Try.agg66 Try.size66 rfl) ?_
        refine KTZ.load rfl rfl rfl (by simp) (K.loadOA [flV (fun m => w6 (tk m)) (marks fs), .mp ((idxM (marks fs)).map (·.1)) ((List.range fs.length).map fun i => DI ((i : Nat) : Int)), flV fdE fs, .sl ((nextN (nxN pre post) pre.length fs fs.length 0).map (flV arE)) (nextN (nxN pre post) pre.length fs fs.length 0).length none] rfl rfl (by decide) Try.agg71 Try.size71 rfl) ?_
        refine KTZ.putAll (cs := ((sysC start.length pre post start).map .d)) rfl rfl (.inl rfl) rfl rfl rfl rfl (by simp [w6, sysC, Value.cells]) (by simp [sysC, w6, oneX, Value.oneCell']) Try.size66 ?_
        refine KTZ.putAll (cs := ([flV (fun m => w6 (tk m)) (marks fs), .mp ((idxM (marks fs)).map (·.1)) ((List.range fs.length).map fun i => DI ((i : Nat) : Int)), flV fdE fs, .sl ((nextN (nxN pre post) pre.length fs fs.length 0).map (flV arE)) (nextN (nxN pre post) pre.length fs fs.length 0).length none].map .d)) rfl rfl (.inr rfl) rfl rfl rfl rfl (by simp [w6, Value.cells]) one_gc Try.size71 ?_
        refine KTZ.step rfl rfl (K.assign rfl) ?_
        refine KTZ.nil ?_
        refine ⟨by kernel_rfl, ?_⟩
        refine thenK_n ?_
        refine KC.ret ?_
        refine ⟨.inl rfl, _, resK_c2t ((sysC start.length pre post start).map .d) ([flV (fun m => w6 (tk m)) (marks fs), .mp ((idxM (marks fs)).map (·.1)) ((List.range fs.length).map fun i => DI ((i : Nat) : Int)), flV fdE fs, .sl ((nextN (nxN pre post) pre.length fs fs.length 0).map (flV arE)) (nextN (nxN pre post) pre.length fs fs.length 0).length none].map .d) rfl rfl rfl (by decide) Try.agg66 Try.size66 (by simp [sysC, w6]) rfl rfl (by decide) Try.agg71 Try.size71 rfl rfl, ?_⟩
        unfold xplD
        rw [if_pos hv, hre]; rfl
end Go.Proofs.Ytocgjopmlhpjdaa

