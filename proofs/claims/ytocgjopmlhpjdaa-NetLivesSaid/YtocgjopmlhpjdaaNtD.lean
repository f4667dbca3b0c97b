import Derived.Test.YtocgjopmlhpjdaaNtC
/-
  Nets: explore, the walk.
-/
namespace Go.Proofs.Ytocgjopmlhpjdaa
open Go.Vm Go.RowKit Go.Nt
theorem plainTry_74 : plainFn Try.prog 74 = true := by kernel_rfl
theorem build71_m {id : Nat} : opBuild Try.prog 71 [(1, .omp id)] = some (aggX [.d Dnil, .omp id, .d Dnil, .d Dnil]) := by kernel_rfl
theorem build71_0 : opBuild Try.prog 71 [] = some (.d (.agg [Dnil, .lit (.map none), Dnil, Dnil])) := by kernel_rfl
theorem build115_0 : opBuild Try.prog 115 [] = some (.d (.agg [DI 0, DI 0])) := by kernel_rfl
theorem build115_2 (x y : Int) : opBuild Try.prog 115 [(0, .d (DI x)), (1, .d (DI y))] = some (.d (.agg [DI x, DI y])) := by kernel_rfl
/-- The state at a round's head. -/
structure ExI (pre post : List (List Int)) (n : Nat) (s : List Int) (fs : List Ent) (a : Nat) : Prop where
  inv : InvE (nxN pre post) pre.length n s fs
  cl : Cl (nxN pre post) pre.length fs a 0
  le : a ≤ fs.length
  lim : fs.length ≤ 2000
  bf : bfs (nxN pre post) pre.length 2000 (2001 - a) a fs = reachE (nxN pre post) pre.length 2000 s
/-- What holds after k firings of the node a. -/
theorem row_ok {pre post : List (List Int)} {n : Nat} {s : List Int} (hN : NetOk pre post n) {fs : List Ent} {a : Nat} (h : ExI pre post n s fs a) {e : Ent} (he : fs[a]? = some e) : ∀ k, k ≤ (enL (nxN pre post) e.1 pre.length).length →
    InvE (nxN pre post) pre.length n s (rowK fs a e.2.2.2 ((enL (nxN pre post) e.1 pre.length).take k)) ∧ Cl (nxN pre post) pre.length (rowK fs a e.2.2.2 ((enL (nxN pre post) e.1 pre.length).take k)) a k ∧
    (rowK fs a e.2.2.2 ((enL (nxN pre post) e.1 pre.length).take k))[a]? = some e ∧ (rowK fs a e.2.2.2 ((enL (nxN pre post) e.1 pre.length).take k)).length ≤ fs.length + k
  | 0, _ => ⟨h.inv, h.cl, he, Nat.le_refl _⟩
  | k + 1, hk => by
    have hk' : k < (enL (nxN pre post) e.1 pre.length).length := hk
    obtain ⟨i1, i2, i3, i4⟩ := row_ok hN h he k (by omega)
    have hle := enL_len (nxN pre post) e.1 pre.length
    have hp6 := hN.p6
    have hl := h.lim
    rw [rowK_take hk']
    have hm : mrk (rowK fs a e.2.2.2 ((enL (nxN pre post) e.1 pre.length).take k)) a = e.1 := mrk_get i3
    have hal := (List.getElem?_eq_some_iff.1 i3).1
    obtain ⟨l, hl2⟩ := addE_grow (rowK fs a e.2.2.2 ((enL (nxN pre post) e.1 pre.length).take k)) ((enL (nxN pre post) e.1 pre.length)[k]).2 ((enL (nxN pre post) e.1 pre.length)[k]).1 a e.2.2.2
    have h3 : (addE (rowK fs a e.2.2.2 ((enL (nxN pre post) e.1 pre.length).take k)) ((enL (nxN pre post) e.1 pre.length)[k]).2 ((enL (nxN pre post) e.1 pre.length)[k]).1 a e.2.2.2)[a]? = some e := by rw [hl2, List.getElem?_append_left hal]; exact i3
    refine ⟨i1.add (nxN_ok hN) i3 (List.getElem_mem hk') (by omega), (i2.add hal _ _ _ _).succ (by rw [mrk_get h3]; exact hk') ?_, h3, ?_⟩
    · have e2 : (enL (nxN pre post) (mrk (addE (rowK fs a e.2.2.2 ((enL (nxN pre post) e.1 pre.length).take k)) ((enL (nxN pre post) e.1 pre.length)[k]).2 ((enL (nxN pre post) e.1 pre.length)[k]).1 a e.2.2.2) a) pre.length) = enL (nxN pre post) e.1 pre.length := by rw [mrk_get h3]
      simp only [e2]
      exact addE_mem _ _ _ _ _
    · have := addE_len (rowK fs a e.2.2.2 ((enL (nxN pre post) e.1 pre.length).take k)) ((enL (nxN pre post) e.1 pre.length)[k]).2 ((enL (nxN pre post) e.1 pre.length)[k]).1 a e.2.2.2
      omega
theorem inv_bnd {nx : List Int → Nat → Option (List Int)} {T n : Nat} {s : List Int} {fs : List Ent} (h : InvE nx T n s fs) (hl : fs.length ≤ 100000000) : (∀ x ∈ marks fs, x.length = n) ∧ ∀ x ∈ marks fs, Bnd x := by
  refine ⟨fun x hx => ?_, fun x hx y hy => ?_⟩
  · obtain ⟨i, hi⟩ := List.getElem?_of_mem hx
    unfold marks at hi
    rw [List.getElem?_map, Option.map_eq_some_iff] at hi
    obtain ⟨e, he, rfl⟩ := hi
    exact (h.ok i e he).1
  · obtain ⟨i, hi⟩ := List.getElem?_of_mem hx
    unfold marks at hi
    rw [List.getElem?_map, Option.map_eq_some_iff] at hi
    obtain ⟨e, he, rfl⟩ := hi
    have h1 := (h.ok i e he).2 y hy
    have := (List.getElem?_eq_some_iff.1 he).1
    omega
theorem obj_ltE {α : Type} {l : List α} {i : Nat} {x : α} (h : l[i]? = some x) : i < l.length := (List.getElem?_eq_some_iff.1 h).1
theorem fam_none {σ : List VObj} : FamP σ (grF (.d Dnil) (.d Dnil) (.d Dnil) [] [] []) := by
  refine ⟨fun p hp => ?_, fun p hp _ => ?_, ?_⟩
  · simp only [grF, rowsF, List.zip_nil_left, List.map_nil, List.mem_cons, List.not_mem_nil, or_false] at hp
    rcases hp with rfl | rfl | rfl <;> exact .nil
  · simp only [grF, rowsF, List.zip_nil_left, List.map_nil, List.mem_cons, List.not_mem_nil, or_false] at hp
    rcases hp with rfl | rfl | rfl <;> rfl
  · simp [grF, rowsF, idX]
theorem off_none {e : Nat} : Off (grF (.d Dnil) (.d Dnil) (.d Dnil) [] [] []) e := fun p hp => by
  simp only [grF, rowsF, List.zip_nil_left, List.map_nil, List.mem_cons, List.not_mem_nil, or_false] at hp
  rcases hp with rfl | rfl | rfl <;> simp [idX]
theorem GrM.word {σ : List VObj} {gid mid t a : Nat} {xn xf xr : XV} {R : List XV} {s : List Int} {w w' : List Nat} {N : List (List (Nat × Nat))} (h : GrM σ gid mid xn xf xr R [(s, t, a, w)] N) : GrM σ gid mid xn xf xr R [(s, t, a, w')] N :=
  ⟨h.g, h.m, h.f, h.og, h.lR, h.lN⟩
theorem FamP.arc {σ σ1 σ2 : List VObj} {xn xf x' : XV} {R : List XV} {fs : List Ent} {N : List (List (Nat × Nat))} {a rid q : Nat} {r : List (Nat × Nat)} (h : FamP σ (grF xn xf (.osl rid 0 q 1 q false) R fs N)) (hR : a < R.length) (hl : R.length = N.length)
    (hk : ∀ j, idX R[a] ≠ some j → j < σ.length → σ1[j]? = σ[j]?) (ho : OwnK 2 σ1 x' ((r.flatMap arE).map .d)) (hne : r ≠ []) (hx : ∃ j, idX x' = some j ∧ σ.length ≤ j)
    (hv : ∀ j, j ≠ rid → σ2[j]? = σ1[j]?) (hu : σ2[rid]? = some ⟨R.set a x', 0⟩) (hq : R.length = q) :
    FamP σ2 (grF xn xf (.osl rid 0 q 1 q false) (R.set a x') fs (N.set a r)) ∧ ∀ e, e < σ.length → Off (grF xn xf (.osl rid 0 q 1 q false) R fs N) e → σ2[e]? = σ[e]? ∧ Off (grF xn xf (.osl rid 0 q 1 q false) (R.set a x') fs (N.set a r)) e := by
  obtain ⟨hi, hrow⟩ := grF_row (xn := xn) (xf := xf) (xr := .osl rid 0 q 1 q false) (fs := fs) hR (by omega : a < N.length)
  have hne2 : ((r.flatMap arE).map XV.d) ≠ [] := by
    cases r with
    | nil => exact absurd rfl hne
    | cons p r => simp [arE]
  have P := h.put hi (x' := x') (c' := (r.flatMap arE).map .d) (by rw [hrow]; exact hk) (by rw [hrow]; exact ho) hne2 hx
  rw [hrow] at P
  have hRs : R.set a x' ≠ [] := by
    intro e
    have := congrArg List.length e
    rw [List.length_set, List.length_nil] at this; omega
  have Q := P.1.cell (σ' := σ2) (i := 2) (id := rid) (by simp [grF]) (c' := R.set a x') rfl hv (.sl hu (by rw [List.length_set, hq]; exact (Nat.mul_one q).symm)) hRs
  have e := grF_set (xn := xn) (xf := xf) (xr := .osl rid 0 q 1 q false) (x' := x') (fs := fs) (r := r) (a := a) hl
  have e2 : ((((grF xn xf (.osl rid 0 q 1 q false) R fs N).set (a + 3) (2, x', (r.flatMap arE).map .d))[2]'(by simp [grF])).1, (((grF xn xf (.osl rid 0 q 1 q false) R fs N).set (a + 3) (2, x', (r.flatMap arE).map .d))[2]'(by simp [grF])).2.1, R.set a x') = (1, XV.osl rid 0 q 1 q false, R.set a x') := rfl
  rw [e2, e] at Q
  exact ⟨Q.1, fun z hz hof => by
    have p := P.2 z hz hof
    have q := Q.2 z p.2
    exact ⟨q.1.trans p.1, q.2⟩⟩
set_option maxHeartbeats 4000000 in
set_option maxRecDepth 10000 in
theorem explore74 {pre post : List (List Int)} {n : Nat} {s : List Int} (hN : NetOk pre post n) (hs : s.length = n) (hb : ∀ x ∈ s, 0 ≤ x ∧ x ≤ 5) : DeepCall Try.prog 74 [sysD n pre post s] (expD pre post s) := by
  have hsB : Bnd s := fun x hx => by have := hb x hx; omega
  refine deepCall_K 9 Try.func74 rfl (Nat.le_of_ble_eq_true rfl) fun M W0 => ?_
  refine KC.seq ?_
  refine KC.region ?_
  refine KT.step rfl rfl (K.box rfl) ?_
  refine KT.step rfl rfl (K.alloc Try.zero71) ?_
  refine KT.step rfl rfl (K.alloc Try.one4.zero) ?_
  refine KT.nil ?_
  refine thenK_n ?_
  refine KC.seq ?_
  refine KC.region ?_
  refine KT.step rfl rfl (K.makeMap) ?_
  refine KT.step rfl rfl (K.buildS rfl build71_m) ?_
  refine KT.step rfl rfl (K.alloc Try.zero71) ?_
  refine KT.putAll (cs := [.d Dnil, .omp 3, .d Dnil, .d Dnil]) rfl rfl rfl rfl rfl rfl rfl rfl Try.size71 ?_
  refine KT.nil ?_
  refine thenK_n ?_
  refine KC.seq ?_
  refine KC.regionL ?_
  refine KL.step rfl rfl (K.fieldAddrO rfl Try.fld66_3 Try.size64) ?_
  refine KL.step rfl rfl (K.loadOP (sysC n pre post s) rfl rfl (by decide) Try.agg64 Try.size64 (by simp [sysC, w6])) ?_
  rw [show ((sysC n pre post s).drop (0 + 3)).take 6 = w6 (tk s) by simp [sysC, w6, List.range_succ]]
  refine KL.step rfl rfl (K.buildS rfl build115_0) ?_
  refine KL.call (R := _) rfl rfl rfl rfl rfl plainTry_93 (place93 (σ := [⟨(sysC n pre post s).map .d, 0⟩, ⟨zg, 0⟩, ⟨[.d (DB false)], 0⟩, ⟨entX (idxM (marks [])), 3⟩, ⟨[.d Dnil, .omp 3, .d Dnil, .d Dnil], 0⟩]) (xn := .d Dnil) (xf := .d Dnil) (xr := .d Dnil) (R := []) (fs := []) (N := []) (gid := 4) (mid := 3) (n := n) ⟨rfl, rfl, fam_none, off_none, rfl, rfl⟩ hs hN.n6 hsB (by simp [marks]) (by simp [marks]) (by simp [marks]) (by simp) 0 0 []) fun σ1 x1 hR => ?_
  obtain ⟨rfl, xn, xf, xr, R, N1, hG, hN1, hl1, hfr⟩ := hR
  rw [show addE [] s 0 0 [] = [(s, 0, 0, [0])] from rfl] at hG hfr
  have eN : N1 = nextN (nxN pre post) pre.length [(s, 0, 0, [])] 0 0 := by rw [hN1, if_neg (by simp [marks])]; simp [nextN]
  subst eN
  have z0 := hfr 0 (by simp) (by decide) (by decide) off_none
  have z1 := hfr 1 (by simp) (by decide) (by decide) off_none
  have z2 := hfr 2 (by simp) (by decide) (by decide) off_none
  refine KL.nil ?_
  refine thenK_n ?_
  refine KC.seq ?_
  refine KC.seq ?_
  refine KC.region ?_
  refine KT.step rfl rfl (K.alloc Try.one3.zero) ?_
  refine KT.storeL (cs := [.d (DI 0)]) rfl rfl rfl rfl rfl rfl rfl Try.size3 ?_
  refine KT.nil ?_
  refine thenK_n ?_
  refine KC.block ?_
  refine KC.loop (fun p : List VObj × (XV × XV × XV) × List XV × List Ent × Nat × Nat => p.1) (fun p => [(1, .optr 0 0), (2, .optr 1 0), (3, .optr 2 0), (4, .optr 4 0), (5, .optr p.2.2.2.2.2 0)]) (fun p => ExM pre post n s p.1 p.2.1.1 p.2.1.2.1 p.2.1.2.2 p.2.2.1 p.2.2.2.1 p.2.2.2.2.1 0 p.2.2.2.2.2 ∧ ExI pre post n s p.2.2.2.1 p.2.2.2.2.1) (fun p => 2001 - p.2.2.2.2.1) (_, (xn, xf, xr), R, [(s, 0, 0, [])], 0, σ1.length) ⟨?_, ?_⟩ rfl (by simp [Go.Vm.look, extK, enterK]) ?_
  · exact ⟨obj_left z0.1, obj_left z1.1, obj_left z2.1, GrM.push (GrM.word hG) _, (List.getElem?_concat_length ..), z0.2, z1.2, z2.2, hG.f.off_new (Nat.le_refl _), by simp at hl1; exact hl1⟩
  · exact ⟨.start hs hb, ⟨fun i hi => by simp at hi, fun p hp => by simp at hp⟩, Nat.zero_le _, by simp, rfl⟩
  intro p hp
  obtain ⟨σ0, ⟨xn, xf, xr⟩, R, fs, a, aid⟩ := p
  obtain ⟨hM, hI⟩ := hp
  simp only at hM hI ⊢
  have hI0 := hI
  have hlim := hI.lim
  refine KC.seq ?_
  refine KC.seq ?_
  refine KC.region ?_
  refine KT.step rfl rfl (K.loadO rfl hM.oa (by simp) rfl Try.agg3) ?_
  refine KT.step rfl rfl (K.fieldAddrO rfl Try.fld71_0 Try.size62) ?_
  refine KT.step rfl rfl (K.loadO rfl hM.gm.g (by simp) rfl Try.agg62) ?_
  refine KT.step rfl rfl (K.lenOW (k := 6) (m := fs.length) rfl (hM.gm.f.own _ (List.mem_cons_self)) (nodes_len fs) (by decide) Try.underlying62) ?_
  refine KT.step rfl rfl (K.lss rfl rfl) ?_
  refine KT.nil ?_
  refine thenK_n ?_
  refine KC.cond rfl (fun hc19 => ?_) (fun hc19 => ?_)
  · skip
    replace hc19 := of_decide_eq_true hc19
    have hal : a < fs.length := by omega
    obtain ⟨e, he⟩ : ∃ e, fs[a]? = some e := ⟨_, List.getElem?_eq_getElem hal⟩
    have hmk : (marks fs)[a]'(by rw [marks_len]; exact hal) = e.1 := by
      have := marks_get he
      rw [List.getElem?_eq_getElem (by rw [marks_len]; exact hal)] at this
      exact Option.some.inj this
    obtain ⟨hb1, hb2⟩ := inv_bnd hI.inv (by have := hI.lim; omega)
    have hem : e.1.length = n := hb1 _ (List.mem_of_getElem? (marks_get he))
    have hbm : Bnd e.1 := hb2 _ (List.mem_of_getElem? (marks_get he))
    have ho0 : OwnK 6 σ0 xn ((flatW (marks fs)).map .d) := hM.gm.f.own (6, xn, _) (List.mem_cons_self)
    obtain ⟨nid, rfl, hnid⟩ := ho0.is (n := fs.length) (nodes_len fs) (by decide) (by omega)
    have hen6 := enL_len (nxN pre post) e.1 pre.length
    have hp6 := hN.p6
    refine KC.skip ?_
    refine thenK_n ?_
    refine KC.seq ?_
    refine KC.block ?_
    refine KC.seq ?_
    refine KC.draw Try.mixed ?_
    refine KT.step rfl rfl (K.loadOA (sysC n pre post s) rfl hM.o0 (by decide) Try.agg66 Try.size66 rfl) ?_
    refine KT.step rfl rfl (K.fieldAddrO rfl Try.fld71_0 Try.size62) ?_
    refine KT.step rfl rfl (K.loadO rfl hM.gm.g (by simp) rfl Try.agg62) ?_
    refine KT.step rfl rfl (K.loadO rfl hM.oa (by simp) rfl Try.agg3) ?_
    refine KT.step rfl rfl (K.idxOK (m := a) rfl rfl hal Try.underlying62 Try.size64) ?_
    refine KT.step rfl rfl (K.loadOP (flatW (marks fs)) rfl hnid (by decide) Try.agg64 Try.size64 (by rw [flatW_len, marks_len]; omega)) ?_
    rw [Nat.zero_add, flatW_take _ _ (by rw [marks_len]; exact hal), hmk]
    refine KT.step rfl rfl (K.call2 rfl rfl plainTry_94 (firings94 (n := n) (pre := pre) (post := post) (s := s) (X := tk e.1))) ?_
    refine KT.nil ?_
    refine ⟨by kernel_rfl, ?_⟩
    refine thenK_n ?_
    refine KC.block ?_
    refine KC.rangeG rfl rfl plainTry_102 (firingsIter hN hem hbm) (by intro x hx; obtain ⟨z, _, rfl⟩ := List.mem_map.1 hx; rfl) (by decide) (fun k => [(1, .optr 0 0), (2, .optr 1 0), (3, .optr 2 0), (4, .optr 4 0), (5, .optr aid 0), (29, .d (DI (((enL (nxN pre post) e.1 pre.length).getD k (0, [])).1 : Nat))), (30, .d (.agg (w6 (tk ((enL (nxN pre post) e.1 pre.length).getD k (0, [])).2))))]) (fun k τ => ∃ xn xf xr R, ExM pre post n s τ xn xf xr R (rowK fs a e.2.2.2 ((enL (nxN pre post) e.1 pre.length).take k)) a k aid ∧ (rowK fs a e.2.2.2 ((enL (nxN pre post) e.1 pre.length).take k)).length ≤ 2000) (fun τ => τ[1]? = some ⟨zg, 0⟩ ∧ τ[2]? = some ⟨[.d (DB false)], 0⟩ ∧ reachE (nxN pre post) pre.length 2000 s = none) (fun k τ o ⟨xn, xf, xr, R, h, h2⟩ => ⟨xn, xf, xr, R, h.push [o], h2⟩) (by
      intro k hk p hp
      have hk' : k < (enL (nxN pre post) e.1 pre.length).length := by simpa using hk
      rw [List.getElem_map]
      have e1 : ((enL (nxN pre post) e.1 pre.length).getD k (0, [])) = (enL (nxN pre post) e.1 pre.length)[k] := by simp [hk']
      simp only [e1] at hp
      simp only [List.mem_cons, List.not_mem_nil, or_false] at hp
      rcases hp with rfl | rfl | rfl | rfl | rfl | rfl | rfl <;> exact ⟨Nat.le_of_ble_eq_true rfl, rfl⟩) (⟨_, _, _, _, hM.push [dead], hI.lim⟩) (fun k hk lo σk hlo hl hI => ?_) (fun τ hI => ?_) (fun τ hJ => ?_)
    · skip
      have hk' : k < (enL (nxN pre post) e.1 pre.length).length := by simpa using hk
      have e1 : ((enL (nxN pre post) e.1 pre.length).getD k (0, [])) = (enL (nxN pre post) e.1 pre.length)[k] := by simp [hk']
      obtain ⟨xn1, xf1, xr1, R1, hI1, hlk⟩ := hI
      refine KC.seq ?_
      refine KC.region ?_
      refine KT.step rfl rfl (K.assign rfl) ?_
      refine KT.nil ?_
      refine thenK_n ?_
      refine KC.region ?_
      refine KT.step rfl rfl (K.alloc Try.zero64) ?_
      refine KT.storeL (cs := (w6 (tk ((enL (nxN pre post) e.1 pre.length).getD k (0, [])).2)).map .d) rfl rfl rfl rfl rfl (by simp [w6, Value.cells]) (w6_one _) (by simp [w6]; exact Try.size64) ?_
      refine KT.nil ?_
      refine ⟨rfl, ⟨_, rfl⟩, fun lo2 hlo2 => ?_⟩
      have hx : σ0.length < σk.length := obj_lt hl
      have hB : ExM pre post n s ((σk ++ [(⟨(w6 (tk ((enL (nxN pre post) e.1 pre.length).getD k (0, [])).2)).map .d, 0⟩ : VObj)]).set σ0.length lo2) xn1 xf1 xr1 R1 (rowK fs a e.2.2.2 ((enL (nxN pre post) e.1 pre.length).take k)) a k aid := by
        have h1 := (hI1.set (j := σ0.length) (o := dead) (by rw [List.getElem?_set_self hx]) (by decide) (by decide) lo2).push [(⟨(w6 (tk ((enL (nxN pre post) e.1 pre.length).getD k (0, [])).2)).map .d, 0⟩ : VObj)]
        rw [List.set_set] at h1
        rwa [List.set_append_left _ _ hx]
      have zL : ((σk ++ [(⟨(w6 (tk ((enL (nxN pre post) e.1 pre.length).getD k (0, [])).2)).map .d, 0⟩ : VObj)]).set σ0.length lo2)[σ0.length]? = some lo2 := List.getElem?_set_self (by simp; omega)
      have zm : ((σk ++ [(⟨(w6 (tk ((enL (nxN pre post) e.1 pre.length).getD k (0, [])).2)).map .d, 0⟩ : VObj)]).set σ0.length lo2)[σk.length]? = some (⟨(w6 (tk ((enL (nxN pre post) e.1 pre.length).getD k (0, [])).2)).map .d, 0⟩ : VObj) := by rw [List.getElem?_set_ne (by omega)]; exact (List.getElem?_concat_length ..)
      obtain ⟨i1, i2, i3, i4⟩ := row_ok hN hI0 he k (by omega)
      obtain ⟨j1, j2, j3, j4⟩ := row_ok hN hI0 he (k + 1) (by omega)
      have efs : addE (rowK fs a e.2.2.2 ((enL (nxN pre post) e.1 pre.length).take k)) ((enL (nxN pre post) e.1 pre.length).getD k (0, [])).2 ((enL (nxN pre post) e.1 pre.length).getD k (0, [])).1 a e.2.2.2 = (rowK fs a e.2.2.2 ((enL (nxN pre post) e.1 pre.length).take (k + 1))) := by rw [rowK_take hk', e1]
      obtain ⟨hk1, hk2⟩ := inv_bnd i1 (by omega)
      obtain ⟨hk3, hk4⟩ := inv_bnd j1 (by omega)
      have hmm : ((enL (nxN pre post) e.1 pre.length).getD k (0, [])).2 ∈ marks (rowK fs a e.2.2.2 ((enL (nxN pre post) e.1 pre.length).take (k + 1))) := by rw [← efs]; exact addE_mem _ _ _ _ _
      have hml := hk3 _ hmm
      have hmb := hk4 _ hmm
      revert hB zL zm
      show _ → _ → _ → KC Try.prog M W0 _ _ ((σk ++ [(⟨(w6 (tk ((enL (nxN pre post) e.1 pre.length).getD k (0, [])).2)).map .d, 0⟩ : VObj)]).set σ0.length lo2) _ _
      generalize (σk ++ [(⟨(w6 (tk ((enL (nxN pre post) e.1 pre.length).getD k (0, [])).2)).map .d, 0⟩ : VObj)]).set σ0.length lo2 = σB
      generalize hL0 : σ0.length = L0
      intro hB zL zm
      refine KC.block ?_
      refine KC.seq ?_
      refine KC.regionL ?_
      refine KL.step rfl rfl (K.loadOA (w6 (tk ((enL (nxN pre post) e.1 pre.length).getD k (0, [])).2)) rfl zm (by decide) Try.agg64 Try.size64 rfl) ?_
      refine KL.step rfl rfl (K.move rfl) ?_
      refine KL.step rfl rfl (K.loadO rfl hB.oa (by simp) rfl Try.agg3) ?_
      refine KL.step rfl rfl (K.buildS rfl (build115_2 _ _)) ?_
      refine KL.call (R := _) rfl rfl rfl rfl rfl plainTry_93 (place93 hB.gm hml hN.n6 hmb hk1 hk2 i1.nd (by omega) ((enL (nxN pre post) e.1 pre.length).getD k (0, [])).1 a e.2.2.2) fun σC x8 hR => ?_
      obtain ⟨hx8, xn2, xf2, xr2, R2, N2, hG2, hN2, hl2, hfr2⟩ := hR
      rw [efs] at hG2 hfr2 hx8
      subst hx8
      have eN2 : N2 = nextN (nxN pre post) pre.length (rowK fs a e.2.2.2 ((enL (nxN pre post) e.1 pre.length).take (k + 1))) a k := by rw [hN2, ← nextN_add (obj_ltE i3) i2 ((enL (nxN pre post) e.1 pre.length).getD k (0, [])).2 ((enL (nxN pre post) e.1 pre.length).getD k (0, [])).1 a e.2.2.2, efs]
      subst eN2
      have q0 := hfr2 0 (by have := obj_lt hB.o0; omega) (by decide) (by decide) hB.f0
      have q1 := hfr2 1 (by have := obj_lt hB.o1; omega) (by decide) (by decide) hB.f1
      have q2 := hfr2 2 (by have := obj_lt hB.o2; omega) (by decide) (by decide) hB.f2
      have qa := hfr2 aid (obj_lt hB.oa) (by have := hB.a5; omega) (by have := hB.a5; omega) hB.fa
      have qL := hfr2 L0 (obj_lt zL) (fun h => by rw [h, hB.gm.g] at zL; cases zL; cases hlo2) (fun h => by rw [h, hB.gm.m] at zL; cases zL; cases hlo2) (hB.gm.f.off_m zL (by rw [hlo2]; decide))
      have hC : ExM pre post n s σC xn2 xf2 xr2 R2 (rowK fs a e.2.2.2 ((enL (nxN pre post) e.1 pre.length).take (k + 1))) a k aid := ⟨q0.1.trans hB.o0, q1.1.trans hB.o1, q2.1.trans hB.o2, hG2, qa.1.trans hB.oa, q0.2, q1.2, q2.2, qa.2, hB.a5⟩
      replace zL := qL.1.trans zL
      refine KL.step rfl rfl (K.assign rfl) ?_
      refine KL.nil ?_
      refine thenK_n ?_
      refine KC.seq ?_
      refine KC.seq ?_
      refine KC.region ?_
      refine KT.step rfl rfl (K.fieldAddrO rfl Try.fld71_0 Try.size62) ?_
      refine KT.step rfl rfl (K.loadO rfl hC.gm.g (by simp) rfl Try.agg62) ?_
      refine KT.step rfl rfl (K.lenOW (k := 6) (m := (rowK fs a e.2.2.2 ((enL (nxN pre post) e.1 pre.length).take (k + 1))).length) rfl (hC.gm.f.own _ (List.mem_cons_self)) (nodes_len _) (by decide) Try.underlying62) ?_
      refine KT.step rfl rfl (K.gtr rfl rfl) ?_
      refine KT.nil ?_
      refine thenK_n ?_
      refine KC.cond rfl (fun hc39 => ?_) (fun hc39 => ?_)
      · skip
        replace hc39 := of_decide_eq_true hc39
        skip
        refine KC.seq ?_
        refine KC.region ?_
        refine KT.step rfl rfl (K.buildS rfl build71_0) ?_
        refine KT.putAll (cs := zg) rfl rfl rfl rfl hC.o1 rfl rfl rfl Try.size71 ?_
        have hC1 := obj_put hC.o1 ⟨zg, 0⟩
        obtain ⟨σG, hσG, t1, tk1, tl1⟩ := hC1
        rw [hσG]
        refine KT.storeG rfl rfl rfl rfl ((tk1 2 (by decide)).trans hC.o2) (by simp) rfl rfl Try.size4 fun σH lH uH vH => ?_
        refine KT.nil ?_
        refine thenK_n ?_
        refine KC.ret ?_
        refine thenK_r ?_
        refine blockK_r ?_
        refine ⟨?_, .inr ⟨rfl, ?_, ?_, ?_⟩⟩
        · exact (vH L0 (fun h => by rw [h, hC.o2] at zL; cases zL; cases hlo2)).trans ((tk1 L0 (fun h => by rw [h, hC.o1] at zL; cases zL; cases hlo2)).trans zL)
        · rw [List.getElem?_set_ne (fun h => by rw [h, hC.o1] at zL; cases zL; cases hlo2), vH 1 (by decide)]; exact t1
        · rw [List.getElem?_set_ne (fun h => by rw [h, hC.o2] at zL; cases zL; cases hlo2)]; exact uH
        · rw [← hI0.bf, show 2001 - a = (2000 - a) + 1 by omega]; exact bfs_overK he (j := k + 1) (by omega)
      · skip
        replace hc39 := of_decide_eq_false hc39
        refine KC.skip ?_
        refine thenK_n ?_
        have haR : a < R2.length := by rw [hC.gm.lR]; exact obj_ltE j3
        have hor : OwnK 1 σC xr2 R2 := hC.gm.f.own (1, xr2, R2) (by simp [grF])
        obtain ⟨rid, rfl, hrid⟩ := hor.is (n := R2.length) (by simp) (by decide) (by omega)
        have haN : a < (nextN (nxN pre post) pre.length (rowK fs a e.2.2.2 ((enL (nxN pre post) e.1 pre.length).take (k + 1))) a k).length := by rw [nextN_len]; exact obj_ltE j3
        obtain ⟨hr1, hrw⟩ := grF_row (xn := xn2) (xf := xf2) (xr := .osl rid 0 R2.length 1 R2.length false) (fs := (rowK fs a e.2.2.2 ((enL (nxN pre post) e.1 pre.length).take (k + 1)))) haR haN
        have hrow := hC.gm.f.own _ (List.getElem_mem hr1)
        rw [hrw, nextN_get (obj_ltE j3), if_neg (by omega), if_pos rfl, mrk_get j3] at hrow
        have hlen9 : ((((enL (nxN pre post) e.1 pre.length).take k).map (pl (rowK fs a e.2.2.2 ((enL (nxN pre post) e.1 pre.length).take (k + 1))))).flatMap arE).length ≤ 100 := by
          have h1 : ((((enL (nxN pre post) e.1 pre.length).take k).map (pl (rowK fs a e.2.2.2 ((enL (nxN pre post) e.1 pre.length).take (k + 1))))).flatMap arE).length = (((enL (nxN pre post) e.1 pre.length).take k).map (pl (rowK fs a e.2.2.2 ((enL (nxN pre post) e.1 pre.length).take (k + 1))))).length * 2 := flat_len (k := 2) (f := arE) (fun _ => rfl) _
          rw [h1, List.length_map, List.length_take]; omega
        have hmemr := List.getElem_mem hr1
        rw [hrw] at hmemr
        have hz4 : ¬ idX R2[a] = some 4 := fun h => hC.gm.og _ hmemr h
        have hza : ¬ idX R2[a] = some aid := fun h => hC.fa _ hmemr h
        have hzr : idX R2[a] ≠ some rid := fun h => by
          have := List.pairwise_iff_getElem.1 hC.gm.f.ap 2 (a + 3) (by simp [grF]) hr1 (by omega) rid rfl
          rw [hrw] at this
          exact this h
        refine KC.drawZ (fun j => idX R2[a] = some j) Try.mixed ?_
        refine KTZ.step rfl rfl (K.fieldAddrO rfl Try.fld71_3 Try.size69) ?_
        refine KTZ.load rfl rfl rfl (hz4) (K.loadO rfl hC.gm.g (by simp) rfl Try.agg69) ?_
        refine KTZ.load rfl rfl rfl (hza) (K.loadO rfl hC.oa (by simp) rfl Try.agg3) ?_
        refine KTZ.step rfl rfl (K.fieldAddrO rfl Try.fld71_3 Try.size69) ?_
        refine KTZ.load rfl rfl rfl (hz4) (K.loadO rfl hC.gm.g (by simp) rfl Try.agg69) ?_
        refine KTZ.load rfl rfl rfl (hza) (K.loadO rfl hC.oa (by simp) rfl Try.agg3) ?_
        refine KTZ.step rfl rfl (K.idxO (m := a) rfl rfl haR Try.underlying69 Try.size68) ?_
        refine KTZ.step rfl rfl (K.loadO (y := R2[a]) rfl hrid (by simp) (by rw [Nat.zero_add]; exact List.getElem?_eq_getElem haR) Try.agg68) ?_
        refine KTZ.step rfl rfl (K.move rfl) ?_
        refine KTZ.step rfl rfl (K.move rfl) ?_
        refine KTZ.step rfl rfl (K.buildS rfl (build115_2 _ _)) ?_
        refine KTZ.step rfl rfl (K.buildK (k := 2) (ds := arE (((enL (nxN pre post) e.1 pre.length).getD k (0, [])).1, place (marks (rowK fs a e.2.2.2 ((enL (nxN pre post) e.1 pre.length).take (k + 1)))) ((enL (nxN pre post) e.1 pre.length).getD k (0, [])).2)) rfl rfl Try.underlying68 Try.size115 Try.zero115 (by decide)) ?_
        refine KTZ.appK (k := 2) rfl rfl (fun j h => h) rfl rfl (hrow.pushed _) (List.getElem?_concat_length ..) rfl rfl (by rw [List.length_map]; omega) Try.underlying68 Try.size115 (of_decide_eq_true (by kernel_rfl)) (by kernel_rfl) (by decide) fun σD x9 ho9 k9 w9 => ?_
        have hr9 := (k9 rid hzr (by rw [List.length_append]; have := obj_lt hrid; omega)).trans (obj_left hrid)
        refine KTZ.step rfl rfl (K.idxO (m := a) rfl rfl haR Try.underlying69 Try.size68) ?_
        refine KTZ.storeL rfl rfl rfl rfl hr9 (by omega) ho9.cells.1 ho9.cells.2 Try.size68 fun σE lE uE vE => ?_
        refine KTZ.nil ?_
        refine ⟨by kernel_rfl, ?_⟩
        refine blockK_n ?_
        obtain ⟨f9, o9⟩ := FamP.arc (σ := σC ++ [(⟨(arE (((enL (nxN pre post) e.1 pre.length).getD k (0, [])).1, place (marks (rowK fs a e.2.2.2 ((enL (nxN pre post) e.1 pre.length).take (k + 1)))) ((enL (nxN pre post) e.1 pre.length).getD k (0, [])).2)).map .d, 0⟩ : VObj)]) (r := ((enL (nxN pre post) e.1 pre.length).take k).map (pl (rowK fs a e.2.2.2 ((enL (nxN pre post) e.1 pre.length).take (k + 1)))) ++ [(((enL (nxN pre post) e.1 pre.length).getD k (0, [])).1, place (marks (rowK fs a e.2.2.2 ((enL (nxN pre post) e.1 pre.length).take (k + 1)))) ((enL (nxN pre post) e.1 pre.length).getD k (0, [])).2)]) (hC.gm.f.push _) haR (by rw [nextN_len, hC.gm.lR]) k9 (by rw [List.flatMap_append, List.map_append]; exact ho9) (by simp) w9 vE (by rw [Nat.zero_add] at uE; exact uE) rfl
        have eS : (nextN (nxN pre post) pre.length (rowK fs a e.2.2.2 ((enL (nxN pre post) e.1 pre.length).take (k + 1))) a k).set a (((enL (nxN pre post) e.1 pre.length).take k).map (pl (rowK fs a e.2.2.2 ((enL (nxN pre post) e.1 pre.length).take (k + 1)))) ++ [(((enL (nxN pre post) e.1 pre.length).getD k (0, [])).1, place (marks (rowK fs a e.2.2.2 ((enL (nxN pre post) e.1 pre.length).take (k + 1)))) ((enL (nxN pre post) e.1 pre.length).getD k (0, [])).2)]) = nextN (nxN pre post) pre.length (rowK fs a e.2.2.2 ((enL (nxN pre post) e.1 pre.length).take (k + 1))) a (k + 1) := by
          have h1 := nextN_succ (nx := nxN pre post) (T := pre.length) (obj_ltE j3) (k := k) (by rw [mrk_get j3]; exact hk')
          simp only [mrk_get j3] at h1
          rw [h1, e1]; rfl
        rw [eS] at f9 o9
        have ow : ∀ x, x < σC.length → Off (grF xn2 xf2 (.osl rid 0 R2.length 1 R2.length false) R2 (rowK fs a e.2.2.2 ((enL (nxN pre post) e.1 pre.length).take (k + 1))) (nextN (nxN pre post) pre.length (rowK fs a e.2.2.2 ((enL (nxN pre post) e.1 pre.length).take (k + 1))) a k)) x → σE[x]? = σC[x]? ∧ Off (grF xn2 xf2 (.osl rid 0 R2.length 1 R2.length false) (R2.set a x9) (rowK fs a e.2.2.2 ((enL (nxN pre post) e.1 pre.length).take (k + 1))) (nextN (nxN pre post) pre.length (rowK fs a e.2.2.2 ((enL (nxN pre post) e.1 pre.length).take (k + 1))) a (k + 1))) x := fun x hx hof => by
          have q := o9 x (by simp; omega) hof
          exact ⟨q.1.trans (List.getElem?_append_left hx), q.2⟩
        have w0 := ow 0 (obj_lt hC.o0) hC.f0
        have w1 := ow 1 (obj_lt hC.o1) hC.f1
        have w2 := ow 2 (obj_lt hC.o2) hC.f2
        have wg := ow 4 (obj_lt hC.gm.g) hC.gm.og
        have wm := ow 3 (obj_lt hC.gm.m) hC.gm.off_m
        have wa := ow aid (obj_lt hC.oa) hC.fa
        have wL := ow L0 (obj_lt zL) (hC.gm.f.off_m zL (by rw [hlo2]; decide))
        have hE : ExM pre post n s σE xn2 xf2 (.osl rid 0 R2.length 1 R2.length false) (R2.set a x9) (rowK fs a e.2.2.2 ((enL (nxN pre post) e.1 pre.length).take (k + 1))) a (k + 1) aid := ⟨w0.1.trans hC.o0, w1.1.trans hC.o1, w2.1.trans hC.o2, ⟨wg.1.trans hC.gm.g, wm.1.trans hC.gm.m, f9, wg.2, by rw [List.length_set]; exact hC.gm.lR, nextN_len _ _ _⟩, wa.1.trans hC.oa, w0.2, w1.2, w2.2, wa.2, hC.a5⟩
        exact ⟨wL.1.trans zL, .inl ⟨rfl, _, _, _, _, hE.set (wL.1.trans zL) (by rw [hlo2]; decide) (by rw [hlo2]; decide) dead, by omega⟩⟩
    · skip
      rw [List.length_map] at hI
      obtain ⟨xn3, xf3, xr3, R3, hM3, hl3⟩ := hI
      obtain ⟨i1, i2, i3, i4⟩ := row_ok hN hI0 he (enL (nxN pre post) e.1 pre.length).length (Nat.le_refl _)
      rw [List.take_of_length_le (Nat.le_refl _)] at hM3 hl3 i1 i2 i3 i4
      have hmr : (enL (nxN pre post) (mrk (rowK fs a e.2.2.2 (enL (nxN pre post) e.1 pre.length)) a) pre.length).length ≤ (enL (nxN pre post) e.1 pre.length).length := by rw [mrk_get i3]; exact Nat.le_refl _
      refine blockK_n ?_
      refine blockK_n ?_
      refine thenK_n ?_
      refine KC.seq ?_
      refine KC.seq ?_
      refine KC.region ?_
      refine KT.step rfl rfl (K.loadO rfl hM3.oa (by simp) rfl Try.agg3) ?_
      refine KT.nil ?_
      refine thenK_n ?_
      refine KC.region ?_
      refine KT.step rfl rfl (K.alloc Try.one3.zero) ?_
      refine KT.storeL (cs := [.d (DI (a : Nat))]) rfl rfl rfl rfl rfl rfl rfl Try.size3 ?_
      refine KT.nil ?_
      refine thenK_n ?_
      refine KC.region ?_
      refine KT.step rfl rfl (K.loadO rfl (List.getElem?_concat_length ..) (by simp) rfl Try.agg3) ?_
      refine KT.step rfl rfl (K.add rfl rfl (wrap_id (by omega))) ?_
      refine KT.storeL (cs := [.d (DI ((a : Nat) + 1))]) rfl rfl rfl rfl rfl rfl rfl Try.size3 ?_
      refine KT.nil ?_
      refine thenK_n ?_
      refine ⟨(_, (xn3, xf3, xr3), R3, rowK fs a e.2.2.2 (enL (nxN pre post) e.1 pre.length), a + 1, τ.length), ⟨?_, ?_⟩, by simp only; omega, rfl, by simp [Go.Vm.look, extK]⟩
      · simp only
        have hk := hM3.push [(⟨[.d (DI ((a : Nat) + 1))], 0⟩ : VObj)]
        have hgm := hk.gm
        have h0 := hk.f0
        have h1 := hk.f1
        have h2 := hk.f2
        rw [nextN_end hmr] at hgm h0 h1 h2
        have hlt := obj_lt hM3.gm.g
        exact ⟨hk.o0, hk.o1, hk.o2, hgm, (List.getElem?_concat_length ..), h0, h1, h2, by have := hM3.gm.f.off_new (Nat.le_refl τ.length); rw [nextN_end hmr] at this; exact this, by omega⟩
      · simp only
        refine ⟨i1, i2.next hmr, obj_ltE i3, hl3, ?_⟩
        rw [← hI0.bf, show 2001 - a = (2000 - a) + 1 by omega, bfs_step _ _ _ he, rowE_en, if_neg (by omega), show 2001 - (a + 1) = 2000 - a by omega]
    · skip
      refine blockK_r ?_
      refine blockK_r ?_
      refine thenK_r ?_
      refine thenK_r ?_
      refine blockK_r ?_
      refine thenK_r ?_
      obtain ⟨j1, j2, j3⟩ := hJ
      refine ⟨.inl rfl, _, resK_c2 zg rfl rfl j1 (by decide) Try.agg71 Try.size71 rfl rfl j2 (by decide) Try.agg4, ?_⟩
      unfold expD
      rw [j3]; rfl
  · skip
    replace hc19 := of_decide_eq_false hc19
    obtain rfl : a = fs.length := by have := hI.le; omega
    have hfam := hM.gm.f
    obtain ⟨hf1, ow1, _, _⟩ := hfam.tail
    obtain ⟨hf2, ow2, _, _⟩ := hf1.tail
    obtain ⟨hf3, ow3, _, _⟩ := hf2.tail
    refine KC.exit ?_
    refine thenK_x ?_
    refine thenK_x ?_
    refine blockK_e ?_
    refine thenK_n ?_
    refine KC.seq ?_
    refine KC.region ?_
    refine KT.step rfl rfl (K.loadOX [xn, .omp 3, xf, xr] rfl hM.gm.g (by decide) Try.agg71 Try.size71 rfl rfl) ?_
    refine KT.putAll (cs := [xn, .omp 3, xf, xr]) rfl rfl rfl rfl hM.o1 (Go.Ba.cells_agg _) rfl (by simp [ow1.cells.2, ow2.cells.2, ow3.cells.2]; rfl) Try.size71 ?_
    obtain ⟨σG, hσG, t1, tk1, tl1⟩ := obj_put hM.o1 ⟨[xn, .omp 3, xf, xr], 0⟩
    rw [hσG]
    refine KT.storeG rfl rfl rfl rfl ((tk1 2 (by decide)).trans hM.o2) (by simp) rfl rfl Try.size4 fun σH lH uH vH => ?_
    refine KT.nil ?_
    refine thenK_n ?_
    refine KC.ret ?_
    have h1 : σH[1]? = some ⟨[xn, .omp 3, xf, xr], 0⟩ := (vH 1 (by decide)).trans t1
    have hG9 : GrM σH 4 3 xn xf xr R fs (nextN (nxN pre post) pre.length fs fs.length 0) := ⟨(vH 4 (by decide)).trans ((tk1 4 (by decide)).trans hM.gm.g), (vH 3 (by decide)).trans ((tk1 3 (by decide)).trans hM.gm.m), (hM.gm.f.stay hM.f1 tk1).stay hM.f2 vH, hM.gm.og, hM.gm.lR, hM.gm.lN⟩
    refine ⟨.inl rfl, _, resK_c2 [xn, .omp 3, xf, xr] rfl rfl h1 (by decide) Try.agg71 Try.size71 rfl rfl uH (by decide) Try.agg4, ?_⟩
    have hre : reachE (nxN pre post) pre.length 2000 s = some fs := by rw [← hI0.bf, bfs_done _ _ _ (Nat.le_refl _)]
    unfold expD
    rw [hre]
    have hd := deep_graph (k := 4) hG9 (by intro e; have h := hI0.inv.hd; rw [e] at h; cases h)
    show (([aggX [xn, .omp 3, xf, xr], .d (DB true)] : List XV).mapM (deepen (freezeAll σH) 8)).map DV.tup = _
    rw [List.mapM_cons, hd]; rfl
end Go.Proofs.Ytocgjopmlhpjdaa

