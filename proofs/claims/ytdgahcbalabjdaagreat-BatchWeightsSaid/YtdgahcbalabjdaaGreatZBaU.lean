import Derived.Test.YtdgahcbalabjdaaGreatZBaT
/-
  Batch: the reference: starts and makespans.
-/
namespace Go.Proofs.YtdgahcbalabjdaaGreat
open Go.Vm Go.Ht Go.Ba
theorem plainTryz_22 : plainFn Tryz.prog 22 = true := by kernel_rfl
/-- When operations start, if an order is right. -/
def stH (N : Int) (J : List (List (Int × Int))) (l : List (List Int)) : Option (List Int) := if (shopB N J && ordB N.toNat J.flatten l) = true then hds J.flatten (arcsO 0 J ++ ordA l) else none
def stE (N : Int) (J : List (List (Int × Int))) (l : List (List Int)) : Int := if shopB N J = false then 2 else if ordB N.toNat J.flatten l = false then 4 else if (hds J.flatten (arcsO 0 J ++ ordA l)).isNone = true then 8 else 0
def stV (N : Int) (J : List (List (Int × Int))) (l : List (List Int)) : DV := .tup [shV (stH N J l), DI (stE N J l)]
theorem stH_some {N : Int} {J : List (List (Int × Int))} {l : List (List Int)} {hs : List Int} (h : stH N J l = some hs) : shopB N J = true ∧ ordB N.toNat J.flatten l = true ∧ hds J.flatten (arcsO 0 J ++ ordA l) = some hs := by
  unfold stH at h
  split at h
  · rename_i h1
    rw [Bool.and_eq_true] at h1
    exact ⟨h1.1, h1.2, h⟩
  · cases h
theorem st_no1 {N : Int} {J : List (List (Int × Int))} {l : List (List Int)} (h : shopB N J = false) : stV N J l = .tup [Dnil, DI 2] := by
  unfold stV stH stE; simp [h, shV]
theorem st_no2 {N : Int} {J : List (List (Int × Int))} {l : List (List Int)} (h : shopB N J = true) (h2 : ordB N.toNat J.flatten l = false) : stV N J l = .tup [Dnil, DI 4] := by
  unfold stV stH stE; simp [h, h2, shV]
theorem st_no3 {N : Int} {J : List (List (Int × Int))} {l : List (List Int)} (h : shopB N J = true) (h2 : ordB N.toNat J.flatten l = true) (h3 : hds J.flatten (arcsO 0 J ++ ordA l) = none) : stV N J l = .tup [Dnil, DI 8] := by
  unfold stV stH stE; simp [h, h2, h3, shV]
theorem st_ok {N : Int} {J : List (List (Int × Int))} {l : List (List Int)} {hs : List Int} (h : shopB N J = true) (h2 : ordB N.toNat J.flatten l = true) (h3 : hds J.flatten (arcsO 0 J ++ ordA l) = some hs) : stV N J l = .tup [hdV hs, DI 0] := by
  unfold stV stH stE; simp [h, h2, h3, shV]
theorem mem_consT {l : List Int} {k : Nat} (hk : k ≤ l.length) {p : Int × Int} (h : p ∈ consT l k) : p.1 ∈ l ∧ p.2 ∈ l := by
  simp only [consT, List.mem_map, List.mem_range] at h
  obtain ⟨t, ht, rfl⟩ := h
  have h1 : t < l.length := by omega
  have h2 : t + 1 < l.length := by omega
  simp only [List.getD_eq_getElem?_getD, List.getElem?_eq_getElem h1, List.getElem?_eq_getElem h2, Option.getD_some]
  exact ⟨List.getElem_mem _, List.getElem_mem _⟩
theorem ordA_in {M : Nat} {ops : List (Int × Int)} {l : List (List Int)} (h : ordB M ops l = true) : ArcsIn ops.length (ordA l) := fun a ha => by
  obtain ⟨h1, h2⟩ := ordB_row h
  obtain ⟨r, hr, hp⟩ := List.mem_flatMap.1 ha
  obtain ⟨m, hm, rfl⟩ := List.getElem_of_mem hr
  obtain ⟨p1, p2⟩ := mem_consT (Nat.le_refl _) hp
  have g1 := mem_rowI.1 ((h2 m hm).mem_iff.1 p1)
  have g2 := mem_rowI.1 ((h2 m hm).mem_iff.1 p2)
  omega
theorem ord_rows {M : Nat} {ops : List (Int × Int)} {l : List (List Int)} (h : ordB M ops l = true) : l.length = M ∧ ∀ r ∈ l, r.length ≤ ops.length := by
  obtain ⟨h1, h2⟩ := ordB_row h
  refine ⟨h1, fun r hr => ?_⟩
  obtain ⟨m, hm, rfl⟩ := List.getElem_of_mem hr
  rw [(h2 m hm).length_eq]; exact rowI_len _ _
structure StOk (N : Int) (J : List (List (Int × Int))) (l : List (List Int)) : Prop where
  sh : ShopOk N J
  h4 : ∀ j ∈ J, 1 ≤ j.length ∧ j.length ≤ 4
  l4 : l.length ≤ 4
  r9 : ∀ r ∈ l, r.length ≤ 9
  pos : 1 ≤ J.flatten.length
  n9 : J.flatten.length ≤ 9
  tms : Times J.flatten
  inn : ArcsIn J.flatten.length (arcsO 0 J ++ ordA l)
  len : (arcsO 0 J ++ ordA l).length ≤ 1000000
theorem stOk {N : Int} {J : List (List (Int × Int))} {l : List (List Int)} (h : shopB N J = true) (h2 : ordB N.toNat J.flatten l = true) : StOk N J l := by
  have hS := shopB_iff.1 h
  obtain ⟨q1, q2⟩ := ord_rows h2
  have m1 := hS.m1
  have m4 := hS.m4
  have l4 : l.length ≤ 4 := by omega
  have n9 := hS.n9
  have r9 : ∀ r ∈ l, r.length ≤ 9 := fun r hr => by have := q2 r hr; omega
  have hal := arcsO_len 0 J
  have hol := ordA_len (l := l) fun r hr => by have := r9 r hr; omega
  exact ⟨hS, fun j hj => ⟨(hS.jb j hj).1, (hS.jb j hj).2.1⟩, l4, r9, ops_pos hS, n9, times_ok hS, fun a ha => by
    rcases List.mem_append.1 ha with ha | ha
    · exact arcs_in a ha
    · exact ordA_in h2 a ha, by rw [List.length_append]; omega⟩
/-- Ends of which the first k are starts. -/
def subT (os : List (Int × Int)) (hs : List Int) (k : Nat) : List Int := (List.range hs.length).map fun i => if i < k then gt hs (i : Nat) else gt hs (i : Nat) + tm os (i : Nat)
theorem subT_len (os : List (Int × Int)) (hs : List Int) (k : Nat) : (subT os hs k).length = hs.length := by simp [subT]
theorem subT_zero (os : List (Int × Int)) (hs : List Int) : subT os hs 0 = addT os hs := by simp [subT, addT]
theorem subT_end (os : List (Int × Int)) (hs : List Int) : subT os hs hs.length = hs := by
  apply List.ext_getElem
  · simp [subT]
  · intro i h1 h2
    simp only [subT, List.getElem_map, List.getElem_range]
    rw [if_pos h2, gt_get h2 rfl]
theorem subT_get {os : List (Int × Int)} {hs : List Int} {k : Nat} (h : k < hs.length) : (xs (subT os hs k))[0 + k]? = some (.d (DI (gt hs (k : Nat) + tm os (k : Nat)))) := by
  rw [xs_get (by rw [subT_len]; exact h)]
  simp [subT]
theorem subT_set {os : List (Int × Int)} {hs : List Int} {k : Nat} (h : k < hs.length) : (subT os hs k).set k (gt hs (k : Nat)) = subT os hs (k + 1) := by
  apply List.ext_getElem
  · simp [subT]
  · intro i h1 h2
    rw [List.getElem_set]
    simp only [subT, List.getElem_map, List.getElem_range]
    by_cases e : k = i
    · subst e; rw [if_pos rfl, if_pos (by omega)]
    · rw [if_neg e]
      by_cases h : i < k
      · rw [if_pos h, if_pos (by omega)]
      · rw [if_neg h, if_neg (by omega)]
set_option maxHeartbeats 2000000 in
set_option maxRecDepth 10000 in
theorem rstarts18 {N : Int} {jd : DV} {J : List (List (Int × Int))} (hd : JbD jd J) (hl : J.length ≤ 9223372036854775807) (hr : ∀ j ∈ J, j.length ≤ 9223372036854775807) {ld : DV} {l : List (List Int)} (hm : Mat ld l) (hll : l.length ≤ 9223372036854775807) (hlr : ∀ r ∈ l, r.length ≤ 9223372036854775807) : DeepCall Tryz.prog 22 [.agg [DI N, jd], ld] (stV N J l) := by
  refine deepCall_K 5 Tryz.func22 rfl (Nat.le_of_ble_eq_true rfl) fun M W0 => ?_
  refine KC.seq ?_
  refine KC.region ?_
  refine KT.step rfl rfl (K.box rfl) ?_
  refine KT.step rfl rfl (K.assign rfl) ?_
  refine KT.step rfl rfl (K.assign rfl) ?_
  refine KT.nil ?_
  refine thenK_n ?_
  refine KC.seq ?_
  refine KC.seq ?_
  refine KC.region ?_
  refine KT.step rfl rfl (K.loadOA [DI N, jd] rfl rfl (by decide) Tryz.agg24 Tryz.size24 rfl) ?_
  refine KT.step rfl rfl (K.call1 rfl plainTryz_42 (rvalid24 hd hl hr)) ?_
  refine KT.step rfl rfl (K.not rfl) ?_
  refine KT.nil ?_
  refine thenK_n ?_
  refine KC.cond rfl (fun hc12 => ?_) (fun hc12 => ?_)
  · skip
    have hsb : shopB N J = false := by simpa using hc12
    refine KC.seq ?_
    refine KC.region ?_
    refine KT.step rfl rfl (K.assign rfl) ?_
    refine KT.step rfl rfl (K.assign rfl) ?_
    refine KT.nil ?_
    refine thenK_n ?_
    refine KC.ret ?_
    refine thenK_r ?_
    rw [st_no1 hsb]
    exact ⟨.inl rfl, _, rfl, rfl⟩
  · skip
    have hsb : shopB N J = true := by simpa using hc12
    refine KC.skip ?_
    refine thenK_n ?_
    refine KC.seq ?_
    refine KC.seq ?_
    refine KC.region ?_
    refine KT.step rfl rfl (K.loadOA [DI N, jd] rfl rfl (by decide) Tryz.agg24 Tryz.size24 rfl) ?_
    refine KT.step rfl rfl (K.move rfl) ?_
    refine KT.step rfl rfl (K.call2 rfl rfl plainTryz_43 (rorder42 hd (shopB_iff.1 hsb) hm hll hlr)) ?_
    refine KT.step rfl rfl (K.not rfl) ?_
    refine KT.nil ?_
    refine thenK_n ?_
    refine KC.cond rfl (fun hc16 => ?_) (fun hc16 => ?_)
    · skip
      have hob : ordB N.toNat J.flatten l = false := by simpa using hc16
      refine KC.seq ?_
      refine KC.region ?_
      refine KT.step rfl rfl (K.assign rfl) ?_
      refine KT.step rfl rfl (K.assign rfl) ?_
      refine KT.nil ?_
      refine thenK_n ?_
      refine KC.ret ?_
      refine thenK_r ?_
      rw [st_no2 hsb hob]
      exact ⟨.inl rfl, _, rfl, rfl⟩
    · skip
      have hob : ordB N.toNat J.flatten l = true := by simpa using hc16
      have hK := stOk hsb hob
      have hn9 := hK.n9
      refine KC.skip ?_
      refine thenK_n ?_
      refine KC.seq ?_
      refine KC.draw Tryz.mixed ?_
      refine KT.step rfl rfl (K.loadOA [DI N, jd] rfl rfl (by decide) Tryz.agg24 Tryz.size24 rfl) ?_
      refine KT.step rfl rfl (K.call1 rfl plainTryz_23 (rops44 hd hK.sh.j3 hK.h4)) ?_
      refine KT.step rfl rfl (K.loadOA [DI N, jd] rfl rfl (by decide) Tryz.agg24 Tryz.size24 rfl) ?_
      refine KT.step rfl rfl (K.move rfl) ?_
      refine KT.step rfl rfl (K.call2 rfl rfl plainTryz_24 (rall45 hd hK.sh.j3 hK.h4 hm (by have := hK.l4; omega) (fun r h => by have := hK.r9 r h; omega))) ?_
      rcases hh : hds J.flatten (arcsO 0 J ++ ordA l) with _ | hs
      · skip
        refine KT.step rfl rfl (K.callO rfl plainTryz_44 (rends_none (flV_ok J.flatten) (flV_ok (arcsO 0 J ++ ordA l)) hK.n9 hK.len hK.tms hK.inn hK.pos hh)) ?_
        refine KT.step rfl rfl (K.move rfl) ?_
        refine KT.step rfl rfl (K.extract rfl rfl) ?_
        refine KT.step rfl rfl (K.extract rfl rfl) ?_
        refine KT.step rfl rfl (K.assign rfl) ?_
        refine KT.step rfl rfl (K.assign rfl) ?_
        refine KT.nil ?_
        refine ⟨by kernel_rfl, ?_⟩
        refine thenK_n ?_
        refine KC.seq ?_
        refine KC.seq ?_
        refine KC.region ?_
        refine KT.step rfl rfl (K.move rfl) ?_
        refine KT.step rfl rfl (K.not rfl) ?_
        refine KT.nil ?_
        refine thenK_n ?_
        refine KC.cond rfl (fun hc27 => ?_) (fun hc27 => ?_)
        · skip
          refine KC.seq ?_
          refine KC.region ?_
          refine KT.step rfl rfl (K.assign rfl) ?_
          refine KT.step rfl rfl (K.assign rfl) ?_
          refine KT.nil ?_
          refine thenK_n ?_
          refine KC.ret ?_
          refine thenK_r ?_
          rw [st_no3 hsb hob hh]
          exact ⟨.inl rfl, _, rfl, rfl⟩
        · skip
          exact absurd hc27 (by decide)
      · skip
        refine KT.step rfl rfl (K.callO rfl plainTryz_44 (rends_some (flV_ok J.flatten) (flV_ok (arcsO 0 J ++ ordA l)) hK.n9 hK.len hK.tms hK.inn hK.pos hh)) ?_
        refine KT.step rfl rfl (K.move rfl) ?_
        refine KT.step rfl rfl (K.extractY rfl rfl) ?_
        refine KT.step rfl rfl (K.extractY rfl rfl) ?_
        refine KT.step rfl rfl (K.assign rfl) ?_
        refine KT.step rfl rfl (K.assign rfl) ?_
        refine KT.nil ?_
        refine ⟨by kernel_rfl, ?_⟩
        refine thenK_n ?_
        refine KC.seq ?_
        refine KC.seq ?_
        refine KC.region ?_
        refine KT.step rfl rfl (K.move rfl) ?_
        refine KT.step rfl rfl (K.not rfl) ?_
        refine KT.nil ?_
        refine thenK_n ?_
        refine KC.cond rfl (fun hc27 => ?_) (fun hc27 => ?_)
        · skip
          exact absurd hc27 (by decide)
        · skip
          refine KC.skip ?_
          refine thenK_n ?_
          refine KC.seq ?_
          refine KC.seq ?_
          refine KC.region ?_
          refine KT.step rfl rfl (K.loadOA [DI N, jd] rfl rfl (by decide) Tryz.agg24 Tryz.size24 rfl) ?_
          refine KT.step rfl rfl (K.call1 rfl plainTryz_23 (rops44 hd hK.sh.j3 hK.h4)) ?_
          refine KT.step rfl rfl (K.lenF (k := 2) rfl (flV_ok J.flatten) Tryz.underlying57) ?_
          refine KT.step rfl rfl (K.move rfl) ?_
          refine KT.nil ?_
          refine thenK_n ?_
          refine KC.block ?_
          have hlen := hds_length hh
          have hbd := hds_bd hK.tms hK.inn hh hK.n9 hK.len
          refine KC.loop (fun p : List VObj × Nat => p.1) (fun p => [(6, .osl 1 0 J.flatten.length 1 J.flatten.length true), (29, .d (flV c2 J.flatten)), (30, .d (DI (J.flatten.length : Nat))), (31, .d (DI (p.2 : Nat)))]) (fun p => p.2 ≤ J.flatten.length ∧ p.1[1]? = some ⟨xs (subT J.flatten hs p.2), 0⟩) (fun p => J.flatten.length - p.2) (_, 0) ⟨Nat.zero_le _, by rw [subT_zero]; rfl⟩ rfl (by simp [-List.length_flatten, Go.Vm.look, extK, enterK]) ?_
          intro p hp
          obtain ⟨σ0, k⟩ := p
          obtain ⟨hk, z1⟩ := hp
          simp only at hk z1 ⊢
          refine KC.seq ?_
          refine KC.region ?_
          refine KT.step rfl rfl (K.lss rfl rfl) ?_
          refine KT.nil ?_
          refine thenK_n ?_
          refine KC.seq ?_
          refine KC.cond rfl (fun hc32 => ?_) (fun hc32 => ?_)
          · skip
            replace hc32 := of_decide_eq_true hc32
            have hkl : k < J.flatten.length := by omega
            refine KC.skip ?_
            refine thenK_n ?_
            refine KC.seq ?_
            refine KC.block ?_
            refine KC.seq ?_
            refine KC.region ?_
            refine KT.step rfl rfl (K.move rfl) ?_
            refine KT.step rfl rfl (K.idxF c2_len (m := k) rfl (flV_ok J.flatten) rfl (by omega) Tryz.underlying57 Tryz.size59) ?_
            refine KT.step rfl rfl (K.loadFl (cs := c2 J.flatten[k]) rfl rfl Tryz.agg59 Tryz.size59) ?_
            refine KT.step rfl rfl (K.alloc Tryz.zero59) ?_
            refine KT.step rfl rfl (K.assign rfl) ?_
            refine KT.storeL (cs := (c2 J.flatten[k]).map .d) rfl rfl rfl rfl rfl rfl rfl Tryz.size59 ?_
            refine KT.nil ?_
            refine thenK_n ?_
            refine KC.draw Tryz.mixed ?_
            refine KT.step rfl rfl (K.move rfl) ?_
            refine KT.step rfl rfl (K.move rfl) ?_
            refine KT.step rfl rfl (K.idxO (m := k) rfl rfl (by omega) Tryz.underlying36 Tryz.size3) ?_
            refine KT.step rfl rfl (K.loadO rfl (get_left z1) (by simp) (subT_get (by omega)) Tryz.agg3) ?_
            refine KT.step rfl rfl (K.fieldAddrO rfl Tryz.fld59_1 Tryz.size3) ?_
            refine KT.step rfl rfl (K.loadO rfl (List.getElem?_concat_length ..) (by simp) rfl Tryz.agg3) ?_
            have e2 : J.flatten[k].2 = tm J.flatten (k : Nat) := (tm_get hkl rfl).symm
            rw [e2]
            have b1 := gt_bd hbd (by omega) (k : Nat)
            have b2 := tm_bd hK.tms (i := (k : Nat)) (by omega) (by omega)
            refine KT.step rfl rfl (K.sub rfl rfl (c := gt hs (k : Nat)) (by rw [wrap_id (by omega)]; omega)) ?_
            refine KT.step rfl rfl (K.idxO (m := k) rfl rfl (by omega) Tryz.underlying36 Tryz.size3) ?_
            refine KT.storeG rfl rfl rfl rfl (get_left z1) (by rw [xs_len, subT_len]; omega) rfl rfl Tryz.size3 fun σ3 l3 u3 v3 => ?_
            rw [xs_set, subT_set (by omega)] at u3
            refine KT.nil ?_
            refine ⟨by kernel_rfl, ?_⟩
            refine blockK_n ?_
            refine thenK_n ?_
            refine KC.region ?_
            refine KT.step rfl rfl (K.add rfl rfl (wrap_id (by omega))) ?_
            refine KT.step rfl rfl (K.move rfl) ?_
            refine KT.nil ?_
            refine thenK_n ?_
            exact ⟨(σ3, k + 1), ⟨by simp only; omega, u3⟩, by simp only; omega, rfl, by simp [-List.length_flatten, Go.Vm.look, extK]⟩
          · skip
            replace hc32 := of_decide_eq_false hc32
            refine KC.exit ?_
            refine thenK_x ?_
            refine thenK_x ?_
            refine blockK_e ?_
            refine thenK_n ?_
            refine KC.seq ?_
            refine KC.region ?_
            refine KT.step rfl rfl (K.move rfl) ?_
            refine KT.step rfl rfl (K.assign rfl) ?_
            refine KT.step rfl rfl (K.assign rfl) ?_
            refine KT.nil ?_
            refine thenK_n ?_
            refine KC.ret ?_
            have e : subT J.flatten hs k = hs := by rw [show k = hs.length by omega, subT_end]
            rw [e] at z1
            rw [st_ok hsb hob hh]
            exact ⟨.inl rfl, _, rfl, deepen_tup2 (own_make z1 hlen)⟩
theorem getD_some {α : Type} {o : Option (List α)} {i : Nat} (h : i < (o.getD []).length) : ∃ hs, o = some hs := by
  cases o with
  | none => simp at h
  | some hs => exact ⟨hs, rfl⟩
end Go.Proofs.YtdgahcbalabjdaaGreat

