import Derived.Test.YtjfpeiioddfjcaaZnN2
/-
 Zones: the law ZoneMoves.
-/
namespace Go.Proofs.Ytjfpeiioddfjcaa
open Go.Vm Go.Zn
theorem plainTry_8 : plainFn Try.prog 8 = true := by kernel_rfl

theorem KC.anyS {P : Program} {M : Nat → Prop} {W0 : World} {n : Nat} {σ : List VObj} {kn : Kn} {c : Code} {T : Exit → List VObj → Kn → Prop} (h : ∀ σ', KC P M W0 n c σ' kn T) : KC P M W0 n c σ kn T := h _
theorem ownE_ex {σ : List VObj} {x : XV} {cells : List XV} (h : OwnE σ false x cells) : ∃ id, x = .osl id 0 cells.length 1 cells.length false ∧ σ[id]? = some ⟨cells, 0⟩ := by
 cases h with
 | sl h hn => subst hn; exact ⟨_, rfl, h⟩
theorem map2_deep {σ : List VObj} {k : Nat} {x dy : DV} {y : XV} (h : deepen σ (k + 1) y = some dy) : ([.d x, y] : List XV).mapM (deepen σ (k + 1)) = some [x, dy] := by
 rw [List.mapM_cons, List.mapM_cons, h]; rfl
theorem neq_false {a b : Bool} (h : a = b) (h2 : (!(a == b)) = true) : False := by subst h; cases a <;> cases h2
theorem rs_cases {z : List (List Int)} {s : Int} (h : tgE z = 0) : rsE z s = 0 ∧ setB z.length s = true ∨ rsE z s = 2 := by
 rw [rsE_eq]
 split
 ·rename_i hs; exact .inl ⟨h, hs⟩
 ·exact .inr rfl
theorem anE_guard {z : List (List Int)} {i j b : Int} (h : anE z i j b ≠ 2) : guardB ((z.length : Int) - 1) 1000 i j b = true := by
 unfold anE at h
 split at h
 ·assumption
 ·exact absurd rfl h
theorem pv_cons {p : List Int} {i : Nat} (h : i < ((0 : Int) :: p).length) : ((0 : Int) :: p)[i] = pv p i := by
 unfold pv
 rw [List.getD_eq_getElem?_getD, List.getElem?_eq_getElem h]; rfl
set_option maxHeartbeats 4000000 in
set_option maxRecDepth 10000 in
theorem law8 {d e : DV} {z : List (List Int)} {p : List Int} {gi gj gb s t0 : Int} (hd : Mat d z) (hl : z.length ≤ 9223372036854775807) (hr : ∀ r ∈ z, r.length ≤ 9223372036854775807) (he : Ints e p) (hlp : p.length ≤ 9223372036854775807) : DeepCall Try.prog 8 [d, e, .agg [DI gi, DI gj, DI gb], DI s, DI t0] (DB true) := by
 have fz := few_len z
 have kz := fewZ_len z
 have hmz := few_mat hd
 have hfv := few_valid (z := z)
 have hfi := few_id (z := z)
 generalize hZ : fewZ z = Z at *
 refine deepCall_K 5 Try.func8 rfl (Nat.le_of_ble_eq_true rfl) fun M W0 => ?_
 refine KC.seq ?_
 refine KC.region ?_
 refine KT.step rfl rfl (K.box rfl) ?_
 refine KT.step rfl rfl (K.assign rfl) ?_
 refine KT.nil ?_
 refine thenK_n ?_
 refine KC.seq ?_
 refine KC.region ?_
 refine KT.step rfl rfl (K.move rfl) ?_
 refine KT.step rfl rfl (K.call1 rfl plainTry_16 (few16 hd hl hr)) ?_
 refine KT.step rfl rfl (K.move rfl) ?_
 refine KT.step rfl rfl (K.call2 rfl rfl plainTry_31 (Has31 hmz fz.1 fz.2 he hlp)) ?_
 refine KT.step rfl rfl (K.move rfl) ?_
 refine KT.step rfl rfl (K.extract rfl rfl) ?_
 refine KT.step rfl rfl (K.extract rfl rfl) ?_
 refine KT.step rfl rfl (K.assign rfl) ?_
 refine KT.step rfl rfl (K.assign rfl) ?_
 refine KT.nil ?_
 refine thenK_n ?_
 refine KC.seq ?_
 refine KC.seq ?_
 refine KC.region ?_
 refine KT.step rfl rfl (K.move rfl) ?_
 refine KT.step rfl rfl (K.neq rfl rfl) ?_
 refine KT.step rfl rfl (K.move rfl) ?_
 refine KT.bcase (fun hb37 => ?_) (fun hb37 => ?_)
 ·skip
  replace hb37 := of_decide_eq_true hb37
  refine KT.skip rfl rfl ?_
  refine KT.skip rfl rfl ?_
  refine KT.skip rfl rfl ?_
  refine KT.step rfl rfl (K.pick rfl (fun _ => rfl) (fun h => by cases h)) ?_
  refine KT.step rfl rfl (K.move rfl) ?_
  refine KT.skip rfl rfl ?_
  refine KT.skip rfl rfl ?_
  refine KT.skip rfl rfl ?_
  refine KT.skip rfl rfl ?_
  refine KT.skip rfl rfl ?_
  refine KT.skip rfl rfl ?_
  refine KT.step rfl rfl (K.pick rfl (fun _ => rfl) (fun h => by cases h)) ?_
  refine KT.nil ?_
  refine thenK_n ?_
  refine KC.cond rfl (fun hc49 => ?_) (fun hc49 => ?_)
  ·skip
   refine KC.seq ?_
   refine KC.region ?_
   refine KT.step rfl rfl (K.move rfl) ?_
   refine KT.step rfl rfl (K.eql rfl rfl) ?_
   refine KT.step rfl rfl (K.move rfl) ?_
   refine KT.bcase (fun hb52 => ?_) (fun hb52 => ?_)
   ·skip
    replace hb52 := of_decide_eq_true hb52
    refine KT.step rfl rfl (K.call0 plainTry_21 (awake21)) ?_
    refine KT.step rfl rfl (K.pick rfl (fun _ => rfl) (fun h => by cases h)) ?_
    refine KT.step rfl rfl (K.assign rfl) ?_
    refine KT.nil ?_
    refine thenK_n ?_
    refine KC.ret ?_
    refine thenK_r ?_
    exact ⟨.inl rfl, _, rfl, rfl⟩
   ·skip
    exact absurd (hasE_two hb37) (of_decide_eq_false hb52)
  ·cases hc49
 ·skip
  replace hb37 := of_decide_eq_false hb37
  refine KT.step rfl rfl (K.move rfl) ?_
  refine KT.step rfl rfl (K.call1 rfl plainTry_36 (Valid36 hd hl hr)) ?_
  refine KT.step rfl rfl (K.not rfl) ?_
  refine KT.step rfl rfl (K.pick rfl (fun h => by cases h) (fun _ => rfl)) ?_
  refine KT.step rfl rfl (K.move rfl) ?_
  refine KT.bcase (fun hb42 => ?_) (fun hb42 => ?_)
  ·skip
   rw [Bool.not_eq_true'] at hb42
   exact Bool.noConfusion (hb42.symm.trans (hfv ▸ (hasE_zero (Classical.not_not.1 hb37)).1))
  ·skip
   refine KT.step rfl rfl (K.move rfl) ?_
   refine KT.step rfl rfl (K.move rfl) ?_
   refine KT.step rfl rfl (K.len rfl hd Try.underlying22) ?_
   refine KT.step rfl rfl (K.sub rfl rfl (wrap_id (by omega))) ?_
   refine KT.step rfl rfl (K.call2 rfl rfl plainTry_37 (Point37 he hlp)) ?_
   refine KT.step rfl rfl (K.not rfl) ?_
   refine KT.step rfl rfl (K.pick rfl (fun h => by cases h) (fun _ => rfl)) ?_
   refine KT.nil ?_
   refine thenK_n ?_
   refine KC.cond rfl (fun hc49 => ?_) (fun hc49 => ?_)
   ·skip
    rw [Bool.not_eq_true'] at hc49
    obtain ⟨hv, hpt⟩ := hasE_zero (Classical.not_not.1 hb37)
    rw [hfi (hfv ▸ hv)] at hpt
    exact Bool.noConfusion (hc49.symm.trans hpt)
   ·skip
    have h0 := Classical.not_not.1 hb37
    obtain ⟨hv, hpt⟩ := hasE_zero h0
    have hzZ : Z = z := hfi (hfv ▸ hv)
    obtain ⟨hall, hpl⟩ := pt_rows hpt
    have hz4 := (validZ_rows hv).2.1
    have hz2 := (validZ_rows hv).1
    refine KC.skip ?_
    refine thenK_n ?_
    refine KC.seq ?_
    refine KC.draw Try.mixed ?_
    refine KT.step rfl rfl (K.move rfl) ?_
    refine KT.step rfl rfl (K.call1 rfl plainTry_16 (few16 hd hl hr)) ?_
    refine KT.step rfl rfl (K.fieldAddrO rfl Try.fld36_0 Try.size3) ?_
    refine KT.step rfl rfl (K.loadO rfl rfl (by simp) rfl Try.agg3) ?_
    refine KT.step rfl rfl (K.fieldAddrO rfl Try.fld36_1 Try.size3) ?_
    refine KT.step rfl rfl (K.loadO rfl rfl (by simp) rfl Try.agg3) ?_
    refine KT.step rfl rfl (K.fieldAddrO rfl Try.fld36_2 Try.size3) ?_
    refine KT.step rfl rfl (K.loadO rfl rfl (by simp) rfl Try.agg3) ?_
    refine KT.step rfl rfl (K.buildL rfl (build38 _ _ _)) ?_
    refine KT.step rfl rfl (K.call2 rfl rfl plainTry_23 (And23_lit hmz fz.1 fz.2)) ?_
    refine KT.step rfl rfl (K.move rfl) ?_
    refine KT.step rfl rfl (K.extract rfl rfl) ?_
    refine KT.step rfl rfl (K.extract rfl rfl) ?_
    refine KT.step rfl rfl (K.assign rfl) ?_
    refine KT.step rfl rfl (K.assign rfl) ?_
    refine KT.nil ?_
    refine ⟨by kernel_rfl, ?_⟩
    refine thenK_n ?_
    refine KC.seq ?_
    refine KC.seq ?_
    refine KC.region ?_
    refine KT.step rfl rfl (K.move rfl) ?_
    refine KT.step rfl rfl (K.eql rfl rfl) ?_
    refine KT.step rfl rfl (K.move rfl) ?_
    refine KT.bcase (fun hb70 => ?_) (fun hb70 => ?_)
    ·skip
     replace hb70 := of_decide_eq_true hb70
     refine KT.skip rfl rfl ?_
     refine KT.skip rfl rfl ?_
     refine KT.step rfl rfl (K.pick rfl (fun _ => rfl) (fun h => by cases h)) ?_
     refine KT.nil ?_
     refine thenK_n ?_
     refine KC.cond rfl (fun hc73 => ?_) (fun hc73 => ?_)
     ·skip
      refine KC.seq ?_
      have hg : guardB ((Z.length : Int) - 1) 1000 gi gj gb = true := anE_guard (by omega)
      have hg2 := guardB_iff.1 hg
      obtain ⟨gi, rfl⟩ := Int.eq_ofNat_of_zero_le hg2.1.1.1
      obtain ⟨gj, rfl⟩ := Int.eq_ofNat_of_zero_le hg2.1.2.1
      have hgb := bnd_lim hg2.2
      have hi1 : gi < ((0 : Int) :: p).length := by have := hg2.1.1.2; simp; omega
      have hj1 : gj < ((0 : Int) :: p).length := by have := hg2.1.2.2; simp; omega
      refine KC.region ?_
      refine KT.step rfl rfl (K.build1' (v := .d (DI 0)) rfl rfl Try.underlying23 Try.one3) ?_
      refine KT.step rfl rfl (K.move rfl) ?_
      refine KT.appD rfl rfl rfl rfl he (OwnE.sl rfl rfl) (by simp; omega) Try.underlying23 Try.one3 fun σ1 x1 ho1 k1 w1 => ?_
      refine KT.step rfl rfl (K.assign rfl) ?_
      refine KT.nil ?_
      refine thenK_n ?_
      refine KC.seq ?_
      have y0 : σ1[0]? = some ⟨[.d (DI gi), .d (DI gj), .d (DI gb)], 0⟩ := k1 0 (by simp [idX]) (by simp)
      rw [show (if p = [] then true else false) = false from if_neg (fun h => by subst h; simp at hpl; omega)] at ho1
      obtain ⟨id, rfl, hs1⟩ := ownE_ex ho1
      have hid : id ≠ 0 := by
       rcases w1 with h | ⟨j, h, hj⟩
       ·simp [idX] at h; omega
       ·simp [idX] at h; simp at hj; omega
      refine KC.ghost [id] 5 (t := 14) rfl (own_deep (l := 0 :: p) hs1 (by simp) (by simp)) ?_
      replace y0 := (freezeIds_not (ids := [id]) (by simpa using fun h => hid h.symm)).trans y0
      generalize freezeIds σ1 [id] = σ1' at y0 ⊢
      refine KC.draw Try.mixed ?_
      refine KT.step rfl rfl (K.move rfl) ?_
      refine KT.step rfl rfl (K.move rfl) ?_
      refine KT.bcase (fun hb78 => ?_) (fun hb78 => ?_)
      ·skip
       have hw : wB (pv p gi - pv p gj) 4 gb = decide (pv p ((gi : Nat) : Int).toNat - pv p ((gj : Nat) : Int).toNat ≤ gre gb 4) := wB_4 (by have := pv_lim hall gi; have := pv_lim hall gj; omega)
       refine KT.step rfl rfl (K.move rfl) ?_
       refine KT.step rfl rfl (K.fieldAddrO rfl Try.fld36_0 Try.size3) ?_
       refine KT.step rfl rfl (K.loadO rfl y0 (by simp) rfl Try.agg3) ?_
       refine KT.idxI rfl rfl rfl (intsD_ints (0 :: p)) rfl hi1 Try.underlying23 Try.size3 fun cs82 => ?_
       refine KT.step rfl rfl (K.load rfl Try.agg3) ?_
       refine KT.step rfl rfl (K.move rfl) ?_
       refine KT.step rfl rfl (K.fieldAddrO rfl Try.fld36_1 Try.size3) ?_
       refine KT.step rfl rfl (K.loadO rfl y0 (by simp) rfl Try.agg3) ?_
       refine KT.idxI rfl rfl rfl (intsD_ints (0 :: p)) rfl hj1 Try.underlying23 Try.size3 fun cs87 => ?_
       refine KT.step rfl rfl (K.load rfl Try.agg3) ?_
       rw [pv_cons hi1, pv_cons hj1]
       refine KT.step rfl rfl (K.sub rfl rfl (wrap_id (by have := pv_lim hall gi; have := pv_lim hall gj; omega))) ?_
       refine KT.step rfl rfl (K.fieldAddrO rfl Try.fld36_2 Try.size3) ?_
       refine KT.step rfl rfl (K.loadO rfl y0 (by simp) rfl Try.agg3) ?_
       refine KT.step rfl rfl (K.call3 rfl rfl rfl plainTry_38 (Within38 (by omega) (by omega))) ?_
       refine KT.step rfl rfl (K.pick rfl (fun _ => rfl) (fun h => by cases h)) ?_
       refine KT.step rfl rfl (K.assign rfl) ?_
       refine KT.nil ?_
       refine ⟨by kernel_rfl, ?_⟩
       refine thenK_n ?_
       refine KC.seq ?_
       refine KC.region ?_
       refine KT.step rfl rfl (K.move rfl) ?_
       refine KT.step rfl rfl (K.move rfl) ?_
       refine KT.step rfl rfl (K.call2 rfl rfl plainTry_31 (Has31 (z := anZ Z gi gj gb) (resD_mat (e := anE Z gi gj gb) (n := Z.length) (a := tightM Z.length (andM Z (gi : Int).toNat (gj : Int).toNat gb))) (resZ_len (kz.1) _).1 (resZ_len (kz.1) _).2 he hlp)) ?_
       refine KT.step rfl rfl (K.move rfl) ?_
       refine KT.step rfl rfl (K.extract rfl rfl) ?_
       refine KT.step rfl rfl (K.extract rfl rfl) ?_
       refine KT.step rfl rfl (K.assign rfl) ?_
       refine KT.step rfl rfl (K.assign rfl) ?_
       refine KT.nil ?_
       refine thenK_n ?_
       refine KC.seq ?_
       refine KC.region ?_
       refine KT.step rfl rfl (K.move rfl) ?_
       refine KT.step rfl rfl (K.eql rfl rfl) ?_
       refine KT.step rfl rfl (K.move rfl) ?_
       refine KT.bcase (fun hb102 => ?_) (fun hb102 => ?_)
       ·skip
        replace hb102 := of_decide_eq_true hb102
        refine KT.step rfl rfl (K.move rfl) ?_
        refine KT.step rfl rfl (K.eql rfl rfl) ?_
        refine KT.step rfl rfl (K.pick rfl (fun _ => rfl) (fun h => by cases h)) ?_
        refine KT.step rfl rfl (K.move rfl) ?_
        refine KT.bcase (fun hb106 => ?_) (fun hb106 => ?_)
        ·skip
         replace hb106 := of_decide_eq_true hb106
         refine KT.step rfl rfl (K.move rfl) ?_
         refine KT.step rfl rfl (K.move rfl) ?_
         refine KT.step rfl rfl (K.neqB Try.underlying4 rfl rfl) ?_
         refine KT.step rfl rfl (K.pick rfl (fun _ => rfl) (fun h => by cases h)) ?_
         refine KT.step rfl rfl (K.move rfl) ?_
         refine KT.bcase (fun hb111 => ?_) (fun hb111 => ?_)
         ·skip
          have hm := (mv_and h0 hg).1 hb70 hb106
          rw [hb78, Bool.true_and] at hm
          exact (neq_false (hm.trans hw.symm) hb111).elim
         ·skip
          refine KT.step rfl rfl (K.move rfl) ?_
          refine KT.step rfl rfl (K.eql rfl rfl) ?_
          refine KT.step rfl rfl (K.move rfl) ?_
          refine KT.bcase (fun hb114 => ?_) (fun hb114 => ?_)
          ·skip
           replace hb114 := of_decide_eq_true hb114
           rw [hb70] at hb114
           cases hb114
          ·skip
           replace hb114 := of_decide_eq_false hb114
           refine KT.skip rfl rfl ?_
           refine KT.step rfl rfl (K.pick rfl (fun h => by cases h) (fun _ => rfl)) ?_
           refine KT.step rfl rfl (K.pick rfl (fun h => by cases h) (fun _ => rfl)) ?_
           refine KT.nil ?_
           refine thenK_n ?_
           refine KC.cond rfl (fun hc117 => ?_) (fun hc117 => ?_)
           ·cases hc117
           ·skip
            refine KC.skip ?_
            refine thenK_n ?_
            refine KC.seq ?_
            refine KC.seq ?_
            refine KC.region ?_
            refine KT.step rfl rfl (K.move rfl) ?_
            refine KT.step rfl rfl (K.not rfl) ?_
            refine KT.nil ?_
            refine thenK_n ?_
            refine KC.cond rfl (fun hc119 => ?_) (fun hc119 => ?_)
            ·skip
             refine KC.seq ?_
             refine KC.region ?_
             refine KT.step rfl rfl (K.call0 plainTry_21 (awake21)) ?_
             refine KT.step rfl rfl (K.assign rfl) ?_
             refine KT.nil ?_
             refine thenK_n ?_
             refine KC.ret ?_
             refine thenK_r ?_
             exact ⟨.inl rfl, _, rfl, rfl⟩
            ·skip
             rw [Bool.not_eq_false'] at hc119
             obtain ⟨_, htg, _⟩ := mv_zero hc119
             refine KC.skip ?_
             refine thenK_n ?_
             refine KC.seq ?_
             refine KC.region ?_
             refine KT.step rfl rfl (K.move rfl) ?_
             refine KT.step rfl rfl (K.conv rfl Try.underlying3 Try.underlying49 (wrapUI _)) ?_
             refine KT.step rfl rfl (K.rem rfl rfl (by omega) (show Int.tmod ((t0 % 2 ^ 64).toNat : Int) 400 = (((t0 % 2 ^ 64).toNat % 400 : Nat) : Int) from tmodN _ 400)) ?_
             refine KT.step rfl rfl (K.conv rfl Try.underlying49 Try.underlying3 (wrapN (by omega))) ?_
             refine KT.step rfl rfl (K.assign rfl) ?_
             refine KT.nil ?_
             refine thenK_n ?_
             refine KC.seq ?_
             have ht : (t0 % 2 ^ 64).toNat % 400 < 400 := Nat.mod_lt _ (by decide)
             generalize (t0 % 2 ^ 64).toNat % 400 = t at ht ⊢
             refine KC.anyS fun σ2 => ?_
             refine KC.region ?_
             refine KT.step rfl rfl (K.move rfl) ?_
             refine KT.step rfl rfl (K.callG (τ := [⟨[], 0⟩, ⟨cellsI p, 0⟩]) rfl plainTry_39 (clone39_ints he (by omega) (by omega))) ?_
             refine KT.step rfl rfl (K.assign rfl) ?_
             refine KT.nil ?_
             refine thenK_n ?_
             refine KC.seq ?_
             refine KC.seq ?_
             refine KC.region ?_
             refine KT.step rfl rfl (K.move rfl) ?_
             refine KT.step rfl rfl (K.lenO rfl Try.underlying23) ?_
             refine KT.step rfl rfl (K.move rfl) ?_
             refine KT.nil ?_
             refine thenK_n ?_
             refine KC.block ?_
             refine KC.loop (fun i : Nat => σ2 ++ [⟨[], 0⟩, ⟨cellsI (raiP p t i), 0⟩]) (fun i => [(0, .d d), (1, .d e), (3, .d (DI s)), (4, .d (DI (t : Nat))), (18, .osl (σ2.length + 1) 0 p.length 1 p.length false), (127, .osl (σ2.length + 1) 0 p.length 1 p.length false), (128, .d (DI (p.length : Nat))), (129, .d (DI (i : Nat)))]) (fun i => i ≤ p.length) (fun i => p.length - i) 0 (Nat.zero_le _) rfl (by simp [Go.Vm.look, extK, enterK]) ?_
             intro i hi
             refine KC.seq ?_
             refine KC.region ?_
             refine KT.step rfl rfl (K.lss rfl rfl) ?_
             refine KT.nil ?_
             refine thenK_n ?_
             refine KC.seq ?_
             refine KC.cond rfl (fun hc130 => ?_) (fun hc130 => ?_)
             ·skip
              replace hc130 := of_decide_eq_true hc130
              have hil : i < p.length := by omega
              refine KC.skip ?_
              refine thenK_n ?_
              refine KC.seq ?_
              refine KC.block ?_
              refine KC.seq ?_
              refine KC.region ?_
              refine KT.step rfl rfl (K.move rfl) ?_
              refine KT.step rfl rfl (K.assign rfl) ?_
              refine KT.nil ?_
              refine thenK_n ?_
              refine KC.region ?_
              refine KT.step rfl rfl (K.move rfl) ?_
              refine KT.step rfl rfl (K.move rfl) ?_
              refine KT.step rfl rfl (K.move rfl) ?_
              refine KT.step rfl rfl (K.move rfl) ?_
              refine KT.step rfl rfl (K.idxO rfl rfl (by omega) Try.underlying23 Try.size3) ?_
              refine KT.step rfl rfl (K.loadO rfl own_get (by simp) (cellsI_get (by rw [raiP_len]; exact hil)) Try.agg3) ?_
              rw [raiP_get hil]
              refine KT.step rfl rfl (K.move rfl) ?_
              refine KT.step rfl rfl (K.add rfl rfl (wrap_id (by have := hall _ (List.getElem_mem hil); omega))) ?_
              refine KT.step rfl rfl (K.min2 rfl rfl) ?_
              refine KT.step rfl rfl (K.idxO rfl rfl (by omega) Try.underlying23 Try.size3) ?_
              refine KT.step rfl rfl (K.storeO rfl rfl own_get (by rw [cellsI_len, raiP_len]; omega) rfl rfl Try.size3) ?_
              refine KT.nil ?_
              refine blockK_n ?_
              refine thenK_n ?_
              refine KC.region ?_
              refine KT.step rfl rfl (K.add rfl rfl (wrap_id (by omega))) ?_
              refine KT.step rfl rfl (K.move rfl) ?_
              refine KT.nil ?_
              refine thenK_n ?_
              refine ⟨i + 1, by omega, by omega, (by rw [own_set, cellsI_set, raiP_set hil]), by simp [Go.Vm.look, extK]⟩
             ·skip
              replace hc130 := of_decide_eq_false hc130
              refine KC.exit ?_
              refine thenK_x ?_
              refine thenK_x ?_
              refine blockK_e ?_
              refine thenK_n ?_
              refine KC.seq ?_
              refine KC.seq ?_
              refine KC.region ?_
              refine KT.step rfl rfl (K.move rfl) ?_
              refine KT.step rfl rfl (K.call1 rfl plainTry_40 (Max40 he hlp (by omega))) ?_
              refine KT.step rfl rfl (K.move rfl) ?_
              refine KT.step rfl rfl (K.add rfl rfl (wrap_id (by have := hall _ (mxP_in (p := p) (p.length - 1) (by omega)); omega))) ?_
              refine KT.step rfl rfl (K.leq rfl rfl) ?_
              refine KT.nil ?_
              refine thenK_n ?_
              refine KC.cond rfl (fun hc147 => ?_) (fun hc147 => ?_)
              ·skip
               replace hc147 := of_decide_eq_true hc147
               have hie : i = p.length := by omega
               have hmx : ∀ x ∈ p, x + (t : Int) ≤ 20000 := fun x hx => by
                obtain ⟨k, hk, rfl⟩ := List.getElem_of_mem hx
                have := mxP_ge (p := p) (p.length - 1) k (by omega)
                rw [show p.getD k 0 = p[k] by simp [hk]] at this
                omega
               refine KC.seq ?_
               refine KC.region ?_
               refine KT.step rfl rfl (K.move rfl) ?_
               refine KT.step rfl rfl (K.call1 rfl plainTry_16 (few16 hd hl hr)) ?_
               refine KT.step rfl rfl (K.call1 rfl plainTry_25 (Delay25 hmz fz.1 fz.2)) ?_
               refine KT.step rfl rfl (K.move rfl) ?_
               refine KT.step rfl rfl (K.extract rfl rfl) ?_
               refine KT.step rfl rfl (K.extract rfl rfl) ?_
               refine KT.step rfl rfl (K.assign rfl) ?_
               refine KT.step rfl rfl (K.assign rfl) ?_
               refine KT.nil ?_
               refine thenK_n ?_
               refine KC.seq ?_
               refine KC.region ?_
               refine KT.step rfl rfl (K.move rfl) ?_
               refine KT.step rfl rfl (K.move rfl) ?_
               refine KT.step rfl rfl (K.callZ (ds := [resD (dlE Z) Z.length (delM Z.length (tightM Z.length (zf Z))), intsD (raiP p t i)]) [σ2.length + 1] 5 rfl plainTry_31 (map2_deep (own_deep (own_get) (by simp) (by rw [raiP_len]))) (Has31 (z := dlZ Z) (resD_mat (e := dlE Z) (n := Z.length) (a := delM Z.length (tightM Z.length (zf Z)))) (resZ_len (kz.1) _).1 (resZ_len (kz.1) _).2 (intsD_ints _) (by rw [raiP_len]; omega))) ?_
               refine KT.step rfl rfl (K.move rfl) ?_
               refine KT.step rfl rfl (K.extract rfl rfl) ?_
               refine KT.step rfl rfl (K.extract rfl rfl) ?_
               refine KT.step rfl rfl (K.assign rfl) ?_
               refine KT.step rfl rfl (K.assign rfl) ?_
               refine KT.nil ?_
               refine thenK_n ?_
               refine KC.seq ?_
               refine KC.region ?_
               refine KT.step rfl rfl (K.move rfl) ?_
               refine KT.step rfl rfl (K.neq rfl rfl) ?_
               refine KT.step rfl rfl (K.move rfl) ?_
               refine KT.bcase (fun hb162 => ?_) (fun hb162 => ?_)
               ·skip
                exact absurd ((dlE_eq Z).trans htg) (of_decide_eq_true hb162)
               ·skip
                replace hb162 := of_decide_eq_false hb162
                refine KT.step rfl rfl (K.move rfl) ?_
                refine KT.step rfl rfl (K.eql rfl rfl) ?_
                refine KT.step rfl rfl (K.move rfl) ?_
                refine KT.bcase (fun hb165 => ?_) (fun hb165 => ?_)
                ·skip
                 replace hb165 := of_decide_eq_true hb165
                 refine KT.step rfl rfl (K.move rfl) ?_
                 refine KT.step rfl rfl (K.not rfl) ?_
                 refine KT.step rfl rfl (K.pick rfl (fun _ => rfl) (fun h => by cases h)) ?_
                 refine KT.step rfl rfl (K.pick rfl (fun h => by cases h) (fun _ => rfl)) ?_
                 refine KT.nil ?_
                 refine thenK_n ?_
                 refine KC.cond rfl (fun hc169 => ?_) (fun hc169 => ?_)
                 ·skip
                  rw [Bool.not_eq_true'] at hc169
                  exact Bool.noConfusion (hc169.symm.trans (mv_del hc119 (by omega) hmx (by rw [hie]; exact raiP_end (Nat.le_refl _)) hb165))
                 ·skip
                  refine KC.skip ?_
                  refine thenK_n ?_
                  refine KC.seq ?_
                  refine KC.region ?_
                  refine KT.step rfl rfl (K.move rfl) ?_
                  refine KT.step rfl rfl (K.call1 rfl plainTry_16 (few16 hd hl hr)) ?_
                  refine KT.step rfl rfl (K.move rfl) ?_
                  refine KT.step rfl rfl (K.call2 rfl rfl plainTry_27 (Reset27 hmz fz.1 fz.2 kz.1)) ?_
                  refine KT.step rfl rfl (K.move rfl) ?_
                  refine KT.step rfl rfl (K.extract rfl rfl) ?_
                  refine KT.step rfl rfl (K.extract rfl rfl) ?_
                  refine KT.step rfl rfl (K.assign rfl) ?_
                  refine KT.step rfl rfl (K.assign rfl) ?_
                  refine KT.nil ?_
                  refine thenK_n ?_
                  refine KC.seq ?_
                  refine KC.seq ?_
                  refine KC.region ?_
                  refine KT.step rfl rfl (K.move rfl) ?_
                  refine KT.step rfl rfl (K.neq rfl rfl) ?_
                  refine KT.nil ?_
                  refine thenK_n ?_
                  refine KC.cond rfl (fun hc178 => ?_) (fun hc178 => ?_)
                  ·skip
                   replace hc178 := of_decide_eq_true hc178
                   refine KC.seq ?_
                   refine KC.region ?_
                   refine KT.step rfl rfl (K.move rfl) ?_
                   refine KT.step rfl rfl (K.eql rfl rfl) ?_
                   refine KT.step rfl rfl (K.move rfl) ?_
                   refine KT.bcase (fun hb181 => ?_) (fun hb181 => ?_)
                   ·skip
                    replace hb181 := of_decide_eq_true hb181
                    refine KT.step rfl rfl (K.call0 plainTry_21 (awake21)) ?_
                    refine KT.step rfl rfl (K.pick rfl (fun _ => rfl) (fun h => by cases h)) ?_
                    refine KT.step rfl rfl (K.assign rfl) ?_
                    refine KT.nil ?_
                    refine thenK_n ?_
                    refine KC.ret ?_
                    refine thenK_r ?_
                    exact ⟨.inl rfl, _, rfl, rfl⟩
                   ·skip
                    rcases rs_cases (s := s) htg with h | h
                    ·exact absurd h.1 hc178
                    ·exact absurd h (of_decide_eq_false hb181)
                  ·skip
                   replace hc178 := of_decide_eq_false hc178
                   have hre := Classical.not_not.1 hc178
                   have hsb : setB Z.length s = true := by
                    rcases rs_cases (s := s) htg with h | h
                    ·exact h.2
                    ·rw [h] at hre; cases hre
                   have hsb2 := hsb
                   unfold setB at hsb2
                   simp only [Bool.and_eq_true, decide_eq_true_eq] at hsb2
                   obtain ⟨⟨hs0, hs1⟩, _⟩ := hsb2
                   obtain ⟨s, rfl⟩ := Int.eq_ofNat_of_zero_le hs0
                   have hp6 : 2 ^ Z.length ≤ 2 ^ 6 := Nat.pow_le_pow_right (by decide) (by omega)
                   have hs2 : s < 2 ^ 63 := by generalize 2 ^ Z.length = q at *; omega
                   refine KC.skip ?_
                   refine thenK_n ?_
                   refine KC.seq ?_
                   refine KC.seq ?_
                   refine KC.region ?_
                   refine KT.step rfl rfl (K.move rfl) ?_
                   refine KT.step rfl rfl (K.len rfl he Try.underlying23) ?_
                   refine KT.step rfl rfl (K.move rfl) ?_
                   refine KT.nil ?_
                   refine thenK_n ?_
                   refine KC.block ?_
                   refine KC.loop (fun q : List VObj × DV × Nat => q.1) (fun q => [(0, .d d), (1, .d q.2.1), (3, .d (DI (s : Nat))), (24, .d (resD (rsE Z (s : Nat)) Z.length (resM Z.length ((s : Nat) : Int).toNat (tightM Z.length (zf Z))))), (185, .d (DI (p.length : Nat))), (186, .d (DI (q.2.2 : Nat)))]) (fun q => Ints q.2.1 (zerP p s q.2.2) ∧ q.2.2 ≤ p.length) (fun q => p.length - q.2.2) (_, e, 0) ⟨he, Nat.zero_le _⟩ rfl (by simp [Go.Vm.look, extK, enterK]) ?_
                   intro q hq
                   obtain ⟨hq1, hq2⟩ := hq
                   refine KC.seq ?_
                   refine KC.region ?_
                   refine KT.step rfl rfl (K.lss rfl rfl) ?_
                   refine KT.nil ?_
                   refine thenK_n ?_
                   refine KC.seq ?_
                   refine KC.cond rfl (fun hc187 => ?_) (fun hc187 => ?_)
                   ·skip
                    replace hc187 := of_decide_eq_true hc187
                    have hbit := bitOne s (q.2.2 + 1)
                    refine KC.skip ?_
                    refine thenK_n ?_
                    refine KC.seq ?_
                    refine KC.block ?_
                    refine KC.seq ?_
                    refine KC.region ?_
                    refine KT.step rfl rfl (K.move rfl) ?_
                    refine KT.step rfl rfl (K.assign rfl) ?_
                    refine KT.nil ?_
                    refine thenK_n ?_
                    refine KC.seq ?_
                    refine KC.region ?_
                    refine KT.step rfl rfl (K.move rfl) ?_
                    refine KT.step rfl rfl (K.move rfl) ?_
                    refine KT.step rfl rfl (K.add rfl rfl (oneN (by omega))) ?_
                    refine KT.step rfl rfl (K.shr rfl rfl (by omega) (shrI (a := s) (i := q.2.2 + 1) (by omega))) ?_
                    refine KT.step rfl rfl (K.band rfl rfl (show IntKind.i64.wrap (BitVec.ofInt IntKind.i64.bits ((s / 2 ^ (q.2.2 + 1) : Nat) : Int) &&& BitVec.ofInt IntKind.i64.bits (1 : Int)).toNat = ((s / 2 ^ (q.2.2 + 1) &&& 1 : Nat) : Int) from andI (b := 1) (Nat.lt_of_le_of_lt (Nat.div_le_self _ _) hs2) (by decide))) ?_
                    refine KT.step rfl rfl (K.eql rfl rfl) ?_
                    refine KT.nil ?_
                    refine thenK_n ?_
                    refine KC.cond rfl (fun hc194 => ?_) (fun hc194 => ?_)
                    ·skip
                     replace hc194 := of_decide_eq_true hc194
                     have htb : s.testBit (q.2.2 + 1) = true := by rw [← hbit]; exact decide_eq_true hc194
                     refine KC.seq ?_
                     refine KC.region ?_
                     refine KT.step rfl rfl (K.move rfl) ?_
                     refine KT.step rfl rfl (K.callG (τ := [⟨[], 0⟩, ⟨cellsI (zerP p s q.2.2), 0⟩]) rfl plainTry_39 (clone39_ints hq1 (by rw [zerP_len]; omega) (by rw [zerP_len]; omega))) ?_
                     refine KT.step rfl rfl (K.assign rfl) ?_
                     refine KT.nil ?_
                     refine thenK_n ?_
                     refine KC.region ?_
                     refine KT.step rfl rfl (K.move rfl) ?_
                     refine KT.step rfl rfl (K.move rfl) ?_
                     refine KT.step rfl rfl (K.idxO rfl rfl (by rw [zerP_len]; omega) Try.underlying23 Try.size3) ?_
                     refine KT.step rfl rfl (K.storeO rfl rfl own_get (by rw [cellsI_len, zerP_len]; omega) rfl rfl Try.size3) ?_
                     refine KT.nil ?_
                     refine blockK_n ?_
                     refine thenK_n ?_
                     refine KC.ghost [q.1.length + 1] 5 (t := 1) rfl (own_deep (l := (zerP p s q.2.2).set q.2.2 0) (by rw [own_set, cellsI_set]; exact own_get) (by simp) (by rw [List.length_set])) ?_
                     refine KC.region ?_
                     refine KT.step rfl rfl (K.add rfl rfl (wrap_id (by omega))) ?_
                     refine KT.step rfl rfl (K.move rfl) ?_
                     refine KT.nil ?_
                     refine thenK_n ?_
                     refine ⟨(_, intsD ((zerP p s q.2.2).set q.2.2 0), q.2.2 + 1), ⟨?_, by simp only; omega⟩, by simp only; omega, rfl, by simp [Go.Vm.look, extK]⟩
                     show Ints _ (zerP p s (q.2.2 + 1))
                     rw [zerP, if_pos htb]
                     exact intsD_ints _
                    ·skip
                     replace hc194 := of_decide_eq_false hc194
                     have htb : ¬ s.testBit (q.2.2 + 1) = true := by rw [← hbit]; simpa using hc194
                     refine KC.skip ?_
                     refine blockK_n ?_
                     refine thenK_n ?_
                     refine KC.region ?_
                     refine KT.step rfl rfl (K.add rfl rfl (wrap_id (by omega))) ?_
                     refine KT.step rfl rfl (K.move rfl) ?_
                     refine KT.nil ?_
                     refine thenK_n ?_
                     refine ⟨(_, q.2.1, q.2.2 + 1), ⟨?_, by simp only; omega⟩, by simp only; omega, rfl, by simp [Go.Vm.look, extK]⟩
                     show Ints _ (zerP p s (q.2.2 + 1))
                     rw [zerP, if_neg htb]
                     exact hq1
                   ·skip
                    replace hc187 := of_decide_eq_false hc187
                    refine KC.exit ?_
                    refine thenK_x ?_
                    refine thenK_x ?_
                    refine blockK_e ?_
                    refine thenK_n ?_
                    refine KC.seq ?_
                    refine KC.region ?_
                    refine KT.step rfl rfl (K.move rfl) ?_
                    refine KT.step rfl rfl (K.move rfl) ?_
                    refine KT.step rfl rfl (K.call2 rfl rfl plainTry_31 (Has31 (z := rsZ Z s) (resD_mat (e := rsE Z ((s : Nat) : Int)) (n := Z.length) (a := resM Z.length (((s : Nat) : Int)).toNat (tightM Z.length (zf Z)))) (resZ_len (kz.1) _).1 (resZ_len (kz.1) _).2 hq1 (by rw [zerP_len]; omega))) ?_
                    refine KT.step rfl rfl (K.move rfl) ?_
                    refine KT.step rfl rfl (K.extract rfl rfl) ?_
                    refine KT.step rfl rfl (K.extract rfl rfl) ?_
                    refine KT.step rfl rfl (K.assign rfl) ?_
                    refine KT.step rfl rfl (K.assign rfl) ?_
                    refine KT.nil ?_
                    refine thenK_n ?_
                    refine KC.seq ?_
                    refine KC.region ?_
                    refine KT.step rfl rfl (K.move rfl) ?_
                    refine KT.step rfl rfl (K.neq rfl rfl) ?_
                    refine KT.step rfl rfl (K.move rfl) ?_
                    refine KT.bcase (fun hb209 => ?_) (fun hb209 => ?_)
                    ·skip
                     replace hb209 := of_decide_eq_true hb209
                     refine KT.skip rfl rfl ?_
                     refine KT.step rfl rfl (K.pick rfl (fun _ => rfl) (fun h => by cases h)) ?_
                     refine KT.step rfl rfl (K.move rfl) ?_
                     refine KT.step rfl rfl (K.call0 plainTry_21 (awake21)) ?_
                     refine KT.step rfl rfl (K.pick rfl (fun _ => rfl) (fun h => by cases h)) ?_
                     refine KT.step rfl rfl (K.assign rfl) ?_
                     refine KT.nil ?_
                     refine thenK_n ?_
                     refine KC.ret ?_
                     exact ⟨.inl rfl, _, rfl, rfl⟩
                    ·skip
                     replace hb209 := of_decide_eq_false hb209
                     refine KT.step rfl rfl (K.move rfl) ?_
                     refine KT.step rfl rfl (K.pick rfl (fun h => by cases h) (fun _ => rfl)) ?_
                     refine KT.step rfl rfl (K.move rfl) ?_
                     refine KT.bcase (fun hb212 => ?_) (fun hb212 => ?_)
                     ·skip
                      refine KT.step rfl rfl (K.call0 plainTry_21 (awake21)) ?_
                      refine KT.step rfl rfl (K.pick rfl (fun _ => rfl) (fun h => by cases h)) ?_
                      refine KT.step rfl rfl (K.assign rfl) ?_
                      refine KT.nil ?_
                      refine thenK_n ?_
                      refine KC.ret ?_
                      exact ⟨.inl rfl, _, rfl, rfl⟩
                     ·skip
                      have hqe : q.2.2 = p.length := by omega
                      exact Bool.noConfusion (hb212.symm.trans (mv_res hc119 hre (by rw [hqe]; rfl) (Classical.not_not.1 hb209)))
                ·skip
                 replace hb165 := of_decide_eq_false hb165
                 refine KT.skip rfl rfl ?_
                 refine KT.skip rfl rfl ?_
                 refine KT.step rfl rfl (K.pick rfl (fun h => by cases h) (fun _ => rfl)) ?_
                 refine KT.step rfl rfl (K.pick rfl (fun h => by cases h) (fun _ => rfl)) ?_
                 refine KT.nil ?_
                 refine thenK_n ?_
                 refine KC.cond rfl (fun hc169 => ?_) (fun hc169 => ?_)
                 ·cases hc169
                 ·skip
                  refine KC.skip ?_
                  refine thenK_n ?_
                  refine KC.seq ?_
                  refine KC.region ?_
                  refine KT.step rfl rfl (K.move rfl) ?_
                  refine KT.step rfl rfl (K.call1 rfl plainTry_16 (few16 hd hl hr)) ?_
                  refine KT.step rfl rfl (K.move rfl) ?_
                  refine KT.step rfl rfl (K.call2 rfl rfl plainTry_27 (Reset27 hmz fz.1 fz.2 kz.1)) ?_
                  refine KT.step rfl rfl (K.move rfl) ?_
                  refine KT.step rfl rfl (K.extract rfl rfl) ?_
                  refine KT.step rfl rfl (K.extract rfl rfl) ?_
                  refine KT.step rfl rfl (K.assign rfl) ?_
                  refine KT.step rfl rfl (K.assign rfl) ?_
                  refine KT.nil ?_
                  refine thenK_n ?_
                  refine KC.seq ?_
                  refine KC.seq ?_
                  refine KC.region ?_
                  refine KT.step rfl rfl (K.move rfl) ?_
                  refine KT.step rfl rfl (K.neq rfl rfl) ?_
                  refine KT.nil ?_
                  refine thenK_n ?_
                  refine KC.cond rfl (fun hc178 => ?_) (fun hc178 => ?_)
                  ·skip
                   replace hc178 := of_decide_eq_true hc178
                   refine KC.seq ?_
                   refine KC.region ?_
                   refine KT.step rfl rfl (K.move rfl) ?_
                   refine KT.step rfl rfl (K.eql rfl rfl) ?_
                   refine KT.step rfl rfl (K.move rfl) ?_
                   refine KT.bcase (fun hb181 => ?_) (fun hb181 => ?_)
                   ·skip
                    replace hb181 := of_decide_eq_true hb181
                    refine KT.step rfl rfl (K.call0 plainTry_21 (awake21)) ?_
                    refine KT.step rfl rfl (K.pick rfl (fun _ => rfl) (fun h => by cases h)) ?_
                    refine KT.step rfl rfl (K.assign rfl) ?_
                    refine KT.nil ?_
                    refine thenK_n ?_
                    refine KC.ret ?_
                    refine thenK_r ?_
                    exact ⟨.inl rfl, _, rfl, rfl⟩
                   ·skip
                    rcases rs_cases (s := s) htg with h | h
                    ·exact absurd h.1 hc178
                    ·exact absurd h (of_decide_eq_false hb181)
                  ·skip
                   replace hc178 := of_decide_eq_false hc178
                   have hre := Classical.not_not.1 hc178
                   have hsb : setB Z.length s = true := by
                    rcases rs_cases (s := s) htg with h | h
                    ·exact h.2
                    ·rw [h] at hre; cases hre
                   have hsb2 := hsb
                   unfold setB at hsb2
                   simp only [Bool.and_eq_true, decide_eq_true_eq] at hsb2
                   obtain ⟨⟨hs0, hs1⟩, _⟩ := hsb2
                   obtain ⟨s, rfl⟩ := Int.eq_ofNat_of_zero_le hs0
                   have hp6 : 2 ^ Z.length ≤ 2 ^ 6 := Nat.pow_le_pow_right (by decide) (by omega)
                   have hs2 : s < 2 ^ 63 := by generalize 2 ^ Z.length = q at *; omega
                   refine KC.skip ?_
                   refine thenK_n ?_
                   refine KC.seq ?_
                   refine KC.seq ?_
                   refine KC.region ?_
                   refine KT.step rfl rfl (K.move rfl) ?_
                   refine KT.step rfl rfl (K.len rfl he Try.underlying23) ?_
                   refine KT.step rfl rfl (K.move rfl) ?_
                   refine KT.nil ?_
                   refine thenK_n ?_
                   refine KC.block ?_
                   refine KC.loop (fun q : List VObj × DV × Nat => q.1) (fun q => [(0, .d d), (1, .d q.2.1), (3, .d (DI (s : Nat))), (24, .d (resD (rsE Z (s : Nat)) Z.length (resM Z.length ((s : Nat) : Int).toNat (tightM Z.length (zf Z))))), (185, .d (DI (p.length : Nat))), (186, .d (DI (q.2.2 : Nat)))]) (fun q => Ints q.2.1 (zerP p s q.2.2) ∧ q.2.2 ≤ p.length) (fun q => p.length - q.2.2) (_, e, 0) ⟨he, Nat.zero_le _⟩ rfl (by simp [Go.Vm.look, extK, enterK]) ?_
                   intro q hq
                   obtain ⟨hq1, hq2⟩ := hq
                   refine KC.seq ?_
                   refine KC.region ?_
                   refine KT.step rfl rfl (K.lss rfl rfl) ?_
                   refine KT.nil ?_
                   refine thenK_n ?_
                   refine KC.seq ?_
                   refine KC.cond rfl (fun hc187 => ?_) (fun hc187 => ?_)
                   ·skip
                    replace hc187 := of_decide_eq_true hc187
                    have hbit := bitOne s (q.2.2 + 1)
                    refine KC.skip ?_
                    refine thenK_n ?_
                    refine KC.seq ?_
                    refine KC.block ?_
                    refine KC.seq ?_
                    refine KC.region ?_
                    refine KT.step rfl rfl (K.move rfl) ?_
                    refine KT.step rfl rfl (K.assign rfl) ?_
                    refine KT.nil ?_
                    refine thenK_n ?_
                    refine KC.seq ?_
                    refine KC.region ?_
                    refine KT.step rfl rfl (K.move rfl) ?_
                    refine KT.step rfl rfl (K.move rfl) ?_
                    refine KT.step rfl rfl (K.add rfl rfl (oneN (by omega))) ?_
                    refine KT.step rfl rfl (K.shr rfl rfl (by omega) (shrI (a := s) (i := q.2.2 + 1) (by omega))) ?_
                    refine KT.step rfl rfl (K.band rfl rfl (show IntKind.i64.wrap (BitVec.ofInt IntKind.i64.bits ((s / 2 ^ (q.2.2 + 1) : Nat) : Int) &&& BitVec.ofInt IntKind.i64.bits (1 : Int)).toNat = ((s / 2 ^ (q.2.2 + 1) &&& 1 : Nat) : Int) from andI (b := 1) (Nat.lt_of_le_of_lt (Nat.div_le_self _ _) hs2) (by decide))) ?_
                    refine KT.step rfl rfl (K.eql rfl rfl) ?_
                    refine KT.nil ?_
                    refine thenK_n ?_
                    refine KC.cond rfl (fun hc194 => ?_) (fun hc194 => ?_)
                    ·skip
                     replace hc194 := of_decide_eq_true hc194
                     have htb : s.testBit (q.2.2 + 1) = true := by rw [← hbit]; exact decide_eq_true hc194
                     refine KC.seq ?_
                     refine KC.region ?_
                     refine KT.step rfl rfl (K.move rfl) ?_
                     refine KT.step rfl rfl (K.callG (τ := [⟨[], 0⟩, ⟨cellsI (zerP p s q.2.2), 0⟩]) rfl plainTry_39 (clone39_ints hq1 (by rw [zerP_len]; omega) (by rw [zerP_len]; omega))) ?_
                     refine KT.step rfl rfl (K.assign rfl) ?_
                     refine KT.nil ?_
                     refine thenK_n ?_
                     refine KC.region ?_
                     refine KT.step rfl rfl (K.move rfl) ?_
                     refine KT.step rfl rfl (K.move rfl) ?_
                     refine KT.step rfl rfl (K.idxO rfl rfl (by rw [zerP_len]; omega) Try.underlying23 Try.size3) ?_
                     refine KT.step rfl rfl (K.storeO rfl rfl own_get (by rw [cellsI_len, zerP_len]; omega) rfl rfl Try.size3) ?_
                     refine KT.nil ?_
                     refine blockK_n ?_
                     refine thenK_n ?_
                     refine KC.ghost [q.1.length + 1] 5 (t := 1) rfl (own_deep (l := (zerP p s q.2.2).set q.2.2 0) (by rw [own_set, cellsI_set]; exact own_get) (by simp) (by rw [List.length_set])) ?_
                     refine KC.region ?_
                     refine KT.step rfl rfl (K.add rfl rfl (wrap_id (by omega))) ?_
                     refine KT.step rfl rfl (K.move rfl) ?_
                     refine KT.nil ?_
                     refine thenK_n ?_
                     refine ⟨(_, intsD ((zerP p s q.2.2).set q.2.2 0), q.2.2 + 1), ⟨?_, by simp only; omega⟩, by simp only; omega, rfl, by simp [Go.Vm.look, extK]⟩
                     show Ints _ (zerP p s (q.2.2 + 1))
                     rw [zerP, if_pos htb]
                     exact intsD_ints _
                    ·skip
                     replace hc194 := of_decide_eq_false hc194
                     have htb : ¬ s.testBit (q.2.2 + 1) = true := by rw [← hbit]; simpa using hc194
                     refine KC.skip ?_
                     refine blockK_n ?_
                     refine thenK_n ?_
                     refine KC.region ?_
                     refine KT.step rfl rfl (K.add rfl rfl (wrap_id (by omega))) ?_
                     refine KT.step rfl rfl (K.move rfl) ?_
                     refine KT.nil ?_
                     refine thenK_n ?_
                     refine ⟨(_, q.2.1, q.2.2 + 1), ⟨?_, by simp only; omega⟩, by simp only; omega, rfl, by simp [Go.Vm.look, extK]⟩
                     show Ints _ (zerP p s (q.2.2 + 1))
                     rw [zerP, if_neg htb]
                     exact hq1
                   ·skip
                    replace hc187 := of_decide_eq_false hc187
                    refine KC.exit ?_
                    refine thenK_x ?_
                    refine thenK_x ?_
                    refine blockK_e ?_
                    refine thenK_n ?_
                    refine KC.seq ?_
                    refine KC.region ?_
                    refine KT.step rfl rfl (K.move rfl) ?_
                    refine KT.step rfl rfl (K.move rfl) ?_
                    refine KT.step rfl rfl (K.call2 rfl rfl plainTry_31 (Has31 (z := rsZ Z s) (resD_mat (e := rsE Z ((s : Nat) : Int)) (n := Z.length) (a := resM Z.length (((s : Nat) : Int)).toNat (tightM Z.length (zf Z)))) (resZ_len (kz.1) _).1 (resZ_len (kz.1) _).2 hq1 (by rw [zerP_len]; omega))) ?_
                    refine KT.step rfl rfl (K.move rfl) ?_
                    refine KT.step rfl rfl (K.extract rfl rfl) ?_
                    refine KT.step rfl rfl (K.extract rfl rfl) ?_
                    refine KT.step rfl rfl (K.assign rfl) ?_
                    refine KT.step rfl rfl (K.assign rfl) ?_
                    refine KT.nil ?_
                    refine thenK_n ?_
                    refine KC.seq ?_
                    refine KC.region ?_
                    refine KT.step rfl rfl (K.move rfl) ?_
                    refine KT.step rfl rfl (K.neq rfl rfl) ?_
                    refine KT.step rfl rfl (K.move rfl) ?_
                    refine KT.bcase (fun hb209 => ?_) (fun hb209 => ?_)
                    ·skip
                     replace hb209 := of_decide_eq_true hb209
                     refine KT.skip rfl rfl ?_
                     refine KT.step rfl rfl (K.pick rfl (fun _ => rfl) (fun h => by cases h)) ?_
                     refine KT.step rfl rfl (K.move rfl) ?_
                     refine KT.step rfl rfl (K.call0 plainTry_21 (awake21)) ?_
                     refine KT.step rfl rfl (K.pick rfl (fun _ => rfl) (fun h => by cases h)) ?_
                     refine KT.step rfl rfl (K.assign rfl) ?_
                     refine KT.nil ?_
                     refine thenK_n ?_
                     refine KC.ret ?_
                     exact ⟨.inl rfl, _, rfl, rfl⟩
                    ·skip
                     replace hb209 := of_decide_eq_false hb209
                     refine KT.step rfl rfl (K.move rfl) ?_
                     refine KT.step rfl rfl (K.pick rfl (fun h => by cases h) (fun _ => rfl)) ?_
                     refine KT.step rfl rfl (K.move rfl) ?_
                     refine KT.bcase (fun hb212 => ?_) (fun hb212 => ?_)
                     ·skip
                      refine KT.step rfl rfl (K.call0 plainTry_21 (awake21)) ?_
                      refine KT.step rfl rfl (K.pick rfl (fun _ => rfl) (fun h => by cases h)) ?_
                      refine KT.step rfl rfl (K.assign rfl) ?_
                      refine KT.nil ?_
                      refine thenK_n ?_
                      refine KC.ret ?_
                      exact ⟨.inl rfl, _, rfl, rfl⟩
                     ·skip
                      have hqe : q.2.2 = p.length := by omega
                      exact Bool.noConfusion (hb212.symm.trans (mv_res hc119 hre (by rw [hqe]; rfl) (Classical.not_not.1 hb209)))
              ·skip
               replace hc147 := of_decide_eq_false hc147
               refine KC.skip ?_
               refine thenK_n ?_
               refine KC.seq ?_
               refine KC.region ?_
               refine KT.step rfl rfl (K.move rfl) ?_
               refine KT.step rfl rfl (K.call1 rfl plainTry_16 (few16 hd hl hr)) ?_
               refine KT.step rfl rfl (K.move rfl) ?_
               refine KT.step rfl rfl (K.call2 rfl rfl plainTry_27 (Reset27 hmz fz.1 fz.2 kz.1)) ?_
               refine KT.step rfl rfl (K.move rfl) ?_
               refine KT.step rfl rfl (K.extract rfl rfl) ?_
               refine KT.step rfl rfl (K.extract rfl rfl) ?_
               refine KT.step rfl rfl (K.assign rfl) ?_
               refine KT.step rfl rfl (K.assign rfl) ?_
               refine KT.nil ?_
               refine thenK_n ?_
               refine KC.seq ?_
               refine KC.seq ?_
               refine KC.region ?_
               refine KT.step rfl rfl (K.move rfl) ?_
               refine KT.step rfl rfl (K.neq rfl rfl) ?_
               refine KT.nil ?_
               refine thenK_n ?_
               refine KC.cond rfl (fun hc178 => ?_) (fun hc178 => ?_)
               ·skip
                replace hc178 := of_decide_eq_true hc178
                refine KC.seq ?_
                refine KC.region ?_
                refine KT.step rfl rfl (K.move rfl) ?_
                refine KT.step rfl rfl (K.eql rfl rfl) ?_
                refine KT.step rfl rfl (K.move rfl) ?_
                refine KT.bcase (fun hb181 => ?_) (fun hb181 => ?_)
                ·skip
                 replace hb181 := of_decide_eq_true hb181
                 refine KT.step rfl rfl (K.call0 plainTry_21 (awake21)) ?_
                 refine KT.step rfl rfl (K.pick rfl (fun _ => rfl) (fun h => by cases h)) ?_
                 refine KT.step rfl rfl (K.assign rfl) ?_
                 refine KT.nil ?_
                 refine thenK_n ?_
                 refine KC.ret ?_
                 refine thenK_r ?_
                 exact ⟨.inl rfl, _, rfl, rfl⟩
                ·skip
                 rcases rs_cases (s := s) htg with h | h
                 ·exact absurd h.1 hc178
                 ·exact absurd h (of_decide_eq_false hb181)
               ·skip
                replace hc178 := of_decide_eq_false hc178
                have hre := Classical.not_not.1 hc178
                have hsb : setB Z.length s = true := by
                 rcases rs_cases (s := s) htg with h | h
                 ·exact h.2
                 ·rw [h] at hre; cases hre
                have hsb2 := hsb
                unfold setB at hsb2
                simp only [Bool.and_eq_true, decide_eq_true_eq] at hsb2
                obtain ⟨⟨hs0, hs1⟩, _⟩ := hsb2
                obtain ⟨s, rfl⟩ := Int.eq_ofNat_of_zero_le hs0
                have hp6 : 2 ^ Z.length ≤ 2 ^ 6 := Nat.pow_le_pow_right (by decide) (by omega)
                have hs2 : s < 2 ^ 63 := by generalize 2 ^ Z.length = q at *; omega
                refine KC.skip ?_
                refine thenK_n ?_
                refine KC.seq ?_
                refine KC.seq ?_
                refine KC.region ?_
                refine KT.step rfl rfl (K.move rfl) ?_
                refine KT.step rfl rfl (K.len rfl he Try.underlying23) ?_
                refine KT.step rfl rfl (K.move rfl) ?_
                refine KT.nil ?_
                refine thenK_n ?_
                refine KC.block ?_
                refine KC.loop (fun q : List VObj × DV × Nat => q.1) (fun q => [(0, .d d), (1, .d q.2.1), (3, .d (DI (s : Nat))), (24, .d (resD (rsE Z (s : Nat)) Z.length (resM Z.length ((s : Nat) : Int).toNat (tightM Z.length (zf Z))))), (185, .d (DI (p.length : Nat))), (186, .d (DI (q.2.2 : Nat)))]) (fun q => Ints q.2.1 (zerP p s q.2.2) ∧ q.2.2 ≤ p.length) (fun q => p.length - q.2.2) (_, e, 0) ⟨he, Nat.zero_le _⟩ rfl (by simp [Go.Vm.look, extK, enterK]) ?_
                intro q hq
                obtain ⟨hq1, hq2⟩ := hq
                refine KC.seq ?_
                refine KC.region ?_
                refine KT.step rfl rfl (K.lss rfl rfl) ?_
                refine KT.nil ?_
                refine thenK_n ?_
                refine KC.seq ?_
                refine KC.cond rfl (fun hc187 => ?_) (fun hc187 => ?_)
                ·skip
                 replace hc187 := of_decide_eq_true hc187
                 have hbit := bitOne s (q.2.2 + 1)
                 refine KC.skip ?_
                 refine thenK_n ?_
                 refine KC.seq ?_
                 refine KC.block ?_
                 refine KC.seq ?_
                 refine KC.region ?_
                 refine KT.step rfl rfl (K.move rfl) ?_
                 refine KT.step rfl rfl (K.assign rfl) ?_
                 refine KT.nil ?_
                 refine thenK_n ?_
                 refine KC.seq ?_
                 refine KC.region ?_
                 refine KT.step rfl rfl (K.move rfl) ?_
                 refine KT.step rfl rfl (K.move rfl) ?_
                 refine KT.step rfl rfl (K.add rfl rfl (oneN (by omega))) ?_
                 refine KT.step rfl rfl (K.shr rfl rfl (by omega) (shrI (a := s) (i := q.2.2 + 1) (by omega))) ?_
                 refine KT.step rfl rfl (K.band rfl rfl (show IntKind.i64.wrap (BitVec.ofInt IntKind.i64.bits ((s / 2 ^ (q.2.2 + 1) : Nat) : Int) &&& BitVec.ofInt IntKind.i64.bits (1 : Int)).toNat = ((s / 2 ^ (q.2.2 + 1) &&& 1 : Nat) : Int) from andI (b := 1) (Nat.lt_of_le_of_lt (Nat.div_le_self _ _) hs2) (by decide))) ?_
                 refine KT.step rfl rfl (K.eql rfl rfl) ?_
                 refine KT.nil ?_
                 refine thenK_n ?_
                 refine KC.cond rfl (fun hc194 => ?_) (fun hc194 => ?_)
                 ·skip
                  replace hc194 := of_decide_eq_true hc194
                  have htb : s.testBit (q.2.2 + 1) = true := by rw [← hbit]; exact decide_eq_true hc194
                  refine KC.seq ?_
                  refine KC.region ?_
                  refine KT.step rfl rfl (K.move rfl) ?_
                  refine KT.step rfl rfl (K.callG (τ := [⟨[], 0⟩, ⟨cellsI (zerP p s q.2.2), 0⟩]) rfl plainTry_39 (clone39_ints hq1 (by rw [zerP_len]; omega) (by rw [zerP_len]; omega))) ?_
                  refine KT.step rfl rfl (K.assign rfl) ?_
                  refine KT.nil ?_
                  refine thenK_n ?_
                  refine KC.region ?_
                  refine KT.step rfl rfl (K.move rfl) ?_
                  refine KT.step rfl rfl (K.move rfl) ?_
                  refine KT.step rfl rfl (K.idxO rfl rfl (by rw [zerP_len]; omega) Try.underlying23 Try.size3) ?_
                  refine KT.step rfl rfl (K.storeO rfl rfl own_get (by rw [cellsI_len, zerP_len]; omega) rfl rfl Try.size3) ?_
                  refine KT.nil ?_
                  refine blockK_n ?_
                  refine thenK_n ?_
                  refine KC.ghost [q.1.length + 1] 5 (t := 1) rfl (own_deep (l := (zerP p s q.2.2).set q.2.2 0) (by rw [own_set, cellsI_set]; exact own_get) (by simp) (by rw [List.length_set])) ?_
                  refine KC.region ?_
                  refine KT.step rfl rfl (K.add rfl rfl (wrap_id (by omega))) ?_
                  refine KT.step rfl rfl (K.move rfl) ?_
                  refine KT.nil ?_
                  refine thenK_n ?_
                  refine ⟨(_, intsD ((zerP p s q.2.2).set q.2.2 0), q.2.2 + 1), ⟨?_, by simp only; omega⟩, by simp only; omega, rfl, by simp [Go.Vm.look, extK]⟩
                  show Ints _ (zerP p s (q.2.2 + 1))
                  rw [zerP, if_pos htb]
                  exact intsD_ints _
                 ·skip
                  replace hc194 := of_decide_eq_false hc194
                  have htb : ¬ s.testBit (q.2.2 + 1) = true := by rw [← hbit]; simpa using hc194
                  refine KC.skip ?_
                  refine blockK_n ?_
                  refine thenK_n ?_
                  refine KC.region ?_
                  refine KT.step rfl rfl (K.add rfl rfl (wrap_id (by omega))) ?_
                  refine KT.step rfl rfl (K.move rfl) ?_
                  refine KT.nil ?_
                  refine thenK_n ?_
                  refine ⟨(_, q.2.1, q.2.2 + 1), ⟨?_, by simp only; omega⟩, by simp only; omega, rfl, by simp [Go.Vm.look, extK]⟩
                  show Ints _ (zerP p s (q.2.2 + 1))
                  rw [zerP, if_neg htb]
                  exact hq1
                ·skip
                 replace hc187 := of_decide_eq_false hc187
                 refine KC.exit ?_
                 refine thenK_x ?_
                 refine thenK_x ?_
                 refine blockK_e ?_
                 refine thenK_n ?_
                 refine KC.seq ?_
                 refine KC.region ?_
                 refine KT.step rfl rfl (K.move rfl) ?_
                 refine KT.step rfl rfl (K.move rfl) ?_
                 refine KT.step rfl rfl (K.call2 rfl rfl plainTry_31 (Has31 (z := rsZ Z s) (resD_mat (e := rsE Z ((s : Nat) : Int)) (n := Z.length) (a := resM Z.length (((s : Nat) : Int)).toNat (tightM Z.length (zf Z)))) (resZ_len (kz.1) _).1 (resZ_len (kz.1) _).2 hq1 (by rw [zerP_len]; omega))) ?_
                 refine KT.step rfl rfl (K.move rfl) ?_
                 refine KT.step rfl rfl (K.extract rfl rfl) ?_
                 refine KT.step rfl rfl (K.extract rfl rfl) ?_
                 refine KT.step rfl rfl (K.assign rfl) ?_
                 refine KT.step rfl rfl (K.assign rfl) ?_
                 refine KT.nil ?_
                 refine thenK_n ?_
                 refine KC.seq ?_
                 refine KC.region ?_
                 refine KT.step rfl rfl (K.move rfl) ?_
                 refine KT.step rfl rfl (K.neq rfl rfl) ?_
                 refine KT.step rfl rfl (K.move rfl) ?_
                 refine KT.bcase (fun hb209 => ?_) (fun hb209 => ?_)
                 ·skip
                  replace hb209 := of_decide_eq_true hb209
                  refine KT.skip rfl rfl ?_
                  refine KT.step rfl rfl (K.pick rfl (fun _ => rfl) (fun h => by cases h)) ?_
                  refine KT.step rfl rfl (K.move rfl) ?_
                  refine KT.step rfl rfl (K.call0 plainTry_21 (awake21)) ?_
                  refine KT.step rfl rfl (K.pick rfl (fun _ => rfl) (fun h => by cases h)) ?_
                  refine KT.step rfl rfl (K.assign rfl) ?_
                  refine KT.nil ?_
                  refine thenK_n ?_
                  refine KC.ret ?_
                  exact ⟨.inl rfl, _, rfl, rfl⟩
                 ·skip
                  replace hb209 := of_decide_eq_false hb209
                  refine KT.step rfl rfl (K.move rfl) ?_
                  refine KT.step rfl rfl (K.pick rfl (fun h => by cases h) (fun _ => rfl)) ?_
                  refine KT.step rfl rfl (K.move rfl) ?_
                  refine KT.bcase (fun hb212 => ?_) (fun hb212 => ?_)
                  ·skip
                   refine KT.step rfl rfl (K.call0 plainTry_21 (awake21)) ?_
                   refine KT.step rfl rfl (K.pick rfl (fun _ => rfl) (fun h => by cases h)) ?_
                   refine KT.step rfl rfl (K.assign rfl) ?_
                   refine KT.nil ?_
                   refine thenK_n ?_
                   refine KC.ret ?_
                   exact ⟨.inl rfl, _, rfl, rfl⟩
                  ·skip
                   have hqe : q.2.2 = p.length := by omega
                   exact Bool.noConfusion (hb212.symm.trans (mv_res hc119 hre (by rw [hqe]; rfl) (Classical.not_not.1 hb209)))
        ·skip
         replace hb106 := of_decide_eq_false hb106
         refine KT.skip rfl rfl ?_
         refine KT.skip rfl rfl ?_
         refine KT.skip rfl rfl ?_
         refine KT.step rfl rfl (K.pick rfl (fun h => by cases h) (fun _ => rfl)) ?_
         refine KT.step rfl rfl (K.move rfl) ?_
         refine KT.step rfl rfl (K.move rfl) ?_
         refine KT.step rfl rfl (K.eql rfl rfl) ?_
         refine KT.step rfl rfl (K.move rfl) ?_
         refine KT.bcase (fun hb114 => ?_) (fun hb114 => ?_)
         ·skip
          replace hb114 := of_decide_eq_true hb114
          rw [hb70] at hb114
          cases hb114
         ·skip
          replace hb114 := of_decide_eq_false hb114
          refine KT.skip rfl rfl ?_
          refine KT.step rfl rfl (K.pick rfl (fun h => by cases h) (fun _ => rfl)) ?_
          refine KT.step rfl rfl (K.pick rfl (fun h => by cases h) (fun _ => rfl)) ?_
          refine KT.nil ?_
          refine thenK_n ?_
          refine KC.cond rfl (fun hc117 => ?_) (fun hc117 => ?_)
          ·cases hc117
          ·skip
           refine KC.skip ?_
           refine thenK_n ?_
           refine KC.seq ?_
           refine KC.seq ?_
           refine KC.region ?_
           refine KT.step rfl rfl (K.move rfl) ?_
           refine KT.step rfl rfl (K.not rfl) ?_
           refine KT.nil ?_
           refine thenK_n ?_
           refine KC.cond rfl (fun hc119 => ?_) (fun hc119 => ?_)
           ·skip
            refine KC.seq ?_
            refine KC.region ?_
            refine KT.step rfl rfl (K.call0 plainTry_21 (awake21)) ?_
            refine KT.step rfl rfl (K.assign rfl) ?_
            refine KT.nil ?_
            refine thenK_n ?_
            refine KC.ret ?_
            refine thenK_r ?_
            exact ⟨.inl rfl, _, rfl, rfl⟩
           ·skip
            rw [Bool.not_eq_false'] at hc119
            obtain ⟨_, htg, _⟩ := mv_zero hc119
            refine KC.skip ?_
            refine thenK_n ?_
            refine KC.seq ?_
            refine KC.region ?_
            refine KT.step rfl rfl (K.move rfl) ?_
            refine KT.step rfl rfl (K.conv rfl Try.underlying3 Try.underlying49 (wrapUI _)) ?_
            refine KT.step rfl rfl (K.rem rfl rfl (by omega) (show Int.tmod ((t0 % 2 ^ 64).toNat : Int) 400 = (((t0 % 2 ^ 64).toNat % 400 : Nat) : Int) from tmodN _ 400)) ?_
            refine KT.step rfl rfl (K.conv rfl Try.underlying49 Try.underlying3 (wrapN (by omega))) ?_
            refine KT.step rfl rfl (K.assign rfl) ?_
            refine KT.nil ?_
            refine thenK_n ?_
            refine KC.seq ?_
            have ht : (t0 % 2 ^ 64).toNat % 400 < 400 := Nat.mod_lt _ (by decide)
            generalize (t0 % 2 ^ 64).toNat % 400 = t at ht ⊢
            refine KC.anyS fun σ2 => ?_
            refine KC.region ?_
            refine KT.step rfl rfl (K.move rfl) ?_
            refine KT.step rfl rfl (K.callG (τ := [⟨[], 0⟩, ⟨cellsI p, 0⟩]) rfl plainTry_39 (clone39_ints he (by omega) (by omega))) ?_
            refine KT.step rfl rfl (K.assign rfl) ?_
            refine KT.nil ?_
            refine thenK_n ?_
            refine KC.seq ?_
            refine KC.seq ?_
            refine KC.region ?_
            refine KT.step rfl rfl (K.move rfl) ?_
            refine KT.step rfl rfl (K.lenO rfl Try.underlying23) ?_
            refine KT.step rfl rfl (K.move rfl) ?_
            refine KT.nil ?_
            refine thenK_n ?_
            refine KC.block ?_
            refine KC.loop (fun i : Nat => σ2 ++ [⟨[], 0⟩, ⟨cellsI (raiP p t i), 0⟩]) (fun i => [(0, .d d), (1, .d e), (3, .d (DI s)), (4, .d (DI (t : Nat))), (18, .osl (σ2.length + 1) 0 p.length 1 p.length false), (127, .osl (σ2.length + 1) 0 p.length 1 p.length false), (128, .d (DI (p.length : Nat))), (129, .d (DI (i : Nat)))]) (fun i => i ≤ p.length) (fun i => p.length - i) 0 (Nat.zero_le _) rfl (by simp [Go.Vm.look, extK, enterK]) ?_
            intro i hi
            refine KC.seq ?_
            refine KC.region ?_
            refine KT.step rfl rfl (K.lss rfl rfl) ?_
            refine KT.nil ?_
            refine thenK_n ?_
            refine KC.seq ?_
            refine KC.cond rfl (fun hc130 => ?_) (fun hc130 => ?_)
            ·skip
             replace hc130 := of_decide_eq_true hc130
             have hil : i < p.length := by omega
             refine KC.skip ?_
             refine thenK_n ?_
             refine KC.seq ?_
             refine KC.block ?_
             refine KC.seq ?_
             refine KC.region ?_
             refine KT.step rfl rfl (K.move rfl) ?_
             refine KT.step rfl rfl (K.assign rfl) ?_
             refine KT.nil ?_
             refine thenK_n ?_
             refine KC.region ?_
             refine KT.step rfl rfl (K.move rfl) ?_
             refine KT.step rfl rfl (K.move rfl) ?_
             refine KT.step rfl rfl (K.move rfl) ?_
             refine KT.step rfl rfl (K.move rfl) ?_
             refine KT.step rfl rfl (K.idxO rfl rfl (by omega) Try.underlying23 Try.size3) ?_
             refine KT.step rfl rfl (K.loadO rfl own_get (by simp) (cellsI_get (by rw [raiP_len]; exact hil)) Try.agg3) ?_
             rw [raiP_get hil]
             refine KT.step rfl rfl (K.move rfl) ?_
             refine KT.step rfl rfl (K.add rfl rfl (wrap_id (by have := hall _ (List.getElem_mem hil); omega))) ?_
             refine KT.step rfl rfl (K.min2 rfl rfl) ?_
             refine KT.step rfl rfl (K.idxO rfl rfl (by omega) Try.underlying23 Try.size3) ?_
             refine KT.step rfl rfl (K.storeO rfl rfl own_get (by rw [cellsI_len, raiP_len]; omega) rfl rfl Try.size3) ?_
             refine KT.nil ?_
             refine blockK_n ?_
             refine thenK_n ?_
             refine KC.region ?_
             refine KT.step rfl rfl (K.add rfl rfl (wrap_id (by omega))) ?_
             refine KT.step rfl rfl (K.move rfl) ?_
             refine KT.nil ?_
             refine thenK_n ?_
             refine ⟨i + 1, by omega, by omega, (by rw [own_set, cellsI_set, raiP_set hil]), by simp [Go.Vm.look, extK]⟩
            ·skip
             replace hc130 := of_decide_eq_false hc130
             refine KC.exit ?_
             refine thenK_x ?_
             refine thenK_x ?_
             refine blockK_e ?_
             refine thenK_n ?_
             refine KC.seq ?_
             refine KC.seq ?_
             refine KC.region ?_
             refine KT.step rfl rfl (K.move rfl) ?_
             refine KT.step rfl rfl (K.call1 rfl plainTry_40 (Max40 he hlp (by omega))) ?_
             refine KT.step rfl rfl (K.move rfl) ?_
             refine KT.step rfl rfl (K.add rfl rfl (wrap_id (by have := hall _ (mxP_in (p := p) (p.length - 1) (by omega)); omega))) ?_
             refine KT.step rfl rfl (K.leq rfl rfl) ?_
             refine KT.nil ?_
             refine thenK_n ?_
             refine KC.cond rfl (fun hc147 => ?_) (fun hc147 => ?_)
             ·skip
              replace hc147 := of_decide_eq_true hc147
              have hie : i = p.length := by omega
              have hmx : ∀ x ∈ p, x + (t : Int) ≤ 20000 := fun x hx => by
               obtain ⟨k, hk, rfl⟩ := List.getElem_of_mem hx
               have := mxP_ge (p := p) (p.length - 1) k (by omega)
               rw [show p.getD k 0 = p[k] by simp [hk]] at this
               omega
              refine KC.seq ?_
              refine KC.region ?_
              refine KT.step rfl rfl (K.move rfl) ?_
              refine KT.step rfl rfl (K.call1 rfl plainTry_16 (few16 hd hl hr)) ?_
              refine KT.step rfl rfl (K.call1 rfl plainTry_25 (Delay25 hmz fz.1 fz.2)) ?_
              refine KT.step rfl rfl (K.move rfl) ?_
              refine KT.step rfl rfl (K.extract rfl rfl) ?_
              refine KT.step rfl rfl (K.extract rfl rfl) ?_
              refine KT.step rfl rfl (K.assign rfl) ?_
              refine KT.step rfl rfl (K.assign rfl) ?_
              refine KT.nil ?_
              refine thenK_n ?_
              refine KC.seq ?_
              refine KC.region ?_
              refine KT.step rfl rfl (K.move rfl) ?_
              refine KT.step rfl rfl (K.move rfl) ?_
              refine KT.step rfl rfl (K.callZ (ds := [resD (dlE Z) Z.length (delM Z.length (tightM Z.length (zf Z))), intsD (raiP p t i)]) [σ2.length + 1] 5 rfl plainTry_31 (map2_deep (own_deep (own_get) (by simp) (by rw [raiP_len]))) (Has31 (z := dlZ Z) (resD_mat (e := dlE Z) (n := Z.length) (a := delM Z.length (tightM Z.length (zf Z)))) (resZ_len (kz.1) _).1 (resZ_len (kz.1) _).2 (intsD_ints _) (by rw [raiP_len]; omega))) ?_
              refine KT.step rfl rfl (K.move rfl) ?_
              refine KT.step rfl rfl (K.extract rfl rfl) ?_
              refine KT.step rfl rfl (K.extract rfl rfl) ?_
              refine KT.step rfl rfl (K.assign rfl) ?_
              refine KT.step rfl rfl (K.assign rfl) ?_
              refine KT.nil ?_
              refine thenK_n ?_
              refine KC.seq ?_
              refine KC.region ?_
              refine KT.step rfl rfl (K.move rfl) ?_
              refine KT.step rfl rfl (K.neq rfl rfl) ?_
              refine KT.step rfl rfl (K.move rfl) ?_
              refine KT.bcase (fun hb162 => ?_) (fun hb162 => ?_)
              ·skip
               exact absurd ((dlE_eq Z).trans htg) (of_decide_eq_true hb162)
              ·skip
               replace hb162 := of_decide_eq_false hb162
               refine KT.step rfl rfl (K.move rfl) ?_
               refine KT.step rfl rfl (K.eql rfl rfl) ?_
               refine KT.step rfl rfl (K.move rfl) ?_
               refine KT.bcase (fun hb165 => ?_) (fun hb165 => ?_)
               ·skip
                replace hb165 := of_decide_eq_true hb165
                refine KT.step rfl rfl (K.move rfl) ?_
                refine KT.step rfl rfl (K.not rfl) ?_
                refine KT.step rfl rfl (K.pick rfl (fun _ => rfl) (fun h => by cases h)) ?_
                refine KT.step rfl rfl (K.pick rfl (fun h => by cases h) (fun _ => rfl)) ?_
                refine KT.nil ?_
                refine thenK_n ?_
                refine KC.cond rfl (fun hc169 => ?_) (fun hc169 => ?_)
                ·skip
                 rw [Bool.not_eq_true'] at hc169
                 exact Bool.noConfusion (hc169.symm.trans (mv_del hc119 (by omega) hmx (by rw [hie]; exact raiP_end (Nat.le_refl _)) hb165))
                ·skip
                 refine KC.skip ?_
                 refine thenK_n ?_
                 refine KC.seq ?_
                 refine KC.region ?_
                 refine KT.step rfl rfl (K.move rfl) ?_
                 refine KT.step rfl rfl (K.call1 rfl plainTry_16 (few16 hd hl hr)) ?_
                 refine KT.step rfl rfl (K.move rfl) ?_
                 refine KT.step rfl rfl (K.call2 rfl rfl plainTry_27 (Reset27 hmz fz.1 fz.2 kz.1)) ?_
                 refine KT.step rfl rfl (K.move rfl) ?_
                 refine KT.step rfl rfl (K.extract rfl rfl) ?_
                 refine KT.step rfl rfl (K.extract rfl rfl) ?_
                 refine KT.step rfl rfl (K.assign rfl) ?_
                 refine KT.step rfl rfl (K.assign rfl) ?_
                 refine KT.nil ?_
                 refine thenK_n ?_
                 refine KC.seq ?_
                 refine KC.seq ?_
                 refine KC.region ?_
                 refine KT.step rfl rfl (K.move rfl) ?_
                 refine KT.step rfl rfl (K.neq rfl rfl) ?_
                 refine KT.nil ?_
                 refine thenK_n ?_
                 refine KC.cond rfl (fun hc178 => ?_) (fun hc178 => ?_)
                 ·skip
                  replace hc178 := of_decide_eq_true hc178
                  refine KC.seq ?_
                  refine KC.region ?_
                  refine KT.step rfl rfl (K.move rfl) ?_
                  refine KT.step rfl rfl (K.eql rfl rfl) ?_
                  refine KT.step rfl rfl (K.move rfl) ?_
                  refine KT.bcase (fun hb181 => ?_) (fun hb181 => ?_)
                  ·skip
                   replace hb181 := of_decide_eq_true hb181
                   refine KT.step rfl rfl (K.call0 plainTry_21 (awake21)) ?_
                   refine KT.step rfl rfl (K.pick rfl (fun _ => rfl) (fun h => by cases h)) ?_
                   refine KT.step rfl rfl (K.assign rfl) ?_
                   refine KT.nil ?_
                   refine thenK_n ?_
                   refine KC.ret ?_
                   refine thenK_r ?_
                   exact ⟨.inl rfl, _, rfl, rfl⟩
                  ·skip
                   rcases rs_cases (s := s) htg with h | h
                   ·exact absurd h.1 hc178
                   ·exact absurd h (of_decide_eq_false hb181)
                 ·skip
                  replace hc178 := of_decide_eq_false hc178
                  have hre := Classical.not_not.1 hc178
                  have hsb : setB Z.length s = true := by
                   rcases rs_cases (s := s) htg with h | h
                   ·exact h.2
                   ·rw [h] at hre; cases hre
                  have hsb2 := hsb
                  unfold setB at hsb2
                  simp only [Bool.and_eq_true, decide_eq_true_eq] at hsb2
                  obtain ⟨⟨hs0, hs1⟩, _⟩ := hsb2
                  obtain ⟨s, rfl⟩ := Int.eq_ofNat_of_zero_le hs0
                  have hp6 : 2 ^ Z.length ≤ 2 ^ 6 := Nat.pow_le_pow_right (by decide) (by omega)
                  have hs2 : s < 2 ^ 63 := by generalize 2 ^ Z.length = q at *; omega
                  refine KC.skip ?_
                  refine thenK_n ?_
                  refine KC.seq ?_
                  refine KC.seq ?_
                  refine KC.region ?_
                  refine KT.step rfl rfl (K.move rfl) ?_
                  refine KT.step rfl rfl (K.len rfl he Try.underlying23) ?_
                  refine KT.step rfl rfl (K.move rfl) ?_
                  refine KT.nil ?_
                  refine thenK_n ?_
                  refine KC.block ?_
                  refine KC.loop (fun q : List VObj × DV × Nat => q.1) (fun q => [(0, .d d), (1, .d q.2.1), (3, .d (DI (s : Nat))), (24, .d (resD (rsE Z (s : Nat)) Z.length (resM Z.length ((s : Nat) : Int).toNat (tightM Z.length (zf Z))))), (185, .d (DI (p.length : Nat))), (186, .d (DI (q.2.2 : Nat)))]) (fun q => Ints q.2.1 (zerP p s q.2.2) ∧ q.2.2 ≤ p.length) (fun q => p.length - q.2.2) (_, e, 0) ⟨he, Nat.zero_le _⟩ rfl (by simp [Go.Vm.look, extK, enterK]) ?_
                  intro q hq
                  obtain ⟨hq1, hq2⟩ := hq
                  refine KC.seq ?_
                  refine KC.region ?_
                  refine KT.step rfl rfl (K.lss rfl rfl) ?_
                  refine KT.nil ?_
                  refine thenK_n ?_
                  refine KC.seq ?_
                  refine KC.cond rfl (fun hc187 => ?_) (fun hc187 => ?_)
                  ·skip
                   replace hc187 := of_decide_eq_true hc187
                   have hbit := bitOne s (q.2.2 + 1)
                   refine KC.skip ?_
                   refine thenK_n ?_
                   refine KC.seq ?_
                   refine KC.block ?_
                   refine KC.seq ?_
                   refine KC.region ?_
                   refine KT.step rfl rfl (K.move rfl) ?_
                   refine KT.step rfl rfl (K.assign rfl) ?_
                   refine KT.nil ?_
                   refine thenK_n ?_
                   refine KC.seq ?_
                   refine KC.region ?_
                   refine KT.step rfl rfl (K.move rfl) ?_
                   refine KT.step rfl rfl (K.move rfl) ?_
                   refine KT.step rfl rfl (K.add rfl rfl (oneN (by omega))) ?_
                   refine KT.step rfl rfl (K.shr rfl rfl (by omega) (shrI (a := s) (i := q.2.2 + 1) (by omega))) ?_
                   refine KT.step rfl rfl (K.band rfl rfl (show IntKind.i64.wrap (BitVec.ofInt IntKind.i64.bits ((s / 2 ^ (q.2.2 + 1) : Nat) : Int) &&& BitVec.ofInt IntKind.i64.bits (1 : Int)).toNat = ((s / 2 ^ (q.2.2 + 1) &&& 1 : Nat) : Int) from andI (b := 1) (Nat.lt_of_le_of_lt (Nat.div_le_self _ _) hs2) (by decide))) ?_
                   refine KT.step rfl rfl (K.eql rfl rfl) ?_
                   refine KT.nil ?_
                   refine thenK_n ?_
                   refine KC.cond rfl (fun hc194 => ?_) (fun hc194 => ?_)
                   ·skip
                    replace hc194 := of_decide_eq_true hc194
                    have htb : s.testBit (q.2.2 + 1) = true := by rw [← hbit]; exact decide_eq_true hc194
                    refine KC.seq ?_
                    refine KC.region ?_
                    refine KT.step rfl rfl (K.move rfl) ?_
                    refine KT.step rfl rfl (K.callG (τ := [⟨[], 0⟩, ⟨cellsI (zerP p s q.2.2), 0⟩]) rfl plainTry_39 (clone39_ints hq1 (by rw [zerP_len]; omega) (by rw [zerP_len]; omega))) ?_
                    refine KT.step rfl rfl (K.assign rfl) ?_
                    refine KT.nil ?_
                    refine thenK_n ?_
                    refine KC.region ?_
                    refine KT.step rfl rfl (K.move rfl) ?_
                    refine KT.step rfl rfl (K.move rfl) ?_
                    refine KT.step rfl rfl (K.idxO rfl rfl (by rw [zerP_len]; omega) Try.underlying23 Try.size3) ?_
                    refine KT.step rfl rfl (K.storeO rfl rfl own_get (by rw [cellsI_len, zerP_len]; omega) rfl rfl Try.size3) ?_
                    refine KT.nil ?_
                    refine blockK_n ?_
                    refine thenK_n ?_
                    refine KC.ghost [q.1.length + 1] 5 (t := 1) rfl (own_deep (l := (zerP p s q.2.2).set q.2.2 0) (by rw [own_set, cellsI_set]; exact own_get) (by simp) (by rw [List.length_set])) ?_
                    refine KC.region ?_
                    refine KT.step rfl rfl (K.add rfl rfl (wrap_id (by omega))) ?_
                    refine KT.step rfl rfl (K.move rfl) ?_
                    refine KT.nil ?_
                    refine thenK_n ?_
                    refine ⟨(_, intsD ((zerP p s q.2.2).set q.2.2 0), q.2.2 + 1), ⟨?_, by simp only; omega⟩, by simp only; omega, rfl, by simp [Go.Vm.look, extK]⟩
                    show Ints _ (zerP p s (q.2.2 + 1))
                    rw [zerP, if_pos htb]
                    exact intsD_ints _
                   ·skip
                    replace hc194 := of_decide_eq_false hc194
                    have htb : ¬ s.testBit (q.2.2 + 1) = true := by rw [← hbit]; simpa using hc194
                    refine KC.skip ?_
                    refine blockK_n ?_
                    refine thenK_n ?_
                    refine KC.region ?_
                    refine KT.step rfl rfl (K.add rfl rfl (wrap_id (by omega))) ?_
                    refine KT.step rfl rfl (K.move rfl) ?_
                    refine KT.nil ?_
                    refine thenK_n ?_
                    refine ⟨(_, q.2.1, q.2.2 + 1), ⟨?_, by simp only; omega⟩, by simp only; omega, rfl, by simp [Go.Vm.look, extK]⟩
                    show Ints _ (zerP p s (q.2.2 + 1))
                    rw [zerP, if_neg htb]
                    exact hq1
                  ·skip
                   replace hc187 := of_decide_eq_false hc187
                   refine KC.exit ?_
                   refine thenK_x ?_
                   refine thenK_x ?_
                   refine blockK_e ?_
                   refine thenK_n ?_
                   refine KC.seq ?_
                   refine KC.region ?_
                   refine KT.step rfl rfl (K.move rfl) ?_
                   refine KT.step rfl rfl (K.move rfl) ?_
                   refine KT.step rfl rfl (K.call2 rfl rfl plainTry_31 (Has31 (z := rsZ Z s) (resD_mat (e := rsE Z ((s : Nat) : Int)) (n := Z.length) (a := resM Z.length (((s : Nat) : Int)).toNat (tightM Z.length (zf Z)))) (resZ_len (kz.1) _).1 (resZ_len (kz.1) _).2 hq1 (by rw [zerP_len]; omega))) ?_
                   refine KT.step rfl rfl (K.move rfl) ?_
                   refine KT.step rfl rfl (K.extract rfl rfl) ?_
                   refine KT.step rfl rfl (K.extract rfl rfl) ?_
                   refine KT.step rfl rfl (K.assign rfl) ?_
                   refine KT.step rfl rfl (K.assign rfl) ?_
                   refine KT.nil ?_
                   refine thenK_n ?_
                   refine KC.seq ?_
                   refine KC.region ?_
                   refine KT.step rfl rfl (K.move rfl) ?_
                   refine KT.step rfl rfl (K.neq rfl rfl) ?_
                   refine KT.step rfl rfl (K.move rfl) ?_
                   refine KT.bcase (fun hb209 => ?_) (fun hb209 => ?_)
                   ·skip
                    replace hb209 := of_decide_eq_true hb209
                    refine KT.skip rfl rfl ?_
                    refine KT.step rfl rfl (K.pick rfl (fun _ => rfl) (fun h => by cases h)) ?_
                    refine KT.step rfl rfl (K.move rfl) ?_
                    refine KT.step rfl rfl (K.call0 plainTry_21 (awake21)) ?_
                    refine KT.step rfl rfl (K.pick rfl (fun _ => rfl) (fun h => by cases h)) ?_
                    refine KT.step rfl rfl (K.assign rfl) ?_
                    refine KT.nil ?_
                    refine thenK_n ?_
                    refine KC.ret ?_
                    exact ⟨.inl rfl, _, rfl, rfl⟩
                   ·skip
                    replace hb209 := of_decide_eq_false hb209
                    refine KT.step rfl rfl (K.move rfl) ?_
                    refine KT.step rfl rfl (K.pick rfl (fun h => by cases h) (fun _ => rfl)) ?_
                    refine KT.step rfl rfl (K.move rfl) ?_
                    refine KT.bcase (fun hb212 => ?_) (fun hb212 => ?_)
                    ·skip
                     refine KT.step rfl rfl (K.call0 plainTry_21 (awake21)) ?_
                     refine KT.step rfl rfl (K.pick rfl (fun _ => rfl) (fun h => by cases h)) ?_
                     refine KT.step rfl rfl (K.assign rfl) ?_
                     refine KT.nil ?_
                     refine thenK_n ?_
                     refine KC.ret ?_
                     exact ⟨.inl rfl, _, rfl, rfl⟩
                    ·skip
                     have hqe : q.2.2 = p.length := by omega
                     exact Bool.noConfusion (hb212.symm.trans (mv_res hc119 hre (by rw [hqe]; rfl) (Classical.not_not.1 hb209)))
               ·skip
                replace hb165 := of_decide_eq_false hb165
                refine KT.skip rfl rfl ?_
                refine KT.skip rfl rfl ?_
                refine KT.step rfl rfl (K.pick rfl (fun h => by cases h) (fun _ => rfl)) ?_
                refine KT.step rfl rfl (K.pick rfl (fun h => by cases h) (fun _ => rfl)) ?_
                refine KT.nil ?_
                refine thenK_n ?_
                refine KC.cond rfl (fun hc169 => ?_) (fun hc169 => ?_)
                ·cases hc169
                ·skip
                 refine KC.skip ?_
                 refine thenK_n ?_
                 refine KC.seq ?_
                 refine KC.region ?_
                 refine KT.step rfl rfl (K.move rfl) ?_
                 refine KT.step rfl rfl (K.call1 rfl plainTry_16 (few16 hd hl hr)) ?_
                 refine KT.step rfl rfl (K.move rfl) ?_
                 refine KT.step rfl rfl (K.call2 rfl rfl plainTry_27 (Reset27 hmz fz.1 fz.2 kz.1)) ?_
                 refine KT.step rfl rfl (K.move rfl) ?_
                 refine KT.step rfl rfl (K.extract rfl rfl) ?_
                 refine KT.step rfl rfl (K.extract rfl rfl) ?_
                 refine KT.step rfl rfl (K.assign rfl) ?_
                 refine KT.step rfl rfl (K.assign rfl) ?_
                 refine KT.nil ?_
                 refine thenK_n ?_
                 refine KC.seq ?_
                 refine KC.seq ?_
                 refine KC.region ?_
                 refine KT.step rfl rfl (K.move rfl) ?_
                 refine KT.step rfl rfl (K.neq rfl rfl) ?_
                 refine KT.nil ?_
                 refine thenK_n ?_
                 refine KC.cond rfl (fun hc178 => ?_) (fun hc178 => ?_)
                 ·skip
                  replace hc178 := of_decide_eq_true hc178
                  refine KC.seq ?_
                  refine KC.region ?_
                  refine KT.step rfl rfl (K.move rfl) ?_
                  refine KT.step rfl rfl (K.eql rfl rfl) ?_
                  refine KT.step rfl rfl (K.move rfl) ?_
                  refine KT.bcase (fun hb181 => ?_) (fun hb181 => ?_)
                  ·skip
                   replace hb181 := of_decide_eq_true hb181
                   refine KT.step rfl rfl (K.call0 plainTry_21 (awake21)) ?_
                   refine KT.step rfl rfl (K.pick rfl (fun _ => rfl) (fun h => by cases h)) ?_
                   refine KT.step rfl rfl (K.assign rfl) ?_
                   refine KT.nil ?_
                   refine thenK_n ?_
                   refine KC.ret ?_
                   refine thenK_r ?_
                   exact ⟨.inl rfl, _, rfl, rfl⟩
                  ·skip
                   rcases rs_cases (s := s) htg with h | h
                   ·exact absurd h.1 hc178
                   ·exact absurd h (of_decide_eq_false hb181)
                 ·skip
                  replace hc178 := of_decide_eq_false hc178
                  have hre := Classical.not_not.1 hc178
                  have hsb : setB Z.length s = true := by
                   rcases rs_cases (s := s) htg with h | h
                   ·exact h.2
                   ·rw [h] at hre; cases hre
                  have hsb2 := hsb
                  unfold setB at hsb2
                  simp only [Bool.and_eq_true, decide_eq_true_eq] at hsb2
                  obtain ⟨⟨hs0, hs1⟩, _⟩ := hsb2
                  obtain ⟨s, rfl⟩ := Int.eq_ofNat_of_zero_le hs0
                  have hp6 : 2 ^ Z.length ≤ 2 ^ 6 := Nat.pow_le_pow_right (by decide) (by omega)
                  have hs2 : s < 2 ^ 63 := by generalize 2 ^ Z.length = q at *; omega
                  refine KC.skip ?_
                  refine thenK_n ?_
                  refine KC.seq ?_
                  refine KC.seq ?_
                  refine KC.region ?_
                  refine KT.step rfl rfl (K.move rfl) ?_
                  refine KT.step rfl rfl (K.len rfl he Try.underlying23) ?_
                  refine KT.step rfl rfl (K.move rfl) ?_
                  refine KT.nil ?_
                  refine thenK_n ?_
                  refine KC.block ?_
                  refine KC.loop (fun q : List VObj × DV × Nat => q.1) (fun q => [(0, .d d), (1, .d q.2.1), (3, .d (DI (s : Nat))), (24, .d (resD (rsE Z (s : Nat)) Z.length (resM Z.length ((s : Nat) : Int).toNat (tightM Z.length (zf Z))))), (185, .d (DI (p.length : Nat))), (186, .d (DI (q.2.2 : Nat)))]) (fun q => Ints q.2.1 (zerP p s q.2.2) ∧ q.2.2 ≤ p.length) (fun q => p.length - q.2.2) (_, e, 0) ⟨he, Nat.zero_le _⟩ rfl (by simp [Go.Vm.look, extK, enterK]) ?_
                  intro q hq
                  obtain ⟨hq1, hq2⟩ := hq
                  refine KC.seq ?_
                  refine KC.region ?_
                  refine KT.step rfl rfl (K.lss rfl rfl) ?_
                  refine KT.nil ?_
                  refine thenK_n ?_
                  refine KC.seq ?_
                  refine KC.cond rfl (fun hc187 => ?_) (fun hc187 => ?_)
                  ·skip
                   replace hc187 := of_decide_eq_true hc187
                   have hbit := bitOne s (q.2.2 + 1)
                   refine KC.skip ?_
                   refine thenK_n ?_
                   refine KC.seq ?_
                   refine KC.block ?_
                   refine KC.seq ?_
                   refine KC.region ?_
                   refine KT.step rfl rfl (K.move rfl) ?_
                   refine KT.step rfl rfl (K.assign rfl) ?_
                   refine KT.nil ?_
                   refine thenK_n ?_
                   refine KC.seq ?_
                   refine KC.region ?_
                   refine KT.step rfl rfl (K.move rfl) ?_
                   refine KT.step rfl rfl (K.move rfl) ?_
                   refine KT.step rfl rfl (K.add rfl rfl (oneN (by omega))) ?_
                   refine KT.step rfl rfl (K.shr rfl rfl (by omega) (shrI (a := s) (i := q.2.2 + 1) (by omega))) ?_
                   refine KT.step rfl rfl (K.band rfl rfl (show IntKind.i64.wrap (BitVec.ofInt IntKind.i64.bits ((s / 2 ^ (q.2.2 + 1) : Nat) : Int) &&& BitVec.ofInt IntKind.i64.bits (1 : Int)).toNat = ((s / 2 ^ (q.2.2 + 1) &&& 1 : Nat) : Int) from andI (b := 1) (Nat.lt_of_le_of_lt (Nat.div_le_self _ _) hs2) (by decide))) ?_
                   refine KT.step rfl rfl (K.eql rfl rfl) ?_
                   refine KT.nil ?_
                   refine thenK_n ?_
                   refine KC.cond rfl (fun hc194 => ?_) (fun hc194 => ?_)
                   ·skip
                    replace hc194 := of_decide_eq_true hc194
                    have htb : s.testBit (q.2.2 + 1) = true := by rw [← hbit]; exact decide_eq_true hc194
                    refine KC.seq ?_
                    refine KC.region ?_
                    refine KT.step rfl rfl (K.move rfl) ?_
                    refine KT.step rfl rfl (K.callG (τ := [⟨[], 0⟩, ⟨cellsI (zerP p s q.2.2), 0⟩]) rfl plainTry_39 (clone39_ints hq1 (by rw [zerP_len]; omega) (by rw [zerP_len]; omega))) ?_
                    refine KT.step rfl rfl (K.assign rfl) ?_
                    refine KT.nil ?_
                    refine thenK_n ?_
                    refine KC.region ?_
                    refine KT.step rfl rfl (K.move rfl) ?_
                    refine KT.step rfl rfl (K.move rfl) ?_
                    refine KT.step rfl rfl (K.idxO rfl rfl (by rw [zerP_len]; omega) Try.underlying23 Try.size3) ?_
                    refine KT.step rfl rfl (K.storeO rfl rfl own_get (by rw [cellsI_len, zerP_len]; omega) rfl rfl Try.size3) ?_
                    refine KT.nil ?_
                    refine blockK_n ?_
                    refine thenK_n ?_
                    refine KC.ghost [q.1.length + 1] 5 (t := 1) rfl (own_deep (l := (zerP p s q.2.2).set q.2.2 0) (by rw [own_set, cellsI_set]; exact own_get) (by simp) (by rw [List.length_set])) ?_
                    refine KC.region ?_
                    refine KT.step rfl rfl (K.add rfl rfl (wrap_id (by omega))) ?_
                    refine KT.step rfl rfl (K.move rfl) ?_
                    refine KT.nil ?_
                    refine thenK_n ?_
                    refine ⟨(_, intsD ((zerP p s q.2.2).set q.2.2 0), q.2.2 + 1), ⟨?_, by simp only; omega⟩, by simp only; omega, rfl, by simp [Go.Vm.look, extK]⟩
                    show Ints _ (zerP p s (q.2.2 + 1))
                    rw [zerP, if_pos htb]
                    exact intsD_ints _
                   ·skip
                    replace hc194 := of_decide_eq_false hc194
                    have htb : ¬ s.testBit (q.2.2 + 1) = true := by rw [← hbit]; simpa using hc194
                    refine KC.skip ?_
                    refine blockK_n ?_
                    refine thenK_n ?_
                    refine KC.region ?_
                    refine KT.step rfl rfl (K.add rfl rfl (wrap_id (by omega))) ?_
                    refine KT.step rfl rfl (K.move rfl) ?_
                    refine KT.nil ?_
                    refine thenK_n ?_
                    refine ⟨(_, q.2.1, q.2.2 + 1), ⟨?_, by simp only; omega⟩, by simp only; omega, rfl, by simp [Go.Vm.look, extK]⟩
                    show Ints _ (zerP p s (q.2.2 + 1))
                    rw [zerP, if_neg htb]
                    exact hq1
                  ·skip
                   replace hc187 := of_decide_eq_false hc187
                   refine KC.exit ?_
                   refine thenK_x ?_
                   refine thenK_x ?_
                   refine blockK_e ?_
                   refine thenK_n ?_
                   refine KC.seq ?_
                   refine KC.region ?_
                   refine KT.step rfl rfl (K.move rfl) ?_
                   refine KT.step rfl rfl (K.move rfl) ?_
                   refine KT.step rfl rfl (K.call2 rfl rfl plainTry_31 (Has31 (z := rsZ Z s) (resD_mat (e := rsE Z ((s : Nat) : Int)) (n := Z.length) (a := resM Z.length (((s : Nat) : Int)).toNat (tightM Z.length (zf Z)))) (resZ_len (kz.1) _).1 (resZ_len (kz.1) _).2 hq1 (by rw [zerP_len]; omega))) ?_
                   refine KT.step rfl rfl (K.move rfl) ?_
                   refine KT.step rfl rfl (K.extract rfl rfl) ?_
                   refine KT.step rfl rfl (K.extract rfl rfl) ?_
                   refine KT.step rfl rfl (K.assign rfl) ?_
                   refine KT.step rfl rfl (K.assign rfl) ?_
                   refine KT.nil ?_
                   refine thenK_n ?_
                   refine KC.seq ?_
                   refine KC.region ?_
                   refine KT.step rfl rfl (K.move rfl) ?_
                   refine KT.step rfl rfl (K.neq rfl rfl) ?_
                   refine KT.step rfl rfl (K.move rfl) ?_
                   refine KT.bcase (fun hb209 => ?_) (fun hb209 => ?_)
                   ·skip
                    replace hb209 := of_decide_eq_true hb209
                    refine KT.skip rfl rfl ?_
                    refine KT.step rfl rfl (K.pick rfl (fun _ => rfl) (fun h => by cases h)) ?_
                    refine KT.step rfl rfl (K.move rfl) ?_
                    refine KT.step rfl rfl (K.call0 plainTry_21 (awake21)) ?_
                    refine KT.step rfl rfl (K.pick rfl (fun _ => rfl) (fun h => by cases h)) ?_
                    refine KT.step rfl rfl (K.assign rfl) ?_
                    refine KT.nil ?_
                    refine thenK_n ?_
                    refine KC.ret ?_
                    exact ⟨.inl rfl, _, rfl, rfl⟩
                   ·skip
                    replace hb209 := of_decide_eq_false hb209
                    refine KT.step rfl rfl (K.move rfl) ?_
                    refine KT.step rfl rfl (K.pick rfl (fun h => by cases h) (fun _ => rfl)) ?_
                    refine KT.step rfl rfl (K.move rfl) ?_
                    refine KT.bcase (fun hb212 => ?_) (fun hb212 => ?_)
                    ·skip
                     refine KT.step rfl rfl (K.call0 plainTry_21 (awake21)) ?_
                     refine KT.step rfl rfl (K.pick rfl (fun _ => rfl) (fun h => by cases h)) ?_
                     refine KT.step rfl rfl (K.assign rfl) ?_
                     refine KT.nil ?_
                     refine thenK_n ?_
                     refine KC.ret ?_
                     exact ⟨.inl rfl, _, rfl, rfl⟩
                    ·skip
                     have hqe : q.2.2 = p.length := by omega
                     exact Bool.noConfusion (hb212.symm.trans (mv_res hc119 hre (by rw [hqe]; rfl) (Classical.not_not.1 hb209)))
             ·skip
              replace hc147 := of_decide_eq_false hc147
              refine KC.skip ?_
              refine thenK_n ?_
              refine KC.seq ?_
              refine KC.region ?_
              refine KT.step rfl rfl (K.move rfl) ?_
              refine KT.step rfl rfl (K.call1 rfl plainTry_16 (few16 hd hl hr)) ?_
              refine KT.step rfl rfl (K.move rfl) ?_
              refine KT.step rfl rfl (K.call2 rfl rfl plainTry_27 (Reset27 hmz fz.1 fz.2 kz.1)) ?_
              refine KT.step rfl rfl (K.move rfl) ?_
              refine KT.step rfl rfl (K.extract rfl rfl) ?_
              refine KT.step rfl rfl (K.extract rfl rfl) ?_
              refine KT.step rfl rfl (K.assign rfl) ?_
              refine KT.step rfl rfl (K.assign rfl) ?_
              refine KT.nil ?_
              refine thenK_n ?_
              refine KC.seq ?_
              refine KC.seq ?_
              refine KC.region ?_
              refine KT.step rfl rfl (K.move rfl) ?_
              refine KT.step rfl rfl (K.neq rfl rfl) ?_
              refine KT.nil ?_
              refine thenK_n ?_
              refine KC.cond rfl (fun hc178 => ?_) (fun hc178 => ?_)
              ·skip
               replace hc178 := of_decide_eq_true hc178
               refine KC.seq ?_
               refine KC.region ?_
               refine KT.step rfl rfl (K.move rfl) ?_
               refine KT.step rfl rfl (K.eql rfl rfl) ?_
               refine KT.step rfl rfl (K.move rfl) ?_
               refine KT.bcase (fun hb181 => ?_) (fun hb181 => ?_)
               ·skip
                replace hb181 := of_decide_eq_true hb181
                refine KT.step rfl rfl (K.call0 plainTry_21 (awake21)) ?_
                refine KT.step rfl rfl (K.pick rfl (fun _ => rfl) (fun h => by cases h)) ?_
                refine KT.step rfl rfl (K.assign rfl) ?_
                refine KT.nil ?_
                refine thenK_n ?_
                refine KC.ret ?_
                refine thenK_r ?_
                exact ⟨.inl rfl, _, rfl, rfl⟩
               ·skip
                rcases rs_cases (s := s) htg with h | h
                ·exact absurd h.1 hc178
                ·exact absurd h (of_decide_eq_false hb181)
              ·skip
               replace hc178 := of_decide_eq_false hc178
               have hre := Classical.not_not.1 hc178
               have hsb : setB Z.length s = true := by
                rcases rs_cases (s := s) htg with h | h
                ·exact h.2
                ·rw [h] at hre; cases hre
               have hsb2 := hsb
               unfold setB at hsb2
               simp only [Bool.and_eq_true, decide_eq_true_eq] at hsb2
               obtain ⟨⟨hs0, hs1⟩, _⟩ := hsb2
               obtain ⟨s, rfl⟩ := Int.eq_ofNat_of_zero_le hs0
               have hp6 : 2 ^ Z.length ≤ 2 ^ 6 := Nat.pow_le_pow_right (by decide) (by omega)
               have hs2 : s < 2 ^ 63 := by generalize 2 ^ Z.length = q at *; omega
               refine KC.skip ?_
               refine thenK_n ?_
               refine KC.seq ?_
               refine KC.seq ?_
               refine KC.region ?_
               refine KT.step rfl rfl (K.move rfl) ?_
               refine KT.step rfl rfl (K.len rfl he Try.underlying23) ?_
               refine KT.step rfl rfl (K.move rfl) ?_
               refine KT.nil ?_
               refine thenK_n ?_
               refine KC.block ?_
               refine KC.loop (fun q : List VObj × DV × Nat => q.1) (fun q => [(0, .d d), (1, .d q.2.1), (3, .d (DI (s : Nat))), (24, .d (resD (rsE Z (s : Nat)) Z.length (resM Z.length ((s : Nat) : Int).toNat (tightM Z.length (zf Z))))), (185, .d (DI (p.length : Nat))), (186, .d (DI (q.2.2 : Nat)))]) (fun q => Ints q.2.1 (zerP p s q.2.2) ∧ q.2.2 ≤ p.length) (fun q => p.length - q.2.2) (_, e, 0) ⟨he, Nat.zero_le _⟩ rfl (by simp [Go.Vm.look, extK, enterK]) ?_
               intro q hq
               obtain ⟨hq1, hq2⟩ := hq
               refine KC.seq ?_
               refine KC.region ?_
               refine KT.step rfl rfl (K.lss rfl rfl) ?_
               refine KT.nil ?_
               refine thenK_n ?_
               refine KC.seq ?_
               refine KC.cond rfl (fun hc187 => ?_) (fun hc187 => ?_)
               ·skip
                replace hc187 := of_decide_eq_true hc187
                have hbit := bitOne s (q.2.2 + 1)
                refine KC.skip ?_
                refine thenK_n ?_
                refine KC.seq ?_
                refine KC.block ?_
                refine KC.seq ?_
                refine KC.region ?_
                refine KT.step rfl rfl (K.move rfl) ?_
                refine KT.step rfl rfl (K.assign rfl) ?_
                refine KT.nil ?_
                refine thenK_n ?_
                refine KC.seq ?_
                refine KC.region ?_
                refine KT.step rfl rfl (K.move rfl) ?_
                refine KT.step rfl rfl (K.move rfl) ?_
                refine KT.step rfl rfl (K.add rfl rfl (oneN (by omega))) ?_
                refine KT.step rfl rfl (K.shr rfl rfl (by omega) (shrI (a := s) (i := q.2.2 + 1) (by omega))) ?_
                refine KT.step rfl rfl (K.band rfl rfl (show IntKind.i64.wrap (BitVec.ofInt IntKind.i64.bits ((s / 2 ^ (q.2.2 + 1) : Nat) : Int) &&& BitVec.ofInt IntKind.i64.bits (1 : Int)).toNat = ((s / 2 ^ (q.2.2 + 1) &&& 1 : Nat) : Int) from andI (b := 1) (Nat.lt_of_le_of_lt (Nat.div_le_self _ _) hs2) (by decide))) ?_
                refine KT.step rfl rfl (K.eql rfl rfl) ?_
                refine KT.nil ?_
                refine thenK_n ?_
                refine KC.cond rfl (fun hc194 => ?_) (fun hc194 => ?_)
                ·skip
                 replace hc194 := of_decide_eq_true hc194
                 have htb : s.testBit (q.2.2 + 1) = true := by rw [← hbit]; exact decide_eq_true hc194
                 refine KC.seq ?_
                 refine KC.region ?_
                 refine KT.step rfl rfl (K.move rfl) ?_
                 refine KT.step rfl rfl (K.callG (τ := [⟨[], 0⟩, ⟨cellsI (zerP p s q.2.2), 0⟩]) rfl plainTry_39 (clone39_ints hq1 (by rw [zerP_len]; omega) (by rw [zerP_len]; omega))) ?_
                 refine KT.step rfl rfl (K.assign rfl) ?_
                 refine KT.nil ?_
                 refine thenK_n ?_
                 refine KC.region ?_
                 refine KT.step rfl rfl (K.move rfl) ?_
                 refine KT.step rfl rfl (K.move rfl) ?_
                 refine KT.step rfl rfl (K.idxO rfl rfl (by rw [zerP_len]; omega) Try.underlying23 Try.size3) ?_
                 refine KT.step rfl rfl (K.storeO rfl rfl own_get (by rw [cellsI_len, zerP_len]; omega) rfl rfl Try.size3) ?_
                 refine KT.nil ?_
                 refine blockK_n ?_
                 refine thenK_n ?_
                 refine KC.ghost [q.1.length + 1] 5 (t := 1) rfl (own_deep (l := (zerP p s q.2.2).set q.2.2 0) (by rw [own_set, cellsI_set]; exact own_get) (by simp) (by rw [List.length_set])) ?_
                 refine KC.region ?_
                 refine KT.step rfl rfl (K.add rfl rfl (wrap_id (by omega))) ?_
                 refine KT.step rfl rfl (K.move rfl) ?_
                 refine KT.nil ?_
                 refine thenK_n ?_
                 refine ⟨(_, intsD ((zerP p s q.2.2).set q.2.2 0), q.2.2 + 1), ⟨?_, by simp only; omega⟩, by simp only; omega, rfl, by simp [Go.Vm.look, extK]⟩
                 show Ints _ (zerP p s (q.2.2 + 1))
                 rw [zerP, if_pos htb]
                 exact intsD_ints _
                ·skip
                 replace hc194 := of_decide_eq_false hc194
                 have htb : ¬ s.testBit (q.2.2 + 1) = true := by rw [← hbit]; simpa using hc194
                 refine KC.skip ?_
                 refine blockK_n ?_
                 refine thenK_n ?_
                 refine KC.region ?_
                 refine KT.step rfl rfl (K.add rfl rfl (wrap_id (by omega))) ?_
                 refine KT.step rfl rfl (K.move rfl) ?_
                 refine KT.nil ?_
                 refine thenK_n ?_
                 refine ⟨(_, q.2.1, q.2.2 + 1), ⟨?_, by simp only; omega⟩, by simp only; omega, rfl, by simp [Go.Vm.look, extK]⟩
                 show Ints _ (zerP p s (q.2.2 + 1))
                 rw [zerP, if_neg htb]
                 exact hq1
               ·skip
                replace hc187 := of_decide_eq_false hc187
                refine KC.exit ?_
                refine thenK_x ?_
                refine thenK_x ?_
                refine blockK_e ?_
                refine thenK_n ?_
                refine KC.seq ?_
                refine KC.region ?_
                refine KT.step rfl rfl (K.move rfl) ?_
                refine KT.step rfl rfl (K.move rfl) ?_
                refine KT.step rfl rfl (K.call2 rfl rfl plainTry_31 (Has31 (z := rsZ Z s) (resD_mat (e := rsE Z ((s : Nat) : Int)) (n := Z.length) (a := resM Z.length (((s : Nat) : Int)).toNat (tightM Z.length (zf Z)))) (resZ_len (kz.1) _).1 (resZ_len (kz.1) _).2 hq1 (by rw [zerP_len]; omega))) ?_
                refine KT.step rfl rfl (K.move rfl) ?_
                refine KT.step rfl rfl (K.extract rfl rfl) ?_
                refine KT.step rfl rfl (K.extract rfl rfl) ?_
                refine KT.step rfl rfl (K.assign rfl) ?_
                refine KT.step rfl rfl (K.assign rfl) ?_
                refine KT.nil ?_
                refine thenK_n ?_
                refine KC.seq ?_
                refine KC.region ?_
                refine KT.step rfl rfl (K.move rfl) ?_
                refine KT.step rfl rfl (K.neq rfl rfl) ?_
                refine KT.step rfl rfl (K.move rfl) ?_
                refine KT.bcase (fun hb209 => ?_) (fun hb209 => ?_)
                ·skip
                 replace hb209 := of_decide_eq_true hb209
                 refine KT.skip rfl rfl ?_
                 refine KT.step rfl rfl (K.pick rfl (fun _ => rfl) (fun h => by cases h)) ?_
                 refine KT.step rfl rfl (K.move rfl) ?_
                 refine KT.step rfl rfl (K.call0 plainTry_21 (awake21)) ?_
                 refine KT.step rfl rfl (K.pick rfl (fun _ => rfl) (fun h => by cases h)) ?_
                 refine KT.step rfl rfl (K.assign rfl) ?_
                 refine KT.nil ?_
                 refine thenK_n ?_
                 refine KC.ret ?_
                 exact ⟨.inl rfl, _, rfl, rfl⟩
                ·skip
                 replace hb209 := of_decide_eq_false hb209
                 refine KT.step rfl rfl (K.move rfl) ?_
                 refine KT.step rfl rfl (K.pick rfl (fun h => by cases h) (fun _ => rfl)) ?_
                 refine KT.step rfl rfl (K.move rfl) ?_
                 refine KT.bcase (fun hb212 => ?_) (fun hb212 => ?_)
                 ·skip
                  refine KT.step rfl rfl (K.call0 plainTry_21 (awake21)) ?_
                  refine KT.step rfl rfl (K.pick rfl (fun _ => rfl) (fun h => by cases h)) ?_
                  refine KT.step rfl rfl (K.assign rfl) ?_
                  refine KT.nil ?_
                  refine thenK_n ?_
                  refine KC.ret ?_
                  exact ⟨.inl rfl, _, rfl, rfl⟩
                 ·skip
                  have hqe : q.2.2 = p.length := by omega
                  exact Bool.noConfusion (hb212.symm.trans (mv_res hc119 hre (by rw [hqe]; rfl) (Classical.not_not.1 hb209)))
       ·skip
        exact absurd hb70 (of_decide_eq_false hb102)
      ·skip
       refine KT.skip rfl rfl ?_
       refine KT.skip rfl rfl ?_
       refine KT.skip rfl rfl ?_
       refine KT.skip rfl rfl ?_
       refine KT.skip rfl rfl ?_
       refine KT.skip rfl rfl ?_
       refine KT.skip rfl rfl ?_
       refine KT.skip rfl rfl ?_
       refine KT.skip rfl rfl ?_
       refine KT.skip rfl rfl ?_
       refine KT.skip rfl rfl ?_
       refine KT.skip rfl rfl ?_
       refine KT.skip rfl rfl ?_
       refine KT.skip rfl rfl ?_
       refine KT.step rfl rfl (K.pick rfl (fun h => by cases h) (fun _ => rfl)) ?_
       refine KT.step rfl rfl (K.assign rfl) ?_
       refine KT.nil ?_
       refine ⟨by kernel_rfl, ?_⟩
       refine thenK_n ?_
       refine KC.seq ?_
       refine KC.region ?_
       refine KT.step rfl rfl (K.move rfl) ?_
       refine KT.step rfl rfl (K.move rfl) ?_
       refine KT.step rfl rfl (K.call2 rfl rfl plainTry_31 (Has31 (z := anZ Z gi gj gb) (resD_mat (e := anE Z gi gj gb) (n := Z.length) (a := tightM Z.length (andM Z (gi : Int).toNat (gj : Int).toNat gb))) (resZ_len (kz.1) _).1 (resZ_len (kz.1) _).2 he hlp)) ?_
       refine KT.step rfl rfl (K.move rfl) ?_
       refine KT.step rfl rfl (K.extract rfl rfl) ?_
       refine KT.step rfl rfl (K.extract rfl rfl) ?_
       refine KT.step rfl rfl (K.assign rfl) ?_
       refine KT.step rfl rfl (K.assign rfl) ?_
       refine KT.nil ?_
       refine thenK_n ?_
       refine KC.seq ?_
       refine KC.region ?_
       refine KT.step rfl rfl (K.move rfl) ?_
       refine KT.step rfl rfl (K.eql rfl rfl) ?_
       refine KT.step rfl rfl (K.move rfl) ?_
       refine KT.bcase (fun hb102 => ?_) (fun hb102 => ?_)
       ·skip
        replace hb102 := of_decide_eq_true hb102
        refine KT.step rfl rfl (K.move rfl) ?_
        refine KT.step rfl rfl (K.eql rfl rfl) ?_
        refine KT.step rfl rfl (K.pick rfl (fun _ => rfl) (fun h => by cases h)) ?_
        refine KT.step rfl rfl (K.move rfl) ?_
        refine KT.bcase (fun hb106 => ?_) (fun hb106 => ?_)
        ·skip
         replace hb106 := of_decide_eq_true hb106
         refine KT.step rfl rfl (K.move rfl) ?_
         refine KT.step rfl rfl (K.move rfl) ?_
         refine KT.step rfl rfl (K.neqB Try.underlying4 rfl rfl) ?_
         refine KT.step rfl rfl (K.pick rfl (fun _ => rfl) (fun h => by cases h)) ?_
         refine KT.step rfl rfl (K.move rfl) ?_
         refine KT.bcase (fun hb111 => ?_) (fun hb111 => ?_)
         ·skip
          have hm := (mv_and h0 hg).1 hb70 hb106
          rw [hb78, Bool.false_and] at hm
          exact (neq_false (hm) hb111).elim
         ·skip
          refine KT.step rfl rfl (K.move rfl) ?_
          refine KT.step rfl rfl (K.eql rfl rfl) ?_
          refine KT.step rfl rfl (K.move rfl) ?_
          refine KT.bcase (fun hb114 => ?_) (fun hb114 => ?_)
          ·skip
           replace hb114 := of_decide_eq_true hb114
           rw [hb70] at hb114
           cases hb114
          ·skip
           replace hb114 := of_decide_eq_false hb114
           refine KT.skip rfl rfl ?_
           refine KT.step rfl rfl (K.pick rfl (fun h => by cases h) (fun _ => rfl)) ?_
           refine KT.step rfl rfl (K.pick rfl (fun h => by cases h) (fun _ => rfl)) ?_
           refine KT.nil ?_
           refine thenK_n ?_
           refine KC.cond rfl (fun hc117 => ?_) (fun hc117 => ?_)
           ·cases hc117
           ·skip
            refine KC.skip ?_
            refine thenK_n ?_
            refine KC.seq ?_
            refine KC.seq ?_
            refine KC.region ?_
            refine KT.step rfl rfl (K.move rfl) ?_
            refine KT.step rfl rfl (K.not rfl) ?_
            refine KT.nil ?_
            refine thenK_n ?_
            refine KC.cond rfl (fun hc119 => ?_) (fun hc119 => ?_)
            ·skip
             refine KC.seq ?_
             refine KC.region ?_
             refine KT.step rfl rfl (K.call0 plainTry_21 (awake21)) ?_
             refine KT.step rfl rfl (K.assign rfl) ?_
             refine KT.nil ?_
             refine thenK_n ?_
             refine KC.ret ?_
             refine thenK_r ?_
             exact ⟨.inl rfl, _, rfl, rfl⟩
            ·skip
             rw [hb78] at hc119
             cases hc119
        ·skip
         replace hb106 := of_decide_eq_false hb106
         refine KT.skip rfl rfl ?_
         refine KT.skip rfl rfl ?_
         refine KT.skip rfl rfl ?_
         refine KT.step rfl rfl (K.pick rfl (fun h => by cases h) (fun _ => rfl)) ?_
         refine KT.step rfl rfl (K.move rfl) ?_
         refine KT.step rfl rfl (K.move rfl) ?_
         refine KT.step rfl rfl (K.eql rfl rfl) ?_
         refine KT.step rfl rfl (K.move rfl) ?_
         refine KT.bcase (fun hb114 => ?_) (fun hb114 => ?_)
         ·skip
          replace hb114 := of_decide_eq_true hb114
          rw [hb70] at hb114
          cases hb114
         ·skip
          replace hb114 := of_decide_eq_false hb114
          refine KT.skip rfl rfl ?_
          refine KT.step rfl rfl (K.pick rfl (fun h => by cases h) (fun _ => rfl)) ?_
          refine KT.step rfl rfl (K.pick rfl (fun h => by cases h) (fun _ => rfl)) ?_
          refine KT.nil ?_
          refine thenK_n ?_
          refine KC.cond rfl (fun hc117 => ?_) (fun hc117 => ?_)
          ·cases hc117
          ·skip
           refine KC.skip ?_
           refine thenK_n ?_
           refine KC.seq ?_
           refine KC.seq ?_
           refine KC.region ?_
           refine KT.step rfl rfl (K.move rfl) ?_
           refine KT.step rfl rfl (K.not rfl) ?_
           refine KT.nil ?_
           refine thenK_n ?_
           refine KC.cond rfl (fun hc119 => ?_) (fun hc119 => ?_)
           ·skip
            refine KC.seq ?_
            refine KC.region ?_
            refine KT.step rfl rfl (K.call0 plainTry_21 (awake21)) ?_
            refine KT.step rfl rfl (K.assign rfl) ?_
            refine KT.nil ?_
            refine thenK_n ?_
            refine KC.ret ?_
            refine thenK_r ?_
            exact ⟨.inl rfl, _, rfl, rfl⟩
           ·skip
            rw [hb78] at hc119
            cases hc119
       ·skip
        exact absurd hb70 (of_decide_eq_false hb102)
     ·cases hc73
    ·skip
     replace hb70 := of_decide_eq_false hb70
     refine KT.step rfl rfl (K.move rfl) ?_
     refine KT.step rfl rfl (K.eql rfl rfl) ?_
     refine KT.step rfl rfl (K.pick rfl (fun h => by cases h) (fun _ => rfl)) ?_
     refine KT.nil ?_
     refine thenK_n ?_
     refine KC.cond rfl (fun hc73 => ?_) (fun hc73 => ?_)
     ·skip
      replace hc73 := of_decide_eq_true hc73
      refine KC.seq ?_
      have hg : guardB ((Z.length : Int) - 1) 1000 gi gj gb = true := anE_guard (by omega)
      have hg2 := guardB_iff.1 hg
      obtain ⟨gi, rfl⟩ := Int.eq_ofNat_of_zero_le hg2.1.1.1
      obtain ⟨gj, rfl⟩ := Int.eq_ofNat_of_zero_le hg2.1.2.1
      have hgb := bnd_lim hg2.2
      have hi1 : gi < ((0 : Int) :: p).length := by have := hg2.1.1.2; simp; omega
      have hj1 : gj < ((0 : Int) :: p).length := by have := hg2.1.2.2; simp; omega
      refine KC.region ?_
      refine KT.step rfl rfl (K.build1' (v := .d (DI 0)) rfl rfl Try.underlying23 Try.one3) ?_
      refine KT.step rfl rfl (K.move rfl) ?_
      refine KT.appD rfl rfl rfl rfl he (OwnE.sl rfl rfl) (by simp; omega) Try.underlying23 Try.one3 fun σ1 x1 ho1 k1 w1 => ?_
      refine KT.step rfl rfl (K.assign rfl) ?_
      refine KT.nil ?_
      refine thenK_n ?_
      refine KC.seq ?_
      have y0 : σ1[0]? = some ⟨[.d (DI gi), .d (DI gj), .d (DI gb)], 0⟩ := k1 0 (by simp [idX]) (by simp)
      rw [show (if p = [] then true else false) = false from if_neg (fun h => by subst h; simp at hpl; omega)] at ho1
      obtain ⟨id, rfl, hs1⟩ := ownE_ex ho1
      have hid : id ≠ 0 := by
       rcases w1 with h | ⟨j, h, hj⟩
       ·simp [idX] at h; omega
       ·simp [idX] at h; simp at hj; omega
      refine KC.ghost [id] 5 (t := 14) rfl (own_deep (l := 0 :: p) hs1 (by simp) (by simp)) ?_
      replace y0 := (freezeIds_not (ids := [id]) (by simpa using fun h => hid h.symm)).trans y0
      generalize freezeIds σ1 [id] = σ1' at y0 ⊢
      refine KC.draw Try.mixed ?_
      refine KT.step rfl rfl (K.move rfl) ?_
      refine KT.step rfl rfl (K.move rfl) ?_
      refine KT.bcase (fun hb78 => ?_) (fun hb78 => ?_)
      ·skip
       have hw : wB (pv p gi - pv p gj) 4 gb = decide (pv p ((gi : Nat) : Int).toNat - pv p ((gj : Nat) : Int).toNat ≤ gre gb 4) := wB_4 (by have := pv_lim hall gi; have := pv_lim hall gj; omega)
       refine KT.step rfl rfl (K.move rfl) ?_
       refine KT.step rfl rfl (K.fieldAddrO rfl Try.fld36_0 Try.size3) ?_
       refine KT.step rfl rfl (K.loadO rfl y0 (by simp) rfl Try.agg3) ?_
       refine KT.idxI rfl rfl rfl (intsD_ints (0 :: p)) rfl hi1 Try.underlying23 Try.size3 fun cs82 => ?_
       refine KT.step rfl rfl (K.load rfl Try.agg3) ?_
       refine KT.step rfl rfl (K.move rfl) ?_
       refine KT.step rfl rfl (K.fieldAddrO rfl Try.fld36_1 Try.size3) ?_
       refine KT.step rfl rfl (K.loadO rfl y0 (by simp) rfl Try.agg3) ?_
       refine KT.idxI rfl rfl rfl (intsD_ints (0 :: p)) rfl hj1 Try.underlying23 Try.size3 fun cs87 => ?_
       refine KT.step rfl rfl (K.load rfl Try.agg3) ?_
       rw [pv_cons hi1, pv_cons hj1]
       refine KT.step rfl rfl (K.sub rfl rfl (wrap_id (by have := pv_lim hall gi; have := pv_lim hall gj; omega))) ?_
       refine KT.step rfl rfl (K.fieldAddrO rfl Try.fld36_2 Try.size3) ?_
       refine KT.step rfl rfl (K.loadO rfl y0 (by simp) rfl Try.agg3) ?_
       refine KT.step rfl rfl (K.call3 rfl rfl rfl plainTry_38 (Within38 (by omega) (by omega))) ?_
       refine KT.step rfl rfl (K.pick rfl (fun _ => rfl) (fun h => by cases h)) ?_
       refine KT.step rfl rfl (K.assign rfl) ?_
       refine KT.nil ?_
       refine ⟨by kernel_rfl, ?_⟩
       refine thenK_n ?_
       refine KC.seq ?_
       refine KC.region ?_
       refine KT.step rfl rfl (K.move rfl) ?_
       refine KT.step rfl rfl (K.move rfl) ?_
       refine KT.step rfl rfl (K.call2 rfl rfl plainTry_31 (Has31 (z := anZ Z gi gj gb) (resD_mat (e := anE Z gi gj gb) (n := Z.length) (a := tightM Z.length (andM Z (gi : Int).toNat (gj : Int).toNat gb))) (resZ_len (kz.1) _).1 (resZ_len (kz.1) _).2 he hlp)) ?_
       refine KT.step rfl rfl (K.move rfl) ?_
       refine KT.step rfl rfl (K.extract rfl rfl) ?_
       refine KT.step rfl rfl (K.extract rfl rfl) ?_
       refine KT.step rfl rfl (K.assign rfl) ?_
       refine KT.step rfl rfl (K.assign rfl) ?_
       refine KT.nil ?_
       refine thenK_n ?_
       refine KC.seq ?_
       refine KC.region ?_
       refine KT.step rfl rfl (K.move rfl) ?_
       refine KT.step rfl rfl (K.eql rfl rfl) ?_
       refine KT.step rfl rfl (K.move rfl) ?_
       refine KT.bcase (fun hb102 => ?_) (fun hb102 => ?_)
       ·skip
        exact absurd (of_decide_eq_true hb102) hb70
       ·skip
        replace hb102 := of_decide_eq_false hb102
        refine KT.skip rfl rfl ?_
        refine KT.skip rfl rfl ?_
        refine KT.step rfl rfl (K.pick rfl (fun h => by cases h) (fun _ => rfl)) ?_
        refine KT.step rfl rfl (K.move rfl) ?_
        refine KT.skip rfl rfl ?_
        refine KT.skip rfl rfl ?_
        refine KT.skip rfl rfl ?_
        refine KT.step rfl rfl (K.pick rfl (fun h => by cases h) (fun _ => rfl)) ?_
        refine KT.step rfl rfl (K.move rfl) ?_
        refine KT.step rfl rfl (K.move rfl) ?_
        refine KT.step rfl rfl (K.eql rfl rfl) ?_
        refine KT.step rfl rfl (K.move rfl) ?_
        refine KT.bcase (fun hb114 => ?_) (fun hb114 => ?_)
        ·skip
         replace hb114 := of_decide_eq_true hb114
         refine KT.step rfl rfl (K.move rfl) ?_
         refine KT.step rfl rfl (K.pick rfl (fun _ => rfl) (fun h => by cases h)) ?_
         refine KT.step rfl rfl (K.pick rfl (fun h => by cases h) (fun _ => rfl)) ?_
         refine KT.nil ?_
         refine thenK_n ?_
         refine KC.cond rfl (fun hc117 => ?_) (fun hc117 => ?_)
         ·skip
          have hm := (mv_and h0 hg).2 hc73
          rw [hb78, Bool.true_and] at hm
          exact Bool.noConfusion ((hw.trans hm).symm.trans hc117)
         ·skip
          refine KC.skip ?_
          refine thenK_n ?_
          refine KC.seq ?_
          refine KC.seq ?_
          refine KC.region ?_
          refine KT.step rfl rfl (K.move rfl) ?_
          refine KT.step rfl rfl (K.not rfl) ?_
          refine KT.nil ?_
          refine thenK_n ?_
          refine KC.cond rfl (fun hc119 => ?_) (fun hc119 => ?_)
          ·skip
           refine KC.seq ?_
           refine KC.region ?_
           refine KT.step rfl rfl (K.call0 plainTry_21 (awake21)) ?_
           refine KT.step rfl rfl (K.assign rfl) ?_
           refine KT.nil ?_
           refine thenK_n ?_
           refine KC.ret ?_
           refine thenK_r ?_
           exact ⟨.inl rfl, _, rfl, rfl⟩
          ·skip
           rw [Bool.not_eq_false'] at hc119
           obtain ⟨_, htg, _⟩ := mv_zero hc119
           refine KC.skip ?_
           refine thenK_n ?_
           refine KC.seq ?_
           refine KC.region ?_
           refine KT.step rfl rfl (K.move rfl) ?_
           refine KT.step rfl rfl (K.conv rfl Try.underlying3 Try.underlying49 (wrapUI _)) ?_
           refine KT.step rfl rfl (K.rem rfl rfl (by omega) (show Int.tmod ((t0 % 2 ^ 64).toNat : Int) 400 = (((t0 % 2 ^ 64).toNat % 400 : Nat) : Int) from tmodN _ 400)) ?_
           refine KT.step rfl rfl (K.conv rfl Try.underlying49 Try.underlying3 (wrapN (by omega))) ?_
           refine KT.step rfl rfl (K.assign rfl) ?_
           refine KT.nil ?_
           refine thenK_n ?_
           refine KC.seq ?_
           have ht : (t0 % 2 ^ 64).toNat % 400 < 400 := Nat.mod_lt _ (by decide)
           generalize (t0 % 2 ^ 64).toNat % 400 = t at ht ⊢
           refine KC.anyS fun σ2 => ?_
           refine KC.region ?_
           refine KT.step rfl rfl (K.move rfl) ?_
           refine KT.step rfl rfl (K.callG (τ := [⟨[], 0⟩, ⟨cellsI p, 0⟩]) rfl plainTry_39 (clone39_ints he (by omega) (by omega))) ?_
           refine KT.step rfl rfl (K.assign rfl) ?_
           refine KT.nil ?_
           refine thenK_n ?_
           refine KC.seq ?_
           refine KC.seq ?_
           refine KC.region ?_
           refine KT.step rfl rfl (K.move rfl) ?_
           refine KT.step rfl rfl (K.lenO rfl Try.underlying23) ?_
           refine KT.step rfl rfl (K.move rfl) ?_
           refine KT.nil ?_
           refine thenK_n ?_
           refine KC.block ?_
           refine KC.loop (fun i : Nat => σ2 ++ [⟨[], 0⟩, ⟨cellsI (raiP p t i), 0⟩]) (fun i => [(0, .d d), (1, .d e), (3, .d (DI s)), (4, .d (DI (t : Nat))), (18, .osl (σ2.length + 1) 0 p.length 1 p.length false), (127, .osl (σ2.length + 1) 0 p.length 1 p.length false), (128, .d (DI (p.length : Nat))), (129, .d (DI (i : Nat)))]) (fun i => i ≤ p.length) (fun i => p.length - i) 0 (Nat.zero_le _) rfl (by simp [Go.Vm.look, extK, enterK]) ?_
           intro i hi
           refine KC.seq ?_
           refine KC.region ?_
           refine KT.step rfl rfl (K.lss rfl rfl) ?_
           refine KT.nil ?_
           refine thenK_n ?_
           refine KC.seq ?_
           refine KC.cond rfl (fun hc130 => ?_) (fun hc130 => ?_)
           ·skip
            replace hc130 := of_decide_eq_true hc130
            have hil : i < p.length := by omega
            refine KC.skip ?_
            refine thenK_n ?_
            refine KC.seq ?_
            refine KC.block ?_
            refine KC.seq ?_
            refine KC.region ?_
            refine KT.step rfl rfl (K.move rfl) ?_
            refine KT.step rfl rfl (K.assign rfl) ?_
            refine KT.nil ?_
            refine thenK_n ?_
            refine KC.region ?_
            refine KT.step rfl rfl (K.move rfl) ?_
            refine KT.step rfl rfl (K.move rfl) ?_
            refine KT.step rfl rfl (K.move rfl) ?_
            refine KT.step rfl rfl (K.move rfl) ?_
            refine KT.step rfl rfl (K.idxO rfl rfl (by omega) Try.underlying23 Try.size3) ?_
            refine KT.step rfl rfl (K.loadO rfl own_get (by simp) (cellsI_get (by rw [raiP_len]; exact hil)) Try.agg3) ?_
            rw [raiP_get hil]
            refine KT.step rfl rfl (K.move rfl) ?_
            refine KT.step rfl rfl (K.add rfl rfl (wrap_id (by have := hall _ (List.getElem_mem hil); omega))) ?_
            refine KT.step rfl rfl (K.min2 rfl rfl) ?_
            refine KT.step rfl rfl (K.idxO rfl rfl (by omega) Try.underlying23 Try.size3) ?_
            refine KT.step rfl rfl (K.storeO rfl rfl own_get (by rw [cellsI_len, raiP_len]; omega) rfl rfl Try.size3) ?_
            refine KT.nil ?_
            refine blockK_n ?_
            refine thenK_n ?_
            refine KC.region ?_
            refine KT.step rfl rfl (K.add rfl rfl (wrap_id (by omega))) ?_
            refine KT.step rfl rfl (K.move rfl) ?_
            refine KT.nil ?_
            refine thenK_n ?_
            refine ⟨i + 1, by omega, by omega, (by rw [own_set, cellsI_set, raiP_set hil]), by simp [Go.Vm.look, extK]⟩
           ·skip
            replace hc130 := of_decide_eq_false hc130
            refine KC.exit ?_
            refine thenK_x ?_
            refine thenK_x ?_
            refine blockK_e ?_
            refine thenK_n ?_
            refine KC.seq ?_
            refine KC.seq ?_
            refine KC.region ?_
            refine KT.step rfl rfl (K.move rfl) ?_
            refine KT.step rfl rfl (K.call1 rfl plainTry_40 (Max40 he hlp (by omega))) ?_
            refine KT.step rfl rfl (K.move rfl) ?_
            refine KT.step rfl rfl (K.add rfl rfl (wrap_id (by have := hall _ (mxP_in (p := p) (p.length - 1) (by omega)); omega))) ?_
            refine KT.step rfl rfl (K.leq rfl rfl) ?_
            refine KT.nil ?_
            refine thenK_n ?_
            refine KC.cond rfl (fun hc147 => ?_) (fun hc147 => ?_)
            ·skip
             replace hc147 := of_decide_eq_true hc147
             have hie : i = p.length := by omega
             have hmx : ∀ x ∈ p, x + (t : Int) ≤ 20000 := fun x hx => by
              obtain ⟨k, hk, rfl⟩ := List.getElem_of_mem hx
              have := mxP_ge (p := p) (p.length - 1) k (by omega)
              rw [show p.getD k 0 = p[k] by simp [hk]] at this
              omega
             refine KC.seq ?_
             refine KC.region ?_
             refine KT.step rfl rfl (K.move rfl) ?_
             refine KT.step rfl rfl (K.call1 rfl plainTry_16 (few16 hd hl hr)) ?_
             refine KT.step rfl rfl (K.call1 rfl plainTry_25 (Delay25 hmz fz.1 fz.2)) ?_
             refine KT.step rfl rfl (K.move rfl) ?_
             refine KT.step rfl rfl (K.extract rfl rfl) ?_
             refine KT.step rfl rfl (K.extract rfl rfl) ?_
             refine KT.step rfl rfl (K.assign rfl) ?_
             refine KT.step rfl rfl (K.assign rfl) ?_
             refine KT.nil ?_
             refine thenK_n ?_
             refine KC.seq ?_
             refine KC.region ?_
             refine KT.step rfl rfl (K.move rfl) ?_
             refine KT.step rfl rfl (K.move rfl) ?_
             refine KT.step rfl rfl (K.callZ (ds := [resD (dlE Z) Z.length (delM Z.length (tightM Z.length (zf Z))), intsD (raiP p t i)]) [σ2.length + 1] 5 rfl plainTry_31 (map2_deep (own_deep (own_get) (by simp) (by rw [raiP_len]))) (Has31 (z := dlZ Z) (resD_mat (e := dlE Z) (n := Z.length) (a := delM Z.length (tightM Z.length (zf Z)))) (resZ_len (kz.1) _).1 (resZ_len (kz.1) _).2 (intsD_ints _) (by rw [raiP_len]; omega))) ?_
             refine KT.step rfl rfl (K.move rfl) ?_
             refine KT.step rfl rfl (K.extract rfl rfl) ?_
             refine KT.step rfl rfl (K.extract rfl rfl) ?_
             refine KT.step rfl rfl (K.assign rfl) ?_
             refine KT.step rfl rfl (K.assign rfl) ?_
             refine KT.nil ?_
             refine thenK_n ?_
             refine KC.seq ?_
             refine KC.region ?_
             refine KT.step rfl rfl (K.move rfl) ?_
             refine KT.step rfl rfl (K.neq rfl rfl) ?_
             refine KT.step rfl rfl (K.move rfl) ?_
             refine KT.bcase (fun hb162 => ?_) (fun hb162 => ?_)
             ·skip
              exact absurd ((dlE_eq Z).trans htg) (of_decide_eq_true hb162)
             ·skip
              replace hb162 := of_decide_eq_false hb162
              refine KT.step rfl rfl (K.move rfl) ?_
              refine KT.step rfl rfl (K.eql rfl rfl) ?_
              refine KT.step rfl rfl (K.move rfl) ?_
              refine KT.bcase (fun hb165 => ?_) (fun hb165 => ?_)
              ·skip
               replace hb165 := of_decide_eq_true hb165
               refine KT.step rfl rfl (K.move rfl) ?_
               refine KT.step rfl rfl (K.not rfl) ?_
               refine KT.step rfl rfl (K.pick rfl (fun _ => rfl) (fun h => by cases h)) ?_
               refine KT.step rfl rfl (K.pick rfl (fun h => by cases h) (fun _ => rfl)) ?_
               refine KT.nil ?_
               refine thenK_n ?_
               refine KC.cond rfl (fun hc169 => ?_) (fun hc169 => ?_)
               ·skip
                rw [Bool.not_eq_true'] at hc169
                exact Bool.noConfusion (hc169.symm.trans (mv_del hc119 (by omega) hmx (by rw [hie]; exact raiP_end (Nat.le_refl _)) hb165))
               ·skip
                refine KC.skip ?_
                refine thenK_n ?_
                refine KC.seq ?_
                refine KC.region ?_
                refine KT.step rfl rfl (K.move rfl) ?_
                refine KT.step rfl rfl (K.call1 rfl plainTry_16 (few16 hd hl hr)) ?_
                refine KT.step rfl rfl (K.move rfl) ?_
                refine KT.step rfl rfl (K.call2 rfl rfl plainTry_27 (Reset27 hmz fz.1 fz.2 kz.1)) ?_
                refine KT.step rfl rfl (K.move rfl) ?_
                refine KT.step rfl rfl (K.extract rfl rfl) ?_
                refine KT.step rfl rfl (K.extract rfl rfl) ?_
                refine KT.step rfl rfl (K.assign rfl) ?_
                refine KT.step rfl rfl (K.assign rfl) ?_
                refine KT.nil ?_
                refine thenK_n ?_
                refine KC.seq ?_
                refine KC.seq ?_
                refine KC.region ?_
                refine KT.step rfl rfl (K.move rfl) ?_
                refine KT.step rfl rfl (K.neq rfl rfl) ?_
                refine KT.nil ?_
                refine thenK_n ?_
                refine KC.cond rfl (fun hc178 => ?_) (fun hc178 => ?_)
                ·skip
                 replace hc178 := of_decide_eq_true hc178
                 refine KC.seq ?_
                 refine KC.region ?_
                 refine KT.step rfl rfl (K.move rfl) ?_
                 refine KT.step rfl rfl (K.eql rfl rfl) ?_
                 refine KT.step rfl rfl (K.move rfl) ?_
                 refine KT.bcase (fun hb181 => ?_) (fun hb181 => ?_)
                 ·skip
                  replace hb181 := of_decide_eq_true hb181
                  refine KT.step rfl rfl (K.call0 plainTry_21 (awake21)) ?_
                  refine KT.step rfl rfl (K.pick rfl (fun _ => rfl) (fun h => by cases h)) ?_
                  refine KT.step rfl rfl (K.assign rfl) ?_
                  refine KT.nil ?_
                  refine thenK_n ?_
                  refine KC.ret ?_
                  refine thenK_r ?_
                  exact ⟨.inl rfl, _, rfl, rfl⟩
                 ·skip
                  rcases rs_cases (s := s) htg with h | h
                  ·exact absurd h.1 hc178
                  ·exact absurd h (of_decide_eq_false hb181)
                ·skip
                 replace hc178 := of_decide_eq_false hc178
                 have hre := Classical.not_not.1 hc178
                 have hsb : setB Z.length s = true := by
                  rcases rs_cases (s := s) htg with h | h
                  ·exact h.2
                  ·rw [h] at hre; cases hre
                 have hsb2 := hsb
                 unfold setB at hsb2
                 simp only [Bool.and_eq_true, decide_eq_true_eq] at hsb2
                 obtain ⟨⟨hs0, hs1⟩, _⟩ := hsb2
                 obtain ⟨s, rfl⟩ := Int.eq_ofNat_of_zero_le hs0
                 have hp6 : 2 ^ Z.length ≤ 2 ^ 6 := Nat.pow_le_pow_right (by decide) (by omega)
                 have hs2 : s < 2 ^ 63 := by generalize 2 ^ Z.length = q at *; omega
                 refine KC.skip ?_
                 refine thenK_n ?_
                 refine KC.seq ?_
                 refine KC.seq ?_
                 refine KC.region ?_
                 refine KT.step rfl rfl (K.move rfl) ?_
                 refine KT.step rfl rfl (K.len rfl he Try.underlying23) ?_
                 refine KT.step rfl rfl (K.move rfl) ?_
                 refine KT.nil ?_
                 refine thenK_n ?_
                 refine KC.block ?_
                 refine KC.loop (fun q : List VObj × DV × Nat => q.1) (fun q => [(0, .d d), (1, .d q.2.1), (3, .d (DI (s : Nat))), (24, .d (resD (rsE Z (s : Nat)) Z.length (resM Z.length ((s : Nat) : Int).toNat (tightM Z.length (zf Z))))), (185, .d (DI (p.length : Nat))), (186, .d (DI (q.2.2 : Nat)))]) (fun q => Ints q.2.1 (zerP p s q.2.2) ∧ q.2.2 ≤ p.length) (fun q => p.length - q.2.2) (_, e, 0) ⟨he, Nat.zero_le _⟩ rfl (by simp [Go.Vm.look, extK, enterK]) ?_
                 intro q hq
                 obtain ⟨hq1, hq2⟩ := hq
                 refine KC.seq ?_
                 refine KC.region ?_
                 refine KT.step rfl rfl (K.lss rfl rfl) ?_
                 refine KT.nil ?_
                 refine thenK_n ?_
                 refine KC.seq ?_
                 refine KC.cond rfl (fun hc187 => ?_) (fun hc187 => ?_)
                 ·skip
                  replace hc187 := of_decide_eq_true hc187
                  have hbit := bitOne s (q.2.2 + 1)
                  refine KC.skip ?_
                  refine thenK_n ?_
                  refine KC.seq ?_
                  refine KC.block ?_
                  refine KC.seq ?_
                  refine KC.region ?_
                  refine KT.step rfl rfl (K.move rfl) ?_
                  refine KT.step rfl rfl (K.assign rfl) ?_
                  refine KT.nil ?_
                  refine thenK_n ?_
                  refine KC.seq ?_
                  refine KC.region ?_
                  refine KT.step rfl rfl (K.move rfl) ?_
                  refine KT.step rfl rfl (K.move rfl) ?_
                  refine KT.step rfl rfl (K.add rfl rfl (oneN (by omega))) ?_
                  refine KT.step rfl rfl (K.shr rfl rfl (by omega) (shrI (a := s) (i := q.2.2 + 1) (by omega))) ?_
                  refine KT.step rfl rfl (K.band rfl rfl (show IntKind.i64.wrap (BitVec.ofInt IntKind.i64.bits ((s / 2 ^ (q.2.2 + 1) : Nat) : Int) &&& BitVec.ofInt IntKind.i64.bits (1 : Int)).toNat = ((s / 2 ^ (q.2.2 + 1) &&& 1 : Nat) : Int) from andI (b := 1) (Nat.lt_of_le_of_lt (Nat.div_le_self _ _) hs2) (by decide))) ?_
                  refine KT.step rfl rfl (K.eql rfl rfl) ?_
                  refine KT.nil ?_
                  refine thenK_n ?_
                  refine KC.cond rfl (fun hc194 => ?_) (fun hc194 => ?_)
                  ·skip
                   replace hc194 := of_decide_eq_true hc194
                   have htb : s.testBit (q.2.2 + 1) = true := by rw [← hbit]; exact decide_eq_true hc194
                   refine KC.seq ?_
                   refine KC.region ?_
                   refine KT.step rfl rfl (K.move rfl) ?_
                   refine KT.step rfl rfl (K.callG (τ := [⟨[], 0⟩, ⟨cellsI (zerP p s q.2.2), 0⟩]) rfl plainTry_39 (clone39_ints hq1 (by rw [zerP_len]; omega) (by rw [zerP_len]; omega))) ?_
                   refine KT.step rfl rfl (K.assign rfl) ?_
                   refine KT.nil ?_
                   refine thenK_n ?_
                   refine KC.region ?_
                   refine KT.step rfl rfl (K.move rfl) ?_
                   refine KT.step rfl rfl (K.move rfl) ?_
                   refine KT.step rfl rfl (K.idxO rfl rfl (by rw [zerP_len]; omega) Try.underlying23 Try.size3) ?_
                   refine KT.step rfl rfl (K.storeO rfl rfl own_get (by rw [cellsI_len, zerP_len]; omega) rfl rfl Try.size3) ?_
                   refine KT.nil ?_
                   refine blockK_n ?_
                   refine thenK_n ?_
                   refine KC.ghost [q.1.length + 1] 5 (t := 1) rfl (own_deep (l := (zerP p s q.2.2).set q.2.2 0) (by rw [own_set, cellsI_set]; exact own_get) (by simp) (by rw [List.length_set])) ?_
                   refine KC.region ?_
                   refine KT.step rfl rfl (K.add rfl rfl (wrap_id (by omega))) ?_
                   refine KT.step rfl rfl (K.move rfl) ?_
                   refine KT.nil ?_
                   refine thenK_n ?_
                   refine ⟨(_, intsD ((zerP p s q.2.2).set q.2.2 0), q.2.2 + 1), ⟨?_, by simp only; omega⟩, by simp only; omega, rfl, by simp [Go.Vm.look, extK]⟩
                   show Ints _ (zerP p s (q.2.2 + 1))
                   rw [zerP, if_pos htb]
                   exact intsD_ints _
                  ·skip
                   replace hc194 := of_decide_eq_false hc194
                   have htb : ¬ s.testBit (q.2.2 + 1) = true := by rw [← hbit]; simpa using hc194
                   refine KC.skip ?_
                   refine blockK_n ?_
                   refine thenK_n ?_
                   refine KC.region ?_
                   refine KT.step rfl rfl (K.add rfl rfl (wrap_id (by omega))) ?_
                   refine KT.step rfl rfl (K.move rfl) ?_
                   refine KT.nil ?_
                   refine thenK_n ?_
                   refine ⟨(_, q.2.1, q.2.2 + 1), ⟨?_, by simp only; omega⟩, by simp only; omega, rfl, by simp [Go.Vm.look, extK]⟩
                   show Ints _ (zerP p s (q.2.2 + 1))
                   rw [zerP, if_neg htb]
                   exact hq1
                 ·skip
                  replace hc187 := of_decide_eq_false hc187
                  refine KC.exit ?_
                  refine thenK_x ?_
                  refine thenK_x ?_
                  refine blockK_e ?_
                  refine thenK_n ?_
                  refine KC.seq ?_
                  refine KC.region ?_
                  refine KT.step rfl rfl (K.move rfl) ?_
                  refine KT.step rfl rfl (K.move rfl) ?_
                  refine KT.step rfl rfl (K.call2 rfl rfl plainTry_31 (Has31 (z := rsZ Z s) (resD_mat (e := rsE Z ((s : Nat) : Int)) (n := Z.length) (a := resM Z.length (((s : Nat) : Int)).toNat (tightM Z.length (zf Z)))) (resZ_len (kz.1) _).1 (resZ_len (kz.1) _).2 hq1 (by rw [zerP_len]; omega))) ?_
                  refine KT.step rfl rfl (K.move rfl) ?_
                  refine KT.step rfl rfl (K.extract rfl rfl) ?_
                  refine KT.step rfl rfl (K.extract rfl rfl) ?_
                  refine KT.step rfl rfl (K.assign rfl) ?_
                  refine KT.step rfl rfl (K.assign rfl) ?_
                  refine KT.nil ?_
                  refine thenK_n ?_
                  refine KC.seq ?_
                  refine KC.region ?_
                  refine KT.step rfl rfl (K.move rfl) ?_
                  refine KT.step rfl rfl (K.neq rfl rfl) ?_
                  refine KT.step rfl rfl (K.move rfl) ?_
                  refine KT.bcase (fun hb209 => ?_) (fun hb209 => ?_)
                  ·skip
                   replace hb209 := of_decide_eq_true hb209
                   refine KT.skip rfl rfl ?_
                   refine KT.step rfl rfl (K.pick rfl (fun _ => rfl) (fun h => by cases h)) ?_
                   refine KT.step rfl rfl (K.move rfl) ?_
                   refine KT.step rfl rfl (K.call0 plainTry_21 (awake21)) ?_
                   refine KT.step rfl rfl (K.pick rfl (fun _ => rfl) (fun h => by cases h)) ?_
                   refine KT.step rfl rfl (K.assign rfl) ?_
                   refine KT.nil ?_
                   refine thenK_n ?_
                   refine KC.ret ?_
                   exact ⟨.inl rfl, _, rfl, rfl⟩
                  ·skip
                   replace hb209 := of_decide_eq_false hb209
                   refine KT.step rfl rfl (K.move rfl) ?_
                   refine KT.step rfl rfl (K.pick rfl (fun h => by cases h) (fun _ => rfl)) ?_
                   refine KT.step rfl rfl (K.move rfl) ?_
                   refine KT.bcase (fun hb212 => ?_) (fun hb212 => ?_)
                   ·skip
                    refine KT.step rfl rfl (K.call0 plainTry_21 (awake21)) ?_
                    refine KT.step rfl rfl (K.pick rfl (fun _ => rfl) (fun h => by cases h)) ?_
                    refine KT.step rfl rfl (K.assign rfl) ?_
                    refine KT.nil ?_
                    refine thenK_n ?_
                    refine KC.ret ?_
                    exact ⟨.inl rfl, _, rfl, rfl⟩
                   ·skip
                    have hqe : q.2.2 = p.length := by omega
                    exact Bool.noConfusion (hb212.symm.trans (mv_res hc119 hre (by rw [hqe]; rfl) (Classical.not_not.1 hb209)))
              ·skip
               replace hb165 := of_decide_eq_false hb165
               refine KT.skip rfl rfl ?_
               refine KT.skip rfl rfl ?_
               refine KT.step rfl rfl (K.pick rfl (fun h => by cases h) (fun _ => rfl)) ?_
               refine KT.step rfl rfl (K.pick rfl (fun h => by cases h) (fun _ => rfl)) ?_
               refine KT.nil ?_
               refine thenK_n ?_
               refine KC.cond rfl (fun hc169 => ?_) (fun hc169 => ?_)
               ·cases hc169
               ·skip
                refine KC.skip ?_
                refine thenK_n ?_
                refine KC.seq ?_
                refine KC.region ?_
                refine KT.step rfl rfl (K.move rfl) ?_
                refine KT.step rfl rfl (K.call1 rfl plainTry_16 (few16 hd hl hr)) ?_
                refine KT.step rfl rfl (K.move rfl) ?_
                refine KT.step rfl rfl (K.call2 rfl rfl plainTry_27 (Reset27 hmz fz.1 fz.2 kz.1)) ?_
                refine KT.step rfl rfl (K.move rfl) ?_
                refine KT.step rfl rfl (K.extract rfl rfl) ?_
                refine KT.step rfl rfl (K.extract rfl rfl) ?_
                refine KT.step rfl rfl (K.assign rfl) ?_
                refine KT.step rfl rfl (K.assign rfl) ?_
                refine KT.nil ?_
                refine thenK_n ?_
                refine KC.seq ?_
                refine KC.seq ?_
                refine KC.region ?_
                refine KT.step rfl rfl (K.move rfl) ?_
                refine KT.step rfl rfl (K.neq rfl rfl) ?_
                refine KT.nil ?_
                refine thenK_n ?_
                refine KC.cond rfl (fun hc178 => ?_) (fun hc178 => ?_)
                ·skip
                 replace hc178 := of_decide_eq_true hc178
                 refine KC.seq ?_
                 refine KC.region ?_
                 refine KT.step rfl rfl (K.move rfl) ?_
                 refine KT.step rfl rfl (K.eql rfl rfl) ?_
                 refine KT.step rfl rfl (K.move rfl) ?_
                 refine KT.bcase (fun hb181 => ?_) (fun hb181 => ?_)
                 ·skip
                  replace hb181 := of_decide_eq_true hb181
                  refine KT.step rfl rfl (K.call0 plainTry_21 (awake21)) ?_
                  refine KT.step rfl rfl (K.pick rfl (fun _ => rfl) (fun h => by cases h)) ?_
                  refine KT.step rfl rfl (K.assign rfl) ?_
                  refine KT.nil ?_
                  refine thenK_n ?_
                  refine KC.ret ?_
                  refine thenK_r ?_
                  exact ⟨.inl rfl, _, rfl, rfl⟩
                 ·skip
                  rcases rs_cases (s := s) htg with h | h
                  ·exact absurd h.1 hc178
                  ·exact absurd h (of_decide_eq_false hb181)
                ·skip
                 replace hc178 := of_decide_eq_false hc178
                 have hre := Classical.not_not.1 hc178
                 have hsb : setB Z.length s = true := by
                  rcases rs_cases (s := s) htg with h | h
                  ·exact h.2
                  ·rw [h] at hre; cases hre
                 have hsb2 := hsb
                 unfold setB at hsb2
                 simp only [Bool.and_eq_true, decide_eq_true_eq] at hsb2
                 obtain ⟨⟨hs0, hs1⟩, _⟩ := hsb2
                 obtain ⟨s, rfl⟩ := Int.eq_ofNat_of_zero_le hs0
                 have hp6 : 2 ^ Z.length ≤ 2 ^ 6 := Nat.pow_le_pow_right (by decide) (by omega)
                 have hs2 : s < 2 ^ 63 := by generalize 2 ^ Z.length = q at *; omega
                 refine KC.skip ?_
                 refine thenK_n ?_
                 refine KC.seq ?_
                 refine KC.seq ?_
                 refine KC.region ?_
                 refine KT.step rfl rfl (K.move rfl) ?_
                 refine KT.step rfl rfl (K.len rfl he Try.underlying23) ?_
                 refine KT.step rfl rfl (K.move rfl) ?_
                 refine KT.nil ?_
                 refine thenK_n ?_
                 refine KC.block ?_
                 refine KC.loop (fun q : List VObj × DV × Nat => q.1) (fun q => [(0, .d d), (1, .d q.2.1), (3, .d (DI (s : Nat))), (24, .d (resD (rsE Z (s : Nat)) Z.length (resM Z.length ((s : Nat) : Int).toNat (tightM Z.length (zf Z))))), (185, .d (DI (p.length : Nat))), (186, .d (DI (q.2.2 : Nat)))]) (fun q => Ints q.2.1 (zerP p s q.2.2) ∧ q.2.2 ≤ p.length) (fun q => p.length - q.2.2) (_, e, 0) ⟨he, Nat.zero_le _⟩ rfl (by simp [Go.Vm.look, extK, enterK]) ?_
                 intro q hq
                 obtain ⟨hq1, hq2⟩ := hq
                 refine KC.seq ?_
                 refine KC.region ?_
                 refine KT.step rfl rfl (K.lss rfl rfl) ?_
                 refine KT.nil ?_
                 refine thenK_n ?_
                 refine KC.seq ?_
                 refine KC.cond rfl (fun hc187 => ?_) (fun hc187 => ?_)
                 ·skip
                  replace hc187 := of_decide_eq_true hc187
                  have hbit := bitOne s (q.2.2 + 1)
                  refine KC.skip ?_
                  refine thenK_n ?_
                  refine KC.seq ?_
                  refine KC.block ?_
                  refine KC.seq ?_
                  refine KC.region ?_
                  refine KT.step rfl rfl (K.move rfl) ?_
                  refine KT.step rfl rfl (K.assign rfl) ?_
                  refine KT.nil ?_
                  refine thenK_n ?_
                  refine KC.seq ?_
                  refine KC.region ?_
                  refine KT.step rfl rfl (K.move rfl) ?_
                  refine KT.step rfl rfl (K.move rfl) ?_
                  refine KT.step rfl rfl (K.add rfl rfl (oneN (by omega))) ?_
                  refine KT.step rfl rfl (K.shr rfl rfl (by omega) (shrI (a := s) (i := q.2.2 + 1) (by omega))) ?_
                  refine KT.step rfl rfl (K.band rfl rfl (show IntKind.i64.wrap (BitVec.ofInt IntKind.i64.bits ((s / 2 ^ (q.2.2 + 1) : Nat) : Int) &&& BitVec.ofInt IntKind.i64.bits (1 : Int)).toNat = ((s / 2 ^ (q.2.2 + 1) &&& 1 : Nat) : Int) from andI (b := 1) (Nat.lt_of_le_of_lt (Nat.div_le_self _ _) hs2) (by decide))) ?_
                  refine KT.step rfl rfl (K.eql rfl rfl) ?_
                  refine KT.nil ?_
                  refine thenK_n ?_
                  refine KC.cond rfl (fun hc194 => ?_) (fun hc194 => ?_)
                  ·skip
                   replace hc194 := of_decide_eq_true hc194
                   have htb : s.testBit (q.2.2 + 1) = true := by rw [← hbit]; exact decide_eq_true hc194
                   refine KC.seq ?_
                   refine KC.region ?_
                   refine KT.step rfl rfl (K.move rfl) ?_
                   refine KT.step rfl rfl (K.callG (τ := [⟨[], 0⟩, ⟨cellsI (zerP p s q.2.2), 0⟩]) rfl plainTry_39 (clone39_ints hq1 (by rw [zerP_len]; omega) (by rw [zerP_len]; omega))) ?_
                   refine KT.step rfl rfl (K.assign rfl) ?_
                   refine KT.nil ?_
                   refine thenK_n ?_
                   refine KC.region ?_
                   refine KT.step rfl rfl (K.move rfl) ?_
                   refine KT.step rfl rfl (K.move rfl) ?_
                   refine KT.step rfl rfl (K.idxO rfl rfl (by rw [zerP_len]; omega) Try.underlying23 Try.size3) ?_
                   refine KT.step rfl rfl (K.storeO rfl rfl own_get (by rw [cellsI_len, zerP_len]; omega) rfl rfl Try.size3) ?_
                   refine KT.nil ?_
                   refine blockK_n ?_
                   refine thenK_n ?_
                   refine KC.ghost [q.1.length + 1] 5 (t := 1) rfl (own_deep (l := (zerP p s q.2.2).set q.2.2 0) (by rw [own_set, cellsI_set]; exact own_get) (by simp) (by rw [List.length_set])) ?_
                   refine KC.region ?_
                   refine KT.step rfl rfl (K.add rfl rfl (wrap_id (by omega))) ?_
                   refine KT.step rfl rfl (K.move rfl) ?_
                   refine KT.nil ?_
                   refine thenK_n ?_
                   refine ⟨(_, intsD ((zerP p s q.2.2).set q.2.2 0), q.2.2 + 1), ⟨?_, by simp only; omega⟩, by simp only; omega, rfl, by simp [Go.Vm.look, extK]⟩
                   show Ints _ (zerP p s (q.2.2 + 1))
                   rw [zerP, if_pos htb]
                   exact intsD_ints _
                  ·skip
                   replace hc194 := of_decide_eq_false hc194
                   have htb : ¬ s.testBit (q.2.2 + 1) = true := by rw [← hbit]; simpa using hc194
                   refine KC.skip ?_
                   refine blockK_n ?_
                   refine thenK_n ?_
                   refine KC.region ?_
                   refine KT.step rfl rfl (K.add rfl rfl (wrap_id (by omega))) ?_
                   refine KT.step rfl rfl (K.move rfl) ?_
                   refine KT.nil ?_
                   refine thenK_n ?_
                   refine ⟨(_, q.2.1, q.2.2 + 1), ⟨?_, by simp only; omega⟩, by simp only; omega, rfl, by simp [Go.Vm.look, extK]⟩
                   show Ints _ (zerP p s (q.2.2 + 1))
                   rw [zerP, if_neg htb]
                   exact hq1
                 ·skip
                  replace hc187 := of_decide_eq_false hc187
                  refine KC.exit ?_
                  refine thenK_x ?_
                  refine thenK_x ?_
                  refine blockK_e ?_
                  refine thenK_n ?_
                  refine KC.seq ?_
                  refine KC.region ?_
                  refine KT.step rfl rfl (K.move rfl) ?_
                  refine KT.step rfl rfl (K.move rfl) ?_
                  refine KT.step rfl rfl (K.call2 rfl rfl plainTry_31 (Has31 (z := rsZ Z s) (resD_mat (e := rsE Z ((s : Nat) : Int)) (n := Z.length) (a := resM Z.length (((s : Nat) : Int)).toNat (tightM Z.length (zf Z)))) (resZ_len (kz.1) _).1 (resZ_len (kz.1) _).2 hq1 (by rw [zerP_len]; omega))) ?_
                  refine KT.step rfl rfl (K.move rfl) ?_
                  refine KT.step rfl rfl (K.extract rfl rfl) ?_
                  refine KT.step rfl rfl (K.extract rfl rfl) ?_
                  refine KT.step rfl rfl (K.assign rfl) ?_
                  refine KT.step rfl rfl (K.assign rfl) ?_
                  refine KT.nil ?_
                  refine thenK_n ?_
                  refine KC.seq ?_
                  refine KC.region ?_
                  refine KT.step rfl rfl (K.move rfl) ?_
                  refine KT.step rfl rfl (K.neq rfl rfl) ?_
                  refine KT.step rfl rfl (K.move rfl) ?_
                  refine KT.bcase (fun hb209 => ?_) (fun hb209 => ?_)
                  ·skip
                   replace hb209 := of_decide_eq_true hb209
                   refine KT.skip rfl rfl ?_
                   refine KT.step rfl rfl (K.pick rfl (fun _ => rfl) (fun h => by cases h)) ?_
                   refine KT.step rfl rfl (K.move rfl) ?_
                   refine KT.step rfl rfl (K.call0 plainTry_21 (awake21)) ?_
                   refine KT.step rfl rfl (K.pick rfl (fun _ => rfl) (fun h => by cases h)) ?_
                   refine KT.step rfl rfl (K.assign rfl) ?_
                   refine KT.nil ?_
                   refine thenK_n ?_
                   refine KC.ret ?_
                   exact ⟨.inl rfl, _, rfl, rfl⟩
                  ·skip
                   replace hb209 := of_decide_eq_false hb209
                   refine KT.step rfl rfl (K.move rfl) ?_
                   refine KT.step rfl rfl (K.pick rfl (fun h => by cases h) (fun _ => rfl)) ?_
                   refine KT.step rfl rfl (K.move rfl) ?_
                   refine KT.bcase (fun hb212 => ?_) (fun hb212 => ?_)
                   ·skip
                    refine KT.step rfl rfl (K.call0 plainTry_21 (awake21)) ?_
                    refine KT.step rfl rfl (K.pick rfl (fun _ => rfl) (fun h => by cases h)) ?_
                    refine KT.step rfl rfl (K.assign rfl) ?_
                    refine KT.nil ?_
                    refine thenK_n ?_
                    refine KC.ret ?_
                    exact ⟨.inl rfl, _, rfl, rfl⟩
                   ·skip
                    have hqe : q.2.2 = p.length := by omega
                    exact Bool.noConfusion (hb212.symm.trans (mv_res hc119 hre (by rw [hqe]; rfl) (Classical.not_not.1 hb209)))
            ·skip
             replace hc147 := of_decide_eq_false hc147
             refine KC.skip ?_
             refine thenK_n ?_
             refine KC.seq ?_
             refine KC.region ?_
             refine KT.step rfl rfl (K.move rfl) ?_
             refine KT.step rfl rfl (K.call1 rfl plainTry_16 (few16 hd hl hr)) ?_
             refine KT.step rfl rfl (K.move rfl) ?_
             refine KT.step rfl rfl (K.call2 rfl rfl plainTry_27 (Reset27 hmz fz.1 fz.2 kz.1)) ?_
             refine KT.step rfl rfl (K.move rfl) ?_
             refine KT.step rfl rfl (K.extract rfl rfl) ?_
             refine KT.step rfl rfl (K.extract rfl rfl) ?_
             refine KT.step rfl rfl (K.assign rfl) ?_
             refine KT.step rfl rfl (K.assign rfl) ?_
             refine KT.nil ?_
             refine thenK_n ?_
             refine KC.seq ?_
             refine KC.seq ?_
             refine KC.region ?_
             refine KT.step rfl rfl (K.move rfl) ?_
             refine KT.step rfl rfl (K.neq rfl rfl) ?_
             refine KT.nil ?_
             refine thenK_n ?_
             refine KC.cond rfl (fun hc178 => ?_) (fun hc178 => ?_)
             ·skip
              replace hc178 := of_decide_eq_true hc178
              refine KC.seq ?_
              refine KC.region ?_
              refine KT.step rfl rfl (K.move rfl) ?_
              refine KT.step rfl rfl (K.eql rfl rfl) ?_
              refine KT.step rfl rfl (K.move rfl) ?_
              refine KT.bcase (fun hb181 => ?_) (fun hb181 => ?_)
              ·skip
               replace hb181 := of_decide_eq_true hb181
               refine KT.step rfl rfl (K.call0 plainTry_21 (awake21)) ?_
               refine KT.step rfl rfl (K.pick rfl (fun _ => rfl) (fun h => by cases h)) ?_
               refine KT.step rfl rfl (K.assign rfl) ?_
               refine KT.nil ?_
               refine thenK_n ?_
               refine KC.ret ?_
               refine thenK_r ?_
               exact ⟨.inl rfl, _, rfl, rfl⟩
              ·skip
               rcases rs_cases (s := s) htg with h | h
               ·exact absurd h.1 hc178
               ·exact absurd h (of_decide_eq_false hb181)
             ·skip
              replace hc178 := of_decide_eq_false hc178
              have hre := Classical.not_not.1 hc178
              have hsb : setB Z.length s = true := by
               rcases rs_cases (s := s) htg with h | h
               ·exact h.2
               ·rw [h] at hre; cases hre
              have hsb2 := hsb
              unfold setB at hsb2
              simp only [Bool.and_eq_true, decide_eq_true_eq] at hsb2
              obtain ⟨⟨hs0, hs1⟩, _⟩ := hsb2
              obtain ⟨s, rfl⟩ := Int.eq_ofNat_of_zero_le hs0
              have hp6 : 2 ^ Z.length ≤ 2 ^ 6 := Nat.pow_le_pow_right (by decide) (by omega)
              have hs2 : s < 2 ^ 63 := by generalize 2 ^ Z.length = q at *; omega
              refine KC.skip ?_
              refine thenK_n ?_
              refine KC.seq ?_
              refine KC.seq ?_
              refine KC.region ?_
              refine KT.step rfl rfl (K.move rfl) ?_
              refine KT.step rfl rfl (K.len rfl he Try.underlying23) ?_
              refine KT.step rfl rfl (K.move rfl) ?_
              refine KT.nil ?_
              refine thenK_n ?_
              refine KC.block ?_
              refine KC.loop (fun q : List VObj × DV × Nat => q.1) (fun q => [(0, .d d), (1, .d q.2.1), (3, .d (DI (s : Nat))), (24, .d (resD (rsE Z (s : Nat)) Z.length (resM Z.length ((s : Nat) : Int).toNat (tightM Z.length (zf Z))))), (185, .d (DI (p.length : Nat))), (186, .d (DI (q.2.2 : Nat)))]) (fun q => Ints q.2.1 (zerP p s q.2.2) ∧ q.2.2 ≤ p.length) (fun q => p.length - q.2.2) (_, e, 0) ⟨he, Nat.zero_le _⟩ rfl (by simp [Go.Vm.look, extK, enterK]) ?_
              intro q hq
              obtain ⟨hq1, hq2⟩ := hq
              refine KC.seq ?_
              refine KC.region ?_
              refine KT.step rfl rfl (K.lss rfl rfl) ?_
              refine KT.nil ?_
              refine thenK_n ?_
              refine KC.seq ?_
              refine KC.cond rfl (fun hc187 => ?_) (fun hc187 => ?_)
              ·skip
               replace hc187 := of_decide_eq_true hc187
               have hbit := bitOne s (q.2.2 + 1)
               refine KC.skip ?_
               refine thenK_n ?_
               refine KC.seq ?_
               refine KC.block ?_
               refine KC.seq ?_
               refine KC.region ?_
               refine KT.step rfl rfl (K.move rfl) ?_
               refine KT.step rfl rfl (K.assign rfl) ?_
               refine KT.nil ?_
               refine thenK_n ?_
               refine KC.seq ?_
               refine KC.region ?_
               refine KT.step rfl rfl (K.move rfl) ?_
               refine KT.step rfl rfl (K.move rfl) ?_
               refine KT.step rfl rfl (K.add rfl rfl (oneN (by omega))) ?_
               refine KT.step rfl rfl (K.shr rfl rfl (by omega) (shrI (a := s) (i := q.2.2 + 1) (by omega))) ?_
               refine KT.step rfl rfl (K.band rfl rfl (show IntKind.i64.wrap (BitVec.ofInt IntKind.i64.bits ((s / 2 ^ (q.2.2 + 1) : Nat) : Int) &&& BitVec.ofInt IntKind.i64.bits (1 : Int)).toNat = ((s / 2 ^ (q.2.2 + 1) &&& 1 : Nat) : Int) from andI (b := 1) (Nat.lt_of_le_of_lt (Nat.div_le_self _ _) hs2) (by decide))) ?_
               refine KT.step rfl rfl (K.eql rfl rfl) ?_
               refine KT.nil ?_
               refine thenK_n ?_
               refine KC.cond rfl (fun hc194 => ?_) (fun hc194 => ?_)
               ·skip
                replace hc194 := of_decide_eq_true hc194
                have htb : s.testBit (q.2.2 + 1) = true := by rw [← hbit]; exact decide_eq_true hc194
                refine KC.seq ?_
                refine KC.region ?_
                refine KT.step rfl rfl (K.move rfl) ?_
                refine KT.step rfl rfl (K.callG (τ := [⟨[], 0⟩, ⟨cellsI (zerP p s q.2.2), 0⟩]) rfl plainTry_39 (clone39_ints hq1 (by rw [zerP_len]; omega) (by rw [zerP_len]; omega))) ?_
                refine KT.step rfl rfl (K.assign rfl) ?_
                refine KT.nil ?_
                refine thenK_n ?_
                refine KC.region ?_
                refine KT.step rfl rfl (K.move rfl) ?_
                refine KT.step rfl rfl (K.move rfl) ?_
                refine KT.step rfl rfl (K.idxO rfl rfl (by rw [zerP_len]; omega) Try.underlying23 Try.size3) ?_
                refine KT.step rfl rfl (K.storeO rfl rfl own_get (by rw [cellsI_len, zerP_len]; omega) rfl rfl Try.size3) ?_
                refine KT.nil ?_
                refine blockK_n ?_
                refine thenK_n ?_
                refine KC.ghost [q.1.length + 1] 5 (t := 1) rfl (own_deep (l := (zerP p s q.2.2).set q.2.2 0) (by rw [own_set, cellsI_set]; exact own_get) (by simp) (by rw [List.length_set])) ?_
                refine KC.region ?_
                refine KT.step rfl rfl (K.add rfl rfl (wrap_id (by omega))) ?_
                refine KT.step rfl rfl (K.move rfl) ?_
                refine KT.nil ?_
                refine thenK_n ?_
                refine ⟨(_, intsD ((zerP p s q.2.2).set q.2.2 0), q.2.2 + 1), ⟨?_, by simp only; omega⟩, by simp only; omega, rfl, by simp [Go.Vm.look, extK]⟩
                show Ints _ (zerP p s (q.2.2 + 1))
                rw [zerP, if_pos htb]
                exact intsD_ints _
               ·skip
                replace hc194 := of_decide_eq_false hc194
                have htb : ¬ s.testBit (q.2.2 + 1) = true := by rw [← hbit]; simpa using hc194
                refine KC.skip ?_
                refine blockK_n ?_
                refine thenK_n ?_
                refine KC.region ?_
                refine KT.step rfl rfl (K.add rfl rfl (wrap_id (by omega))) ?_
                refine KT.step rfl rfl (K.move rfl) ?_
                refine KT.nil ?_
                refine thenK_n ?_
                refine ⟨(_, q.2.1, q.2.2 + 1), ⟨?_, by simp only; omega⟩, by simp only; omega, rfl, by simp [Go.Vm.look, extK]⟩
                show Ints _ (zerP p s (q.2.2 + 1))
                rw [zerP, if_neg htb]
                exact hq1
              ·skip
               replace hc187 := of_decide_eq_false hc187
               refine KC.exit ?_
               refine thenK_x ?_
               refine thenK_x ?_
               refine blockK_e ?_
               refine thenK_n ?_
               refine KC.seq ?_
               refine KC.region ?_
               refine KT.step rfl rfl (K.move rfl) ?_
               refine KT.step rfl rfl (K.move rfl) ?_
               refine KT.step rfl rfl (K.call2 rfl rfl plainTry_31 (Has31 (z := rsZ Z s) (resD_mat (e := rsE Z ((s : Nat) : Int)) (n := Z.length) (a := resM Z.length (((s : Nat) : Int)).toNat (tightM Z.length (zf Z)))) (resZ_len (kz.1) _).1 (resZ_len (kz.1) _).2 hq1 (by rw [zerP_len]; omega))) ?_
               refine KT.step rfl rfl (K.move rfl) ?_
               refine KT.step rfl rfl (K.extract rfl rfl) ?_
               refine KT.step rfl rfl (K.extract rfl rfl) ?_
               refine KT.step rfl rfl (K.assign rfl) ?_
               refine KT.step rfl rfl (K.assign rfl) ?_
               refine KT.nil ?_
               refine thenK_n ?_
               refine KC.seq ?_
               refine KC.region ?_
               refine KT.step rfl rfl (K.move rfl) ?_
               refine KT.step rfl rfl (K.neq rfl rfl) ?_
               refine KT.step rfl rfl (K.move rfl) ?_
               refine KT.bcase (fun hb209 => ?_) (fun hb209 => ?_)
               ·skip
                replace hb209 := of_decide_eq_true hb209
                refine KT.skip rfl rfl ?_
                refine KT.step rfl rfl (K.pick rfl (fun _ => rfl) (fun h => by cases h)) ?_
                refine KT.step rfl rfl (K.move rfl) ?_
                refine KT.step rfl rfl (K.call0 plainTry_21 (awake21)) ?_
                refine KT.step rfl rfl (K.pick rfl (fun _ => rfl) (fun h => by cases h)) ?_
                refine KT.step rfl rfl (K.assign rfl) ?_
                refine KT.nil ?_
                refine thenK_n ?_
                refine KC.ret ?_
                exact ⟨.inl rfl, _, rfl, rfl⟩
               ·skip
                replace hb209 := of_decide_eq_false hb209
                refine KT.step rfl rfl (K.move rfl) ?_
                refine KT.step rfl rfl (K.pick rfl (fun h => by cases h) (fun _ => rfl)) ?_
                refine KT.step rfl rfl (K.move rfl) ?_
                refine KT.bcase (fun hb212 => ?_) (fun hb212 => ?_)
                ·skip
                 refine KT.step rfl rfl (K.call0 plainTry_21 (awake21)) ?_
                 refine KT.step rfl rfl (K.pick rfl (fun _ => rfl) (fun h => by cases h)) ?_
                 refine KT.step rfl rfl (K.assign rfl) ?_
                 refine KT.nil ?_
                 refine thenK_n ?_
                 refine KC.ret ?_
                 exact ⟨.inl rfl, _, rfl, rfl⟩
                ·skip
                 have hqe : q.2.2 = p.length := by omega
                 exact Bool.noConfusion (hb212.symm.trans (mv_res hc119 hre (by rw [hqe]; rfl) (Classical.not_not.1 hb209)))
        ·skip
         exact absurd hc73 (of_decide_eq_false hb114)
      ·skip
       refine KT.skip rfl rfl ?_
       refine KT.skip rfl rfl ?_
       refine KT.skip rfl rfl ?_
       refine KT.skip rfl rfl ?_
       refine KT.skip rfl rfl ?_
       refine KT.skip rfl rfl ?_
       refine KT.skip rfl rfl ?_
       refine KT.skip rfl rfl ?_
       refine KT.skip rfl rfl ?_
       refine KT.skip rfl rfl ?_
       refine KT.skip rfl rfl ?_
       refine KT.skip rfl rfl ?_
       refine KT.skip rfl rfl ?_
       refine KT.skip rfl rfl ?_
       refine KT.step rfl rfl (K.pick rfl (fun h => by cases h) (fun _ => rfl)) ?_
       refine KT.step rfl rfl (K.assign rfl) ?_
       refine KT.nil ?_
       refine ⟨by kernel_rfl, ?_⟩
       refine thenK_n ?_
       refine KC.seq ?_
       refine KC.region ?_
       refine KT.step rfl rfl (K.move rfl) ?_
       refine KT.step rfl rfl (K.move rfl) ?_
       refine KT.step rfl rfl (K.call2 rfl rfl plainTry_31 (Has31 (z := anZ Z gi gj gb) (resD_mat (e := anE Z gi gj gb) (n := Z.length) (a := tightM Z.length (andM Z (gi : Int).toNat (gj : Int).toNat gb))) (resZ_len (kz.1) _).1 (resZ_len (kz.1) _).2 he hlp)) ?_
       refine KT.step rfl rfl (K.move rfl) ?_
       refine KT.step rfl rfl (K.extract rfl rfl) ?_
       refine KT.step rfl rfl (K.extract rfl rfl) ?_
       refine KT.step rfl rfl (K.assign rfl) ?_
       refine KT.step rfl rfl (K.assign rfl) ?_
       refine KT.nil ?_
       refine thenK_n ?_
       refine KC.seq ?_
       refine KC.region ?_
       refine KT.step rfl rfl (K.move rfl) ?_
       refine KT.step rfl rfl (K.eql rfl rfl) ?_
       refine KT.step rfl rfl (K.move rfl) ?_
       refine KT.bcase (fun hb102 => ?_) (fun hb102 => ?_)
       ·skip
        exact absurd (of_decide_eq_true hb102) hb70
       ·skip
        replace hb102 := of_decide_eq_false hb102
        refine KT.skip rfl rfl ?_
        refine KT.skip rfl rfl ?_
        refine KT.step rfl rfl (K.pick rfl (fun h => by cases h) (fun _ => rfl)) ?_
        refine KT.step rfl rfl (K.move rfl) ?_
        refine KT.skip rfl rfl ?_
        refine KT.skip rfl rfl ?_
        refine KT.skip rfl rfl ?_
        refine KT.step rfl rfl (K.pick rfl (fun h => by cases h) (fun _ => rfl)) ?_
        refine KT.step rfl rfl (K.move rfl) ?_
        refine KT.step rfl rfl (K.move rfl) ?_
        refine KT.step rfl rfl (K.eql rfl rfl) ?_
        refine KT.step rfl rfl (K.move rfl) ?_
        refine KT.bcase (fun hb114 => ?_) (fun hb114 => ?_)
        ·skip
         replace hb114 := of_decide_eq_true hb114
         refine KT.step rfl rfl (K.move rfl) ?_
         refine KT.step rfl rfl (K.pick rfl (fun _ => rfl) (fun h => by cases h)) ?_
         refine KT.step rfl rfl (K.pick rfl (fun h => by cases h) (fun _ => rfl)) ?_
         refine KT.nil ?_
         refine thenK_n ?_
         refine KC.cond rfl (fun hc117 => ?_) (fun hc117 => ?_)
         ·cases hc117
         ·skip
          refine KC.skip ?_
          refine thenK_n ?_
          refine KC.seq ?_
          refine KC.seq ?_
          refine KC.region ?_
          refine KT.step rfl rfl (K.move rfl) ?_
          refine KT.step rfl rfl (K.not rfl) ?_
          refine KT.nil ?_
          refine thenK_n ?_
          refine KC.cond rfl (fun hc119 => ?_) (fun hc119 => ?_)
          ·skip
           refine KC.seq ?_
           refine KC.region ?_
           refine KT.step rfl rfl (K.call0 plainTry_21 (awake21)) ?_
           refine KT.step rfl rfl (K.assign rfl) ?_
           refine KT.nil ?_
           refine thenK_n ?_
           refine KC.ret ?_
           refine thenK_r ?_
           exact ⟨.inl rfl, _, rfl, rfl⟩
          ·skip
           rw [hb78] at hc119
           cases hc119
        ·skip
         exact absurd hc73 (of_decide_eq_false hb114)
     ·skip
      replace hc73 := of_decide_eq_false hc73
      refine KC.skip ?_
      refine thenK_n ?_
      refine KC.seq ?_
      refine KC.seq ?_
      refine KC.region ?_
      refine KT.step rfl rfl (K.move rfl) ?_
      refine KT.step rfl rfl (K.not rfl) ?_
      refine KT.nil ?_
      refine thenK_n ?_
      refine KC.cond rfl (fun hc119 => ?_) (fun hc119 => ?_)
      ·skip
       refine KC.seq ?_
       refine KC.region ?_
       refine KT.step rfl rfl (K.call0 plainTry_21 (awake21)) ?_
       refine KT.step rfl rfl (K.assign rfl) ?_
       refine KT.nil ?_
       refine thenK_n ?_
       refine KC.ret ?_
       refine thenK_r ?_
       exact ⟨.inl rfl, _, rfl, rfl⟩
      ·skip
       rw [Bool.not_eq_false'] at hc119
       obtain ⟨_, htg, _⟩ := mv_zero hc119
       refine KC.skip ?_
       refine thenK_n ?_
       refine KC.seq ?_
       refine KC.region ?_
       refine KT.step rfl rfl (K.move rfl) ?_
       refine KT.step rfl rfl (K.conv rfl Try.underlying3 Try.underlying49 (wrapUI _)) ?_
       refine KT.step rfl rfl (K.rem rfl rfl (by omega) (show Int.tmod ((t0 % 2 ^ 64).toNat : Int) 400 = (((t0 % 2 ^ 64).toNat % 400 : Nat) : Int) from tmodN _ 400)) ?_
       refine KT.step rfl rfl (K.conv rfl Try.underlying49 Try.underlying3 (wrapN (by omega))) ?_
       refine KT.step rfl rfl (K.assign rfl) ?_
       refine KT.nil ?_
       refine thenK_n ?_
       refine KC.seq ?_
       have ht : (t0 % 2 ^ 64).toNat % 400 < 400 := Nat.mod_lt _ (by decide)
       generalize (t0 % 2 ^ 64).toNat % 400 = t at ht ⊢
       refine KC.anyS fun σ2 => ?_
       refine KC.region ?_
       refine KT.step rfl rfl (K.move rfl) ?_
       refine KT.step rfl rfl (K.callG (τ := [⟨[], 0⟩, ⟨cellsI p, 0⟩]) rfl plainTry_39 (clone39_ints he (by omega) (by omega))) ?_
       refine KT.step rfl rfl (K.assign rfl) ?_
       refine KT.nil ?_
       refine thenK_n ?_
       refine KC.seq ?_
       refine KC.seq ?_
       refine KC.region ?_
       refine KT.step rfl rfl (K.move rfl) ?_
       refine KT.step rfl rfl (K.lenO rfl Try.underlying23) ?_
       refine KT.step rfl rfl (K.move rfl) ?_
       refine KT.nil ?_
       refine thenK_n ?_
       refine KC.block ?_
       refine KC.loop (fun i : Nat => σ2 ++ [⟨[], 0⟩, ⟨cellsI (raiP p t i), 0⟩]) (fun i => [(0, .d d), (1, .d e), (3, .d (DI s)), (4, .d (DI (t : Nat))), (18, .osl (σ2.length + 1) 0 p.length 1 p.length false), (127, .osl (σ2.length + 1) 0 p.length 1 p.length false), (128, .d (DI (p.length : Nat))), (129, .d (DI (i : Nat)))]) (fun i => i ≤ p.length) (fun i => p.length - i) 0 (Nat.zero_le _) rfl (by simp [Go.Vm.look, extK, enterK]) ?_
       intro i hi
       refine KC.seq ?_
       refine KC.region ?_
       refine KT.step rfl rfl (K.lss rfl rfl) ?_
       refine KT.nil ?_
       refine thenK_n ?_
       refine KC.seq ?_
       refine KC.cond rfl (fun hc130 => ?_) (fun hc130 => ?_)
       ·skip
        replace hc130 := of_decide_eq_true hc130
        have hil : i < p.length := by omega
        refine KC.skip ?_
        refine thenK_n ?_
        refine KC.seq ?_
        refine KC.block ?_
        refine KC.seq ?_
        refine KC.region ?_
        refine KT.step rfl rfl (K.move rfl) ?_
        refine KT.step rfl rfl (K.assign rfl) ?_
        refine KT.nil ?_
        refine thenK_n ?_
        refine KC.region ?_
        refine KT.step rfl rfl (K.move rfl) ?_
        refine KT.step rfl rfl (K.move rfl) ?_
        refine KT.step rfl rfl (K.move rfl) ?_
        refine KT.step rfl rfl (K.move rfl) ?_
        refine KT.step rfl rfl (K.idxO rfl rfl (by omega) Try.underlying23 Try.size3) ?_
        refine KT.step rfl rfl (K.loadO rfl own_get (by simp) (cellsI_get (by rw [raiP_len]; exact hil)) Try.agg3) ?_
        rw [raiP_get hil]
        refine KT.step rfl rfl (K.move rfl) ?_
        refine KT.step rfl rfl (K.add rfl rfl (wrap_id (by have := hall _ (List.getElem_mem hil); omega))) ?_
        refine KT.step rfl rfl (K.min2 rfl rfl) ?_
        refine KT.step rfl rfl (K.idxO rfl rfl (by omega) Try.underlying23 Try.size3) ?_
        refine KT.step rfl rfl (K.storeO rfl rfl own_get (by rw [cellsI_len, raiP_len]; omega) rfl rfl Try.size3) ?_
        refine KT.nil ?_
        refine blockK_n ?_
        refine thenK_n ?_
        refine KC.region ?_
        refine KT.step rfl rfl (K.add rfl rfl (wrap_id (by omega))) ?_
        refine KT.step rfl rfl (K.move rfl) ?_
        refine KT.nil ?_
        refine thenK_n ?_
        refine ⟨i + 1, by omega, by omega, (by rw [own_set, cellsI_set, raiP_set hil]), by simp [Go.Vm.look, extK]⟩
       ·skip
        replace hc130 := of_decide_eq_false hc130
        refine KC.exit ?_
        refine thenK_x ?_
        refine thenK_x ?_
        refine blockK_e ?_
        refine thenK_n ?_
        refine KC.seq ?_
        refine KC.seq ?_
        refine KC.region ?_
        refine KT.step rfl rfl (K.move rfl) ?_
        refine KT.step rfl rfl (K.call1 rfl plainTry_40 (Max40 he hlp (by omega))) ?_
        refine KT.step rfl rfl (K.move rfl) ?_
        refine KT.step rfl rfl (K.add rfl rfl (wrap_id (by have := hall _ (mxP_in (p := p) (p.length - 1) (by omega)); omega))) ?_
        refine KT.step rfl rfl (K.leq rfl rfl) ?_
        refine KT.nil ?_
        refine thenK_n ?_
        refine KC.cond rfl (fun hc147 => ?_) (fun hc147 => ?_)
        ·skip
         replace hc147 := of_decide_eq_true hc147
         have hie : i = p.length := by omega
         have hmx : ∀ x ∈ p, x + (t : Int) ≤ 20000 := fun x hx => by
          obtain ⟨k, hk, rfl⟩ := List.getElem_of_mem hx
          have := mxP_ge (p := p) (p.length - 1) k (by omega)
          rw [show p.getD k 0 = p[k] by simp [hk]] at this
          omega
         refine KC.seq ?_
         refine KC.region ?_
         refine KT.step rfl rfl (K.move rfl) ?_
         refine KT.step rfl rfl (K.call1 rfl plainTry_16 (few16 hd hl hr)) ?_
         refine KT.step rfl rfl (K.call1 rfl plainTry_25 (Delay25 hmz fz.1 fz.2)) ?_
         refine KT.step rfl rfl (K.move rfl) ?_
         refine KT.step rfl rfl (K.extract rfl rfl) ?_
         refine KT.step rfl rfl (K.extract rfl rfl) ?_
         refine KT.step rfl rfl (K.assign rfl) ?_
         refine KT.step rfl rfl (K.assign rfl) ?_
         refine KT.nil ?_
         refine thenK_n ?_
         refine KC.seq ?_
         refine KC.region ?_
         refine KT.step rfl rfl (K.move rfl) ?_
         refine KT.step rfl rfl (K.move rfl) ?_
         refine KT.step rfl rfl (K.callZ (ds := [resD (dlE Z) Z.length (delM Z.length (tightM Z.length (zf Z))), intsD (raiP p t i)]) [σ2.length + 1] 5 rfl plainTry_31 (map2_deep (own_deep (own_get) (by simp) (by rw [raiP_len]))) (Has31 (z := dlZ Z) (resD_mat (e := dlE Z) (n := Z.length) (a := delM Z.length (tightM Z.length (zf Z)))) (resZ_len (kz.1) _).1 (resZ_len (kz.1) _).2 (intsD_ints _) (by rw [raiP_len]; omega))) ?_
         refine KT.step rfl rfl (K.move rfl) ?_
         refine KT.step rfl rfl (K.extract rfl rfl) ?_
         refine KT.step rfl rfl (K.extract rfl rfl) ?_
         refine KT.step rfl rfl (K.assign rfl) ?_
         refine KT.step rfl rfl (K.assign rfl) ?_
         refine KT.nil ?_
         refine thenK_n ?_
         refine KC.seq ?_
         refine KC.region ?_
         refine KT.step rfl rfl (K.move rfl) ?_
         refine KT.step rfl rfl (K.neq rfl rfl) ?_
         refine KT.step rfl rfl (K.move rfl) ?_
         refine KT.bcase (fun hb162 => ?_) (fun hb162 => ?_)
         ·skip
          exact absurd ((dlE_eq Z).trans htg) (of_decide_eq_true hb162)
         ·skip
          replace hb162 := of_decide_eq_false hb162
          refine KT.step rfl rfl (K.move rfl) ?_
          refine KT.step rfl rfl (K.eql rfl rfl) ?_
          refine KT.step rfl rfl (K.move rfl) ?_
          refine KT.bcase (fun hb165 => ?_) (fun hb165 => ?_)
          ·skip
           replace hb165 := of_decide_eq_true hb165
           refine KT.step rfl rfl (K.move rfl) ?_
           refine KT.step rfl rfl (K.not rfl) ?_
           refine KT.step rfl rfl (K.pick rfl (fun _ => rfl) (fun h => by cases h)) ?_
           refine KT.step rfl rfl (K.pick rfl (fun h => by cases h) (fun _ => rfl)) ?_
           refine KT.nil ?_
           refine thenK_n ?_
           refine KC.cond rfl (fun hc169 => ?_) (fun hc169 => ?_)
           ·skip
            rw [Bool.not_eq_true'] at hc169
            exact Bool.noConfusion (hc169.symm.trans (mv_del hc119 (by omega) hmx (by rw [hie]; exact raiP_end (Nat.le_refl _)) hb165))
           ·skip
            refine KC.skip ?_
            refine thenK_n ?_
            refine KC.seq ?_
            refine KC.region ?_
            refine KT.step rfl rfl (K.move rfl) ?_
            refine KT.step rfl rfl (K.call1 rfl plainTry_16 (few16 hd hl hr)) ?_
            refine KT.step rfl rfl (K.move rfl) ?_
            refine KT.step rfl rfl (K.call2 rfl rfl plainTry_27 (Reset27 hmz fz.1 fz.2 kz.1)) ?_
            refine KT.step rfl rfl (K.move rfl) ?_
            refine KT.step rfl rfl (K.extract rfl rfl) ?_
            refine KT.step rfl rfl (K.extract rfl rfl) ?_
            refine KT.step rfl rfl (K.assign rfl) ?_
            refine KT.step rfl rfl (K.assign rfl) ?_
            refine KT.nil ?_
            refine thenK_n ?_
            refine KC.seq ?_
            refine KC.seq ?_
            refine KC.region ?_
            refine KT.step rfl rfl (K.move rfl) ?_
            refine KT.step rfl rfl (K.neq rfl rfl) ?_
            refine KT.nil ?_
            refine thenK_n ?_
            refine KC.cond rfl (fun hc178 => ?_) (fun hc178 => ?_)
            ·skip
             replace hc178 := of_decide_eq_true hc178
             refine KC.seq ?_
             refine KC.region ?_
             refine KT.step rfl rfl (K.move rfl) ?_
             refine KT.step rfl rfl (K.eql rfl rfl) ?_
             refine KT.step rfl rfl (K.move rfl) ?_
             refine KT.bcase (fun hb181 => ?_) (fun hb181 => ?_)
             ·skip
              replace hb181 := of_decide_eq_true hb181
              refine KT.step rfl rfl (K.call0 plainTry_21 (awake21)) ?_
              refine KT.step rfl rfl (K.pick rfl (fun _ => rfl) (fun h => by cases h)) ?_
              refine KT.step rfl rfl (K.assign rfl) ?_
              refine KT.nil ?_
              refine thenK_n ?_
              refine KC.ret ?_
              refine thenK_r ?_
              exact ⟨.inl rfl, _, rfl, rfl⟩
             ·skip
              rcases rs_cases (s := s) htg with h | h
              ·exact absurd h.1 hc178
              ·exact absurd h (of_decide_eq_false hb181)
            ·skip
             replace hc178 := of_decide_eq_false hc178
             have hre := Classical.not_not.1 hc178
             have hsb : setB Z.length s = true := by
              rcases rs_cases (s := s) htg with h | h
              ·exact h.2
              ·rw [h] at hre; cases hre
             have hsb2 := hsb
             unfold setB at hsb2
             simp only [Bool.and_eq_true, decide_eq_true_eq] at hsb2
             obtain ⟨⟨hs0, hs1⟩, _⟩ := hsb2
             obtain ⟨s, rfl⟩ := Int.eq_ofNat_of_zero_le hs0
             have hp6 : 2 ^ Z.length ≤ 2 ^ 6 := Nat.pow_le_pow_right (by decide) (by omega)
             have hs2 : s < 2 ^ 63 := by generalize 2 ^ Z.length = q at *; omega
             refine KC.skip ?_
             refine thenK_n ?_
             refine KC.seq ?_
             refine KC.seq ?_
             refine KC.region ?_
             refine KT.step rfl rfl (K.move rfl) ?_
             refine KT.step rfl rfl (K.len rfl he Try.underlying23) ?_
             refine KT.step rfl rfl (K.move rfl) ?_
             refine KT.nil ?_
             refine thenK_n ?_
             refine KC.block ?_
             refine KC.loop (fun q : List VObj × DV × Nat => q.1) (fun q => [(0, .d d), (1, .d q.2.1), (3, .d (DI (s : Nat))), (24, .d (resD (rsE Z (s : Nat)) Z.length (resM Z.length ((s : Nat) : Int).toNat (tightM Z.length (zf Z))))), (185, .d (DI (p.length : Nat))), (186, .d (DI (q.2.2 : Nat)))]) (fun q => Ints q.2.1 (zerP p s q.2.2) ∧ q.2.2 ≤ p.length) (fun q => p.length - q.2.2) (_, e, 0) ⟨he, Nat.zero_le _⟩ rfl (by simp [Go.Vm.look, extK, enterK]) ?_
             intro q hq
             obtain ⟨hq1, hq2⟩ := hq
             refine KC.seq ?_
             refine KC.region ?_
             refine KT.step rfl rfl (K.lss rfl rfl) ?_
             refine KT.nil ?_
             refine thenK_n ?_
             refine KC.seq ?_
             refine KC.cond rfl (fun hc187 => ?_) (fun hc187 => ?_)
             ·skip
              replace hc187 := of_decide_eq_true hc187
              have hbit := bitOne s (q.2.2 + 1)
              refine KC.skip ?_
              refine thenK_n ?_
              refine KC.seq ?_
              refine KC.block ?_
              refine KC.seq ?_
              refine KC.region ?_
              refine KT.step rfl rfl (K.move rfl) ?_
              refine KT.step rfl rfl (K.assign rfl) ?_
              refine KT.nil ?_
              refine thenK_n ?_
              refine KC.seq ?_
              refine KC.region ?_
              refine KT.step rfl rfl (K.move rfl) ?_
              refine KT.step rfl rfl (K.move rfl) ?_
              refine KT.step rfl rfl (K.add rfl rfl (oneN (by omega))) ?_
              refine KT.step rfl rfl (K.shr rfl rfl (by omega) (shrI (a := s) (i := q.2.2 + 1) (by omega))) ?_
              refine KT.step rfl rfl (K.band rfl rfl (show IntKind.i64.wrap (BitVec.ofInt IntKind.i64.bits ((s / 2 ^ (q.2.2 + 1) : Nat) : Int) &&& BitVec.ofInt IntKind.i64.bits (1 : Int)).toNat = ((s / 2 ^ (q.2.2 + 1) &&& 1 : Nat) : Int) from andI (b := 1) (Nat.lt_of_le_of_lt (Nat.div_le_self _ _) hs2) (by decide))) ?_
              refine KT.step rfl rfl (K.eql rfl rfl) ?_
              refine KT.nil ?_
              refine thenK_n ?_
              refine KC.cond rfl (fun hc194 => ?_) (fun hc194 => ?_)
              ·skip
               replace hc194 := of_decide_eq_true hc194
               have htb : s.testBit (q.2.2 + 1) = true := by rw [← hbit]; exact decide_eq_true hc194
               refine KC.seq ?_
               refine KC.region ?_
               refine KT.step rfl rfl (K.move rfl) ?_
               refine KT.step rfl rfl (K.callG (τ := [⟨[], 0⟩, ⟨cellsI (zerP p s q.2.2), 0⟩]) rfl plainTry_39 (clone39_ints hq1 (by rw [zerP_len]; omega) (by rw [zerP_len]; omega))) ?_
               refine KT.step rfl rfl (K.assign rfl) ?_
               refine KT.nil ?_
               refine thenK_n ?_
               refine KC.region ?_
               refine KT.step rfl rfl (K.move rfl) ?_
               refine KT.step rfl rfl (K.move rfl) ?_
               refine KT.step rfl rfl (K.idxO rfl rfl (by rw [zerP_len]; omega) Try.underlying23 Try.size3) ?_
               refine KT.step rfl rfl (K.storeO rfl rfl own_get (by rw [cellsI_len, zerP_len]; omega) rfl rfl Try.size3) ?_
               refine KT.nil ?_
               refine blockK_n ?_
               refine thenK_n ?_
               refine KC.ghost [q.1.length + 1] 5 (t := 1) rfl (own_deep (l := (zerP p s q.2.2).set q.2.2 0) (by rw [own_set, cellsI_set]; exact own_get) (by simp) (by rw [List.length_set])) ?_
               refine KC.region ?_
               refine KT.step rfl rfl (K.add rfl rfl (wrap_id (by omega))) ?_
               refine KT.step rfl rfl (K.move rfl) ?_
               refine KT.nil ?_
               refine thenK_n ?_
               refine ⟨(_, intsD ((zerP p s q.2.2).set q.2.2 0), q.2.2 + 1), ⟨?_, by simp only; omega⟩, by simp only; omega, rfl, by simp [Go.Vm.look, extK]⟩
               show Ints _ (zerP p s (q.2.2 + 1))
               rw [zerP, if_pos htb]
               exact intsD_ints _
              ·skip
               replace hc194 := of_decide_eq_false hc194
               have htb : ¬ s.testBit (q.2.2 + 1) = true := by rw [← hbit]; simpa using hc194
               refine KC.skip ?_
               refine blockK_n ?_
               refine thenK_n ?_
               refine KC.region ?_
               refine KT.step rfl rfl (K.add rfl rfl (wrap_id (by omega))) ?_
               refine KT.step rfl rfl (K.move rfl) ?_
               refine KT.nil ?_
               refine thenK_n ?_
               refine ⟨(_, q.2.1, q.2.2 + 1), ⟨?_, by simp only; omega⟩, by simp only; omega, rfl, by simp [Go.Vm.look, extK]⟩
               show Ints _ (zerP p s (q.2.2 + 1))
               rw [zerP, if_neg htb]
               exact hq1
             ·skip
              replace hc187 := of_decide_eq_false hc187
              refine KC.exit ?_
              refine thenK_x ?_
              refine thenK_x ?_
              refine blockK_e ?_
              refine thenK_n ?_
              refine KC.seq ?_
              refine KC.region ?_
              refine KT.step rfl rfl (K.move rfl) ?_
              refine KT.step rfl rfl (K.move rfl) ?_
              refine KT.step rfl rfl (K.call2 rfl rfl plainTry_31 (Has31 (z := rsZ Z s) (resD_mat (e := rsE Z ((s : Nat) : Int)) (n := Z.length) (a := resM Z.length (((s : Nat) : Int)).toNat (tightM Z.length (zf Z)))) (resZ_len (kz.1) _).1 (resZ_len (kz.1) _).2 hq1 (by rw [zerP_len]; omega))) ?_
              refine KT.step rfl rfl (K.move rfl) ?_
              refine KT.step rfl rfl (K.extract rfl rfl) ?_
              refine KT.step rfl rfl (K.extract rfl rfl) ?_
              refine KT.step rfl rfl (K.assign rfl) ?_
              refine KT.step rfl rfl (K.assign rfl) ?_
              refine KT.nil ?_
              refine thenK_n ?_
              refine KC.seq ?_
              refine KC.region ?_
              refine KT.step rfl rfl (K.move rfl) ?_
              refine KT.step rfl rfl (K.neq rfl rfl) ?_
              refine KT.step rfl rfl (K.move rfl) ?_
              refine KT.bcase (fun hb209 => ?_) (fun hb209 => ?_)
              ·skip
               replace hb209 := of_decide_eq_true hb209
               refine KT.skip rfl rfl ?_
               refine KT.step rfl rfl (K.pick rfl (fun _ => rfl) (fun h => by cases h)) ?_
               refine KT.step rfl rfl (K.move rfl) ?_
               refine KT.step rfl rfl (K.call0 plainTry_21 (awake21)) ?_
               refine KT.step rfl rfl (K.pick rfl (fun _ => rfl) (fun h => by cases h)) ?_
               refine KT.step rfl rfl (K.assign rfl) ?_
               refine KT.nil ?_
               refine thenK_n ?_
               refine KC.ret ?_
               exact ⟨.inl rfl, _, rfl, rfl⟩
              ·skip
               replace hb209 := of_decide_eq_false hb209
               refine KT.step rfl rfl (K.move rfl) ?_
               refine KT.step rfl rfl (K.pick rfl (fun h => by cases h) (fun _ => rfl)) ?_
               refine KT.step rfl rfl (K.move rfl) ?_
               refine KT.bcase (fun hb212 => ?_) (fun hb212 => ?_)
               ·skip
                refine KT.step rfl rfl (K.call0 plainTry_21 (awake21)) ?_
                refine KT.step rfl rfl (K.pick rfl (fun _ => rfl) (fun h => by cases h)) ?_
                refine KT.step rfl rfl (K.assign rfl) ?_
                refine KT.nil ?_
                refine thenK_n ?_
                refine KC.ret ?_
                exact ⟨.inl rfl, _, rfl, rfl⟩
               ·skip
                have hqe : q.2.2 = p.length := by omega
                exact Bool.noConfusion (hb212.symm.trans (mv_res hc119 hre (by rw [hqe]; rfl) (Classical.not_not.1 hb209)))
          ·skip
           replace hb165 := of_decide_eq_false hb165
           refine KT.skip rfl rfl ?_
           refine KT.skip rfl rfl ?_
           refine KT.step rfl rfl (K.pick rfl (fun h => by cases h) (fun _ => rfl)) ?_
           refine KT.step rfl rfl (K.pick rfl (fun h => by cases h) (fun _ => rfl)) ?_
           refine KT.nil ?_
           refine thenK_n ?_
           refine KC.cond rfl (fun hc169 => ?_) (fun hc169 => ?_)
           ·cases hc169
           ·skip
            refine KC.skip ?_
            refine thenK_n ?_
            refine KC.seq ?_
            refine KC.region ?_
            refine KT.step rfl rfl (K.move rfl) ?_
            refine KT.step rfl rfl (K.call1 rfl plainTry_16 (few16 hd hl hr)) ?_
            refine KT.step rfl rfl (K.move rfl) ?_
            refine KT.step rfl rfl (K.call2 rfl rfl plainTry_27 (Reset27 hmz fz.1 fz.2 kz.1)) ?_
            refine KT.step rfl rfl (K.move rfl) ?_
            refine KT.step rfl rfl (K.extract rfl rfl) ?_
            refine KT.step rfl rfl (K.extract rfl rfl) ?_
            refine KT.step rfl rfl (K.assign rfl) ?_
            refine KT.step rfl rfl (K.assign rfl) ?_
            refine KT.nil ?_
            refine thenK_n ?_
            refine KC.seq ?_
            refine KC.seq ?_
            refine KC.region ?_
            refine KT.step rfl rfl (K.move rfl) ?_
            refine KT.step rfl rfl (K.neq rfl rfl) ?_
            refine KT.nil ?_
            refine thenK_n ?_
            refine KC.cond rfl (fun hc178 => ?_) (fun hc178 => ?_)
            ·skip
             replace hc178 := of_decide_eq_true hc178
             refine KC.seq ?_
             refine KC.region ?_
             refine KT.step rfl rfl (K.move rfl) ?_
             refine KT.step rfl rfl (K.eql rfl rfl) ?_
             refine KT.step rfl rfl (K.move rfl) ?_
             refine KT.bcase (fun hb181 => ?_) (fun hb181 => ?_)
             ·skip
              replace hb181 := of_decide_eq_true hb181
              refine KT.step rfl rfl (K.call0 plainTry_21 (awake21)) ?_
              refine KT.step rfl rfl (K.pick rfl (fun _ => rfl) (fun h => by cases h)) ?_
              refine KT.step rfl rfl (K.assign rfl) ?_
              refine KT.nil ?_
              refine thenK_n ?_
              refine KC.ret ?_
              refine thenK_r ?_
              exact ⟨.inl rfl, _, rfl, rfl⟩
             ·skip
              rcases rs_cases (s := s) htg with h | h
              ·exact absurd h.1 hc178
              ·exact absurd h (of_decide_eq_false hb181)
            ·skip
             replace hc178 := of_decide_eq_false hc178
             have hre := Classical.not_not.1 hc178
             have hsb : setB Z.length s = true := by
              rcases rs_cases (s := s) htg with h | h
              ·exact h.2
              ·rw [h] at hre; cases hre
             have hsb2 := hsb
             unfold setB at hsb2
             simp only [Bool.and_eq_true, decide_eq_true_eq] at hsb2
             obtain ⟨⟨hs0, hs1⟩, _⟩ := hsb2
             obtain ⟨s, rfl⟩ := Int.eq_ofNat_of_zero_le hs0
             have hp6 : 2 ^ Z.length ≤ 2 ^ 6 := Nat.pow_le_pow_right (by decide) (by omega)
             have hs2 : s < 2 ^ 63 := by generalize 2 ^ Z.length = q at *; omega
             refine KC.skip ?_
             refine thenK_n ?_
             refine KC.seq ?_
             refine KC.seq ?_
             refine KC.region ?_
             refine KT.step rfl rfl (K.move rfl) ?_
             refine KT.step rfl rfl (K.len rfl he Try.underlying23) ?_
             refine KT.step rfl rfl (K.move rfl) ?_
             refine KT.nil ?_
             refine thenK_n ?_
             refine KC.block ?_
             refine KC.loop (fun q : List VObj × DV × Nat => q.1) (fun q => [(0, .d d), (1, .d q.2.1), (3, .d (DI (s : Nat))), (24, .d (resD (rsE Z (s : Nat)) Z.length (resM Z.length ((s : Nat) : Int).toNat (tightM Z.length (zf Z))))), (185, .d (DI (p.length : Nat))), (186, .d (DI (q.2.2 : Nat)))]) (fun q => Ints q.2.1 (zerP p s q.2.2) ∧ q.2.2 ≤ p.length) (fun q => p.length - q.2.2) (_, e, 0) ⟨he, Nat.zero_le _⟩ rfl (by simp [Go.Vm.look, extK, enterK]) ?_
             intro q hq
             obtain ⟨hq1, hq2⟩ := hq
             refine KC.seq ?_
             refine KC.region ?_
             refine KT.step rfl rfl (K.lss rfl rfl) ?_
             refine KT.nil ?_
             refine thenK_n ?_
             refine KC.seq ?_
             refine KC.cond rfl (fun hc187 => ?_) (fun hc187 => ?_)
             ·skip
              replace hc187 := of_decide_eq_true hc187
              have hbit := bitOne s (q.2.2 + 1)
              refine KC.skip ?_
              refine thenK_n ?_
              refine KC.seq ?_
              refine KC.block ?_
              refine KC.seq ?_
              refine KC.region ?_
              refine KT.step rfl rfl (K.move rfl) ?_
              refine KT.step rfl rfl (K.assign rfl) ?_
              refine KT.nil ?_
              refine thenK_n ?_
              refine KC.seq ?_
              refine KC.region ?_
              refine KT.step rfl rfl (K.move rfl) ?_
              refine KT.step rfl rfl (K.move rfl) ?_
              refine KT.step rfl rfl (K.add rfl rfl (oneN (by omega))) ?_
              refine KT.step rfl rfl (K.shr rfl rfl (by omega) (shrI (a := s) (i := q.2.2 + 1) (by omega))) ?_
              refine KT.step rfl rfl (K.band rfl rfl (show IntKind.i64.wrap (BitVec.ofInt IntKind.i64.bits ((s / 2 ^ (q.2.2 + 1) : Nat) : Int) &&& BitVec.ofInt IntKind.i64.bits (1 : Int)).toNat = ((s / 2 ^ (q.2.2 + 1) &&& 1 : Nat) : Int) from andI (b := 1) (Nat.lt_of_le_of_lt (Nat.div_le_self _ _) hs2) (by decide))) ?_
              refine KT.step rfl rfl (K.eql rfl rfl) ?_
              refine KT.nil ?_
              refine thenK_n ?_
              refine KC.cond rfl (fun hc194 => ?_) (fun hc194 => ?_)
              ·skip
               replace hc194 := of_decide_eq_true hc194
               have htb : s.testBit (q.2.2 + 1) = true := by rw [← hbit]; exact decide_eq_true hc194
               refine KC.seq ?_
               refine KC.region ?_
               refine KT.step rfl rfl (K.move rfl) ?_
               refine KT.step rfl rfl (K.callG (τ := [⟨[], 0⟩, ⟨cellsI (zerP p s q.2.2), 0⟩]) rfl plainTry_39 (clone39_ints hq1 (by rw [zerP_len]; omega) (by rw [zerP_len]; omega))) ?_
               refine KT.step rfl rfl (K.assign rfl) ?_
               refine KT.nil ?_
               refine thenK_n ?_
               refine KC.region ?_
               refine KT.step rfl rfl (K.move rfl) ?_
               refine KT.step rfl rfl (K.move rfl) ?_
               refine KT.step rfl rfl (K.idxO rfl rfl (by rw [zerP_len]; omega) Try.underlying23 Try.size3) ?_
               refine KT.step rfl rfl (K.storeO rfl rfl own_get (by rw [cellsI_len, zerP_len]; omega) rfl rfl Try.size3) ?_
               refine KT.nil ?_
               refine blockK_n ?_
               refine thenK_n ?_
               refine KC.ghost [q.1.length + 1] 5 (t := 1) rfl (own_deep (l := (zerP p s q.2.2).set q.2.2 0) (by rw [own_set, cellsI_set]; exact own_get) (by simp) (by rw [List.length_set])) ?_
               refine KC.region ?_
               refine KT.step rfl rfl (K.add rfl rfl (wrap_id (by omega))) ?_
               refine KT.step rfl rfl (K.move rfl) ?_
               refine KT.nil ?_
               refine thenK_n ?_
               refine ⟨(_, intsD ((zerP p s q.2.2).set q.2.2 0), q.2.2 + 1), ⟨?_, by simp only; omega⟩, by simp only; omega, rfl, by simp [Go.Vm.look, extK]⟩
               show Ints _ (zerP p s (q.2.2 + 1))
               rw [zerP, if_pos htb]
               exact intsD_ints _
              ·skip
               replace hc194 := of_decide_eq_false hc194
               have htb : ¬ s.testBit (q.2.2 + 1) = true := by rw [← hbit]; simpa using hc194
               refine KC.skip ?_
               refine blockK_n ?_
               refine thenK_n ?_
               refine KC.region ?_
               refine KT.step rfl rfl (K.add rfl rfl (wrap_id (by omega))) ?_
               refine KT.step rfl rfl (K.move rfl) ?_
               refine KT.nil ?_
               refine thenK_n ?_
               refine ⟨(_, q.2.1, q.2.2 + 1), ⟨?_, by simp only; omega⟩, by simp only; omega, rfl, by simp [Go.Vm.look, extK]⟩
               show Ints _ (zerP p s (q.2.2 + 1))
               rw [zerP, if_neg htb]
               exact hq1
             ·skip
              replace hc187 := of_decide_eq_false hc187
              refine KC.exit ?_
              refine thenK_x ?_
              refine thenK_x ?_
              refine blockK_e ?_
              refine thenK_n ?_
              refine KC.seq ?_
              refine KC.region ?_
              refine KT.step rfl rfl (K.move rfl) ?_
              refine KT.step rfl rfl (K.move rfl) ?_
              refine KT.step rfl rfl (K.call2 rfl rfl plainTry_31 (Has31 (z := rsZ Z s) (resD_mat (e := rsE Z ((s : Nat) : Int)) (n := Z.length) (a := resM Z.length (((s : Nat) : Int)).toNat (tightM Z.length (zf Z)))) (resZ_len (kz.1) _).1 (resZ_len (kz.1) _).2 hq1 (by rw [zerP_len]; omega))) ?_
              refine KT.step rfl rfl (K.move rfl) ?_
              refine KT.step rfl rfl (K.extract rfl rfl) ?_
              refine KT.step rfl rfl (K.extract rfl rfl) ?_
              refine KT.step rfl rfl (K.assign rfl) ?_
              refine KT.step rfl rfl (K.assign rfl) ?_
              refine KT.nil ?_
              refine thenK_n ?_
              refine KC.seq ?_
              refine KC.region ?_
              refine KT.step rfl rfl (K.move rfl) ?_
              refine KT.step rfl rfl (K.neq rfl rfl) ?_
              refine KT.step rfl rfl (K.move rfl) ?_
              refine KT.bcase (fun hb209 => ?_) (fun hb209 => ?_)
              ·skip
               replace hb209 := of_decide_eq_true hb209
               refine KT.skip rfl rfl ?_
               refine KT.step rfl rfl (K.pick rfl (fun _ => rfl) (fun h => by cases h)) ?_
               refine KT.step rfl rfl (K.move rfl) ?_
               refine KT.step rfl rfl (K.call0 plainTry_21 (awake21)) ?_
               refine KT.step rfl rfl (K.pick rfl (fun _ => rfl) (fun h => by cases h)) ?_
               refine KT.step rfl rfl (K.assign rfl) ?_
               refine KT.nil ?_
               refine thenK_n ?_
               refine KC.ret ?_
               exact ⟨.inl rfl, _, rfl, rfl⟩
              ·skip
               replace hb209 := of_decide_eq_false hb209
               refine KT.step rfl rfl (K.move rfl) ?_
               refine KT.step rfl rfl (K.pick rfl (fun h => by cases h) (fun _ => rfl)) ?_
               refine KT.step rfl rfl (K.move rfl) ?_
               refine KT.bcase (fun hb212 => ?_) (fun hb212 => ?_)
               ·skip
                refine KT.step rfl rfl (K.call0 plainTry_21 (awake21)) ?_
                refine KT.step rfl rfl (K.pick rfl (fun _ => rfl) (fun h => by cases h)) ?_
                refine KT.step rfl rfl (K.assign rfl) ?_
                refine KT.nil ?_
                refine thenK_n ?_
                refine KC.ret ?_
                exact ⟨.inl rfl, _, rfl, rfl⟩
               ·skip
                have hqe : q.2.2 = p.length := by omega
                exact Bool.noConfusion (hb212.symm.trans (mv_res hc119 hre (by rw [hqe]; rfl) (Classical.not_not.1 hb209)))
        ·skip
         replace hc147 := of_decide_eq_false hc147
         refine KC.skip ?_
         refine thenK_n ?_
         refine KC.seq ?_
         refine KC.region ?_
         refine KT.step rfl rfl (K.move rfl) ?_
         refine KT.step rfl rfl (K.call1 rfl plainTry_16 (few16 hd hl hr)) ?_
         refine KT.step rfl rfl (K.move rfl) ?_
         refine KT.step rfl rfl (K.call2 rfl rfl plainTry_27 (Reset27 hmz fz.1 fz.2 kz.1)) ?_
         refine KT.step rfl rfl (K.move rfl) ?_
         refine KT.step rfl rfl (K.extract rfl rfl) ?_
         refine KT.step rfl rfl (K.extract rfl rfl) ?_
         refine KT.step rfl rfl (K.assign rfl) ?_
         refine KT.step rfl rfl (K.assign rfl) ?_
         refine KT.nil ?_
         refine thenK_n ?_
         refine KC.seq ?_
         refine KC.seq ?_
         refine KC.region ?_
         refine KT.step rfl rfl (K.move rfl) ?_
         refine KT.step rfl rfl (K.neq rfl rfl) ?_
         refine KT.nil ?_
         refine thenK_n ?_
         refine KC.cond rfl (fun hc178 => ?_) (fun hc178 => ?_)
         ·skip
          replace hc178 := of_decide_eq_true hc178
          refine KC.seq ?_
          refine KC.region ?_
          refine KT.step rfl rfl (K.move rfl) ?_
          refine KT.step rfl rfl (K.eql rfl rfl) ?_
          refine KT.step rfl rfl (K.move rfl) ?_
          refine KT.bcase (fun hb181 => ?_) (fun hb181 => ?_)
          ·skip
           replace hb181 := of_decide_eq_true hb181
           refine KT.step rfl rfl (K.call0 plainTry_21 (awake21)) ?_
           refine KT.step rfl rfl (K.pick rfl (fun _ => rfl) (fun h => by cases h)) ?_
           refine KT.step rfl rfl (K.assign rfl) ?_
           refine KT.nil ?_
           refine thenK_n ?_
           refine KC.ret ?_
           refine thenK_r ?_
           exact ⟨.inl rfl, _, rfl, rfl⟩
          ·skip
           rcases rs_cases (s := s) htg with h | h
           ·exact absurd h.1 hc178
           ·exact absurd h (of_decide_eq_false hb181)
         ·skip
          replace hc178 := of_decide_eq_false hc178
          have hre := Classical.not_not.1 hc178
          have hsb : setB Z.length s = true := by
           rcases rs_cases (s := s) htg with h | h
           ·exact h.2
           ·rw [h] at hre; cases hre
          have hsb2 := hsb
          unfold setB at hsb2
          simp only [Bool.and_eq_true, decide_eq_true_eq] at hsb2
          obtain ⟨⟨hs0, hs1⟩, _⟩ := hsb2
          obtain ⟨s, rfl⟩ := Int.eq_ofNat_of_zero_le hs0
          have hp6 : 2 ^ Z.length ≤ 2 ^ 6 := Nat.pow_le_pow_right (by decide) (by omega)
          have hs2 : s < 2 ^ 63 := by generalize 2 ^ Z.length = q at *; omega
          refine KC.skip ?_
          refine thenK_n ?_
          refine KC.seq ?_
          refine KC.seq ?_
          refine KC.region ?_
          refine KT.step rfl rfl (K.move rfl) ?_
          refine KT.step rfl rfl (K.len rfl he Try.underlying23) ?_
          refine KT.step rfl rfl (K.move rfl) ?_
          refine KT.nil ?_
          refine thenK_n ?_
          refine KC.block ?_
          refine KC.loop (fun q : List VObj × DV × Nat => q.1) (fun q => [(0, .d d), (1, .d q.2.1), (3, .d (DI (s : Nat))), (24, .d (resD (rsE Z (s : Nat)) Z.length (resM Z.length ((s : Nat) : Int).toNat (tightM Z.length (zf Z))))), (185, .d (DI (p.length : Nat))), (186, .d (DI (q.2.2 : Nat)))]) (fun q => Ints q.2.1 (zerP p s q.2.2) ∧ q.2.2 ≤ p.length) (fun q => p.length - q.2.2) (_, e, 0) ⟨he, Nat.zero_le _⟩ rfl (by simp [Go.Vm.look, extK, enterK]) ?_
          intro q hq
          obtain ⟨hq1, hq2⟩ := hq
          refine KC.seq ?_
          refine KC.region ?_
          refine KT.step rfl rfl (K.lss rfl rfl) ?_
          refine KT.nil ?_
          refine thenK_n ?_
          refine KC.seq ?_
          refine KC.cond rfl (fun hc187 => ?_) (fun hc187 => ?_)
          ·skip
           replace hc187 := of_decide_eq_true hc187
           have hbit := bitOne s (q.2.2 + 1)
           refine KC.skip ?_
           refine thenK_n ?_
           refine KC.seq ?_
           refine KC.block ?_
           refine KC.seq ?_
           refine KC.region ?_
           refine KT.step rfl rfl (K.move rfl) ?_
           refine KT.step rfl rfl (K.assign rfl) ?_
           refine KT.nil ?_
           refine thenK_n ?_
           refine KC.seq ?_
           refine KC.region ?_
           refine KT.step rfl rfl (K.move rfl) ?_
           refine KT.step rfl rfl (K.move rfl) ?_
           refine KT.step rfl rfl (K.add rfl rfl (oneN (by omega))) ?_
           refine KT.step rfl rfl (K.shr rfl rfl (by omega) (shrI (a := s) (i := q.2.2 + 1) (by omega))) ?_
           refine KT.step rfl rfl (K.band rfl rfl (show IntKind.i64.wrap (BitVec.ofInt IntKind.i64.bits ((s / 2 ^ (q.2.2 + 1) : Nat) : Int) &&& BitVec.ofInt IntKind.i64.bits (1 : Int)).toNat = ((s / 2 ^ (q.2.2 + 1) &&& 1 : Nat) : Int) from andI (b := 1) (Nat.lt_of_le_of_lt (Nat.div_le_self _ _) hs2) (by decide))) ?_
           refine KT.step rfl rfl (K.eql rfl rfl) ?_
           refine KT.nil ?_
           refine thenK_n ?_
           refine KC.cond rfl (fun hc194 => ?_) (fun hc194 => ?_)
           ·skip
            replace hc194 := of_decide_eq_true hc194
            have htb : s.testBit (q.2.2 + 1) = true := by rw [← hbit]; exact decide_eq_true hc194
            refine KC.seq ?_
            refine KC.region ?_
            refine KT.step rfl rfl (K.move rfl) ?_
            refine KT.step rfl rfl (K.callG (τ := [⟨[], 0⟩, ⟨cellsI (zerP p s q.2.2), 0⟩]) rfl plainTry_39 (clone39_ints hq1 (by rw [zerP_len]; omega) (by rw [zerP_len]; omega))) ?_
            refine KT.step rfl rfl (K.assign rfl) ?_
            refine KT.nil ?_
            refine thenK_n ?_
            refine KC.region ?_
            refine KT.step rfl rfl (K.move rfl) ?_
            refine KT.step rfl rfl (K.move rfl) ?_
            refine KT.step rfl rfl (K.idxO rfl rfl (by rw [zerP_len]; omega) Try.underlying23 Try.size3) ?_
            refine KT.step rfl rfl (K.storeO rfl rfl own_get (by rw [cellsI_len, zerP_len]; omega) rfl rfl Try.size3) ?_
            refine KT.nil ?_
            refine blockK_n ?_
            refine thenK_n ?_
            refine KC.ghost [q.1.length + 1] 5 (t := 1) rfl (own_deep (l := (zerP p s q.2.2).set q.2.2 0) (by rw [own_set, cellsI_set]; exact own_get) (by simp) (by rw [List.length_set])) ?_
            refine KC.region ?_
            refine KT.step rfl rfl (K.add rfl rfl (wrap_id (by omega))) ?_
            refine KT.step rfl rfl (K.move rfl) ?_
            refine KT.nil ?_
            refine thenK_n ?_
            refine ⟨(_, intsD ((zerP p s q.2.2).set q.2.2 0), q.2.2 + 1), ⟨?_, by simp only; omega⟩, by simp only; omega, rfl, by simp [Go.Vm.look, extK]⟩
            show Ints _ (zerP p s (q.2.2 + 1))
            rw [zerP, if_pos htb]
            exact intsD_ints _
           ·skip
            replace hc194 := of_decide_eq_false hc194
            have htb : ¬ s.testBit (q.2.2 + 1) = true := by rw [← hbit]; simpa using hc194
            refine KC.skip ?_
            refine blockK_n ?_
            refine thenK_n ?_
            refine KC.region ?_
            refine KT.step rfl rfl (K.add rfl rfl (wrap_id (by omega))) ?_
            refine KT.step rfl rfl (K.move rfl) ?_
            refine KT.nil ?_
            refine thenK_n ?_
            refine ⟨(_, q.2.1, q.2.2 + 1), ⟨?_, by simp only; omega⟩, by simp only; omega, rfl, by simp [Go.Vm.look, extK]⟩
            show Ints _ (zerP p s (q.2.2 + 1))
            rw [zerP, if_neg htb]
            exact hq1
          ·skip
           replace hc187 := of_decide_eq_false hc187
           refine KC.exit ?_
           refine thenK_x ?_
           refine thenK_x ?_
           refine blockK_e ?_
           refine thenK_n ?_
           refine KC.seq ?_
           refine KC.region ?_
           refine KT.step rfl rfl (K.move rfl) ?_
           refine KT.step rfl rfl (K.move rfl) ?_
           refine KT.step rfl rfl (K.call2 rfl rfl plainTry_31 (Has31 (z := rsZ Z s) (resD_mat (e := rsE Z ((s : Nat) : Int)) (n := Z.length) (a := resM Z.length (((s : Nat) : Int)).toNat (tightM Z.length (zf Z)))) (resZ_len (kz.1) _).1 (resZ_len (kz.1) _).2 hq1 (by rw [zerP_len]; omega))) ?_
           refine KT.step rfl rfl (K.move rfl) ?_
           refine KT.step rfl rfl (K.extract rfl rfl) ?_
           refine KT.step rfl rfl (K.extract rfl rfl) ?_
           refine KT.step rfl rfl (K.assign rfl) ?_
           refine KT.step rfl rfl (K.assign rfl) ?_
           refine KT.nil ?_
           refine thenK_n ?_
           refine KC.seq ?_
           refine KC.region ?_
           refine KT.step rfl rfl (K.move rfl) ?_
           refine KT.step rfl rfl (K.neq rfl rfl) ?_
           refine KT.step rfl rfl (K.move rfl) ?_
           refine KT.bcase (fun hb209 => ?_) (fun hb209 => ?_)
           ·skip
            replace hb209 := of_decide_eq_true hb209
            refine KT.skip rfl rfl ?_
            refine KT.step rfl rfl (K.pick rfl (fun _ => rfl) (fun h => by cases h)) ?_
            refine KT.step rfl rfl (K.move rfl) ?_
            refine KT.step rfl rfl (K.call0 plainTry_21 (awake21)) ?_
            refine KT.step rfl rfl (K.pick rfl (fun _ => rfl) (fun h => by cases h)) ?_
            refine KT.step rfl rfl (K.assign rfl) ?_
            refine KT.nil ?_
            refine thenK_n ?_
            refine KC.ret ?_
            exact ⟨.inl rfl, _, rfl, rfl⟩
           ·skip
            replace hb209 := of_decide_eq_false hb209
            refine KT.step rfl rfl (K.move rfl) ?_
            refine KT.step rfl rfl (K.pick rfl (fun h => by cases h) (fun _ => rfl)) ?_
            refine KT.step rfl rfl (K.move rfl) ?_
            refine KT.bcase (fun hb212 => ?_) (fun hb212 => ?_)
            ·skip
             refine KT.step rfl rfl (K.call0 plainTry_21 (awake21)) ?_
             refine KT.step rfl rfl (K.pick rfl (fun _ => rfl) (fun h => by cases h)) ?_
             refine KT.step rfl rfl (K.assign rfl) ?_
             refine KT.nil ?_
             refine thenK_n ?_
             refine KC.ret ?_
             exact ⟨.inl rfl, _, rfl, rfl⟩
            ·skip
             have hqe : q.2.2 = p.length := by omega
             exact Bool.noConfusion (hb212.symm.trans (mv_res hc119 hre (by rw [hqe]; rfl) (Classical.not_not.1 hb209)))
end Go.Proofs.Ytjfpeiioddfjcaa

