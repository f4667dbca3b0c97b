import Derived.Test.YtocgjopmlhpjdaaNtF0
/-
  Nets: the reference: reach, the walk.
-/
namespace Go.Proofs.Ytocgjopmlhpjdaa
open Go.Vm Go.RowKit Go.Nt
set_option maxHeartbeats 8000000 in
set_option maxRecDepth 10000 in
theorem reach43 {M : Nat → Prop} {W0 : World} {σ : List VObj} {a b c : DV} {pre post : List (List Int)} {s : List Int} {n : Nat} (ha : Mat a pre) (hb : Mat b post) (hc : Ints c s) (hN : NetOk pre post n) (hs : s.length = n) (hb5 : ∀ x ∈ s, 0 ≤ x ∧ x ≤ 5) (hp3 : ∀ r ∈ pre, ∀ x ∈ r, 0 ≤ x ∧ x ≤ 3) (hq3 : ∀ r ∈ post, ∀ x ∈ r, 0 ≤ x ∧ x ≤ 3) :
    InCall Try.prog M W0 43 σ [.d (.agg [a, b, c])] (RchQ pre post s c σ) := by
  have hp6 := hN.p6
  have hn6 := hN.n6
  have hn0 := hN.n0
  have hpp := hN.pp
  have hS0 : ((((σ ++ [(⟨[.d a, .d b, .d c], 0⟩ : VObj)]) ++ [(⟨[.d c], 0⟩ : VObj)]) ++ [(⟨[.d Dnil], 0⟩ : VObj)]) ++ [(⟨[.osl (σ.length + 1) 0 1 1 1 true, .osl (σ.length + 2) 0 1 1 1 true, .d Dnil], 0⟩ : VObj)])[σ.length]? = some ⟨[.d a, .d b, .d c], 0⟩ := obj_left (obj_left (obj_left (List.getElem?_concat_length ..)))
  refine inCall_K Try.func43 rfl (Nat.le_of_ble_eq_true rfl) ?_
  refine KC.seq ?_
  refine KC.region ?_
  refine KT.step rfl rfl (K.box rfl) ?_
  refine KT.step rfl rfl (K.assign rfl) ?_
  refine KT.step rfl rfl (K.assign rfl) ?_
  refine KT.nil ?_
  refine thenK_n ?_
  refine KC.seq ?_
  refine KC.region ?_
  refine KT.step rfl rfl (K.fieldAddrO rfl Try.fld25_2 Try.size23) ?_
  refine KT.step rfl rfl (K.loadO (y := .d c) rfl (List.getElem?_concat_length ..) (by simp) rfl Try.agg23) ?_
  refine KT.step rfl rfl (K.buildC (k := 1) (cs := [.d c]) rfl (sld_ints hc).cells rfl Try.underlying22 Try.size23 Try.one23.zero (by decide)) ?_
  refine KT.step rfl rfl (K.buildC (k := 1) (cs := [.d Dnil]) rfl rfl rfl Try.underlying22 Try.size23 Try.one23.zero (by decide)) ?_
  refine KT.step rfl rfl (K.buildS rfl build80_2) ?_
  refine KT.step rfl rfl (K.box rfl) ?_
  refine KT.step rfl rfl (K.assign rfl) ?_
  refine KT.nil ?_
  refine thenK_n ?_
  refine KC.seq ?_
  refine KC.seq ?_
  refine KC.region ?_
  refine KT.step rfl rfl (K.assign rfl) ?_
  refine KT.nil ?_
  refine thenK_n ?_
  refine KC.block ?_
  refine KC.loop (fun p : List VObj × (XV × XV × XV) × List Ent × Nat => p.1) (fun p => [(1, .optr σ.length 0), (4, .optr (σ.length + 3) 0), (5, .d (DI (p.2.2.2 : Nat)))]) (fun p => RgM ((((σ ++ [(⟨[.d a, .d b, .d c], 0⟩ : VObj)]) ++ [(⟨[.d c], 0⟩ : VObj)]) ++ [(⟨[.d Dnil], 0⟩ : VObj)]) ++ [(⟨[.osl (σ.length + 1) 0 1 1 1 true, .osl (σ.length + 2) 0 1 1 1 true, .d Dnil], 0⟩ : VObj)]) p.1 σ.length p.2.1.1 p.2.1.2.1 p.2.1.2.2 (.d Dnil) c p.2.2.1 (rNN (nxN pre post) pre.length p.2.2.1 p.2.2.2) [] ∧ ExR pre post n s p.2.2.1 p.2.2.2) (fun p => 2001 - p.2.2.2) ((((σ ++ [(⟨[.d a, .d b, .d c], 0⟩ : VObj)]) ++ [(⟨[.d c], 0⟩ : VObj)]) ++ [(⟨[.d Dnil], 0⟩ : VObj)]) ++ [(⟨[.osl (σ.length + 1) 0 1 1 1 true, .osl (σ.length + 2) 0 1 1 1 true, .d Dnil], 0⟩ : VObj)], (.osl (σ.length + 1) 0 1 1 1 true, .osl (σ.length + 2) 0 1 1 1 true, .d Dnil), [(s, 0, 0, [])], 0) ⟨?_, ?_⟩ ?_ (by simp [Go.Vm.look, extK, enterK]) ?_
  · refine ⟨by rw [List.getElem?_append_right (by simp)]; simp, FamL.four (.lit (by rw [List.append_assoc, List.append_assoc, List.getElem?_append_right (by simp)]; simp [mkV]) rfl) (.lit (by rw [List.append_assoc, List.getElem?_append_right (by simp)]; simp [wrdV, wV]) rfl) (.own .nil) (.own .nil) ?_ ?_ ?_ ?_ ?_ ?_, OffL.four.2 ⟨?_, ?_, ?_, ?_⟩, by simp, fun x hx => ⟨rfl, OffL.four.2 ⟨?_, ?_, ?_, ?_⟩⟩⟩ <;> simp [idX] <;> omega
  · exact ⟨.start hs hb5, fun k hk => by simp at hk, Nat.zero_le _, by simp, rfl⟩
  · rw [Go.Ba.cells_agg]; simp [cellsX]
  intro p hp
  obtain ⟨σ0, ⟨xm, xw, xr⟩, fs, i⟩ := p
  obtain ⟨hM, hI⟩ := hp
  simp only at hM hI ⊢
  have hlim := hI.lim
  have hpos : 0 < fs.length := obj_ltE hI.inv.hd
  obtain ⟨mid, exm, rfl, hmid0⟩ := OwnL.is (k := 1) (x := xm) (cells := (mkV c fs).map .d) (hM.f.own (1, xm, _) (List.mem_cons_self)) (n := fs.length) (by rw [List.length_map, mkV_len, Nat.mul_one]) (by decide) hpos
  refine KC.seq ?_
  refine KC.seq ?_
  refine KC.region ?_
  refine KT.step rfl rfl (K.move rfl) ?_
  refine KT.step rfl rfl (K.move rfl) ?_
  refine KT.step rfl rfl (K.nilCheckO rfl) ?_
  refine KT.step rfl rfl (K.fieldAddrO rfl Try.fld80_0 Try.size22) ?_
  refine KT.step rfl rfl (K.loadO rfl hM.g (by simp) rfl Try.agg22) ?_
  refine KT.step rfl rfl (K.lenO rfl Try.underlying22) ?_
  refine KT.step rfl rfl (K.lss rfl rfl) ?_
  refine KT.nil ?_
  refine thenK_n ?_
  refine KC.cond rfl (fun hc23 => ?_) (fun hc23 => ?_)
  · skip
    replace hc23 := of_decide_eq_true hc23
    have hil : i < fs.length := by omega
    obtain ⟨e, he⟩ : ∃ e, fs[i]? = some e := ⟨_, List.getElem?_eq_getElem hil⟩
    obtain ⟨hb1, hb2⟩ := inv_bnd hI.inv (by omega)
    have hem : e.1.length = n := hb1 _ (List.mem_of_getElem? (marks_get he))
    have hbm : Bnd e.1 := hb2 _ (List.mem_of_getElem? (marks_get he))
    have z0 : σ0[σ.length]? = some ⟨[.d a, .d b, .d c], 0⟩ := (hM.out _ (Nat.le_refl _)).1.trans hS0
    refine KC.skip ?_
    refine thenK_n ?_
    refine KC.seq ?_
    refine KC.block ?_
    refine KC.seq ?_
    refine KC.region ?_
    refine KT.step rfl rfl (K.assign rfl) ?_
    refine KT.nil ?_
    refine thenK_n ?_
    refine KC.seq ?_
    refine KC.seq ?_
    refine KC.region ?_
    refine KT.step rfl rfl (K.fieldAddrO rfl Try.fld25_0 Try.size22) ?_
    refine KT.step rfl rfl (K.loadO (y := .d a) rfl z0 (by simp) rfl Try.agg22) ?_
    refine KT.step rfl rfl (K.len rfl ha Try.underlying22) ?_
    refine KT.step rfl rfl (K.move rfl) ?_
    refine KT.nil ?_
    refine thenK_n ?_
    refine KC.block ?_
    refine KC.loop (fun q : List VObj × (XV × XV × XV × XV) × Nat => q.1) (fun q => [(1, .optr σ.length 0), (4, .optr (σ.length + 3) 0), (5, .d (DI (i : Nat))), (6, q.2.1.2.2.2), (28, .d (DI (pre.length : Nat))), (29, .d (DI (q.2.2 : Nat)))]) (fun q => RgM ((((σ ++ [(⟨[.d a, .d b, .d c], 0⟩ : VObj)]) ++ [(⟨[.d c], 0⟩ : VObj)]) ++ [(⟨[.d Dnil], 0⟩ : VObj)]) ++ [(⟨[.osl (σ.length + 1) 0 1 1 1 true, .osl (σ.length + 2) 0 1 1 1 true, .d Dnil], 0⟩ : VObj)]) q.1 σ.length q.2.1.1 q.2.1.2.1 q.2.1.2.2.1 q.2.1.2.2.2 c (rowE (nxN pre post) fs e i q.2.2) (rNN (nxN pre post) pre.length fs i) (rN (nxN pre post) (rowE (nxN pre post) fs e i q.2.2) e.1 q.2.2) ∧ OwnK 1 q.1 q.2.1.2.2.2 (iX (rN (nxN pre post) (rowE (nxN pre post) fs e i q.2.2) e.1 q.2.2)) ∧ q.2.2 ≤ pre.length ∧ (rowE (nxN pre post) fs e i q.2.2).length ≤ 2000) (fun q => pre.length - q.2.2) (σ0, (.osl mid 0 fs.length 1 fs.length exm, xw, xr, .d Dnil), 0) ⟨hM, .nil, Nat.zero_le _, hlim⟩ rfl (by simp [Go.Vm.look, extK]) ?_
    intro q hq
    obtain ⟨σm, ⟨ym, yw, yr, yo⟩, t⟩ := q
    obtain ⟨hQ, hoo, htT, hlt⟩ := hq
    simp only at hQ hoo htT hlt ⊢
    refine KC.seq ?_
    refine KC.region ?_
    refine KT.step rfl rfl (K.lss rfl rfl) ?_
    refine KT.nil ?_
    refine thenK_n ?_
    refine KC.seq ?_
    refine KC.cond rfl (fun hc30 => ?_) (fun hc30 => ?_)
    · skip
      replace hc30 := of_decide_eq_true hc30
      have htl : t < pre.length := by omega
      have htl2 : t < post.length := by omega
      have hinv : InvE (nxN pre post) pre.length n s (rowE (nxN pre post) fs e i t) := hI.inv.row (nxN_ok hN) he (by omega) t htT
      have hFe : (rowE (nxN pre post) fs e i t)[i]? = some e := rowE_get _ _ _ _ he
      have hit : i < (rowE (nxN pre post) fs e i t).length := obj_ltE hFe
      obtain ⟨mid2, exm2, rfl, hmid⟩ := OwnL.is (k := 1) (x := ym) (cells := (mkV c (rowE (nxN pre post) fs e i t)).map .d) (hQ.f.own (1, ym, _) (List.mem_cons_self)) (n := (rowE (nxN pre post) fs e i t).length) (by rw [List.length_map, mkV_len, Nat.mul_one]) (by decide) (by omega)
      obtain ⟨hlen, hbnd⟩ := inv_bnd hinv (by omega)
      have h0 := marks_get hinv.hd
      obtain ⟨rw_, hr1, hr2⟩ := mkV_get hc h0 (fun x hx => by rw [hlen x hx]; omega) hit
      rw [mrk_get hFe] at hr2
      have z0 : σm[σ.length]? = some ⟨[.d a, .d b, .d c], 0⟩ := (hQ.out _ (Nat.le_refl _)).1.trans hS0
      have hgl := obj_lt hQ.g
      refine KC.skip ?_
      refine thenK_n ?_
      refine KC.seq ?_
      refine KC.block ?_
      refine KC.seq ?_
      refine KC.region ?_
      refine KT.step rfl rfl (K.move rfl) ?_
      refine KT.step rfl rfl (K.assign rfl) ?_
      refine KT.nil ?_
      refine thenK_n ?_
      refine KC.seq ?_
      refine KC.draw Try.mixed ?_
      refine KT.step rfl rfl (K.loadOA [a, b, c] rfl z0 (by decide) Try.agg25 Try.size25 rfl) ?_
      refine KT.step rfl rfl (K.move rfl) ?_
      refine KT.step rfl rfl (K.nilCheckO rfl) ?_
      refine KT.step rfl rfl (K.fieldAddrO rfl Try.fld80_0 Try.size22) ?_
      refine KT.step rfl rfl (K.loadO rfl hQ.g (by simp) rfl Try.agg22) ?_
      refine KT.step rfl rfl (K.move rfl) ?_
      refine KT.step rfl rfl (K.idxO (m := i) rfl rfl hit Try.underlying22 Try.size23) ?_
      refine KT.step rfl rfl (K.loadO (y := .d rw_) rfl hmid (by simp) (by rw [Nat.zero_add, List.getElem?_map, hr1]; rfl) Try.agg23) ?_
      refine KT.step rfl rfl (K.move rfl) ?_
      obtain ⟨m9, hen⟩ | hen : (∃ m9, nxN pre post e.1 t = some m9) ∨ nxN pre post e.1 t = none := by
        cases h : nxN pre post e.1 t with
        | none => exact .inr rfl
        | some x => exact .inl ⟨x, rfl⟩
      · skip
        refine KT.step rfl rfl (K.call3 rfl rfl rfl plainTry_77 (rfire77 (c := c) ha hb hr2 (by omega) (by omega) htl htl2 (by rw [hN.rp _ (List.getElem_mem htl)]; omega) (by rw [hN.rq _ (List.getElem_mem htl2)]; omega) (hp3 _ (List.getElem_mem htl)) (hq3 _ (List.getElem_mem htl2)) hbm.tk)) ?_
        rw [rfire_some hN htl hen]
        have hm9 : m9.length = n := ((nxN_ok hN) e.1 t m9 1000000000 htl hem (by omega) (fun x hx => by have := (hinv.ok i e hFe).2 x hx; omega) hen).1
        refine KT.step rfl rfl (K.move rfl) ?_
        refine KT.step rfl rfl (K.extract rfl rfl) ?_
        refine KT.step rfl rfl (K.extract rfl rfl) ?_
        refine KT.step rfl rfl (K.assign rfl) ?_
        refine KT.step rfl rfl (K.assign rfl) ?_
        refine KT.nil ?_
        refine ⟨by kernel_rfl, ?_⟩
        refine thenK_n ?_
        refine KC.seq ?_
        refine KC.region ?_
        refine KT.step rfl rfl (K.assign rfl) ?_
        refine KT.nil ?_
        refine thenK_n ?_
        refine KC.seq ?_
        refine KC.seq ?_
        refine KC.region ?_
        refine KT.step rfl rfl (K.move rfl) ?_
        refine KT.nil ?_
        refine thenK_n ?_
        refine KC.cond rfl (fun hc45 => ?_) (fun hc45 => ?_)
        · skip
          refine KC.seq ?_
          refine KC.region ?_
          refine KT.step rfl rfl (K.move rfl) ?_
          refine KT.step rfl rfl (K.move rfl) ?_
          refine KT.step rfl rfl (K.callO rfl plainTry_53 (find53 hQ.g hmid hc h0 hlen (by omega) hN.n6 (by omega) (numV_ints m9 (by omega)) hm9)) ?_
          refine KT.step rfl rfl (K.assign rfl) ?_
          refine KT.nil ?_
          refine thenK_n ?_
          refine KC.seq ?_
          refine KC.region ?_
          refine KT.step rfl rfl (K.move rfl) ?_
          refine KT.step rfl rfl (K.lss rfl rfl) ?_
          refine KT.nil ?_
          refine thenK_n ?_
          refine KC.cond rfl (fun hc50 => ?_) (fun hc50 => ?_)
          · skip
            replace hc50 := of_decide_eq_true hc50
            have hno := findZ_neg hc50
            refine KC.seq ?_
            refine KC.region ?_
            refine KT.step rfl rfl (K.move rfl) ?_
            refine KT.step rfl rfl (K.nilCheckO rfl) ?_
            refine KT.step rfl rfl (K.fieldAddrO rfl Try.fld80_0 Try.size22) ?_
            refine KT.step rfl rfl (K.loadO rfl hQ.g (by simp) rfl Try.agg22) ?_
            refine KT.step rfl rfl (K.lenO rfl Try.underlying22) ?_
            refine KT.step rfl rfl (K.assign rfl) ?_
            refine KT.nil ?_
            refine thenK_n ?_
            refine KC.seq ?_
            refine KC.region ?_
            refine KT.step rfl rfl (K.move rfl) ?_
            refine KT.step rfl rfl (K.move rfl) ?_
            refine KT.step rfl rfl (K.nilCheckO rfl) ?_
            refine KT.step rfl rfl (K.fieldAddrO rfl Try.fld80_0 Try.size22) ?_
            refine KT.step rfl rfl (K.loadO rfl hQ.g (by simp) rfl Try.agg22) ?_
            refine KT.step rfl rfl (K.move rfl) ?_
            refine KT.step rfl rfl (K.buildC (k := 1) (cs := [.d (numV m9)]) rfl (sld_ints (numV_ints m9 (by omega))).cells rfl Try.underlying22 Try.size23 Try.one23.zero (by decide)) ?_
            refine KT.appL (k := 1) (q := 1) rfl rfl rfl rfl ((hQ.f.own (1, _, _) (List.mem_cons_self)).pushed _) (List.getElem?_concat_length ..) rfl (by decide) (by decide) (by simp [(sld_ints (numV_ints m9 (by omega))).one]) (by rw [List.length_map, mkV_len]; omega) Try.underlying22 Try.size23 (of_decide_eq_true (by kernel_rfl)) (by kernel_rfl) (by decide) fun σa xa hoa ka wa => ?_
            have Pa := (hQ.f.push [(⟨[.d (numV m9)], 0⟩ : VObj)]).put (i := 0) (by simp [rgF]) ka (.own hoa) (fun j hj => by obtain ⟨j', h1, h2⟩ := wa; rw [h1] at hj; cases hj; exact h2)
            have ga : σa[σ.length + 3]? = some ⟨[.osl mid2 0 (rowE (nxN pre post) fs e i t).length 1 (rowE (nxN pre post) fs e i t).length exm2, yw, yr], 0⟩ := (Pa.2 (σ.length + 3) (by rw [List.length_append]; omega) hQ.og).1.trans (obj_left hQ.g)
            refine KT.step rfl rfl (K.nilCheckO rfl) ?_
            refine KT.step rfl rfl (K.fieldAddrO rfl Try.fld80_0 Try.size22) ?_
            refine KT.storeG rfl rfl rfl rfl ga (by simp) hoa.cells.1 hoa.cells.2 Try.size22 fun σb lb ub vb => ?_
            have ub : σb[σ.length + 3]? = some ⟨[xa, yw, yr], 0⟩ := ub
            have hab := obj_lt ub
            have fb : FamL σb [(1, xa, ((mkV c (rowE (nxN pre post) fs e i t)).map XV.d ++ [.d (numV m9)])), (1, yw, (wrdV (rowE (nxN pre post) fs e i t)).map .d), (1, yr, ((rNN (nxN pre post) pre.length fs i).map nV).map .d), (1, yo, iX (rN (nxN pre post) (rowE (nxN pre post) fs e i t) e.1 t))] := Pa.1.stay (Pa.2 (σ.length + 3) (by rw [List.length_append]; omega) hQ.og).2 vb
            have ogb : OffL [(1, xa, ((mkV c (rowE (nxN pre post) fs e i t)).map XV.d ++ [.d (numV m9)])), (1, yw, (wrdV (rowE (nxN pre post) fs e i t)).map .d), (1, yr, ((rNN (nxN pre post) pre.length fs i).map nV).map .d), (1, yo, iX (rN (nxN pre post) (rowE (nxN pre post) fs e i t) e.1 t))] (σ.length + 3) := (Pa.2 (σ.length + 3) (by rw [List.length_append]; omega) hQ.og).2
            have outb : ∀ x, x ≤ σ.length → σb[x]? = ((((σ ++ [(⟨[.d a, .d b, .d c], 0⟩ : VObj)]) ++ [(⟨[.d c], 0⟩ : VObj)]) ++ [(⟨[.d Dnil], 0⟩ : VObj)]) ++ [(⟨[.osl (σ.length + 1) 0 1 1 1 true, .osl (σ.length + 2) 0 1 1 1 true, .d Dnil], 0⟩ : VObj)])[x]? ∧ OffL [(1, xa, ((mkV c (rowE (nxN pre post) fs e i t)).map XV.d ++ [.d (numV m9)])), (1, yw, (wrdV (rowE (nxN pre post) fs e i t)).map .d), (1, yr, ((rNN (nxN pre post) pre.length fs i).map nV).map .d), (1, yo, iX (rN (nxN pre post) (rowE (nxN pre post) fs e i t) e.1 t))] x := fun x hx => by
              have q := hQ.out x hx
              have q2 := Pa.2 x (by rw [List.length_append]; omega) q.2
              exact ⟨(vb x (by omega)).trans (q2.1.trans ((List.getElem?_append_left (by omega)).trans q.1)), q2.2⟩
            have u4 := hQ.f.un4
            have hob : OwnK 1 σb yo (iX (rN (nxN pre post) (rowE (nxN pre post) fs e i t) e.1 t)) := hoo.keep fun j hj => by
              have hjl := hoo.lt hj
              rw [vb j (fun h => by subst h; exact (OffL.four.1 hQ.og).2.2.2 hj), ka j (fun h => u4.2.2.2.2.2.2.1 j h hj) (by rw [List.length_append]; omega), List.getElem?_append_left hjl]
            obtain ⟨wid, exw, rfl, hwid⟩ := OwnL.is (k := 1) (x := yw) (cells := (wrdV (rowE (nxN pre post) fs e i t)).map .d) (fb.un4.2.1) (n := (rowE (nxN pre post) fs e i t).length) (by simp [wrdV]) (by decide) (by omega)
            have hwi : (wrdV (rowE (nxN pre post) fs e i t))[i]? = some (wV e.2.2.2) := by unfold wrdV; rw [List.getElem?_map, hFe]; rfl
            have hgb : σ.length + 3 < σb.length := hab
            have hw6 := word_len hinv i e hFe
            refine KT.nil ?_
            refine thenK_n ?_
            refine KC.drawZ (fun j => σb.length ≤ j) Try.mixed ?_
            refine KTZ.step rfl rfl (K.move rfl) ?_
            refine KTZ.step rfl rfl (K.move rfl) ?_
            refine KTZ.step rfl rfl (K.nilCheckO rfl) ?_
            refine KTZ.step rfl rfl (K.fieldAddrO rfl Try.fld80_1 Try.size22) ?_
            refine KTZ.load rfl rfl rfl (fun h => by omega) (K.loadO rfl ub (by simp) rfl Try.agg22) ?_
            refine KTZ.step rfl rfl (K.build0 Try.underlying23 Try.one3) ?_
            refine KTZ.step rfl rfl (K.move rfl) ?_
            refine KTZ.step rfl rfl (K.nilCheckO rfl) ?_
            refine KTZ.step rfl rfl (K.fieldAddrO rfl Try.fld80_1 Try.size22) ?_
            refine KTZ.step rfl rfl (K.loadO rfl (obj_left ub) (by simp) rfl Try.agg22) ?_
            refine KTZ.step rfl rfl (K.move rfl) ?_
            refine KTZ.step rfl rfl (K.idxO (m := i) rfl rfl hit Try.underlying22 Try.size23) ?_
            refine KTZ.step rfl rfl (K.loadO (y := .d (wV e.2.2.2)) rfl (obj_left hwid) (by simp) (by rw [Nat.zero_add, List.getElem?_map, hwi]; rfl) Try.agg23) ?_
            refine KTZ.appC (id := σb.length) (cells := []) rfl rfl (Nat.le_refl _) rfl rfl (List.getElem?_concat_length ..) rfl (slc_wV e.2.2.2) (wr_one _) (by rw [List.length_map]; simp; omega) Try.underlying23 Try.size3 (of_decide_eq_true (by kernel_rfl)) (by kernel_rfl) fun σc idc hic kc wc => ?_
            have hcb : σb.length ≤ idc ∧ σb.length + 1 ≤ σc.length := by
              rcases wc with ⟨h1, h2⟩ | h1
              · rw [h1, h2]; simp
              · have := obj_lt hic; rw [List.length_append] at h1; simp at h1; omega
            refine KTZ.step rfl rfl (K.move rfl) ?_
            refine KTZ.step rfl rfl (K.litSl (m := 1) (k := 1) (lo := 1) (qs := [(0, .d (DI (t : Nat)))]) (cells := [.d (DI (t : Nat))]) (d := .sl [DI (t : Nat)] 1 (some 1)) rfl (fun q hq => by simp only [List.mem_cons, List.not_mem_nil, or_false] at hq; rcases hq with rfl; exact ⟨_, rfl⟩) (by kernel_rfl) (by kernel_rfl)) ?_
            refine KTZ.appC (cs := [DI (t : Nat)]) rfl rfl hcb.1 rfl rfl hic (by simp) (.inr ⟨some 1, rfl⟩) rfl (by simp; omega) Try.underlying23 Try.size3 (of_decide_eq_true (by kernel_rfl)) (by kernel_rfl) fun σd idd hid kd wd => ?_
            have hdb : σb.length ≤ idd ∧ σc.length ≤ σd.length := by
              rcases wd with ⟨h1, h2⟩ | h1
              · rw [h1, h2]; exact ⟨hcb.1, Nat.le_refl _⟩
              · have := obj_lt hid; omega
            rw [show (((true && (e.2.2.2.map fun i => DI ((i : Nat) : Int)).isEmpty) && [DI (t : Nat)].isEmpty) : Bool) = false from by simp]
            have kcd : ∀ j, j < σb.length → σd[j]? = σb[j]? := fun j hj => by
              rw [kd j (by omega) (by omega), kc j (by omega) (by rw [List.length_append]; omega), List.getElem?_append_left hj]
            have fd : FamL σd [(1, xa, ((mkV c (rowE (nxN pre post) fs e i t)).map XV.d ++ [.d (numV m9)])), (1, .osl wid 0 (rowE (nxN pre post) fs e i t).length 1 (rowE (nxN pre post) fs e i t).length exw, (wrdV (rowE (nxN pre post) fs e i t)).map .d), (1, yr, ((rNN (nxN pre post) pre.length fs i).map nV).map .d), (1, yo, iX (rN (nxN pre post) (rowE (nxN pre post) fs e i t) e.1 t))] := fb.keep fun p hp j hj => kcd j (fb.lt hp hj)
            have howd := fd.un4.2.1
            have hdl := obj_lt hid
            refine KTZ.step rfl rfl (K.buildC (k := 1) (cs := [.osl idd 0 (0 + (e.2.2.2.map fun i => DI ((i : Nat) : Int)).length + 1) 1 (0 + (e.2.2.2.map fun i => DI ((i : Nat) : Int)).length + 1) false]) rfl rfl rfl Try.underlying22 Try.size23 Try.one23.zero (by decide)) ?_
            refine KTZ.appLq (k := 1) rfl rfl rfl rfl (howd.pushed _) (List.getElem?_concat_length ..) rfl rfl (by rw [List.length_map]; unfold wrdV; rw [List.length_map]; omega) Try.underlying22 Try.size23 (of_decide_eq_true (by kernel_rfl)) (by kernel_rfl) (by decide) fun σe xe hoe ke we => ?_
            have Pe := (fd.push [(⟨[.osl idd 0 (0 + (e.2.2.2.map fun i => DI ((i : Nat) : Int)).length + 1) 1 (0 + (e.2.2.2.map fun i => DI ((i : Nat) : Int)).length + 1) false], 0⟩ : VObj)]).put (i := 1) (by simp) ke (.own hoe) (fun j hj => by obtain ⟨j', h1, h2⟩ := we; rw [h1] at hj; cases hj; exact h2)
            have ge : σe[σ.length + 3]? = some ⟨[xa, .osl wid 0 (rowE (nxN pre post) fs e i t).length 1 (rowE (nxN pre post) fs e i t).length exw, yr], 0⟩ := (Pe.2 (σ.length + 3) (by rw [List.length_append]; omega) ogb).1.trans (obj_left ((kcd _ hgb).trans ub))
            refine KTZ.step rfl rfl (K.nilCheckO rfl) ?_
            refine KTZ.step rfl rfl (K.fieldAddrO rfl Try.fld80_1 Try.size22) ?_
            refine KTZ.storeL rfl rfl rfl rfl ge (by simp) hoe.cells.1 hoe.cells.2 Try.size22 fun σf lf uf vf => ?_
            have uf : σf[σ.length + 3]? = some ⟨[xa, xe, yr], 0⟩ := uf
            refine KTZ.nil ?_
            refine ⟨by kernel_rfl, ?_⟩
            refine thenK_n ?_
            refine KC.seq ?_
            refine KC.seq ?_
            have hne9 : mkV c (rowE (nxN pre post) fs e i t) ≠ [] := by intro h; have := congrArg List.length h; rw [mkV_len] at this; simp at this; rw [this] at hit; simp at hit
            have eF : (rowE (nxN pre post) fs e i (t + 1)) = (rowE (nxN pre post) fs e i t) ++ [(m9, t, i, e.2.2.2 ++ [t])] := by
              rw [rowE]; unfold stepE; rw [hen]; simp only; unfold addE; rw [if_neg hno]
            have ff : FamL σf [(1, xa, ((mkV c (rowE (nxN pre post) fs e i t)).map XV.d ++ [.d (numV m9)])), (1, xe, ((wrdV (rowE (nxN pre post) fs e i t)).map XV.d ++ [.osl idd 0 (0 + (e.2.2.2.map fun i => DI ((i : Nat) : Int)).length + 1) 1 (0 + (e.2.2.2.map fun i => DI ((i : Nat) : Int)).length + 1) false])), (1, yr, ((rNN (nxN pre post) pre.length fs i).map nV).map .d), (1, yo, iX (rN (nxN pre post) (rowE (nxN pre post) fs e i t) e.1 t))] := Pe.1.stay (Pe.2 (σ.length + 3) (by rw [List.length_append]; omega) ogb).2 vf
            have ogf : OffL [(1, xa, ((mkV c (rowE (nxN pre post) fs e i t)).map XV.d ++ [.d (numV m9)])), (1, xe, ((wrdV (rowE (nxN pre post) fs e i t)).map XV.d ++ [.osl idd 0 (0 + (e.2.2.2.map fun i => DI ((i : Nat) : Int)).length + 1) 1 (0 + (e.2.2.2.map fun i => DI ((i : Nat) : Int)).length + 1) false])), (1, yr, ((rNN (nxN pre post) pre.length fs i).map nV).map .d), (1, yo, iX (rN (nxN pre post) (rowE (nxN pre post) fs e i t) e.1 t))] (σ.length + 3) := (Pe.2 (σ.length + 3) (by rw [List.length_append]; omega) ogb).2
            have outf : ∀ x, x ≤ σ.length → σf[x]? = ((((σ ++ [(⟨[.d a, .d b, .d c], 0⟩ : VObj)]) ++ [(⟨[.d c], 0⟩ : VObj)]) ++ [(⟨[.d Dnil], 0⟩ : VObj)]) ++ [(⟨[.osl (σ.length + 1) 0 1 1 1 true, .osl (σ.length + 2) 0 1 1 1 true, .d Dnil], 0⟩ : VObj)])[x]? ∧ OffL [(1, xa, ((mkV c (rowE (nxN pre post) fs e i t)).map XV.d ++ [.d (numV m9)])), (1, xe, ((wrdV (rowE (nxN pre post) fs e i t)).map XV.d ++ [.osl idd 0 (0 + (e.2.2.2.map fun i => DI ((i : Nat) : Int)).length + 1) 1 (0 + (e.2.2.2.map fun i => DI ((i : Nat) : Int)).length + 1) false])), (1, yr, ((rNN (nxN pre post) pre.length fs i).map nV).map .d), (1, yo, iX (rN (nxN pre post) (rowE (nxN pre post) fs e i t) e.1 t))] x := fun x hx => by
              have q := outb x hx
              have q2 := Pe.2 x (by rw [List.length_append]; omega) q.2
              exact ⟨(vf x (by omega)).trans (q2.1.trans ((List.getElem?_append_left (by omega)).trans ((kcd x (by omega)).trans q.1))), q2.2⟩
            have ub4 := fb.un4
            have hof : OwnK 1 σf yo (iX (rN (nxN pre post) (rowE (nxN pre post) fs e i t) e.1 t)) := hob.keep fun j hj => by
              have hjl := hob.lt hj
              rw [vf j (fun h => by subst h; exact (OffL.four.1 ogb).2.2.2 hj), ke j (fun h => ub4.2.2.2.2.2.2.2.2.1 j h hj) (by rw [List.length_append]; omega), List.getElem?_append_left (by omega), kcd j hjl]
            have hidf : σf[idd]? = some ⟨((e.2.2.2.map fun i => DI ((i : Nat) : Int)) ++ [DI (t : Nat)]).map .d, 0⟩ := by
              rw [vf idd (by omega), ke idd (fun h => by have := ub4.2.1.lt h; omega) (by rw [List.length_append]; omega), List.getElem?_append_left hdl, hid]; simp
            obtain ⟨je, we1, we2⟩ := we
            have hje := obj_lt hidf
            refine KC.tellK (x := xe) (cells := (wrdV (rowE (nxN pre post) fs e i t)).map .d) (r := idd) (L := 0 + (e.2.2.2.map fun i => DI ((i : Nat) : Int)).length + 1) (w := 1) (ex := false) (ds := (e.2.2.2.map fun i => DI ((i : Nat) : Int)) ++ [DI (t : Nat)]) (hoe.keep fun j hj => vf j (by rw [we1] at hj; cases hj; rw [List.length_append] at we2; omega)) hidf (by simp) (by rw [we1]; intro h; cases h; rw [List.length_append] at we2; omega) fun σz g1 g2 hk3 => ?_
            have uf4 := ff.un4
            have oF := OffL.four.1 ogf
            have eW : (wrdV (rowE (nxN pre post) fs e i t)).map XV.d ++ [.d (.sl ((e.2.2.2.map fun i => DI ((i : Nat) : Int)) ++ [DI (t : Nat)]) (0 + (e.2.2.2.map fun i => DI ((i : Nat) : Int)).length + 1) (if false = true then some (0 + (e.2.2.2.map fun i => DI ((i : Nat) : Int)).length + 1) else none))] = (wrdV (rowE (nxN pre post) fs e i (t + 1))).map .d := by
              rw [eF, wrdV_snoc, List.map_append, wV_snoc]; simp
            rw [eW] at g1
            have nxa : ∀ j, idX xa = some j → j ≠ idd := fun j h1 h2 => by
              have := ub4.1.lt h1; omega
            have nyr : ∀ j, idX yr = some j → j ≠ idd := fun j h1 h2 => by
              have := ub4.2.2.1.lt h1; omega
            have nyo : ∀ j, idX yo = some j → j ≠ idd := fun j h1 h2 => by
              have := ub4.2.2.2.1.lt h1; omega
            have hzo' : OwnK 1 σz yo (iX (rN (nxN pre post) (rowE (nxN pre post) fs e i t) e.1 t)) := hof.keep fun j hj => hk3 j (nyo j hj) (fun h => uf4.2.2.2.2.2.2.2.2.1 j h hj)
            have hcl0 : Closed (nxN pre post) (rowE (nxN pre post) fs e i t) e.1 t := closed_row t
            have eR : (rN (nxN pre post) (rowE (nxN pre post) fs e i (t + 1)) e.1 t) = (rN (nxN pre post) (rowE (nxN pre post) fs e i t) e.1 t) := by rw [eF]; exact rN_grow hcl0 _
            have eK : ((mkV c (rowE (nxN pre post) fs e i t)).map XV.d ++ [.d (numV m9)]) = (mkV c (rowE (nxN pre post) fs e i (t + 1))).map .d := by rw [eF, mkV_snoc c (by intro h; rw [h] at hit; simp at hit), List.map_append]; rfl
            have fz : FamL σz (rgF xa xe yr yo c (rowE (nxN pre post) fs e i (t + 1)) (rNN (nxN pre post) pre.length fs i) (rN (nxN pre post) (rowE (nxN pre post) fs e i (t + 1)) e.1 t)) := by
              unfold rgF
              rw [eR, ← eK]
              exact FamL.four (uf4.1.keep fun j hj => hk3 j (nxa j hj) (fun h => uf4.2.2.2.2.1 j hj h)) (.own g1) (uf4.2.2.1.keep fun j hj => hk3 j (nyr j hj) (fun h => uf4.2.2.2.2.2.2.2.1 j h hj)) (.own hzo') uf4.2.2.2.2.1 uf4.2.2.2.2.2.1 uf4.2.2.2.2.2.2.1 uf4.2.2.2.2.2.2.2.1 uf4.2.2.2.2.2.2.2.2.1 uf4.2.2.2.2.2.2.2.2.2
            have hZ : RgM ((((σ ++ [(⟨[.d a, .d b, .d c], 0⟩ : VObj)]) ++ [(⟨[.d c], 0⟩ : VObj)]) ++ [(⟨[.d Dnil], 0⟩ : VObj)]) ++ [(⟨[.osl (σ.length + 1) 0 1 1 1 true, .osl (σ.length + 2) 0 1 1 1 true, .d Dnil], 0⟩ : VObj)]) σz σ.length xa xe yr yo c (rowE (nxN pre post) fs e i (t + 1)) (rNN (nxN pre post) pre.length fs i) (rN (nxN pre post) (rowE (nxN pre post) fs e i (t + 1)) e.1 t) := ⟨(hk3 _ (by omega) oF.2.1).trans uf, fz, OffL.four.2 oF, by rw [g2]; have := obj_lt uf; omega, fun x hx => by
              have q := outf x hx
              have o4 := OffL.four.1 q.2
              exact ⟨(hk3 x (by omega) o4.2.1).trans q.1, OffL.four.2 o4⟩⟩
            have hzo : OwnK 1 σz yo (iX (rN (nxN pre post) (rowE (nxN pre post) fs e i (t + 1)) e.1 t)) := by rw [eR]; exact hzo'
            have hZ3 := hZ.f.own (1, _, _) (List.mem_cons_self)
            have hlt1 : (rowE (nxN pre post) fs e i (t + 1)).length ≤ (rowE (nxN pre post) fs e i t).length + 1 := by rw [rowE]; exact stepE_len _ _ _ _ _
            have hFe1 : (rowE (nxN pre post) fs e i (t + 1))[i]? = some e := rowE_get _ _ _ _ he
            obtain ⟨mid3, exm3, hx3, hmid3⟩ := OwnL.is (k := 1) hZ3 (n := (rowE (nxN pre post) fs e i (t + 1)).length) (by rw [List.length_map, mkV_len, Nat.mul_one]) (by decide) (by have := obj_ltE hFe1; omega)
            have hZg := hZ.g
            simp only at hx3
            rw [hx3] at hZg
            have hZl : (iX (rN (nxN pre post) (rowE (nxN pre post) fs e i (t + 1)) e.1 t)).length = t := by simp [iX, rN_len]
            refine KC.region ?_
            refine KT.step rfl rfl (K.move rfl) ?_
            refine KT.step rfl rfl (K.nilCheckO rfl) ?_
            refine KT.step rfl rfl (K.fieldAddrO rfl Try.fld80_0 Try.size22) ?_
            refine KT.step rfl rfl (K.loadO rfl hZg (by simp) rfl Try.agg22) ?_
            refine KT.step rfl rfl (K.lenO rfl Try.underlying22) ?_
            refine KT.step rfl rfl (K.gtr rfl rfl) ?_
            refine KT.nil ?_
            refine thenK_n ?_
            refine KC.cond rfl (fun hc92 => ?_) (fun hc92 => ?_)
            · skip
              replace hc92 := of_decide_eq_true hc92
              refine KC.seq ?_
              refine KC.region ?_
              refine KT.step rfl rfl (K.assign rfl) ?_
              refine KT.step rfl rfl (K.assign rfl) ?_
              refine KT.nil ?_
              refine thenK_n ?_
              refine KC.ret ?_
              refine thenK_r ?_
              refine blockK_r ?_
              refine thenK_r ?_
              refine thenK_r ?_
              refine blockK_r ?_
              refine thenK_r ?_
              refine blockK_r ?_
              refine thenK_r ?_
              refine thenK_r ?_
              refine blockK_r ?_
              refine thenK_r ?_
              refine ⟨.inl rfl, _, rfl, ?_⟩
              have hre : reachE (nxN pre post) pre.length 2000 s = none := by
                rw [← hI.bf, show 2001 - i = (2000 - i) + 1 by omega]
                exact bfs_over _ _ _ he (t := t + 1) (by omega) (by omega)
              unfold RchQ
              rw [hre]
            · skip
              replace hc92 := of_decide_eq_false hc92
              refine KC.skip ?_
              refine thenK_n ?_
              refine KC.region ?_
              refine KT.step rfl rfl (K.move rfl) ?_
              refine KT.step rfl rfl (K.move rfl) ?_
              refine KT.step rfl rfl (K.buildC (k := 1) (cs := [.d (DI ((rowE (nxN pre post) fs e i t).length : Nat))]) rfl rfl rfl Try.underlying23 Try.size3 Try.one3.zero (by decide)) ?_
              refine KT.appL (k := 1) (q := 1) rfl rfl rfl rfl ((OwnL.own hzo).pushed _) (List.getElem?_concat_length ..) rfl (by decide) (by decide) rfl (by rw [hZl]; omega) Try.underlying23 Try.size3 (of_decide_eq_true (by kernel_rfl)) (by kernel_rfl) (by decide) fun σh yh hoh kh wh => ?_
              have Ph := (hZ.f.push [(⟨[.d (DI ((rowE (nxN pre post) fs e i t).length : Nat))], 0⟩ : VObj)]).put (i := 3) (by simp [rgF]) kh (.own hoh) (fun j hj => by obtain ⟨j', h1, h2⟩ := wh; rw [h1] at hj; cases hj; exact h2)
              refine KT.step rfl rfl (K.assign rfl) ?_
              refine KT.nil ?_
              refine blockK_n ?_
              refine thenK_n ?_
              refine KC.region ?_
              refine KT.step rfl rfl (K.add rfl rfl (wrap_id (by omega))) ?_
              refine KT.step rfl rfl (K.move rfl) ?_
              refine KT.nil ?_
              refine thenK_n ?_
              have eV : iX (rN (nxN pre post) (rowE (nxN pre post) fs e i (t + 1)) e.1 t) ++ [.d (DI ((rowE (nxN pre post) fs e i t).length : Nat))] = iX (rN (nxN pre post) (rowE (nxN pre post) fs e i (t + 1)) e.1 (t + 1)) := by
                have e0 : rE (rowE (nxN pre post) fs e i (t + 1)) (nxN pre post e.1 t) = ((rowE (nxN pre post) fs e i t).length : Nat) := by rw [hen]; simp only [rE]; rw [eF, marks_append, show marks [(m9, t, i, e.2.2.2 ++ [t])] = [m9] from rfl, place_new hno, marks_len]
                rw [rN_succ, e0]
                unfold iX
                rw [List.map_append, List.map_append]; rfl
              have fh : FamL σh (rgF xa xe yr yh c (rowE (nxN pre post) fs e i (t + 1)) (rNN (nxN pre post) pre.length fs i) (rN (nxN pre post) (rowE (nxN pre post) fs e i (t + 1)) e.1 (t + 1))) := by
                have h := Ph.1
                unfold rgF at *
                rw [← eV]; exact h
              have oh : ∀ x, x < σz.length → OffL (rgF xa xe yr yo c (rowE (nxN pre post) fs e i (t + 1)) (rNN (nxN pre post) pre.length fs i) (rN (nxN pre post) (rowE (nxN pre post) fs e i (t + 1)) e.1 t)) x → σh[x]? = σz[x]? ∧ OffL (rgF xa xe yr yh c (rowE (nxN pre post) fs e i (t + 1)) (rNN (nxN pre post) pre.length fs i) (rN (nxN pre post) (rowE (nxN pre post) fs e i (t + 1)) e.1 (t + 1))) x := fun x hx hof => by
                have h := Ph.2 x (by rw [List.length_append]; omega) hof
                refine ⟨h.1.trans (List.getElem?_append_left hx), ?_⟩
                have h2 := h.2
                unfold rgF at *
                rw [← eV]; exact h2
              have hgl9 := obj_lt hZ.g
              have hog9 := oh _ hgl9 hZ.og
              refine ⟨(σh, (xa, xe, yr, yh), t + 1), ⟨⟨hog9.1.trans hZ.g, fh, hog9.2, obj_lt (hog9.1.trans hZ.g), fun x hx => ?_⟩, by simp only; rw [← eV]; exact hoh, by simp only; omega, by simp only; omega⟩, by simp only; omega, rfl, by simp [Go.Vm.look, extK]⟩
              have q := hZ.out x hx
              have q2 := oh x (by omega) q.2
              exact ⟨q2.1.trans q.1, q2.2⟩
          · skip
            replace hc50 := of_decide_eq_false hc50
            have hmem := findZ_pos hc50
            refine KC.skip ?_
            refine thenK_n ?_
            refine KC.seq ?_
            refine KC.seq ?_
            have eF : (rowE (nxN pre post) fs e i (t + 1)) = (rowE (nxN pre post) fs e i t) := by
              rw [rowE]; unfold stepE; rw [hen]; simp only; unfold addE; rw [if_pos hmem]
            have hZ : RgM ((((σ ++ [(⟨[.d a, .d b, .d c], 0⟩ : VObj)]) ++ [(⟨[.d c], 0⟩ : VObj)]) ++ [(⟨[.d Dnil], 0⟩ : VObj)]) ++ [(⟨[.osl (σ.length + 1) 0 1 1 1 true, .osl (σ.length + 2) 0 1 1 1 true, .d Dnil], 0⟩ : VObj)]) σm σ.length (.osl mid2 0 (rowE (nxN pre post) fs e i t).length 1 (rowE (nxN pre post) fs e i t).length exm2) yw yr yo c (rowE (nxN pre post) fs e i (t + 1)) (rNN (nxN pre post) pre.length fs i) (rN (nxN pre post) (rowE (nxN pre post) fs e i (t + 1)) e.1 t) := by rw [eF]; exact hQ
            have hzo : OwnK 1 σm yo (iX (rN (nxN pre post) (rowE (nxN pre post) fs e i (t + 1)) e.1 t)) := by rw [eF]; exact hoo
            have hZ3 := hZ.f.own (1, _, _) (List.mem_cons_self)
            have hlt1 : (rowE (nxN pre post) fs e i (t + 1)).length ≤ (rowE (nxN pre post) fs e i t).length + 1 := by rw [rowE]; exact stepE_len _ _ _ _ _
            have hFe1 : (rowE (nxN pre post) fs e i (t + 1))[i]? = some e := rowE_get _ _ _ _ he
            obtain ⟨mid3, exm3, hx3, hmid3⟩ := OwnL.is (k := 1) hZ3 (n := (rowE (nxN pre post) fs e i (t + 1)).length) (by rw [List.length_map, mkV_len, Nat.mul_one]) (by decide) (by have := obj_ltE hFe1; omega)
            have hZg := hZ.g
            simp only at hx3
            rw [hx3] at hZg
            have hZl : (iX (rN (nxN pre post) (rowE (nxN pre post) fs e i (t + 1)) e.1 t)).length = t := by simp [iX, rN_len]
            refine KC.region ?_
            refine KT.step rfl rfl (K.move rfl) ?_
            refine KT.step rfl rfl (K.nilCheckO rfl) ?_
            refine KT.step rfl rfl (K.fieldAddrO rfl Try.fld80_0 Try.size22) ?_
            refine KT.step rfl rfl (K.loadO rfl hZg (by simp) rfl Try.agg22) ?_
            refine KT.step rfl rfl (K.lenO rfl Try.underlying22) ?_
            refine KT.step rfl rfl (K.gtr rfl rfl) ?_
            refine KT.nil ?_
            refine thenK_n ?_
            refine KC.cond rfl (fun hc92 => ?_) (fun hc92 => ?_)
            · skip
              exfalso
              have hc92 := of_decide_eq_true hc92
              rw [eF] at hc92
              omega
            · skip
              replace hc92 := of_decide_eq_false hc92
              refine KC.skip ?_
              refine thenK_n ?_
              refine KC.region ?_
              refine KT.step rfl rfl (K.move rfl) ?_
              refine KT.step rfl rfl (K.move rfl) ?_
              refine KT.step rfl rfl (K.buildC (k := 1) (cs := [.d (DI (findZ (rowE (nxN pre post) fs e i t) m9))]) rfl rfl rfl Try.underlying23 Try.size3 Try.one3.zero (by decide)) ?_
              refine KT.appL (k := 1) (q := 1) rfl rfl rfl rfl ((OwnL.own hzo).pushed _) (List.getElem?_concat_length ..) rfl (by decide) (by decide) rfl (by rw [hZl]; omega) Try.underlying23 Try.size3 (of_decide_eq_true (by kernel_rfl)) (by kernel_rfl) (by decide) fun σh yh hoh kh wh => ?_
              have Ph := (hZ.f.push [(⟨[.d (DI (findZ (rowE (nxN pre post) fs e i t) m9))], 0⟩ : VObj)]).put (i := 3) (by simp [rgF]) kh (.own hoh) (fun j hj => by obtain ⟨j', h1, h2⟩ := wh; rw [h1] at hj; cases hj; exact h2)
              refine KT.step rfl rfl (K.assign rfl) ?_
              refine KT.nil ?_
              refine blockK_n ?_
              refine thenK_n ?_
              refine KC.region ?_
              refine KT.step rfl rfl (K.add rfl rfl (wrap_id (by omega))) ?_
              refine KT.step rfl rfl (K.move rfl) ?_
              refine KT.nil ?_
              refine thenK_n ?_
              have eV : iX (rN (nxN pre post) (rowE (nxN pre post) fs e i (t + 1)) e.1 t) ++ [.d (DI (findZ (rowE (nxN pre post) fs e i t) m9))] = iX (rN (nxN pre post) (rowE (nxN pre post) fs e i (t + 1)) e.1 (t + 1)) := by
                have e0 : rE (rowE (nxN pre post) fs e i (t + 1)) (nxN pre post e.1 t) = (findZ (rowE (nxN pre post) fs e i t) m9) := by rw [hen, eF]; simp only [rE]; unfold findZ; rw [if_pos hmem]
                rw [rN_succ, e0]
                unfold iX
                rw [List.map_append, List.map_append]; rfl
              have fh : FamL σh (rgF (.osl mid2 0 (rowE (nxN pre post) fs e i t).length 1 (rowE (nxN pre post) fs e i t).length exm2) yw yr yh c (rowE (nxN pre post) fs e i (t + 1)) (rNN (nxN pre post) pre.length fs i) (rN (nxN pre post) (rowE (nxN pre post) fs e i (t + 1)) e.1 (t + 1))) := by
                have h := Ph.1
                unfold rgF at *
                rw [← eV]; exact h
              have oh : ∀ x, x < σm.length → OffL (rgF (.osl mid2 0 (rowE (nxN pre post) fs e i t).length 1 (rowE (nxN pre post) fs e i t).length exm2) yw yr yo c (rowE (nxN pre post) fs e i (t + 1)) (rNN (nxN pre post) pre.length fs i) (rN (nxN pre post) (rowE (nxN pre post) fs e i (t + 1)) e.1 t)) x → σh[x]? = σm[x]? ∧ OffL (rgF (.osl mid2 0 (rowE (nxN pre post) fs e i t).length 1 (rowE (nxN pre post) fs e i t).length exm2) yw yr yh c (rowE (nxN pre post) fs e i (t + 1)) (rNN (nxN pre post) pre.length fs i) (rN (nxN pre post) (rowE (nxN pre post) fs e i (t + 1)) e.1 (t + 1))) x := fun x hx hof => by
                have h := Ph.2 x (by rw [List.length_append]; omega) hof
                refine ⟨h.1.trans (List.getElem?_append_left hx), ?_⟩
                have h2 := h.2
                unfold rgF at *
                rw [← eV]; exact h2
              have hgl9 := obj_lt hZ.g
              have hog9 := oh _ hgl9 hZ.og
              refine ⟨(σh, (.osl mid2 0 (rowE (nxN pre post) fs e i t).length 1 (rowE (nxN pre post) fs e i t).length exm2, yw, yr, yh), t + 1), ⟨⟨hog9.1.trans hZ.g, fh, hog9.2, obj_lt (hog9.1.trans hZ.g), fun x hx => ?_⟩, by simp only; rw [← eV]; exact hoh, by simp only; omega, by simp only; omega⟩, by simp only; omega, rfl, by simp [Go.Vm.look, extK]⟩
              have q := hZ.out x hx
              have q2 := oh x (by omega) q.2
              exact ⟨q2.1.trans q.1, q2.2⟩
        · cases hc45
      · skip
        refine KT.step rfl rfl (K.call3 rfl rfl rfl plainTry_77 (rfire77 (c := c) ha hb hr2 (by omega) (by omega) htl htl2 (by rw [hN.rp _ (List.getElem_mem htl)]; omega) (by rw [hN.rq _ (List.getElem_mem htl2)]; omega) (hp3 _ (List.getElem_mem htl)) (hq3 _ (List.getElem_mem htl2)) hbm.tk)) ?_
        rw [rfire_none hN htl hen]
        refine KT.step rfl rfl (K.move rfl) ?_
        refine KT.step rfl rfl (K.extract rfl rfl) ?_
        refine KT.step rfl rfl (K.extract rfl rfl) ?_
        refine KT.step rfl rfl (K.assign rfl) ?_
        refine KT.step rfl rfl (K.assign rfl) ?_
        refine KT.nil ?_
        refine ⟨by kernel_rfl, ?_⟩
        refine thenK_n ?_
        refine KC.seq ?_
        refine KC.region ?_
        refine KT.step rfl rfl (K.assign rfl) ?_
        refine KT.nil ?_
        refine thenK_n ?_
        refine KC.seq ?_
        refine KC.seq ?_
        refine KC.region ?_
        refine KT.step rfl rfl (K.move rfl) ?_
        refine KT.nil ?_
        refine thenK_n ?_
        refine KC.cond rfl (fun hc45 => ?_) (fun hc45 => ?_)
        · cases hc45
        · skip
          refine KC.skip ?_
          refine thenK_n ?_
          refine KC.seq ?_
          refine KC.seq ?_
          have eF : (rowE (nxN pre post) fs e i (t + 1)) = (rowE (nxN pre post) fs e i t) := by
            rw [rowE]; unfold stepE; rw [hen]
          have hZ : RgM ((((σ ++ [(⟨[.d a, .d b, .d c], 0⟩ : VObj)]) ++ [(⟨[.d c], 0⟩ : VObj)]) ++ [(⟨[.d Dnil], 0⟩ : VObj)]) ++ [(⟨[.osl (σ.length + 1) 0 1 1 1 true, .osl (σ.length + 2) 0 1 1 1 true, .d Dnil], 0⟩ : VObj)]) σm σ.length (.osl mid2 0 (rowE (nxN pre post) fs e i t).length 1 (rowE (nxN pre post) fs e i t).length exm2) yw yr yo c (rowE (nxN pre post) fs e i (t + 1)) (rNN (nxN pre post) pre.length fs i) (rN (nxN pre post) (rowE (nxN pre post) fs e i (t + 1)) e.1 t) := by rw [eF]; exact hQ
          have hzo : OwnK 1 σm yo (iX (rN (nxN pre post) (rowE (nxN pre post) fs e i (t + 1)) e.1 t)) := by rw [eF]; exact hoo
          have hZ3 := hZ.f.own (1, _, _) (List.mem_cons_self)
          have hlt1 : (rowE (nxN pre post) fs e i (t + 1)).length ≤ (rowE (nxN pre post) fs e i t).length + 1 := by rw [rowE]; exact stepE_len _ _ _ _ _
          have hFe1 : (rowE (nxN pre post) fs e i (t + 1))[i]? = some e := rowE_get _ _ _ _ he
          obtain ⟨mid3, exm3, hx3, hmid3⟩ := OwnL.is (k := 1) hZ3 (n := (rowE (nxN pre post) fs e i (t + 1)).length) (by rw [List.length_map, mkV_len, Nat.mul_one]) (by decide) (by have := obj_ltE hFe1; omega)
          have hZg := hZ.g
          simp only at hx3
          rw [hx3] at hZg
          have hZl : (iX (rN (nxN pre post) (rowE (nxN pre post) fs e i (t + 1)) e.1 t)).length = t := by simp [iX, rN_len]
          refine KC.region ?_
          refine KT.step rfl rfl (K.move rfl) ?_
          refine KT.step rfl rfl (K.nilCheckO rfl) ?_
          refine KT.step rfl rfl (K.fieldAddrO rfl Try.fld80_0 Try.size22) ?_
          refine KT.step rfl rfl (K.loadO rfl hZg (by simp) rfl Try.agg22) ?_
          refine KT.step rfl rfl (K.lenO rfl Try.underlying22) ?_
          refine KT.step rfl rfl (K.gtr rfl rfl) ?_
          refine KT.nil ?_
          refine thenK_n ?_
          refine KC.cond rfl (fun hc92 => ?_) (fun hc92 => ?_)
          · skip
            exfalso
            have hc92 := of_decide_eq_true hc92
            rw [eF] at hc92
            omega
          · skip
            replace hc92 := of_decide_eq_false hc92
            refine KC.skip ?_
            refine thenK_n ?_
            refine KC.region ?_
            refine KT.step rfl rfl (K.move rfl) ?_
            refine KT.step rfl rfl (K.move rfl) ?_
            refine KT.step rfl rfl (K.buildC (k := 1) (cs := [.d (DI (-1))]) rfl rfl rfl Try.underlying23 Try.size3 Try.one3.zero (by decide)) ?_
            refine KT.appL (k := 1) (q := 1) rfl rfl rfl rfl ((OwnL.own hzo).pushed _) (List.getElem?_concat_length ..) rfl (by decide) (by decide) rfl (by rw [hZl]; omega) Try.underlying23 Try.size3 (of_decide_eq_true (by kernel_rfl)) (by kernel_rfl) (by decide) fun σh yh hoh kh wh => ?_
            have Ph := (hZ.f.push [(⟨[.d (DI (-1))], 0⟩ : VObj)]).put (i := 3) (by simp [rgF]) kh (.own hoh) (fun j hj => by obtain ⟨j', h1, h2⟩ := wh; rw [h1] at hj; cases hj; exact h2)
            refine KT.step rfl rfl (K.assign rfl) ?_
            refine KT.nil ?_
            refine blockK_n ?_
            refine thenK_n ?_
            refine KC.region ?_
            refine KT.step rfl rfl (K.add rfl rfl (wrap_id (by omega))) ?_
            refine KT.step rfl rfl (K.move rfl) ?_
            refine KT.nil ?_
            refine thenK_n ?_
            have eV : iX (rN (nxN pre post) (rowE (nxN pre post) fs e i (t + 1)) e.1 t) ++ [.d (DI (-1))] = iX (rN (nxN pre post) (rowE (nxN pre post) fs e i (t + 1)) e.1 (t + 1)) := by
              have e0 : rE (rowE (nxN pre post) fs e i (t + 1)) (nxN pre post e.1 t) = (-1) := by rw [hen]; rfl
              rw [rN_succ, e0]
              unfold iX
              rw [List.map_append, List.map_append]; rfl
            have fh : FamL σh (rgF (.osl mid2 0 (rowE (nxN pre post) fs e i t).length 1 (rowE (nxN pre post) fs e i t).length exm2) yw yr yh c (rowE (nxN pre post) fs e i (t + 1)) (rNN (nxN pre post) pre.length fs i) (rN (nxN pre post) (rowE (nxN pre post) fs e i (t + 1)) e.1 (t + 1))) := by
              have h := Ph.1
              unfold rgF at *
              rw [← eV]; exact h
            have oh : ∀ x, x < σm.length → OffL (rgF (.osl mid2 0 (rowE (nxN pre post) fs e i t).length 1 (rowE (nxN pre post) fs e i t).length exm2) yw yr yo c (rowE (nxN pre post) fs e i (t + 1)) (rNN (nxN pre post) pre.length fs i) (rN (nxN pre post) (rowE (nxN pre post) fs e i (t + 1)) e.1 t)) x → σh[x]? = σm[x]? ∧ OffL (rgF (.osl mid2 0 (rowE (nxN pre post) fs e i t).length 1 (rowE (nxN pre post) fs e i t).length exm2) yw yr yh c (rowE (nxN pre post) fs e i (t + 1)) (rNN (nxN pre post) pre.length fs i) (rN (nxN pre post) (rowE (nxN pre post) fs e i (t + 1)) e.1 (t + 1))) x := fun x hx hof => by
              have h := Ph.2 x (by rw [List.length_append]; omega) hof
              refine ⟨h.1.trans (List.getElem?_append_left hx), ?_⟩
              have h2 := h.2
              unfold rgF at *
              rw [← eV]; exact h2
            have hgl9 := obj_lt hZ.g
            have hog9 := oh _ hgl9 hZ.og
            refine ⟨(σh, (.osl mid2 0 (rowE (nxN pre post) fs e i t).length 1 (rowE (nxN pre post) fs e i t).length exm2, yw, yr, yh), t + 1), ⟨⟨hog9.1.trans hZ.g, fh, hog9.2, obj_lt (hog9.1.trans hZ.g), fun x hx => ?_⟩, by simp only; rw [← eV]; exact hoh, by simp only; omega, by simp only; omega⟩, by simp only; omega, rfl, by simp [Go.Vm.look, extK]⟩
            have q := hZ.out x hx
            have q2 := oh x (by omega) q.2
            exact ⟨q2.1.trans q.1, q2.2⟩
    · skip
      replace hc30 := of_decide_eq_false hc30
      have hNl : (((rNN (nxN pre post) pre.length fs i).map nV).map XV.d).length = i := by simp [rNN]
      have hgl := obj_lt hQ.g
      refine KC.exit ?_
      refine thenK_x ?_
      refine thenK_x ?_
      refine blockK_e ?_
      refine thenK_n ?_
      refine KC.region ?_
      refine KT.step rfl rfl (K.move rfl) ?_
      refine KT.step rfl rfl (K.move rfl) ?_
      refine KT.step rfl rfl (K.nilCheckO rfl) ?_
      refine KT.step rfl rfl (K.fieldAddrO rfl Try.fld80_2 Try.size22) ?_
      refine KT.step rfl rfl (K.loadO rfl hQ.g (by simp) rfl Try.agg22) ?_
      refine KT.step rfl rfl (K.move rfl) ?_
      refine KT.step rfl rfl (K.buildC (k := 1) (cs := [yo]) rfl hoo.cells.1 rfl Try.underlying22 Try.size23 Try.one23.zero (by decide)) ?_
      refine KT.appL (k := 1) (q := 1) rfl rfl rfl rfl (hQ.f.un4.2.2.1.pushed _) (List.getElem?_concat_length ..) rfl (by decide) (by decide) (by simp [hoo.cells.2]) (by rw [hNl]; omega) Try.underlying22 Try.size23 (of_decide_eq_true (by kernel_rfl)) (by kernel_rfl) (by decide) fun σu xu hou ku wu => ?_
      have Pu := (hQ.f.push [(⟨[yo], 0⟩ : VObj)]).put (i := 2) (by simp [rgF]) ku (.own hou) (fun j hj => by obtain ⟨j', h1, h2⟩ := wu; rw [h1] at hj; cases hj; exact h2)
      have gu : σu[σ.length + 3]? = some ⟨[ym, yw, yr], 0⟩ := (Pu.2 (σ.length + 3) (by rw [List.length_append]; omega) hQ.og).1.trans (obj_left hQ.g)
      refine KT.step rfl rfl (K.nilCheckO rfl) ?_
      refine KT.step rfl rfl (K.fieldAddrO rfl Try.fld80_2 Try.size22) ?_
      refine KT.storeG rfl rfl rfl rfl gu (by simp) hou.cells.1 hou.cells.2 Try.size22 fun σv lv uv vv => ?_
      have uv : σv[σ.length + 3]? = some ⟨[ym, yw, xu], 0⟩ := uv
      refine KT.nil ?_
      refine blockK_n ?_
      refine thenK_n ?_
      obtain rfl : t = pre.length := by omega
      obtain ⟨rid, hyo, hrid⟩ := hoo.is (k := 1) (n := pre.length) (by simp [iX, rN_len]) (by decide) hN.p0
      subst hyo
      have u4 := hQ.f.un4
      have ogu := (Pu.2 (σ.length + 3) (by rw [List.length_append]; omega) hQ.og).2
      have fv := Pu.1.stay ogu vv
      have uv4 := fv.un4
      obtain ⟨ju, wu1, wu2⟩ := wu
      rw [List.length_append] at wu2
      have hrl := obj_lt hrid
      have hou' : OwnK 1 σv xu _ := hou.keep fun j hj => vv j (by rw [wu1] at hj; cases hj; omega)
      have hridv : σv[rid]? = some ⟨((rN (nxN pre post) (rowE (nxN pre post) fs e i pre.length) e.1 pre.length).map DI).map .d, 0⟩ := by
        rw [vv rid (fun h => by subst h; exact (OffL.four.1 hQ.og).2.2.2 rfl), ku rid (fun h => u4.2.2.2.2.2.2.2.2.2 rid h rfl) (by rw [List.length_append]; omega), List.getElem?_append_left hrl]; exact hrid
      refine KC.tellK (x := xu) (cells := ((rNN (nxN pre post) pre.length fs i).map nV).map .d) (r := rid) (L := pre.length) (w := 1) (ex := false) (ds := (rN (nxN pre post) (rowE (nxN pre post) fs e i pre.length) e.1 pre.length).map DI) hou' hridv (by rw [List.length_map, rN_len, Nat.mul_one]) (by rw [wu1]; intro h; cases h; omega) fun σw g1 g2 hk3 => ?_
      have oU := OffL.four.1 ogu
      have hFe : (rowE (nxN pre post) fs e i pre.length)[i]? = some e := rowE_get _ _ _ _ he
      obtain ⟨lg, hlg⟩ := rowE_grow (nxN pre post) fs e i pre.length
      have eN : ((rNN (nxN pre post) pre.length fs i).map nV).map XV.d ++ [.d (.sl ((rN (nxN pre post) (rowE (nxN pre post) fs e i pre.length) e.1 pre.length).map DI) pre.length (if false = true then some pre.length else none))] = ((rNN (nxN pre post) pre.length (rowE (nxN pre post) fs e i pre.length) (i + 1)).map nV).map .d := by
        have e1 : rNN (nxN pre post) pre.length (rowE (nxN pre post) fs e i pre.length) (i + 1) = (rNN (nxN pre post) pre.length fs i) ++ [(rN (nxN pre post) (rowE (nxN pre post) fs e i pre.length) e.1 pre.length)] := by
          unfold rNN
          rw [List.range_succ, List.map_append, List.map_cons, List.map_nil, mrk_get hFe]
          congr 1
          have := rNN_grow (nx := nxN pre post) (T := pre.length) hI.le hI.cl lg
          rw [hlg]; exact this
        rw [e1, List.map_append, List.map_append]
        congr 1
        simp only [List.map_cons, List.map_nil, nV, rN_len]; rfl
      rw [eN] at g1
      refine KC.region ?_
      refine KT.step rfl rfl (K.move rfl) ?_
      refine KT.step rfl rfl (K.add rfl rfl (wrap_id (by omega))) ?_
      refine KT.step rfl rfl (K.assign rfl) ?_
      refine KT.nil ?_
      refine thenK_n ?_
      refine ⟨(σw, (ym, yw, xu), (rowE (nxN pre post) fs e i pre.length), i + 1), ⟨?_, ?_⟩, by simp only; omega, rfl, by simp [Go.Vm.look, extK]⟩
      · refine ⟨(hk3 _ (fun h => by subst h; exact (OffL.four.1 hQ.og).2.2.2 rfl) oU.2.2.1).trans uv, FamL.four (uv4.1.keep fun j hj => hk3 j (fun h => by subst h; exact uv4.2.2.2.2.2.2.1 j hj rfl) (fun h => uv4.2.2.2.2.2.1 j hj h)) (uv4.2.1.keep fun j hj => hk3 j (fun h => by subst h; exact uv4.2.2.2.2.2.2.2.2.1 j hj rfl) (fun h => uv4.2.2.2.2.2.2.2.1 j hj h)) (.own g1) (.own .nil) uv4.2.2.2.2.1 uv4.2.2.2.2.2.1 (fun _ _ h => by cases h) uv4.2.2.2.2.2.2.2.1 (fun _ _ h => by cases h) (fun _ _ h => by cases h), OffL.four.2 ⟨oU.1, oU.2.1, oU.2.2.1, by simp [idX]⟩, by rw [g2, lv]; have := obj_lt gu; omega, fun x hx => ?_⟩
        have q := hQ.out x hx
        have q2 := Pu.2 x (by rw [List.length_append]; omega) q.2
        have o4 := OffL.four.1 q2.2
        exact ⟨(hk3 x (fun h => by subst h; exact o4.2.2.2 rfl) o4.2.2.1).trans ((vv x (by omega)).trans (q2.1.trans ((List.getElem?_append_left (by omega)).trans q.1))), OffL.four.2 ⟨o4.1, o4.2.1, o4.2.2.1, by simp [idX]⟩⟩
      · refine ⟨hI.inv.row (nxN_ok hN) he (by omega) pre.length (Nat.le_refl _), fun k hk => ?_, obj_ltE hFe, hlt, ?_⟩
        · have hk9 : k < i + 1 := hk
          by_cases hki : k < i
          · have := ClosedB.grow hI.le hI.cl lg k hki
            rw [← hlg] at this; exact this
          · obtain rfl : k = i := by omega
            rw [mrk_get hFe]; exact closed_row _
        · rw [← hI.bf, show 2001 - i = (2000 - i) + 1 by omega, bfs_step _ _ _ he, if_neg (by omega), show 2001 - (i + 1) = 2000 - i by omega]
  · skip
    replace hc23 := of_decide_eq_false hc23
    refine KC.exit ?_
    refine thenK_x ?_
    refine thenK_x ?_
    refine blockK_e ?_
    refine thenK_n ?_
    refine KC.seq ?_
    refine KC.region ?_
    refine KT.step rfl rfl (K.move rfl) ?_
    refine KT.step rfl rfl (K.assign rfl) ?_
    refine KT.step rfl rfl (K.assign rfl) ?_
    refine KT.nil ?_
    refine thenK_n ?_
    refine KC.ret ?_
    obtain rfl : i = fs.length := by have := hI.le; omega
    refine ⟨.inl rfl, _, rfl, ?_⟩
    have hre : reachE (nxN pre post) pre.length 2000 s = some fs := by rw [← hI.bf, bfs_done _ _ _ (Nat.le_refl _)]
    unfold RchQ
    rw [hre]
    exact ⟨σ.length + 3, _, _, _, rfl, hM.g, hM.f, fun x hx => by
      have q := hM.out x (by omega)
      refine ⟨q.1.trans ?_, q.2⟩
      rw [List.append_assoc, List.append_assoc, List.append_assoc, List.getElem?_append_left hx], by omega, hM.og⟩
end Go.Proofs.Ytocgjopmlhpjdaa

