import Derived.Test.YtjfpeiioddfjcaaZnH
/-
 Zones: the law ZoneTwice.
-/
namespace Go.Proofs.Ytjfpeiioddfjcaa
open Go.Vm Go.Zn
theorem plainTry_13 : plainFn Try.prog 13 = true := by kernel_rfl

theorem build38 (a b c : Int) : pureRun Try.prog (Instr.build 38 #[(0, .int .i64 a), (1, .int .i64 b), (2, .int .i64 c)]) = some (.agg #[.int .i64 a, .int .i64 b, .int .i64 c]) := by kernel_rfl
theorem open_guard : Opn Try.prog 36 (fun ds => ∃ i j b, ds = [DI i, DI j, DI b]) := by
 have h3 : Opn Try.prog 3 (One fun d => ∃ n, IsI d n) := (Opn.int Try.underlying3).mono fun ds ⟨d, e, n, hd, _⟩ => ⟨d, e, n, hd⟩
 refine (Opn.struct Try.underlying36 [(1, One fun d => ∃ n, IsI d n), (1, One fun d => ∃ n, IsI d n), (1, One fun d => ∃ n, IsI d n)] (fun i => i) rfl rfl (by kernel_rfl) fun i f q hf hq => ?_).mono fun ds h => ?_
 ·match i with
  | 0 => simp at hf hq; subst hf hq; exact ⟨rfl, by kernel_rfl, rfl, h3⟩
  | 1 => simp at hf hq; subst hf hq; exact ⟨rfl, by kernel_rfl, rfl, h3⟩
  | 2 => simp at hf hq; subst hf hq; exact ⟨rfl, by kernel_rfl, rfl, h3⟩
  | i + 3 => simp at hf
 ·obtain ⟨_, _, rfl, _, ⟨_, rfl, a, rfl⟩, _, _, rfl, _, ⟨_, rfl, b, rfl⟩, _, _, rfl, _, ⟨_, rfl, c, rfl⟩, rfl⟩ := h
  exact ⟨a, b, c, rfl⟩
theorem dlE_cases (z : List (List Int)) : dlE z = 0 ∨ dlE z = 2 ∨ dlE z = 5 := by
 rw [dlE_eq, tgE_eq]
 split
 ·split
  ·exact .inr (.inr rfl)
  ·exact .inl rfl
 ·exact .inr (.inl rfl)
set_option maxRecDepth 10000 in
theorem law13 {d : DV} {z : List (List Int)} {gi gj gb hi hj hb s : Int} (hd : Mat d z) (hl : z.length ≤ 9223372036854775807) (hr : ∀ r ∈ z, r.length ≤ 9223372036854775807) : DeepCall Try.prog 13 [d, .agg [DI gi, DI gj, DI gb], .agg [DI hi, DI hj, DI hb], DI s] (DB true) := by
 have fz := few_len z
 have kz := fewZ_len z
 have hmz := few_mat hd
 have hfv := few_valid (z := z)
 have hfi := few_id (z := z)
 generalize hZ : fewZ z = Z at *
 refine deepCall_K 5 Try.func13 rfl (Nat.le_of_ble_eq_true rfl) fun M W0 => ?_
 refine KC.seq ?_
 refine KC.region ?_
 refine KT.step rfl rfl (K.box rfl) ?_
 refine KT.step rfl rfl (K.box rfl) ?_
 refine KT.step rfl rfl (K.assign rfl) ?_
 refine KT.nil ?_
 refine thenK_n ?_
 refine KC.seq ?_
 refine KC.region ?_
 refine KT.step rfl rfl (K.move rfl) ?_
 refine KT.step rfl rfl (K.call1 rfl plainTry_16 (few16 hd hl hr)) ?_
 refine KT.step rfl rfl (K.call1 rfl plainTry_25 (Delay25 hmz fz.1 fz.2)) ?_
 refine KT.step rfl rfl (K.move rfl) ?_
 refine KT.step rfl rfl (K.extract rfl rfl) ?_
 refine KT.step rfl rfl (K.extract rfl rfl) ?_
 refine KT.step rfl rfl (K.assign rfl) ?_
 refine KT.step rfl rfl (K.assign rfl) ?_
 refine KT.nil ?_
 refine thenK_n ?_
 refine KC.seq ?_
 refine KC.seq ?_
 refine KC.region ?_
 refine KT.step rfl rfl (K.move rfl) ?_
 refine KT.step rfl rfl (K.neq rfl rfl) ?_
 refine KT.nil ?_
 refine thenK_n ?_
 refine KC.cond rfl (fun hc30 => ?_) (fun hc30 => ?_)
 ·skip
  replace hc30 := of_decide_eq_true hc30
  refine KC.seq ?_
  refine KC.region ?_
  refine KT.step rfl rfl (K.move rfl) ?_
  refine KT.step rfl rfl (K.eql rfl rfl) ?_
  refine KT.step rfl rfl (K.move rfl) ?_
  refine KT.bcase (fun hb33 => ?_) (fun hb33 => ?_)
  ·skip
   replace hb33 := of_decide_eq_true hb33
   refine KT.skip rfl rfl ?_
   refine KT.skip rfl rfl ?_
   refine KT.step rfl rfl (K.pick rfl (fun _ => rfl) (fun h => by cases h)) ?_
   refine KT.step rfl rfl (K.move rfl) ?_
   refine KT.step rfl rfl (K.call0 plainTry_21 (awake21)) ?_
   refine KT.step rfl rfl (K.pick rfl (fun _ => rfl) (fun h => by cases h)) ?_
   refine KT.step rfl rfl (K.assign rfl) ?_
   refine KT.nil ?_
   refine thenK_n ?_
   refine KC.ret ?_
   refine thenK_r ?_
   exact ⟨.inl rfl, _, rfl, rfl⟩
  ·skip
   replace hb33 := of_decide_eq_false hb33
   refine KT.step rfl rfl (K.move rfl) ?_
   refine KT.step rfl rfl (K.eql rfl rfl) ?_
   refine KT.step rfl rfl (K.pick rfl (fun h => by cases h) (fun _ => rfl)) ?_
   refine KT.step rfl rfl (K.move rfl) ?_
   refine KT.bcase (fun hb37 => ?_) (fun hb37 => ?_)
   ·skip
    replace hb37 := of_decide_eq_true hb37
    refine KT.step rfl rfl (K.call0 plainTry_21 (awake21)) ?_
    refine KT.step rfl rfl (K.pick rfl (fun _ => rfl) (fun h => by cases h)) ?_
    refine KT.step rfl rfl (K.assign rfl) ?_
    refine KT.nil ?_
    refine thenK_n ?_
    refine KC.ret ?_
    refine thenK_r ?_
    exact ⟨.inl rfl, _, rfl, rfl⟩
   ·skip
    replace hb37 := of_decide_eq_false hb37
    have := dlE_cases Z
    omega
 ·skip
  replace hc30 := of_decide_eq_false hc30
  have h0 := Classical.not_not.1 hc30
  have hv : validZ Z = true := (tgE_zero ((dlE_eq Z).symm.trans h0)).1
  have hzZ : Z = z := hfi (hfv ▸ hv)
  have ht := dl_dl h0
  refine KC.skip ?_
  refine thenK_n ?_
  refine KC.seq ?_
  refine KC.seq ?_
  refine KC.region ?_
  refine KT.step rfl rfl (K.move rfl) ?_
  refine KT.step rfl rfl (K.call1 rfl plainTry_25 (Delay25 (z := dlZ Z) (resD_mat (e := dlE Z) (n := Z.length) (a := delM Z.length (tightM Z.length (zf Z)))) (resZ_len (kz.1) _).1 (resZ_len (kz.1) _).2)) ?_
  refine KT.step rfl rfl (K.move rfl) ?_
  refine KT.step rfl rfl (K.extract rfl rfl) ?_
  refine KT.step rfl rfl (K.extract rfl rfl) ?_
  refine KT.step rfl rfl (K.assign rfl) ?_
  refine KT.step rfl rfl (K.assign rfl) ?_
  refine KT.nil ?_
  refine thenK_n ?_
  refine KC.seq ?_
  refine KC.region ?_
  refine KT.step rfl rfl (K.move rfl) ?_
  refine KT.step rfl rfl (K.eql rfl rfl) ?_
  refine KT.step rfl rfl (K.move rfl) ?_
  refine KT.bcase (fun hb47 => ?_) (fun hb47 => ?_)
  ·skip
   replace hb47 := of_decide_eq_true hb47
   refine KT.step rfl rfl (K.move rfl) ?_
   refine KT.step rfl rfl (K.move rfl) ?_
   refine KT.step rfl rfl (K.call2 rfl rfl plainTry_20 (same20 (resD_mat (e := dlE Z) (n := Z.length) (a := delM Z.length (tightM Z.length (zf Z)))) (resD_mat (e := dlE (dlZ Z)) (n := (dlZ Z).length) (a := delM (dlZ Z).length (tightM (dlZ Z).length (zf (dlZ Z))))) (resZ_len (kz.1) _).1 (resZ_len (kz.1) _).2)) ?_
   refine KT.step rfl rfl (K.not rfl) ?_
   refine KT.step rfl rfl (K.pick rfl (fun _ => rfl) (fun h => by cases h)) ?_
   refine KT.step rfl rfl (K.move rfl) ?_
   refine KT.bcase (fun hb53 => ?_) (fun hb53 => ?_)
   ·skip
    rw [Bool.not_eq_true'] at hb53
    exact absurd (ht.1 hb47).symm (of_decide_eq_false hb53)
   ·skip
    refine KT.step rfl rfl (K.move rfl) ?_
    refine KT.step rfl rfl (K.neq rfl rfl) ?_
    refine KT.step rfl rfl (K.move rfl) ?_
    refine KT.bcase (fun hb56 => ?_) (fun hb56 => ?_)
    ·skip
     exact absurd hb47 (of_decide_eq_true hb56)
    ·skip
     replace hb56 := of_decide_eq_false hb56
     refine KT.skip rfl rfl ?_
     refine KT.skip rfl rfl ?_
     refine KT.step rfl rfl (K.pick rfl (fun h => by cases h) (fun _ => rfl)) ?_
     refine KT.step rfl rfl (K.pick rfl (fun h => by cases h) (fun _ => rfl)) ?_
     refine KT.nil ?_
     refine thenK_n ?_
     refine KC.cond rfl (fun hc60 => ?_) (fun hc60 => ?_)
     ·cases hc60
     ·skip
      refine KC.skip ?_
      refine thenK_n ?_
      refine KC.seq ?_
      refine KC.region ?_
      refine KT.step rfl rfl (K.move rfl) ?_
      refine KT.step rfl rfl (K.call1 rfl plainTry_16 (few16 hd hl hr)) ?_
      refine KT.step rfl rfl (K.move rfl) ?_
      refine KT.step rfl rfl (K.call2 rfl rfl plainTry_27 (Reset27 hmz fz.1 fz.2 kz.1)) ?_
      refine KT.step rfl rfl (K.move rfl) ?_
      refine KT.step rfl rfl (K.extract rfl rfl) ?_
      refine KT.step rfl rfl (K.extract rfl rfl) ?_
      refine KT.step rfl rfl (K.assign rfl) ?_
      refine KT.step rfl rfl (K.assign rfl) ?_
      refine KT.nil ?_
      refine thenK_n ?_
      refine KC.seq ?_
      refine KC.seq ?_
      refine KC.region ?_
      refine KT.step rfl rfl (K.move rfl) ?_
      refine KT.step rfl rfl (K.eql rfl rfl) ?_
      refine KT.nil ?_
      refine thenK_n ?_
      refine KC.cond rfl (fun hc69 => ?_) (fun hc69 => ?_)
      ·skip
       replace hc69 := of_decide_eq_true hc69
       have hs := rs_rs hc69
       refine KC.seq ?_
       refine KC.region ?_
       refine KT.step rfl rfl (K.move rfl) ?_
       refine KT.step rfl rfl (K.move rfl) ?_
       refine KT.step rfl rfl (K.call2 rfl rfl plainTry_27 (Reset27 (z := rsZ Z s) (resD_mat (e := rsE Z s) (n := Z.length) (a := resM Z.length s.toNat (tightM Z.length (zf Z)))) (resZ_len (kz.1) _).1 (resZ_len (kz.1) _).2 (rsZ_le kz.1))) ?_
       refine KT.step rfl rfl (K.move rfl) ?_
       refine KT.step rfl rfl (K.extract rfl rfl) ?_
       refine KT.step rfl rfl (K.extract rfl rfl) ?_
       refine KT.step rfl rfl (K.assign rfl) ?_
       refine KT.step rfl rfl (K.assign rfl) ?_
       refine KT.nil ?_
       refine thenK_n ?_
       refine KC.seq ?_
       refine KC.region ?_
       refine KT.step rfl rfl (K.move rfl) ?_
       refine KT.step rfl rfl (K.eql rfl rfl) ?_
       refine KT.step rfl rfl (K.move rfl) ?_
       refine KT.bcase (fun hb78 => ?_) (fun hb78 => ?_)
       ·skip
        replace hb78 := of_decide_eq_true hb78
        refine KT.step rfl rfl (K.move rfl) ?_
        refine KT.step rfl rfl (K.move rfl) ?_
        refine KT.step rfl rfl (K.call2 rfl rfl plainTry_20 (same20 (resD_mat (e := rsE Z s) (n := Z.length) (a := resM Z.length s.toNat (tightM Z.length (zf Z)))) (resD_mat (e := rsE (rsZ Z s) s) (n := (rsZ Z s).length) (a := resM (rsZ Z s).length s.toNat (tightM (rsZ Z s).length (zf (rsZ Z s))))) (resZ_len (kz.1) _).1 (resZ_len (kz.1) _).2)) ?_
        refine KT.step rfl rfl (K.not rfl) ?_
        refine KT.step rfl rfl (K.pick rfl (fun _ => rfl) (fun h => by cases h)) ?_
        refine KT.step rfl rfl (K.move rfl) ?_
        refine KT.bcase (fun hb84 => ?_) (fun hb84 => ?_)
        ·skip
         rw [Bool.not_eq_true'] at hb84
         exact absurd (hs.1 hb78).symm (of_decide_eq_false hb84)
        ·skip
         refine KT.step rfl rfl (K.move rfl) ?_
         refine KT.step rfl rfl (K.neq rfl rfl) ?_
         refine KT.step rfl rfl (K.move rfl) ?_
         refine KT.bcase (fun hb87 => ?_) (fun hb87 => ?_)
         ·skip
          exact absurd hb78 (of_decide_eq_true hb87)
         ·skip
          replace hb87 := of_decide_eq_false hb87
          refine KT.skip rfl rfl ?_
          refine KT.skip rfl rfl ?_
          refine KT.step rfl rfl (K.pick rfl (fun h => by cases h) (fun _ => rfl)) ?_
          refine KT.step rfl rfl (K.pick rfl (fun h => by cases h) (fun _ => rfl)) ?_
          refine KT.nil ?_
          refine thenK_n ?_
          refine KC.cond rfl (fun hc91 => ?_) (fun hc91 => ?_)
          ·cases hc91
          ·skip
           refine KC.skip ?_
           refine thenK_n ?_
           refine KC.seq ?_
           refine KC.drawV Try.mixed (i1 := 14) (j1 := 16) (i2 := 15) (j2 := 17) (t1 := 15) (t2 := 16) (s1 := 98) (s2 := 105) (c1 := [.d (DI gi), .d (DI gj), .d (DI gb)]) (c2 := [.d (DI hi), .d (DI hj), .d (DI hb)]) (C := fun k => if k = 16 then [.d (DI gi), .d (DI gj), .d (DI gb)] else [.d (DI hi), .d (DI hj), .d (DI hb)]) ⟨38, _, _, _, rfl, rfl, rfl, rfl, Try.zero38, rfl, rfl, rfl, rfl, rfl, Try.size38, rfl⟩ ⟨38, _, _, _, rfl, rfl, rfl, rfl, Try.zero38, rfl, rfl, rfl, rfl, rfl, Try.size38, rfl⟩ rfl rfl (by decide) (by kernel_rfl) ?_
           refine KTV.read rfl rfl (K.fieldAddrO rfl Try.fld36_0 Try.size3) (by decide) ?_
           refine KTV.read rfl rfl (K.loadO rfl rfl (by simp) rfl Try.agg3) (by decide) ?_
           refine KTV.read rfl rfl (K.fieldAddrO rfl Try.fld36_1 Try.size3) (by decide) ?_
           refine KTV.read rfl rfl (K.loadO rfl rfl (by simp) rfl Try.agg3) (by decide) ?_
           refine KTV.read rfl rfl (K.fieldAddrO rfl Try.fld36_2 Try.size3) (by decide) ?_
           refine KTV.read rfl rfl (K.loadO rfl rfl (by simp) rfl Try.agg3) (by decide) ?_
           refine KTV.read rfl rfl (K.buildL rfl (build38 _ _ _)) (by decide) ?_
           refine KTV.read rfl rfl (K.fieldAddrO rfl Try.fld36_0 Try.size3) (by decide) ?_
           refine KTV.read rfl rfl (K.loadO rfl rfl (by simp) rfl Try.agg3) (by decide) ?_
           refine KTV.read rfl rfl (K.fieldAddrO rfl Try.fld36_1 Try.size3) (by decide) ?_
           refine KTV.read rfl rfl (K.loadO rfl rfl (by simp) rfl Try.agg3) (by decide) ?_
           refine KTV.read rfl rfl (K.fieldAddrO rfl Try.fld36_2 Try.size3) (by decide) ?_
           refine KTV.read rfl rfl (K.loadO rfl rfl (by simp) rfl Try.agg3) (by decide) ?_
           refine KTV.read rfl rfl (K.buildL rfl (build38 _ _ _)) (by decide) ?_
           refine KTV.make rfl ?_
           refine KTV.make rfl ?_
           refine KTV.put rfl rfl rfl rfl ?_
           refine KTV.put rfl rfl rfl rfl ?_
           refine KTV.nil ?_
           refine ⟨by kernel_rfl, fun σ3 p q hp hq hpq x2 x3 v3 l3 => ?_⟩
           have y0 := v3 0 (by simp)
           have y1 := v3 1 (by simp)
           refine thenK_n ?_
           refine KC.seq ?_
           refine KC.draw Try.mixed ?_
           refine KT.step rfl rfl (K.move rfl) ?_
           refine KT.step rfl rfl (K.call1 rfl plainTry_16 (few16 hd hl hr)) ?_
           refine KT.step rfl rfl (K.loadOA ([DI gi, DI gj, DI gb]) rfl x2 (by decide) Try.agg38 Try.size38 rfl) ?_
           refine KT.step rfl rfl (K.call2 rfl rfl plainTry_23 (And23 hmz fz.1 fz.2)) ?_
           refine KT.step rfl rfl (K.move rfl) ?_
           refine KT.step rfl rfl (K.extract rfl rfl) ?_
           refine KT.step rfl rfl (K.extract rfl rfl) ?_
           refine KT.step rfl rfl (K.assign rfl) ?_
           refine KT.step rfl rfl (K.assign rfl) ?_
           refine KT.nil ?_
           refine ⟨by kernel_rfl, ?_⟩
           refine thenK_n ?_
           refine KC.seq ?_
           refine KC.draw Try.mixed ?_
           refine KT.step rfl rfl (K.move rfl) ?_
           refine KT.step rfl rfl (K.call1 rfl plainTry_16 (few16 hd hl hr)) ?_
           refine KT.step rfl rfl (K.loadOA ([DI hi, DI hj, DI hb]) rfl x3 (by decide) Try.agg38 Try.size38 rfl) ?_
           refine KT.step rfl rfl (K.call2 rfl rfl plainTry_23 (And23 hmz fz.1 fz.2)) ?_
           refine KT.step rfl rfl (K.move rfl) ?_
           refine KT.step rfl rfl (K.extract rfl rfl) ?_
           refine KT.step rfl rfl (K.extract rfl rfl) ?_
           refine KT.step rfl rfl (K.assign rfl) ?_
           refine KT.step rfl rfl (K.assign rfl) ?_
           refine KT.nil ?_
           refine ⟨by kernel_rfl, ?_⟩
           refine thenK_n ?_
           refine KC.seq ?_
           refine KC.seq ?_
           refine KC.region ?_
           refine KT.step rfl rfl (K.move rfl) ?_
           refine KT.step rfl rfl (K.neq rfl rfl) ?_
           refine KT.step rfl rfl (K.move rfl) ?_
           refine KT.bcase (fun hb122 => ?_) (fun hb122 => ?_)
           ·skip
            replace hb122 := of_decide_eq_true hb122
            refine KT.skip rfl rfl ?_
            refine KT.skip rfl rfl ?_
            refine KT.step rfl rfl (K.pick rfl (fun _ => rfl) (fun h => by cases h)) ?_
            refine KT.step rfl rfl (K.move rfl) ?_
            refine KT.skip rfl rfl ?_
            refine KT.skip rfl rfl ?_
            refine KT.skip rfl rfl ?_
            refine KT.step rfl rfl (K.pick rfl (fun _ => rfl) (fun h => by cases h)) ?_
            refine KT.step rfl rfl (K.move rfl) ?_
            refine KT.skip rfl rfl ?_
            refine KT.skip rfl rfl ?_
            refine KT.skip rfl rfl ?_
            refine KT.step rfl rfl (K.pick rfl (fun _ => rfl) (fun h => by cases h)) ?_
            refine KT.nil ?_
            refine thenK_n ?_
            refine KC.cond rfl (fun hc135 => ?_) (fun hc135 => ?_)
            ·skip
             refine KC.seq ?_
             refine KC.region ?_
             refine KT.step rfl rfl (K.move rfl) ?_
             refine KT.step rfl rfl (K.neq rfl rfl) ?_
             refine KT.step rfl rfl (K.move rfl) ?_
             refine KT.bcase (fun hb138 => ?_) (fun hb138 => ?_)
             ·skip
              replace hb138 := of_decide_eq_true hb138
              refine KT.step rfl rfl (K.move rfl) ?_
              refine KT.step rfl rfl (K.neq rfl rfl) ?_
              refine KT.step rfl rfl (K.pick rfl (fun _ => rfl) (fun h => by cases h)) ?_
              refine KT.step rfl rfl (K.move rfl) ?_
              refine KT.bcase (fun hb142 => ?_) (fun hb142 => ?_)
              ·skip
               replace hb142 := of_decide_eq_true hb142
               refine KT.skip rfl rfl ?_
               refine KT.skip rfl rfl ?_
               refine KT.skip rfl rfl ?_
               refine KT.skip rfl rfl ?_
               refine KT.step rfl rfl (K.pick rfl (fun _ => rfl) (fun h => by cases h)) ?_
               refine KT.step rfl rfl (K.move rfl) ?_
               refine KT.skip rfl rfl ?_
               refine KT.skip rfl rfl ?_
               refine KT.skip rfl rfl ?_
               refine KT.skip rfl rfl ?_
               refine KT.step rfl rfl (K.pick rfl (fun _ => rfl) (fun h => by cases h)) ?_
               refine KT.step rfl rfl (K.move rfl) ?_
               refine KT.step rfl rfl (K.call0 plainTry_21 (awake21)) ?_
               refine KT.step rfl rfl (K.pick rfl (fun _ => rfl) (fun h => by cases h)) ?_
               refine KT.step rfl rfl (K.assign rfl) ?_
               refine KT.nil ?_
               refine thenK_n ?_
               refine KC.ret ?_
               refine thenK_r ?_
               exact ⟨.inl rfl, _, rfl, rfl⟩
              ·skip
               replace hb142 := of_decide_eq_false hb142
               refine KT.step rfl rfl (K.move rfl) ?_
               refine KT.step rfl rfl (K.loadOA ([DI gi, DI gj, DI gb]) rfl y0 (by decide) Try.agg36 Try.size36 rfl) ?_
               refine KT.step rfl rfl (K.call2 rfl rfl plainTry_49 (Clock49 hd hl hr)) ?_
               refine KT.step rfl rfl (K.not rfl) ?_
               refine KT.step rfl rfl (K.pick rfl (fun h => by cases h) (fun _ => rfl)) ?_
               refine KT.step rfl rfl (K.move rfl) ?_
               refine KT.bcase (fun hb148 => ?_) (fun hb148 => ?_)
               ·skip
                refine KT.skip rfl rfl ?_
                refine KT.skip rfl rfl ?_
                refine KT.skip rfl rfl ?_
                refine KT.skip rfl rfl ?_
                refine KT.step rfl rfl (K.pick rfl (fun _ => rfl) (fun h => by cases h)) ?_
                refine KT.step rfl rfl (K.move rfl) ?_
                refine KT.step rfl rfl (K.call0 plainTry_21 (awake21)) ?_
                refine KT.step rfl rfl (K.pick rfl (fun _ => rfl) (fun h => by cases h)) ?_
                refine KT.step rfl rfl (K.assign rfl) ?_
                refine KT.nil ?_
                refine thenK_n ?_
                refine KC.ret ?_
                refine thenK_r ?_
                exact ⟨.inl rfl, _, rfl, rfl⟩
               ·skip
                refine KT.step rfl rfl (K.move rfl) ?_
                refine KT.step rfl rfl (K.loadOA ([DI hi, DI hj, DI hb]) rfl y1 (by decide) Try.agg36 Try.size36 rfl) ?_
                refine KT.step rfl rfl (K.call2 rfl rfl plainTry_49 (Clock49 hd hl hr)) ?_
                refine KT.step rfl rfl (K.not rfl) ?_
                refine KT.step rfl rfl (K.pick rfl (fun h => by cases h) (fun _ => rfl)) ?_
                refine KT.step rfl rfl (K.move rfl) ?_
                refine KT.bcase (fun hb154 => ?_) (fun hb154 => ?_)
                ·skip
                 refine KT.step rfl rfl (K.call0 plainTry_21 (awake21)) ?_
                 refine KT.step rfl rfl (K.pick rfl (fun _ => rfl) (fun h => by cases h)) ?_
                 refine KT.step rfl rfl (K.assign rfl) ?_
                 refine KT.nil ?_
                 refine thenK_n ?_
                 refine KC.ret ?_
                 refine thenK_r ?_
                 exact ⟨.inl rfl, _, rfl, rfl⟩
                ·skip
                 rw [Bool.not_eq_false'] at hb148 hb154
                 rw [← hzZ] at hb148 hb154
                 exact absurd (anE_two hb154 hv) hb142
             ·skip
              replace hb138 := of_decide_eq_false hb138
              refine KT.skip rfl rfl ?_
              refine KT.skip rfl rfl ?_
              refine KT.step rfl rfl (K.pick rfl (fun h => by cases h) (fun _ => rfl)) ?_
              refine KT.step rfl rfl (K.move rfl) ?_
              refine KT.step rfl rfl (K.move rfl) ?_
              refine KT.step rfl rfl (K.loadOA ([DI gi, DI gj, DI gb]) rfl y0 (by decide) Try.agg36 Try.size36 rfl) ?_
              refine KT.step rfl rfl (K.call2 rfl rfl plainTry_49 (Clock49 hd hl hr)) ?_
              refine KT.step rfl rfl (K.not rfl) ?_
              refine KT.step rfl rfl (K.pick rfl (fun h => by cases h) (fun _ => rfl)) ?_
              refine KT.step rfl rfl (K.move rfl) ?_
              refine KT.bcase (fun hb148 => ?_) (fun hb148 => ?_)
              ·skip
               refine KT.skip rfl rfl ?_
               refine KT.skip rfl rfl ?_
               refine KT.skip rfl rfl ?_
               refine KT.skip rfl rfl ?_
               refine KT.step rfl rfl (K.pick rfl (fun _ => rfl) (fun h => by cases h)) ?_
               refine KT.step rfl rfl (K.move rfl) ?_
               refine KT.step rfl rfl (K.call0 plainTry_21 (awake21)) ?_
               refine KT.step rfl rfl (K.pick rfl (fun _ => rfl) (fun h => by cases h)) ?_
               refine KT.step rfl rfl (K.assign rfl) ?_
               refine KT.nil ?_
               refine thenK_n ?_
               refine KC.ret ?_
               refine thenK_r ?_
               exact ⟨.inl rfl, _, rfl, rfl⟩
              ·skip
               refine KT.step rfl rfl (K.move rfl) ?_
               refine KT.step rfl rfl (K.loadOA ([DI hi, DI hj, DI hb]) rfl y1 (by decide) Try.agg36 Try.size36 rfl) ?_
               refine KT.step rfl rfl (K.call2 rfl rfl plainTry_49 (Clock49 hd hl hr)) ?_
               refine KT.step rfl rfl (K.not rfl) ?_
               refine KT.step rfl rfl (K.pick rfl (fun h => by cases h) (fun _ => rfl)) ?_
               refine KT.step rfl rfl (K.move rfl) ?_
               refine KT.bcase (fun hb154 => ?_) (fun hb154 => ?_)
               ·skip
                refine KT.step rfl rfl (K.call0 plainTry_21 (awake21)) ?_
                refine KT.step rfl rfl (K.pick rfl (fun _ => rfl) (fun h => by cases h)) ?_
                refine KT.step rfl rfl (K.assign rfl) ?_
                refine KT.nil ?_
                refine thenK_n ?_
                refine KC.ret ?_
                refine thenK_r ?_
                exact ⟨.inl rfl, _, rfl, rfl⟩
               ·skip
                rw [Bool.not_eq_false'] at hb148 hb154
                rw [← hzZ] at hb148 hb154
                exact absurd (anE_two hb148 hv) hb138
            ·cases hc135
           ·skip
            replace hb122 := of_decide_eq_false hb122
            refine KT.step rfl rfl (K.move rfl) ?_
            refine KT.step rfl rfl (K.neq rfl rfl) ?_
            refine KT.step rfl rfl (K.pick rfl (fun h => by cases h) (fun _ => rfl)) ?_
            refine KT.step rfl rfl (K.move rfl) ?_
            refine KT.bcase (fun hb126 => ?_) (fun hb126 => ?_)
            ·skip
             replace hb126 := of_decide_eq_true hb126
             refine KT.skip rfl rfl ?_
             refine KT.skip rfl rfl ?_
             refine KT.skip rfl rfl ?_
             refine KT.step rfl rfl (K.pick rfl (fun _ => rfl) (fun h => by cases h)) ?_
             refine KT.step rfl rfl (K.move rfl) ?_
             refine KT.skip rfl rfl ?_
             refine KT.skip rfl rfl ?_
             refine KT.skip rfl rfl ?_
             refine KT.step rfl rfl (K.pick rfl (fun _ => rfl) (fun h => by cases h)) ?_
             refine KT.nil ?_
             refine thenK_n ?_
             refine KC.cond rfl (fun hc135 => ?_) (fun hc135 => ?_)
             ·skip
              refine KC.seq ?_
              refine KC.region ?_
              refine KT.step rfl rfl (K.move rfl) ?_
              refine KT.step rfl rfl (K.neq rfl rfl) ?_
              refine KT.step rfl rfl (K.move rfl) ?_
              refine KT.bcase (fun hb138 => ?_) (fun hb138 => ?_)
              ·skip
               replace hb138 := of_decide_eq_true hb138
               refine KT.step rfl rfl (K.move rfl) ?_
               refine KT.step rfl rfl (K.neq rfl rfl) ?_
               refine KT.step rfl rfl (K.pick rfl (fun _ => rfl) (fun h => by cases h)) ?_
               refine KT.step rfl rfl (K.move rfl) ?_
               refine KT.bcase (fun hb142 => ?_) (fun hb142 => ?_)
               ·skip
                replace hb142 := of_decide_eq_true hb142
                refine KT.skip rfl rfl ?_
                refine KT.skip rfl rfl ?_
                refine KT.skip rfl rfl ?_
                refine KT.skip rfl rfl ?_
                refine KT.step rfl rfl (K.pick rfl (fun _ => rfl) (fun h => by cases h)) ?_
                refine KT.step rfl rfl (K.move rfl) ?_
                refine KT.skip rfl rfl ?_
                refine KT.skip rfl rfl ?_
                refine KT.skip rfl rfl ?_
                refine KT.skip rfl rfl ?_
                refine KT.step rfl rfl (K.pick rfl (fun _ => rfl) (fun h => by cases h)) ?_
                refine KT.step rfl rfl (K.move rfl) ?_
                refine KT.step rfl rfl (K.call0 plainTry_21 (awake21)) ?_
                refine KT.step rfl rfl (K.pick rfl (fun _ => rfl) (fun h => by cases h)) ?_
                refine KT.step rfl rfl (K.assign rfl) ?_
                refine KT.nil ?_
                refine thenK_n ?_
                refine KC.ret ?_
                refine thenK_r ?_
                exact ⟨.inl rfl, _, rfl, rfl⟩
               ·skip
                replace hb142 := of_decide_eq_false hb142
                refine KT.step rfl rfl (K.move rfl) ?_
                refine KT.step rfl rfl (K.loadOA ([DI gi, DI gj, DI gb]) rfl y0 (by decide) Try.agg36 Try.size36 rfl) ?_
                refine KT.step rfl rfl (K.call2 rfl rfl plainTry_49 (Clock49 hd hl hr)) ?_
                refine KT.step rfl rfl (K.not rfl) ?_
                refine KT.step rfl rfl (K.pick rfl (fun h => by cases h) (fun _ => rfl)) ?_
                refine KT.step rfl rfl (K.move rfl) ?_
                refine KT.bcase (fun hb148 => ?_) (fun hb148 => ?_)
                ·skip
                 refine KT.skip rfl rfl ?_
                 refine KT.skip rfl rfl ?_
                 refine KT.skip rfl rfl ?_
                 refine KT.skip rfl rfl ?_
                 refine KT.step rfl rfl (K.pick rfl (fun _ => rfl) (fun h => by cases h)) ?_
                 refine KT.step rfl rfl (K.move rfl) ?_
                 refine KT.step rfl rfl (K.call0 plainTry_21 (awake21)) ?_
                 refine KT.step rfl rfl (K.pick rfl (fun _ => rfl) (fun h => by cases h)) ?_
                 refine KT.step rfl rfl (K.assign rfl) ?_
                 refine KT.nil ?_
                 refine thenK_n ?_
                 refine KC.ret ?_
                 refine thenK_r ?_
                 exact ⟨.inl rfl, _, rfl, rfl⟩
                ·skip
                 refine KT.step rfl rfl (K.move rfl) ?_
                 refine KT.step rfl rfl (K.loadOA ([DI hi, DI hj, DI hb]) rfl y1 (by decide) Try.agg36 Try.size36 rfl) ?_
                 refine KT.step rfl rfl (K.call2 rfl rfl plainTry_49 (Clock49 hd hl hr)) ?_
                 refine KT.step rfl rfl (K.not rfl) ?_
                 refine KT.step rfl rfl (K.pick rfl (fun h => by cases h) (fun _ => rfl)) ?_
                 refine KT.step rfl rfl (K.move rfl) ?_
                 refine KT.bcase (fun hb154 => ?_) (fun hb154 => ?_)
                 ·skip
                  refine KT.step rfl rfl (K.call0 plainTry_21 (awake21)) ?_
                  refine KT.step rfl rfl (K.pick rfl (fun _ => rfl) (fun h => by cases h)) ?_
                  refine KT.step rfl rfl (K.assign rfl) ?_
                  refine KT.nil ?_
                  refine thenK_n ?_
                  refine KC.ret ?_
                  refine thenK_r ?_
                  exact ⟨.inl rfl, _, rfl, rfl⟩
                 ·skip
                  rw [Bool.not_eq_false'] at hb148 hb154
                  rw [← hzZ] at hb148 hb154
                  exact absurd (anE_two hb154 hv) hb142
              ·skip
               replace hb138 := of_decide_eq_false hb138
               refine KT.skip rfl rfl ?_
               refine KT.skip rfl rfl ?_
               refine KT.step rfl rfl (K.pick rfl (fun h => by cases h) (fun _ => rfl)) ?_
               refine KT.step rfl rfl (K.move rfl) ?_
               refine KT.step rfl rfl (K.move rfl) ?_
               refine KT.step rfl rfl (K.loadOA ([DI gi, DI gj, DI gb]) rfl y0 (by decide) Try.agg36 Try.size36 rfl) ?_
               refine KT.step rfl rfl (K.call2 rfl rfl plainTry_49 (Clock49 hd hl hr)) ?_
               refine KT.step rfl rfl (K.not rfl) ?_
               refine KT.step rfl rfl (K.pick rfl (fun h => by cases h) (fun _ => rfl)) ?_
               refine KT.step rfl rfl (K.move rfl) ?_
               refine KT.bcase (fun hb148 => ?_) (fun hb148 => ?_)
               ·skip
                refine KT.skip rfl rfl ?_
                refine KT.skip rfl rfl ?_
                refine KT.skip rfl rfl ?_
                refine KT.skip rfl rfl ?_
                refine KT.step rfl rfl (K.pick rfl (fun _ => rfl) (fun h => by cases h)) ?_
                refine KT.step rfl rfl (K.move rfl) ?_
                refine KT.step rfl rfl (K.call0 plainTry_21 (awake21)) ?_
                refine KT.step rfl rfl (K.pick rfl (fun _ => rfl) (fun h => by cases h)) ?_
                refine KT.step rfl rfl (K.assign rfl) ?_
                refine KT.nil ?_
                refine thenK_n ?_
                refine KC.ret ?_
                refine thenK_r ?_
                exact ⟨.inl rfl, _, rfl, rfl⟩
               ·skip
                refine KT.step rfl rfl (K.move rfl) ?_
                refine KT.step rfl rfl (K.loadOA ([DI hi, DI hj, DI hb]) rfl y1 (by decide) Try.agg36 Try.size36 rfl) ?_
                refine KT.step rfl rfl (K.call2 rfl rfl plainTry_49 (Clock49 hd hl hr)) ?_
                refine KT.step rfl rfl (K.not rfl) ?_
                refine KT.step rfl rfl (K.pick rfl (fun h => by cases h) (fun _ => rfl)) ?_
                refine KT.step rfl rfl (K.move rfl) ?_
                refine KT.bcase (fun hb154 => ?_) (fun hb154 => ?_)
                ·skip
                 refine KT.step rfl rfl (K.call0 plainTry_21 (awake21)) ?_
                 refine KT.step rfl rfl (K.pick rfl (fun _ => rfl) (fun h => by cases h)) ?_
                 refine KT.step rfl rfl (K.assign rfl) ?_
                 refine KT.nil ?_
                 refine thenK_n ?_
                 refine KC.ret ?_
                 refine thenK_r ?_
                 exact ⟨.inl rfl, _, rfl, rfl⟩
                ·skip
                 rw [Bool.not_eq_false'] at hb148 hb154
                 rw [← hzZ] at hb148 hb154
                 exact absurd (anE_two hb148 hv) hb138
             ·cases hc135
            ·skip
             replace hb126 := of_decide_eq_false hb126
             refine KT.step rfl rfl (K.move rfl) ?_
             refine KT.step rfl rfl (K.call1 rfl plainTry_36 (Valid36 (z := anZ Z gi gj gb) (resD_mat (e := anE (Z) gi gj gb) (n := (Z).length) (a := tightM (Z).length (andM (Z) gi.toNat gj.toNat gb))) (resZ_len (kz.1) _).1 (resZ_len (kz.1) _).2)) ?_
             refine KT.step rfl rfl (K.not rfl) ?_
             refine KT.step rfl rfl (K.pick rfl (fun h => by cases h) (fun _ => rfl)) ?_
             refine KT.step rfl rfl (K.move rfl) ?_
             refine KT.bcase (fun hb131 => ?_) (fun hb131 => ?_)
             ·skip
              refine KT.skip rfl rfl ?_
              refine KT.skip rfl rfl ?_
              refine KT.skip rfl rfl ?_
              refine KT.step rfl rfl (K.pick rfl (fun _ => rfl) (fun h => by cases h)) ?_
              refine KT.nil ?_
              refine thenK_n ?_
              refine KC.cond rfl (fun hc135 => ?_) (fun hc135 => ?_)
              ·skip
               refine KC.seq ?_
               refine KC.region ?_
               refine KT.step rfl rfl (K.move rfl) ?_
               refine KT.step rfl rfl (K.neq rfl rfl) ?_
               refine KT.step rfl rfl (K.move rfl) ?_
               refine KT.bcase (fun hb138 => ?_) (fun hb138 => ?_)
               ·skip
                replace hb138 := of_decide_eq_true hb138
                refine KT.step rfl rfl (K.move rfl) ?_
                refine KT.step rfl rfl (K.neq rfl rfl) ?_
                refine KT.step rfl rfl (K.pick rfl (fun _ => rfl) (fun h => by cases h)) ?_
                refine KT.step rfl rfl (K.move rfl) ?_
                refine KT.bcase (fun hb142 => ?_) (fun hb142 => ?_)
                ·skip
                 replace hb142 := of_decide_eq_true hb142
                 refine KT.skip rfl rfl ?_
                 refine KT.skip rfl rfl ?_
                 refine KT.skip rfl rfl ?_
                 refine KT.skip rfl rfl ?_
                 refine KT.step rfl rfl (K.pick rfl (fun _ => rfl) (fun h => by cases h)) ?_
                 refine KT.step rfl rfl (K.move rfl) ?_
                 refine KT.skip rfl rfl ?_
                 refine KT.skip rfl rfl ?_
                 refine KT.skip rfl rfl ?_
                 refine KT.skip rfl rfl ?_
                 refine KT.step rfl rfl (K.pick rfl (fun _ => rfl) (fun h => by cases h)) ?_
                 refine KT.step rfl rfl (K.move rfl) ?_
                 refine KT.step rfl rfl (K.call0 plainTry_21 (awake21)) ?_
                 refine KT.step rfl rfl (K.pick rfl (fun _ => rfl) (fun h => by cases h)) ?_
                 refine KT.step rfl rfl (K.assign rfl) ?_
                 refine KT.nil ?_
                 refine thenK_n ?_
                 refine KC.ret ?_
                 refine thenK_r ?_
                 exact ⟨.inl rfl, _, rfl, rfl⟩
                ·skip
                 replace hb142 := of_decide_eq_false hb142
                 refine KT.step rfl rfl (K.move rfl) ?_
                 refine KT.step rfl rfl (K.loadOA ([DI gi, DI gj, DI gb]) rfl y0 (by decide) Try.agg36 Try.size36 rfl) ?_
                 refine KT.step rfl rfl (K.call2 rfl rfl plainTry_49 (Clock49 hd hl hr)) ?_
                 refine KT.step rfl rfl (K.not rfl) ?_
                 refine KT.step rfl rfl (K.pick rfl (fun h => by cases h) (fun _ => rfl)) ?_
                 refine KT.step rfl rfl (K.move rfl) ?_
                 refine KT.bcase (fun hb148 => ?_) (fun hb148 => ?_)
                 ·skip
                  refine KT.skip rfl rfl ?_
                  refine KT.skip rfl rfl ?_
                  refine KT.skip rfl rfl ?_
                  refine KT.skip rfl rfl ?_
                  refine KT.step rfl rfl (K.pick rfl (fun _ => rfl) (fun h => by cases h)) ?_
                  refine KT.step rfl rfl (K.move rfl) ?_
                  refine KT.step rfl rfl (K.call0 plainTry_21 (awake21)) ?_
                  refine KT.step rfl rfl (K.pick rfl (fun _ => rfl) (fun h => by cases h)) ?_
                  refine KT.step rfl rfl (K.assign rfl) ?_
                  refine KT.nil ?_
                  refine thenK_n ?_
                  refine KC.ret ?_
                  refine thenK_r ?_
                  exact ⟨.inl rfl, _, rfl, rfl⟩
                 ·skip
                  refine KT.step rfl rfl (K.move rfl) ?_
                  refine KT.step rfl rfl (K.loadOA ([DI hi, DI hj, DI hb]) rfl y1 (by decide) Try.agg36 Try.size36 rfl) ?_
                  refine KT.step rfl rfl (K.call2 rfl rfl plainTry_49 (Clock49 hd hl hr)) ?_
                  refine KT.step rfl rfl (K.not rfl) ?_
                  refine KT.step rfl rfl (K.pick rfl (fun h => by cases h) (fun _ => rfl)) ?_
                  refine KT.step rfl rfl (K.move rfl) ?_
                  refine KT.bcase (fun hb154 => ?_) (fun hb154 => ?_)
                  ·skip
                   refine KT.step rfl rfl (K.call0 plainTry_21 (awake21)) ?_
                   refine KT.step rfl rfl (K.pick rfl (fun _ => rfl) (fun h => by cases h)) ?_
                   refine KT.step rfl rfl (K.assign rfl) ?_
                   refine KT.nil ?_
                   refine thenK_n ?_
                   refine KC.ret ?_
                   refine thenK_r ?_
                   exact ⟨.inl rfl, _, rfl, rfl⟩
                  ·skip
                   rw [Bool.not_eq_false'] at hb148 hb154
                   rw [← hzZ] at hb148 hb154
                   exact absurd (anE_two hb154 hv) hb142
               ·skip
                replace hb138 := of_decide_eq_false hb138
                refine KT.skip rfl rfl ?_
                refine KT.skip rfl rfl ?_
                refine KT.step rfl rfl (K.pick rfl (fun h => by cases h) (fun _ => rfl)) ?_
                refine KT.step rfl rfl (K.move rfl) ?_
                refine KT.step rfl rfl (K.move rfl) ?_
                refine KT.step rfl rfl (K.loadOA ([DI gi, DI gj, DI gb]) rfl y0 (by decide) Try.agg36 Try.size36 rfl) ?_
                refine KT.step rfl rfl (K.call2 rfl rfl plainTry_49 (Clock49 hd hl hr)) ?_
                refine KT.step rfl rfl (K.not rfl) ?_
                refine KT.step rfl rfl (K.pick rfl (fun h => by cases h) (fun _ => rfl)) ?_
                refine KT.step rfl rfl (K.move rfl) ?_
                refine KT.bcase (fun hb148 => ?_) (fun hb148 => ?_)
                ·skip
                 refine KT.skip rfl rfl ?_
                 refine KT.skip rfl rfl ?_
                 refine KT.skip rfl rfl ?_
                 refine KT.skip rfl rfl ?_
                 refine KT.step rfl rfl (K.pick rfl (fun _ => rfl) (fun h => by cases h)) ?_
                 refine KT.step rfl rfl (K.move rfl) ?_
                 refine KT.step rfl rfl (K.call0 plainTry_21 (awake21)) ?_
                 refine KT.step rfl rfl (K.pick rfl (fun _ => rfl) (fun h => by cases h)) ?_
                 refine KT.step rfl rfl (K.assign rfl) ?_
                 refine KT.nil ?_
                 refine thenK_n ?_
                 refine KC.ret ?_
                 refine thenK_r ?_
                 exact ⟨.inl rfl, _, rfl, rfl⟩
                ·skip
                 refine KT.step rfl rfl (K.move rfl) ?_
                 refine KT.step rfl rfl (K.loadOA ([DI hi, DI hj, DI hb]) rfl y1 (by decide) Try.agg36 Try.size36 rfl) ?_
                 refine KT.step rfl rfl (K.call2 rfl rfl plainTry_49 (Clock49 hd hl hr)) ?_
                 refine KT.step rfl rfl (K.not rfl) ?_
                 refine KT.step rfl rfl (K.pick rfl (fun h => by cases h) (fun _ => rfl)) ?_
                 refine KT.step rfl rfl (K.move rfl) ?_
                 refine KT.bcase (fun hb154 => ?_) (fun hb154 => ?_)
                 ·skip
                  refine KT.step rfl rfl (K.call0 plainTry_21 (awake21)) ?_
                  refine KT.step rfl rfl (K.pick rfl (fun _ => rfl) (fun h => by cases h)) ?_
                  refine KT.step rfl rfl (K.assign rfl) ?_
                  refine KT.nil ?_
                  refine thenK_n ?_
                  refine KC.ret ?_
                  refine thenK_r ?_
                  exact ⟨.inl rfl, _, rfl, rfl⟩
                 ·skip
                  rw [Bool.not_eq_false'] at hb148 hb154
                  rw [← hzZ] at hb148 hb154
                  exact absurd (anE_two hb148 hv) hb138
              ·cases hc135
             ·skip
              refine KT.step rfl rfl (K.move rfl) ?_
              refine KT.step rfl rfl (K.call1 rfl plainTry_36 (Valid36 (z := anZ Z hi hj hb) (resD_mat (e := anE (Z) hi hj hb) (n := (Z).length) (a := tightM (Z).length (andM (Z) hi.toNat hj.toNat hb))) (resZ_len (kz.1) _).1 (resZ_len (kz.1) _).2)) ?_
              refine KT.step rfl rfl (K.not rfl) ?_
              refine KT.step rfl rfl (K.pick rfl (fun h => by cases h) (fun _ => rfl)) ?_
              refine KT.nil ?_
              refine thenK_n ?_
              refine KC.cond rfl (fun hc135 => ?_) (fun hc135 => ?_)
              ·skip
               refine KC.seq ?_
               refine KC.region ?_
               refine KT.step rfl rfl (K.move rfl) ?_
               refine KT.step rfl rfl (K.neq rfl rfl) ?_
               refine KT.step rfl rfl (K.move rfl) ?_
               refine KT.bcase (fun hb138 => ?_) (fun hb138 => ?_)
               ·skip
                replace hb138 := of_decide_eq_true hb138
                refine KT.step rfl rfl (K.move rfl) ?_
                refine KT.step rfl rfl (K.neq rfl rfl) ?_
                refine KT.step rfl rfl (K.pick rfl (fun _ => rfl) (fun h => by cases h)) ?_
                refine KT.step rfl rfl (K.move rfl) ?_
                refine KT.bcase (fun hb142 => ?_) (fun hb142 => ?_)
                ·skip
                 replace hb142 := of_decide_eq_true hb142
                 refine KT.skip rfl rfl ?_
                 refine KT.skip rfl rfl ?_
                 refine KT.skip rfl rfl ?_
                 refine KT.skip rfl rfl ?_
                 refine KT.step rfl rfl (K.pick rfl (fun _ => rfl) (fun h => by cases h)) ?_
                 refine KT.step rfl rfl (K.move rfl) ?_
                 refine KT.skip rfl rfl ?_
                 refine KT.skip rfl rfl ?_
                 refine KT.skip rfl rfl ?_
                 refine KT.skip rfl rfl ?_
                 refine KT.step rfl rfl (K.pick rfl (fun _ => rfl) (fun h => by cases h)) ?_
                 refine KT.step rfl rfl (K.move rfl) ?_
                 refine KT.step rfl rfl (K.call0 plainTry_21 (awake21)) ?_
                 refine KT.step rfl rfl (K.pick rfl (fun _ => rfl) (fun h => by cases h)) ?_
                 refine KT.step rfl rfl (K.assign rfl) ?_
                 refine KT.nil ?_
                 refine thenK_n ?_
                 refine KC.ret ?_
                 refine thenK_r ?_
                 exact ⟨.inl rfl, _, rfl, rfl⟩
                ·skip
                 replace hb142 := of_decide_eq_false hb142
                 refine KT.step rfl rfl (K.move rfl) ?_
                 refine KT.step rfl rfl (K.loadOA ([DI gi, DI gj, DI gb]) rfl y0 (by decide) Try.agg36 Try.size36 rfl) ?_
                 refine KT.step rfl rfl (K.call2 rfl rfl plainTry_49 (Clock49 hd hl hr)) ?_
                 refine KT.step rfl rfl (K.not rfl) ?_
                 refine KT.step rfl rfl (K.pick rfl (fun h => by cases h) (fun _ => rfl)) ?_
                 refine KT.step rfl rfl (K.move rfl) ?_
                 refine KT.bcase (fun hb148 => ?_) (fun hb148 => ?_)
                 ·skip
                  refine KT.skip rfl rfl ?_
                  refine KT.skip rfl rfl ?_
                  refine KT.skip rfl rfl ?_
                  refine KT.skip rfl rfl ?_
                  refine KT.step rfl rfl (K.pick rfl (fun _ => rfl) (fun h => by cases h)) ?_
                  refine KT.step rfl rfl (K.move rfl) ?_
                  refine KT.step rfl rfl (K.call0 plainTry_21 (awake21)) ?_
                  refine KT.step rfl rfl (K.pick rfl (fun _ => rfl) (fun h => by cases h)) ?_
                  refine KT.step rfl rfl (K.assign rfl) ?_
                  refine KT.nil ?_
                  refine thenK_n ?_
                  refine KC.ret ?_
                  refine thenK_r ?_
                  exact ⟨.inl rfl, _, rfl, rfl⟩
                 ·skip
                  refine KT.step rfl rfl (K.move rfl) ?_
                  refine KT.step rfl rfl (K.loadOA ([DI hi, DI hj, DI hb]) rfl y1 (by decide) Try.agg36 Try.size36 rfl) ?_
                  refine KT.step rfl rfl (K.call2 rfl rfl plainTry_49 (Clock49 hd hl hr)) ?_
                  refine KT.step rfl rfl (K.not rfl) ?_
                  refine KT.step rfl rfl (K.pick rfl (fun h => by cases h) (fun _ => rfl)) ?_
                  refine KT.step rfl rfl (K.move rfl) ?_
                  refine KT.bcase (fun hb154 => ?_) (fun hb154 => ?_)
                  ·skip
                   refine KT.step rfl rfl (K.call0 plainTry_21 (awake21)) ?_
                   refine KT.step rfl rfl (K.pick rfl (fun _ => rfl) (fun h => by cases h)) ?_
                   refine KT.step rfl rfl (K.assign rfl) ?_
                   refine KT.nil ?_
                   refine thenK_n ?_
                   refine KC.ret ?_
                   refine thenK_r ?_
                   exact ⟨.inl rfl, _, rfl, rfl⟩
                  ·skip
                   rw [Bool.not_eq_false'] at hb148 hb154
                   rw [← hzZ] at hb148 hb154
                   exact absurd (anE_two hb154 hv) hb142
               ·skip
                replace hb138 := of_decide_eq_false hb138
                refine KT.skip rfl rfl ?_
                refine KT.skip rfl rfl ?_
                refine KT.step rfl rfl (K.pick rfl (fun h => by cases h) (fun _ => rfl)) ?_
                refine KT.step rfl rfl (K.move rfl) ?_
                refine KT.step rfl rfl (K.move rfl) ?_
                refine KT.step rfl rfl (K.loadOA ([DI gi, DI gj, DI gb]) rfl y0 (by decide) Try.agg36 Try.size36 rfl) ?_
                refine KT.step rfl rfl (K.call2 rfl rfl plainTry_49 (Clock49 hd hl hr)) ?_
                refine KT.step rfl rfl (K.not rfl) ?_
                refine KT.step rfl rfl (K.pick rfl (fun h => by cases h) (fun _ => rfl)) ?_
                refine KT.step rfl rfl (K.move rfl) ?_
                refine KT.bcase (fun hb148 => ?_) (fun hb148 => ?_)
                ·skip
                 refine KT.skip rfl rfl ?_
                 refine KT.skip rfl rfl ?_
                 refine KT.skip rfl rfl ?_
                 refine KT.skip rfl rfl ?_
                 refine KT.step rfl rfl (K.pick rfl (fun _ => rfl) (fun h => by cases h)) ?_
                 refine KT.step rfl rfl (K.move rfl) ?_
                 refine KT.step rfl rfl (K.call0 plainTry_21 (awake21)) ?_
                 refine KT.step rfl rfl (K.pick rfl (fun _ => rfl) (fun h => by cases h)) ?_
                 refine KT.step rfl rfl (K.assign rfl) ?_
                 refine KT.nil ?_
                 refine thenK_n ?_
                 refine KC.ret ?_
                 refine thenK_r ?_
                 exact ⟨.inl rfl, _, rfl, rfl⟩
                ·skip
                 refine KT.step rfl rfl (K.move rfl) ?_
                 refine KT.step rfl rfl (K.loadOA ([DI hi, DI hj, DI hb]) rfl y1 (by decide) Try.agg36 Try.size36 rfl) ?_
                 refine KT.step rfl rfl (K.call2 rfl rfl plainTry_49 (Clock49 hd hl hr)) ?_
                 refine KT.step rfl rfl (K.not rfl) ?_
                 refine KT.step rfl rfl (K.pick rfl (fun h => by cases h) (fun _ => rfl)) ?_
                 refine KT.step rfl rfl (K.move rfl) ?_
                 refine KT.bcase (fun hb154 => ?_) (fun hb154 => ?_)
                 ·skip
                  refine KT.step rfl rfl (K.call0 plainTry_21 (awake21)) ?_
                  refine KT.step rfl rfl (K.pick rfl (fun _ => rfl) (fun h => by cases h)) ?_
                  refine KT.step rfl rfl (K.assign rfl) ?_
                  refine KT.nil ?_
                  refine thenK_n ?_
                  refine KC.ret ?_
                  refine thenK_r ?_
                  exact ⟨.inl rfl, _, rfl, rfl⟩
                 ·skip
                  rw [Bool.not_eq_false'] at hb148 hb154
                  rw [← hzZ] at hb148 hb154
                  exact absurd (anE_two hb148 hv) hb138
              ·skip
               have a1 := Classical.not_not.1 hb122
               have a2 := Classical.not_not.1 hb126
               rw [Bool.not_eq_false'] at hb131 hc135
               have hx := an_an a1 a2 hb131 hc135
               have hy := an_twice a1 hb131
               refine KC.skip ?_
               refine thenK_n ?_
               refine KC.seq ?_
               refine KC.region ?_
               refine KT.step rfl rfl (K.move rfl) ?_
               refine KT.step rfl rfl (K.loadOA ([DI hi, DI hj, DI hb]) rfl x3 (by decide) Try.agg38 Try.size38 rfl) ?_
               refine KT.step rfl rfl (K.call2 rfl rfl plainTry_23 (And23 (z := anZ Z gi gj gb) (resD_mat (e := anE (Z) gi gj gb) (n := (Z).length) (a := tightM (Z).length (andM (Z) gi.toNat gj.toNat gb))) (resZ_len (kz.1) _).1 (resZ_len (kz.1) _).2)) ?_
               refine KT.step rfl rfl (K.move rfl) ?_
               refine KT.step rfl rfl (K.extract rfl rfl) ?_
               refine KT.step rfl rfl (K.extract rfl rfl) ?_
               refine KT.step rfl rfl (K.assign rfl) ?_
               refine KT.step rfl rfl (K.assign rfl) ?_
               refine KT.nil ?_
               refine thenK_n ?_
               refine KC.seq ?_
               refine KC.region ?_
               refine KT.step rfl rfl (K.move rfl) ?_
               refine KT.step rfl rfl (K.loadOA ([DI gi, DI gj, DI gb]) rfl x2 (by decide) Try.agg38 Try.size38 rfl) ?_
               refine KT.step rfl rfl (K.call2 rfl rfl plainTry_23 (And23 (z := anZ Z hi hj hb) (resD_mat (e := anE (Z) hi hj hb) (n := (Z).length) (a := tightM (Z).length (andM (Z) hi.toNat hj.toNat hb))) (resZ_len (kz.1) _).1 (resZ_len (kz.1) _).2)) ?_
               refine KT.step rfl rfl (K.move rfl) ?_
               refine KT.step rfl rfl (K.extract rfl rfl) ?_
               refine KT.step rfl rfl (K.extract rfl rfl) ?_
               refine KT.step rfl rfl (K.assign rfl) ?_
               refine KT.step rfl rfl (K.assign rfl) ?_
               refine KT.nil ?_
               refine thenK_n ?_
               refine KC.seq ?_
               refine KC.region ?_
               refine KT.step rfl rfl (K.move rfl) ?_
               refine KT.step rfl rfl (K.loadOA ([DI gi, DI gj, DI gb]) rfl x2 (by decide) Try.agg38 Try.size38 rfl) ?_
               refine KT.step rfl rfl (K.call2 rfl rfl plainTry_23 (And23 (z := anZ Z gi gj gb) (resD_mat (e := anE (Z) gi gj gb) (n := (Z).length) (a := tightM (Z).length (andM (Z) gi.toNat gj.toNat gb))) (resZ_len (kz.1) _).1 (resZ_len (kz.1) _).2)) ?_
               refine KT.step rfl rfl (K.move rfl) ?_
               refine KT.step rfl rfl (K.extract rfl rfl) ?_
               refine KT.step rfl rfl (K.extract rfl rfl) ?_
               refine KT.step rfl rfl (K.assign rfl) ?_
               refine KT.step rfl rfl (K.assign rfl) ?_
               refine KT.nil ?_
               refine thenK_n ?_
               refine KC.seq ?_
               refine KC.region ?_
               refine KT.step rfl rfl (K.move rfl) ?_
               refine KT.step rfl rfl (K.move rfl) ?_
               refine KT.step rfl rfl (K.eql rfl rfl) ?_
               refine KT.step rfl rfl (K.move rfl) ?_
               refine KT.bcase (fun hb178 => ?_) (fun hb178 => ?_)
               ·skip
                replace hb178 := of_decide_eq_true hb178
                refine KT.step rfl rfl (K.move rfl) ?_
                refine KT.step rfl rfl (K.move rfl) ?_
                refine KT.step rfl rfl (K.call2 rfl rfl plainTry_20 (same20 (resD_mat (e := anE (anZ Z gi gj gb) hi hj hb) (n := (anZ Z gi gj gb).length) (a := tightM (anZ Z gi gj gb).length (andM (anZ Z gi gj gb) hi.toNat hj.toNat hb))) (resD_mat (e := anE (anZ Z hi hj hb) gi gj gb) (n := (anZ Z hi hj hb).length) (a := tightM (anZ Z hi hj hb).length (andM (anZ Z hi hj hb) gi.toNat gj.toNat gb))) (resZ_len (anZ_le kz.1) _).1 (resZ_len (anZ_le kz.1) _).2)) ?_
                refine KT.step rfl rfl (K.pick rfl (fun _ => rfl) (fun h => by cases h)) ?_
                refine KT.step rfl rfl (K.move rfl) ?_
                refine KT.bcase (fun hb183 => ?_) (fun hb183 => ?_)
                ·skip
                 refine KT.step rfl rfl (K.move rfl) ?_
                 refine KT.step rfl rfl (K.eql rfl rfl) ?_
                 refine KT.step rfl rfl (K.pick rfl (fun _ => rfl) (fun h => by cases h)) ?_
                 refine KT.step rfl rfl (K.move rfl) ?_
                 refine KT.bcase (fun hb187 => ?_) (fun hb187 => ?_)
                 ·skip
                  replace hb187 := of_decide_eq_true hb187
                  refine KT.step rfl rfl (K.move rfl) ?_
                  refine KT.step rfl rfl (K.move rfl) ?_
                  refine KT.step rfl rfl (K.call2 rfl rfl plainTry_20 (same20 (resD_mat (e := anE (anZ Z gi gj gb) gi gj gb) (n := (anZ Z gi gj gb).length) (a := tightM (anZ Z gi gj gb).length (andM (anZ Z gi gj gb) gi.toNat gj.toNat gb))) (resD_mat (e := anE (Z) gi gj gb) (n := (Z).length) (a := tightM (Z).length (andM (Z) gi.toNat gj.toNat gb))) (resZ_len (anZ_le kz.1) _).1 (resZ_len (anZ_le kz.1) _).2)) ?_
                  refine KT.step rfl rfl (K.pick rfl (fun _ => rfl) (fun h => by cases h)) ?_
                  refine KT.step rfl rfl (K.move rfl) ?_
                  refine KT.bcase (fun hb192 => ?_) (fun hb192 => ?_)
                  ·skip
                   refine KT.step rfl rfl (K.call0 plainTry_21 (awake21)) ?_
                   refine KT.step rfl rfl (K.pick rfl (fun _ => rfl) (fun h => by cases h)) ?_
                   refine KT.step rfl rfl (K.assign rfl) ?_
                   refine KT.nil ?_
                   refine thenK_n ?_
                   refine KC.ret ?_
                   exact ⟨.inl rfl, _, rfl, rfl⟩
                  ·skip
                   exact absurd hy.2 (of_decide_eq_false hb192)
                 ·skip
                  exact absurd hy.1 (of_decide_eq_false hb187)
                ·skip
                 exact absurd hx.2 (of_decide_eq_false hb183)
               ·skip
                exact absurd hx.1 (of_decide_eq_false hb178)
       ·skip
        replace hb78 := of_decide_eq_false hb78
        refine KT.skip rfl rfl ?_
        refine KT.skip rfl rfl ?_
        refine KT.skip rfl rfl ?_
        refine KT.skip rfl rfl ?_
        refine KT.step rfl rfl (K.pick rfl (fun h => by cases h) (fun _ => rfl)) ?_
        refine KT.step rfl rfl (K.move rfl) ?_
        refine KT.step rfl rfl (K.move rfl) ?_
        refine KT.step rfl rfl (K.neq rfl rfl) ?_
        refine KT.step rfl rfl (K.move rfl) ?_
        refine KT.bcase (fun hb87 => ?_) (fun hb87 => ?_)
        ·skip
         replace hb87 := of_decide_eq_true hb87
         refine KT.step rfl rfl (K.move rfl) ?_
         refine KT.step rfl rfl (K.call1 rfl plainTry_36 (Valid36 (z := rsZ Z s) (resD_mat (e := rsE Z s) (n := Z.length) (a := resM Z.length s.toNat (tightM Z.length (zf Z)))) (resZ_len (kz.1) _).1 (resZ_len (kz.1) _).2)) ?_
         refine KT.step rfl rfl (K.pick rfl (fun _ => rfl) (fun h => by cases h)) ?_
         refine KT.step rfl rfl (K.pick rfl (fun h => by cases h) (fun _ => rfl)) ?_
         refine KT.nil ?_
         refine thenK_n ?_
         refine KC.cond rfl (fun hc91 => ?_) (fun hc91 => ?_)
         ·skip
          exact Bool.noConfusion ((hs.2 hb78).symm.trans hc91)
         ·skip
          refine KC.skip ?_
          refine thenK_n ?_
          refine KC.seq ?_
          refine KC.drawV Try.mixed (i1 := 14) (j1 := 16) (i2 := 15) (j2 := 17) (t1 := 15) (t2 := 16) (s1 := 98) (s2 := 105) (c1 := [.d (DI gi), .d (DI gj), .d (DI gb)]) (c2 := [.d (DI hi), .d (DI hj), .d (DI hb)]) (C := fun k => if k = 16 then [.d (DI gi), .d (DI gj), .d (DI gb)] else [.d (DI hi), .d (DI hj), .d (DI hb)]) ⟨38, _, _, _, rfl, rfl, rfl, rfl, Try.zero38, rfl, rfl, rfl, rfl, rfl, Try.size38, rfl⟩ ⟨38, _, _, _, rfl, rfl, rfl, rfl, Try.zero38, rfl, rfl, rfl, rfl, rfl, Try.size38, rfl⟩ rfl rfl (by decide) (by kernel_rfl) ?_
          refine KTV.read rfl rfl (K.fieldAddrO rfl Try.fld36_0 Try.size3) (by decide) ?_
          refine KTV.read rfl rfl (K.loadO rfl rfl (by simp) rfl Try.agg3) (by decide) ?_
          refine KTV.read rfl rfl (K.fieldAddrO rfl Try.fld36_1 Try.size3) (by decide) ?_
          refine KTV.read rfl rfl (K.loadO rfl rfl (by simp) rfl Try.agg3) (by decide) ?_
          refine KTV.read rfl rfl (K.fieldAddrO rfl Try.fld36_2 Try.size3) (by decide) ?_
          refine KTV.read rfl rfl (K.loadO rfl rfl (by simp) rfl Try.agg3) (by decide) ?_
          refine KTV.read rfl rfl (K.buildL rfl (build38 _ _ _)) (by decide) ?_
          refine KTV.read rfl rfl (K.fieldAddrO rfl Try.fld36_0 Try.size3) (by decide) ?_
          refine KTV.read rfl rfl (K.loadO rfl rfl (by simp) rfl Try.agg3) (by decide) ?_
          refine KTV.read rfl rfl (K.fieldAddrO rfl Try.fld36_1 Try.size3) (by decide) ?_
          refine KTV.read rfl rfl (K.loadO rfl rfl (by simp) rfl Try.agg3) (by decide) ?_
          refine KTV.read rfl rfl (K.fieldAddrO rfl Try.fld36_2 Try.size3) (by decide) ?_
          refine KTV.read rfl rfl (K.loadO rfl rfl (by simp) rfl Try.agg3) (by decide) ?_
          refine KTV.read rfl rfl (K.buildL rfl (build38 _ _ _)) (by decide) ?_
          refine KTV.make rfl ?_
          refine KTV.make rfl ?_
          refine KTV.put rfl rfl rfl rfl ?_
          refine KTV.put rfl rfl rfl rfl ?_
          refine KTV.nil ?_
          refine ⟨by kernel_rfl, fun σ3 p q hp hq hpq x2 x3 v3 l3 => ?_⟩
          have y0 := v3 0 (by simp)
          have y1 := v3 1 (by simp)
          refine thenK_n ?_
          refine KC.seq ?_
          refine KC.draw Try.mixed ?_
          refine KT.step rfl rfl (K.move rfl) ?_
          refine KT.step rfl rfl (K.call1 rfl plainTry_16 (few16 hd hl hr)) ?_
          refine KT.step rfl rfl (K.loadOA ([DI gi, DI gj, DI gb]) rfl x2 (by decide) Try.agg38 Try.size38 rfl) ?_
          refine KT.step rfl rfl (K.call2 rfl rfl plainTry_23 (And23 hmz fz.1 fz.2)) ?_
          refine KT.step rfl rfl (K.move rfl) ?_
          refine KT.step rfl rfl (K.extract rfl rfl) ?_
          refine KT.step rfl rfl (K.extract rfl rfl) ?_
          refine KT.step rfl rfl (K.assign rfl) ?_
          refine KT.step rfl rfl (K.assign rfl) ?_
          refine KT.nil ?_
          refine ⟨by kernel_rfl, ?_⟩
          refine thenK_n ?_
          refine KC.seq ?_
          refine KC.draw Try.mixed ?_
          refine KT.step rfl rfl (K.move rfl) ?_
          refine KT.step rfl rfl (K.call1 rfl plainTry_16 (few16 hd hl hr)) ?_
          refine KT.step rfl rfl (K.loadOA ([DI hi, DI hj, DI hb]) rfl x3 (by decide) Try.agg38 Try.size38 rfl) ?_
          refine KT.step rfl rfl (K.call2 rfl rfl plainTry_23 (And23 hmz fz.1 fz.2)) ?_
          refine KT.step rfl rfl (K.move rfl) ?_
          refine KT.step rfl rfl (K.extract rfl rfl) ?_
          refine KT.step rfl rfl (K.extract rfl rfl) ?_
          refine KT.step rfl rfl (K.assign rfl) ?_
          refine KT.step rfl rfl (K.assign rfl) ?_
          refine KT.nil ?_
          refine ⟨by kernel_rfl, ?_⟩
          refine thenK_n ?_
          refine KC.seq ?_
          refine KC.seq ?_
          refine KC.region ?_
          refine KT.step rfl rfl (K.move rfl) ?_
          refine KT.step rfl rfl (K.neq rfl rfl) ?_
          refine KT.step rfl rfl (K.move rfl) ?_
          refine KT.bcase (fun hb122 => ?_) (fun hb122 => ?_)
          ·skip
           replace hb122 := of_decide_eq_true hb122
           refine KT.skip rfl rfl ?_
           refine KT.skip rfl rfl ?_
           refine KT.step rfl rfl (K.pick rfl (fun _ => rfl) (fun h => by cases h)) ?_
           refine KT.step rfl rfl (K.move rfl) ?_
           refine KT.skip rfl rfl ?_
           refine KT.skip rfl rfl ?_
           refine KT.skip rfl rfl ?_
           refine KT.step rfl rfl (K.pick rfl (fun _ => rfl) (fun h => by cases h)) ?_
           refine KT.step rfl rfl (K.move rfl) ?_
           refine KT.skip rfl rfl ?_
           refine KT.skip rfl rfl ?_
           refine KT.skip rfl rfl ?_
           refine KT.step rfl rfl (K.pick rfl (fun _ => rfl) (fun h => by cases h)) ?_
           refine KT.nil ?_
           refine thenK_n ?_
           refine KC.cond rfl (fun hc135 => ?_) (fun hc135 => ?_)
           ·skip
            refine KC.seq ?_
            refine KC.region ?_
            refine KT.step rfl rfl (K.move rfl) ?_
            refine KT.step rfl rfl (K.neq rfl rfl) ?_
            refine KT.step rfl rfl (K.move rfl) ?_
            refine KT.bcase (fun hb138 => ?_) (fun hb138 => ?_)
            ·skip
             replace hb138 := of_decide_eq_true hb138
             refine KT.step rfl rfl (K.move rfl) ?_
             refine KT.step rfl rfl (K.neq rfl rfl) ?_
             refine KT.step rfl rfl (K.pick rfl (fun _ => rfl) (fun h => by cases h)) ?_
             refine KT.step rfl rfl (K.move rfl) ?_
             refine KT.bcase (fun hb142 => ?_) (fun hb142 => ?_)
             ·skip
              replace hb142 := of_decide_eq_true hb142
              refine KT.skip rfl rfl ?_
              refine KT.skip rfl rfl ?_
              refine KT.skip rfl rfl ?_
              refine KT.skip rfl rfl ?_
              refine KT.step rfl rfl (K.pick rfl (fun _ => rfl) (fun h => by cases h)) ?_
              refine KT.step rfl rfl (K.move rfl) ?_
              refine KT.skip rfl rfl ?_
              refine KT.skip rfl rfl ?_
              refine KT.skip rfl rfl ?_
              refine KT.skip rfl rfl ?_
              refine KT.step rfl rfl (K.pick rfl (fun _ => rfl) (fun h => by cases h)) ?_
              refine KT.step rfl rfl (K.move rfl) ?_
              refine KT.step rfl rfl (K.call0 plainTry_21 (awake21)) ?_
              refine KT.step rfl rfl (K.pick rfl (fun _ => rfl) (fun h => by cases h)) ?_
              refine KT.step rfl rfl (K.assign rfl) ?_
              refine KT.nil ?_
              refine thenK_n ?_
              refine KC.ret ?_
              refine thenK_r ?_
              exact ⟨.inl rfl, _, rfl, rfl⟩
             ·skip
              replace hb142 := of_decide_eq_false hb142
              refine KT.step rfl rfl (K.move rfl) ?_
              refine KT.step rfl rfl (K.loadOA ([DI gi, DI gj, DI gb]) rfl y0 (by decide) Try.agg36 Try.size36 rfl) ?_
              refine KT.step rfl rfl (K.call2 rfl rfl plainTry_49 (Clock49 hd hl hr)) ?_
              refine KT.step rfl rfl (K.not rfl) ?_
              refine KT.step rfl rfl (K.pick rfl (fun h => by cases h) (fun _ => rfl)) ?_
              refine KT.step rfl rfl (K.move rfl) ?_
              refine KT.bcase (fun hb148 => ?_) (fun hb148 => ?_)
              ·skip
               refine KT.skip rfl rfl ?_
               refine KT.skip rfl rfl ?_
               refine KT.skip rfl rfl ?_
               refine KT.skip rfl rfl ?_
               refine KT.step rfl rfl (K.pick rfl (fun _ => rfl) (fun h => by cases h)) ?_
               refine KT.step rfl rfl (K.move rfl) ?_
               refine KT.step rfl rfl (K.call0 plainTry_21 (awake21)) ?_
               refine KT.step rfl rfl (K.pick rfl (fun _ => rfl) (fun h => by cases h)) ?_
               refine KT.step rfl rfl (K.assign rfl) ?_
               refine KT.nil ?_
               refine thenK_n ?_
               refine KC.ret ?_
               refine thenK_r ?_
               exact ⟨.inl rfl, _, rfl, rfl⟩
              ·skip
               refine KT.step rfl rfl (K.move rfl) ?_
               refine KT.step rfl rfl (K.loadOA ([DI hi, DI hj, DI hb]) rfl y1 (by decide) Try.agg36 Try.size36 rfl) ?_
               refine KT.step rfl rfl (K.call2 rfl rfl plainTry_49 (Clock49 hd hl hr)) ?_
               refine KT.step rfl rfl (K.not rfl) ?_
               refine KT.step rfl rfl (K.pick rfl (fun h => by cases h) (fun _ => rfl)) ?_
               refine KT.step rfl rfl (K.move rfl) ?_
               refine KT.bcase (fun hb154 => ?_) (fun hb154 => ?_)
               ·skip
                refine KT.step rfl rfl (K.call0 plainTry_21 (awake21)) ?_
                refine KT.step rfl rfl (K.pick rfl (fun _ => rfl) (fun h => by cases h)) ?_
                refine KT.step rfl rfl (K.assign rfl) ?_
                refine KT.nil ?_
                refine thenK_n ?_
                refine KC.ret ?_
                refine thenK_r ?_
                exact ⟨.inl rfl, _, rfl, rfl⟩
               ·skip
                rw [Bool.not_eq_false'] at hb148 hb154
                rw [← hzZ] at hb148 hb154
                exact absurd (anE_two hb154 hv) hb142
            ·skip
             replace hb138 := of_decide_eq_false hb138
             refine KT.skip rfl rfl ?_
             refine KT.skip rfl rfl ?_
             refine KT.step rfl rfl (K.pick rfl (fun h => by cases h) (fun _ => rfl)) ?_
             refine KT.step rfl rfl (K.move rfl) ?_
             refine KT.step rfl rfl (K.move rfl) ?_
             refine KT.step rfl rfl (K.loadOA ([DI gi, DI gj, DI gb]) rfl y0 (by decide) Try.agg36 Try.size36 rfl) ?_
             refine KT.step rfl rfl (K.call2 rfl rfl plainTry_49 (Clock49 hd hl hr)) ?_
             refine KT.step rfl rfl (K.not rfl) ?_
             refine KT.step rfl rfl (K.pick rfl (fun h => by cases h) (fun _ => rfl)) ?_
             refine KT.step rfl rfl (K.move rfl) ?_
             refine KT.bcase (fun hb148 => ?_) (fun hb148 => ?_)
             ·skip
              refine KT.skip rfl rfl ?_
              refine KT.skip rfl rfl ?_
              refine KT.skip rfl rfl ?_
              refine KT.skip rfl rfl ?_
              refine KT.step rfl rfl (K.pick rfl (fun _ => rfl) (fun h => by cases h)) ?_
              refine KT.step rfl rfl (K.move rfl) ?_
              refine KT.step rfl rfl (K.call0 plainTry_21 (awake21)) ?_
              refine KT.step rfl rfl (K.pick rfl (fun _ => rfl) (fun h => by cases h)) ?_
              refine KT.step rfl rfl (K.assign rfl) ?_
              refine KT.nil ?_
              refine thenK_n ?_
              refine KC.ret ?_
              refine thenK_r ?_
              exact ⟨.inl rfl, _, rfl, rfl⟩
             ·skip
              refine KT.step rfl rfl (K.move rfl) ?_
              refine KT.step rfl rfl (K.loadOA ([DI hi, DI hj, DI hb]) rfl y1 (by decide) Try.agg36 Try.size36 rfl) ?_
              refine KT.step rfl rfl (K.call2 rfl rfl plainTry_49 (Clock49 hd hl hr)) ?_
              refine KT.step rfl rfl (K.not rfl) ?_
              refine KT.step rfl rfl (K.pick rfl (fun h => by cases h) (fun _ => rfl)) ?_
              refine KT.step rfl rfl (K.move rfl) ?_
              refine KT.bcase (fun hb154 => ?_) (fun hb154 => ?_)
              ·skip
               refine KT.step rfl rfl (K.call0 plainTry_21 (awake21)) ?_
               refine KT.step rfl rfl (K.pick rfl (fun _ => rfl) (fun h => by cases h)) ?_
               refine KT.step rfl rfl (K.assign rfl) ?_
               refine KT.nil ?_
               refine thenK_n ?_
               refine KC.ret ?_
               refine thenK_r ?_
               exact ⟨.inl rfl, _, rfl, rfl⟩
              ·skip
               rw [Bool.not_eq_false'] at hb148 hb154
               rw [← hzZ] at hb148 hb154
               exact absurd (anE_two hb148 hv) hb138
           ·cases hc135
          ·skip
           replace hb122 := of_decide_eq_false hb122
           refine KT.step rfl rfl (K.move rfl) ?_
           refine KT.step rfl rfl (K.neq rfl rfl) ?_
           refine KT.step rfl rfl (K.pick rfl (fun h => by cases h) (fun _ => rfl)) ?_
           refine KT.step rfl rfl (K.move rfl) ?_
           refine KT.bcase (fun hb126 => ?_) (fun hb126 => ?_)
           ·skip
            replace hb126 := of_decide_eq_true hb126
            refine KT.skip rfl rfl ?_
            refine KT.skip rfl rfl ?_
            refine KT.skip rfl rfl ?_
            refine KT.step rfl rfl (K.pick rfl (fun _ => rfl) (fun h => by cases h)) ?_
            refine KT.step rfl rfl (K.move rfl) ?_
            refine KT.skip rfl rfl ?_
            refine KT.skip rfl rfl ?_
            refine KT.skip rfl rfl ?_
            refine KT.step rfl rfl (K.pick rfl (fun _ => rfl) (fun h => by cases h)) ?_
            refine KT.nil ?_
            refine thenK_n ?_
            refine KC.cond rfl (fun hc135 => ?_) (fun hc135 => ?_)
            ·skip
             refine KC.seq ?_
             refine KC.region ?_
             refine KT.step rfl rfl (K.move rfl) ?_
             refine KT.step rfl rfl (K.neq rfl rfl) ?_
             refine KT.step rfl rfl (K.move rfl) ?_
             refine KT.bcase (fun hb138 => ?_) (fun hb138 => ?_)
             ·skip
              replace hb138 := of_decide_eq_true hb138
              refine KT.step rfl rfl (K.move rfl) ?_
              refine KT.step rfl rfl (K.neq rfl rfl) ?_
              refine KT.step rfl rfl (K.pick rfl (fun _ => rfl) (fun h => by cases h)) ?_
              refine KT.step rfl rfl (K.move rfl) ?_
              refine KT.bcase (fun hb142 => ?_) (fun hb142 => ?_)
              ·skip
               replace hb142 := of_decide_eq_true hb142
               refine KT.skip rfl rfl ?_
               refine KT.skip rfl rfl ?_
               refine KT.skip rfl rfl ?_
               refine KT.skip rfl rfl ?_
               refine KT.step rfl rfl (K.pick rfl (fun _ => rfl) (fun h => by cases h)) ?_
               refine KT.step rfl rfl (K.move rfl) ?_
               refine KT.skip rfl rfl ?_
               refine KT.skip rfl rfl ?_
               refine KT.skip rfl rfl ?_
               refine KT.skip rfl rfl ?_
               refine KT.step rfl rfl (K.pick rfl (fun _ => rfl) (fun h => by cases h)) ?_
               refine KT.step rfl rfl (K.move rfl) ?_
               refine KT.step rfl rfl (K.call0 plainTry_21 (awake21)) ?_
               refine KT.step rfl rfl (K.pick rfl (fun _ => rfl) (fun h => by cases h)) ?_
               refine KT.step rfl rfl (K.assign rfl) ?_
               refine KT.nil ?_
               refine thenK_n ?_
               refine KC.ret ?_
               refine thenK_r ?_
               exact ⟨.inl rfl, _, rfl, rfl⟩
              ·skip
               replace hb142 := of_decide_eq_false hb142
               refine KT.step rfl rfl (K.move rfl) ?_
               refine KT.step rfl rfl (K.loadOA ([DI gi, DI gj, DI gb]) rfl y0 (by decide) Try.agg36 Try.size36 rfl) ?_
               refine KT.step rfl rfl (K.call2 rfl rfl plainTry_49 (Clock49 hd hl hr)) ?_
               refine KT.step rfl rfl (K.not rfl) ?_
               refine KT.step rfl rfl (K.pick rfl (fun h => by cases h) (fun _ => rfl)) ?_
               refine KT.step rfl rfl (K.move rfl) ?_
               refine KT.bcase (fun hb148 => ?_) (fun hb148 => ?_)
               ·skip
                refine KT.skip rfl rfl ?_
                refine KT.skip rfl rfl ?_
                refine KT.skip rfl rfl ?_
                refine KT.skip rfl rfl ?_
                refine KT.step rfl rfl (K.pick rfl (fun _ => rfl) (fun h => by cases h)) ?_
                refine KT.step rfl rfl (K.move rfl) ?_
                refine KT.step rfl rfl (K.call0 plainTry_21 (awake21)) ?_
                refine KT.step rfl rfl (K.pick rfl (fun _ => rfl) (fun h => by cases h)) ?_
                refine KT.step rfl rfl (K.assign rfl) ?_
                refine KT.nil ?_
                refine thenK_n ?_
                refine KC.ret ?_
                refine thenK_r ?_
                exact ⟨.inl rfl, _, rfl, rfl⟩
               ·skip
                refine KT.step rfl rfl (K.move rfl) ?_
                refine KT.step rfl rfl (K.loadOA ([DI hi, DI hj, DI hb]) rfl y1 (by decide) Try.agg36 Try.size36 rfl) ?_
                refine KT.step rfl rfl (K.call2 rfl rfl plainTry_49 (Clock49 hd hl hr)) ?_
                refine KT.step rfl rfl (K.not rfl) ?_
                refine KT.step rfl rfl (K.pick rfl (fun h => by cases h) (fun _ => rfl)) ?_
                refine KT.step rfl rfl (K.move rfl) ?_
                refine KT.bcase (fun hb154 => ?_) (fun hb154 => ?_)
                ·skip
                 refine KT.step rfl rfl (K.call0 plainTry_21 (awake21)) ?_
                 refine KT.step rfl rfl (K.pick rfl (fun _ => rfl) (fun h => by cases h)) ?_
                 refine KT.step rfl rfl (K.assign rfl) ?_
                 refine KT.nil ?_
                 refine thenK_n ?_
                 refine KC.ret ?_
                 refine thenK_r ?_
                 exact ⟨.inl rfl, _, rfl, rfl⟩
                ·skip
                 rw [Bool.not_eq_false'] at hb148 hb154
                 rw [← hzZ] at hb148 hb154
                 exact absurd (anE_two hb154 hv) hb142
             ·skip
              replace hb138 := of_decide_eq_false hb138
              refine KT.skip rfl rfl ?_
              refine KT.skip rfl rfl ?_
              refine KT.step rfl rfl (K.pick rfl (fun h => by cases h) (fun _ => rfl)) ?_
              refine KT.step rfl rfl (K.move rfl) ?_
              refine KT.step rfl rfl (K.move rfl) ?_
              refine KT.step rfl rfl (K.loadOA ([DI gi, DI gj, DI gb]) rfl y0 (by decide) Try.agg36 Try.size36 rfl) ?_
              refine KT.step rfl rfl (K.call2 rfl rfl plainTry_49 (Clock49 hd hl hr)) ?_
              refine KT.step rfl rfl (K.not rfl) ?_
              refine KT.step rfl rfl (K.pick rfl (fun h => by cases h) (fun _ => rfl)) ?_
              refine KT.step rfl rfl (K.move rfl) ?_
              refine KT.bcase (fun hb148 => ?_) (fun hb148 => ?_)
              ·skip
               refine KT.skip rfl rfl ?_
               refine KT.skip rfl rfl ?_
               refine KT.skip rfl rfl ?_
               refine KT.skip rfl rfl ?_
               refine KT.step rfl rfl (K.pick rfl (fun _ => rfl) (fun h => by cases h)) ?_
               refine KT.step rfl rfl (K.move rfl) ?_
               refine KT.step rfl rfl (K.call0 plainTry_21 (awake21)) ?_
               refine KT.step rfl rfl (K.pick rfl (fun _ => rfl) (fun h => by cases h)) ?_
               refine KT.step rfl rfl (K.assign rfl) ?_
               refine KT.nil ?_
               refine thenK_n ?_
               refine KC.ret ?_
               refine thenK_r ?_
               exact ⟨.inl rfl, _, rfl, rfl⟩
              ·skip
               refine KT.step rfl rfl (K.move rfl) ?_
               refine KT.step rfl rfl (K.loadOA ([DI hi, DI hj, DI hb]) rfl y1 (by decide) Try.agg36 Try.size36 rfl) ?_
               refine KT.step rfl rfl (K.call2 rfl rfl plainTry_49 (Clock49 hd hl hr)) ?_
               refine KT.step rfl rfl (K.not rfl) ?_
               refine KT.step rfl rfl (K.pick rfl (fun h => by cases h) (fun _ => rfl)) ?_
               refine KT.step rfl rfl (K.move rfl) ?_
               refine KT.bcase (fun hb154 => ?_) (fun hb154 => ?_)
               ·skip
                refine KT.step rfl rfl (K.call0 plainTry_21 (awake21)) ?_
                refine KT.step rfl rfl (K.pick rfl (fun _ => rfl) (fun h => by cases h)) ?_
                refine KT.step rfl rfl (K.assign rfl) ?_
                refine KT.nil ?_
                refine thenK_n ?_
                refine KC.ret ?_
                refine thenK_r ?_
                exact ⟨.inl rfl, _, rfl, rfl⟩
               ·skip
                rw [Bool.not_eq_false'] at hb148 hb154
                rw [← hzZ] at hb148 hb154
                exact absurd (anE_two hb148 hv) hb138
            ·cases hc135
           ·skip
            replace hb126 := of_decide_eq_false hb126
            refine KT.step rfl rfl (K.move rfl) ?_
            refine KT.step rfl rfl (K.call1 rfl plainTry_36 (Valid36 (z := anZ Z gi gj gb) (resD_mat (e := anE (Z) gi gj gb) (n := (Z).length) (a := tightM (Z).length (andM (Z) gi.toNat gj.toNat gb))) (resZ_len (kz.1) _).1 (resZ_len (kz.1) _).2)) ?_
            refine KT.step rfl rfl (K.not rfl) ?_
            refine KT.step rfl rfl (K.pick rfl (fun h => by cases h) (fun _ => rfl)) ?_
            refine KT.step rfl rfl (K.move rfl) ?_
            refine KT.bcase (fun hb131 => ?_) (fun hb131 => ?_)
            ·skip
             refine KT.skip rfl rfl ?_
             refine KT.skip rfl rfl ?_
             refine KT.skip rfl rfl ?_
             refine KT.step rfl rfl (K.pick rfl (fun _ => rfl) (fun h => by cases h)) ?_
             refine KT.nil ?_
             refine thenK_n ?_
             refine KC.cond rfl (fun hc135 => ?_) (fun hc135 => ?_)
             ·skip
              refine KC.seq ?_
              refine KC.region ?_
              refine KT.step rfl rfl (K.move rfl) ?_
              refine KT.step rfl rfl (K.neq rfl rfl) ?_
              refine KT.step rfl rfl (K.move rfl) ?_
              refine KT.bcase (fun hb138 => ?_) (fun hb138 => ?_)
              ·skip
               replace hb138 := of_decide_eq_true hb138
               refine KT.step rfl rfl (K.move rfl) ?_
               refine KT.step rfl rfl (K.neq rfl rfl) ?_
               refine KT.step rfl rfl (K.pick rfl (fun _ => rfl) (fun h => by cases h)) ?_
               refine KT.step rfl rfl (K.move rfl) ?_
               refine KT.bcase (fun hb142 => ?_) (fun hb142 => ?_)
               ·skip
                replace hb142 := of_decide_eq_true hb142
                refine KT.skip rfl rfl ?_
                refine KT.skip rfl rfl ?_
                refine KT.skip rfl rfl ?_
                refine KT.skip rfl rfl ?_
                refine KT.step rfl rfl (K.pick rfl (fun _ => rfl) (fun h => by cases h)) ?_
                refine KT.step rfl rfl (K.move rfl) ?_
                refine KT.skip rfl rfl ?_
                refine KT.skip rfl rfl ?_
                refine KT.skip rfl rfl ?_
                refine KT.skip rfl rfl ?_
                refine KT.step rfl rfl (K.pick rfl (fun _ => rfl) (fun h => by cases h)) ?_
                refine KT.step rfl rfl (K.move rfl) ?_
                refine KT.step rfl rfl (K.call0 plainTry_21 (awake21)) ?_
                refine KT.step rfl rfl (K.pick rfl (fun _ => rfl) (fun h => by cases h)) ?_
                refine KT.step rfl rfl (K.assign rfl) ?_
                refine KT.nil ?_
                refine thenK_n ?_
                refine KC.ret ?_
                refine thenK_r ?_
                exact ⟨.inl rfl, _, rfl, rfl⟩
               ·skip
                replace hb142 := of_decide_eq_false hb142
                refine KT.step rfl rfl (K.move rfl) ?_
                refine KT.step rfl rfl (K.loadOA ([DI gi, DI gj, DI gb]) rfl y0 (by decide) Try.agg36 Try.size36 rfl) ?_
                refine KT.step rfl rfl (K.call2 rfl rfl plainTry_49 (Clock49 hd hl hr)) ?_
                refine KT.step rfl rfl (K.not rfl) ?_
                refine KT.step rfl rfl (K.pick rfl (fun h => by cases h) (fun _ => rfl)) ?_
                refine KT.step rfl rfl (K.move rfl) ?_
                refine KT.bcase (fun hb148 => ?_) (fun hb148 => ?_)
                ·skip
                 refine KT.skip rfl rfl ?_
                 refine KT.skip rfl rfl ?_
                 refine KT.skip rfl rfl ?_
                 refine KT.skip rfl rfl ?_
                 refine KT.step rfl rfl (K.pick rfl (fun _ => rfl) (fun h => by cases h)) ?_
                 refine KT.step rfl rfl (K.move rfl) ?_
                 refine KT.step rfl rfl (K.call0 plainTry_21 (awake21)) ?_
                 refine KT.step rfl rfl (K.pick rfl (fun _ => rfl) (fun h => by cases h)) ?_
                 refine KT.step rfl rfl (K.assign rfl) ?_
                 refine KT.nil ?_
                 refine thenK_n ?_
                 refine KC.ret ?_
                 refine thenK_r ?_
                 exact ⟨.inl rfl, _, rfl, rfl⟩
                ·skip
                 refine KT.step rfl rfl (K.move rfl) ?_
                 refine KT.step rfl rfl (K.loadOA ([DI hi, DI hj, DI hb]) rfl y1 (by decide) Try.agg36 Try.size36 rfl) ?_
                 refine KT.step rfl rfl (K.call2 rfl rfl plainTry_49 (Clock49 hd hl hr)) ?_
                 refine KT.step rfl rfl (K.not rfl) ?_
                 refine KT.step rfl rfl (K.pick rfl (fun h => by cases h) (fun _ => rfl)) ?_
                 refine KT.step rfl rfl (K.move rfl) ?_
                 refine KT.bcase (fun hb154 => ?_) (fun hb154 => ?_)
                 ·skip
                  refine KT.step rfl rfl (K.call0 plainTry_21 (awake21)) ?_
                  refine KT.step rfl rfl (K.pick rfl (fun _ => rfl) (fun h => by cases h)) ?_
                  refine KT.step rfl rfl (K.assign rfl) ?_
                  refine KT.nil ?_
                  refine thenK_n ?_
                  refine KC.ret ?_
                  refine thenK_r ?_
                  exact ⟨.inl rfl, _, rfl, rfl⟩
                 ·skip
                  rw [Bool.not_eq_false'] at hb148 hb154
                  rw [← hzZ] at hb148 hb154
                  exact absurd (anE_two hb154 hv) hb142
              ·skip
               replace hb138 := of_decide_eq_false hb138
               refine KT.skip rfl rfl ?_
               refine KT.skip rfl rfl ?_
               refine KT.step rfl rfl (K.pick rfl (fun h => by cases h) (fun _ => rfl)) ?_
               refine KT.step rfl rfl (K.move rfl) ?_
               refine KT.step rfl rfl (K.move rfl) ?_
               refine KT.step rfl rfl (K.loadOA ([DI gi, DI gj, DI gb]) rfl y0 (by decide) Try.agg36 Try.size36 rfl) ?_
               refine KT.step rfl rfl (K.call2 rfl rfl plainTry_49 (Clock49 hd hl hr)) ?_
               refine KT.step rfl rfl (K.not rfl) ?_
               refine KT.step rfl rfl (K.pick rfl (fun h => by cases h) (fun _ => rfl)) ?_
               refine KT.step rfl rfl (K.move rfl) ?_
               refine KT.bcase (fun hb148 => ?_) (fun hb148 => ?_)
               ·skip
                refine KT.skip rfl rfl ?_
                refine KT.skip rfl rfl ?_
                refine KT.skip rfl rfl ?_
                refine KT.skip rfl rfl ?_
                refine KT.step rfl rfl (K.pick rfl (fun _ => rfl) (fun h => by cases h)) ?_
                refine KT.step rfl rfl (K.move rfl) ?_
                refine KT.step rfl rfl (K.call0 plainTry_21 (awake21)) ?_
                refine KT.step rfl rfl (K.pick rfl (fun _ => rfl) (fun h => by cases h)) ?_
                refine KT.step rfl rfl (K.assign rfl) ?_
                refine KT.nil ?_
                refine thenK_n ?_
                refine KC.ret ?_
                refine thenK_r ?_
                exact ⟨.inl rfl, _, rfl, rfl⟩
               ·skip
                refine KT.step rfl rfl (K.move rfl) ?_
                refine KT.step rfl rfl (K.loadOA ([DI hi, DI hj, DI hb]) rfl y1 (by decide) Try.agg36 Try.size36 rfl) ?_
                refine KT.step rfl rfl (K.call2 rfl rfl plainTry_49 (Clock49 hd hl hr)) ?_
                refine KT.step rfl rfl (K.not rfl) ?_
                refine KT.step rfl rfl (K.pick rfl (fun h => by cases h) (fun _ => rfl)) ?_
                refine KT.step rfl rfl (K.move rfl) ?_
                refine KT.bcase (fun hb154 => ?_) (fun hb154 => ?_)
                ·skip
                 refine KT.step rfl rfl (K.call0 plainTry_21 (awake21)) ?_
                 refine KT.step rfl rfl (K.pick rfl (fun _ => rfl) (fun h => by cases h)) ?_
                 refine KT.step rfl rfl (K.assign rfl) ?_
                 refine KT.nil ?_
                 refine thenK_n ?_
                 refine KC.ret ?_
                 refine thenK_r ?_
                 exact ⟨.inl rfl, _, rfl, rfl⟩
                ·skip
                 rw [Bool.not_eq_false'] at hb148 hb154
                 rw [← hzZ] at hb148 hb154
                 exact absurd (anE_two hb148 hv) hb138
             ·cases hc135
            ·skip
             refine KT.step rfl rfl (K.move rfl) ?_
             refine KT.step rfl rfl (K.call1 rfl plainTry_36 (Valid36 (z := anZ Z hi hj hb) (resD_mat (e := anE (Z) hi hj hb) (n := (Z).length) (a := tightM (Z).length (andM (Z) hi.toNat hj.toNat hb))) (resZ_len (kz.1) _).1 (resZ_len (kz.1) _).2)) ?_
             refine KT.step rfl rfl (K.not rfl) ?_
             refine KT.step rfl rfl (K.pick rfl (fun h => by cases h) (fun _ => rfl)) ?_
             refine KT.nil ?_
             refine thenK_n ?_
             refine KC.cond rfl (fun hc135 => ?_) (fun hc135 => ?_)
             ·skip
              refine KC.seq ?_
              refine KC.region ?_
              refine KT.step rfl rfl (K.move rfl) ?_
              refine KT.step rfl rfl (K.neq rfl rfl) ?_
              refine KT.step rfl rfl (K.move rfl) ?_
              refine KT.bcase (fun hb138 => ?_) (fun hb138 => ?_)
              ·skip
               replace hb138 := of_decide_eq_true hb138
               refine KT.step rfl rfl (K.move rfl) ?_
               refine KT.step rfl rfl (K.neq rfl rfl) ?_
               refine KT.step rfl rfl (K.pick rfl (fun _ => rfl) (fun h => by cases h)) ?_
               refine KT.step rfl rfl (K.move rfl) ?_
               refine KT.bcase (fun hb142 => ?_) (fun hb142 => ?_)
               ·skip
                replace hb142 := of_decide_eq_true hb142
                refine KT.skip rfl rfl ?_
                refine KT.skip rfl rfl ?_
                refine KT.skip rfl rfl ?_
                refine KT.skip rfl rfl ?_
                refine KT.step rfl rfl (K.pick rfl (fun _ => rfl) (fun h => by cases h)) ?_
                refine KT.step rfl rfl (K.move rfl) ?_
                refine KT.skip rfl rfl ?_
                refine KT.skip rfl rfl ?_
                refine KT.skip rfl rfl ?_
                refine KT.skip rfl rfl ?_
                refine KT.step rfl rfl (K.pick rfl (fun _ => rfl) (fun h => by cases h)) ?_
                refine KT.step rfl rfl (K.move rfl) ?_
                refine KT.step rfl rfl (K.call0 plainTry_21 (awake21)) ?_
                refine KT.step rfl rfl (K.pick rfl (fun _ => rfl) (fun h => by cases h)) ?_
                refine KT.step rfl rfl (K.assign rfl) ?_
                refine KT.nil ?_
                refine thenK_n ?_
                refine KC.ret ?_
                refine thenK_r ?_
                exact ⟨.inl rfl, _, rfl, rfl⟩
               ·skip
                replace hb142 := of_decide_eq_false hb142
                refine KT.step rfl rfl (K.move rfl) ?_
                refine KT.step rfl rfl (K.loadOA ([DI gi, DI gj, DI gb]) rfl y0 (by decide) Try.agg36 Try.size36 rfl) ?_
                refine KT.step rfl rfl (K.call2 rfl rfl plainTry_49 (Clock49 hd hl hr)) ?_
                refine KT.step rfl rfl (K.not rfl) ?_
                refine KT.step rfl rfl (K.pick rfl (fun h => by cases h) (fun _ => rfl)) ?_
                refine KT.step rfl rfl (K.move rfl) ?_
                refine KT.bcase (fun hb148 => ?_) (fun hb148 => ?_)
                ·skip
                 refine KT.skip rfl rfl ?_
                 refine KT.skip rfl rfl ?_
                 refine KT.skip rfl rfl ?_
                 refine KT.skip rfl rfl ?_
                 refine KT.step rfl rfl (K.pick rfl (fun _ => rfl) (fun h => by cases h)) ?_
                 refine KT.step rfl rfl (K.move rfl) ?_
                 refine KT.step rfl rfl (K.call0 plainTry_21 (awake21)) ?_
                 refine KT.step rfl rfl (K.pick rfl (fun _ => rfl) (fun h => by cases h)) ?_
                 refine KT.step rfl rfl (K.assign rfl) ?_
                 refine KT.nil ?_
                 refine thenK_n ?_
                 refine KC.ret ?_
                 refine thenK_r ?_
                 exact ⟨.inl rfl, _, rfl, rfl⟩
                ·skip
                 refine KT.step rfl rfl (K.move rfl) ?_
                 refine KT.step rfl rfl (K.loadOA ([DI hi, DI hj, DI hb]) rfl y1 (by decide) Try.agg36 Try.size36 rfl) ?_
                 refine KT.step rfl rfl (K.call2 rfl rfl plainTry_49 (Clock49 hd hl hr)) ?_
                 refine KT.step rfl rfl (K.not rfl) ?_
                 refine KT.step rfl rfl (K.pick rfl (fun h => by cases h) (fun _ => rfl)) ?_
                 refine KT.step rfl rfl (K.move rfl) ?_
                 refine KT.bcase (fun hb154 => ?_) (fun hb154 => ?_)
                 ·skip
                  refine KT.step rfl rfl (K.call0 plainTry_21 (awake21)) ?_
                  refine KT.step rfl rfl (K.pick rfl (fun _ => rfl) (fun h => by cases h)) ?_
                  refine KT.step rfl rfl (K.assign rfl) ?_
                  refine KT.nil ?_
                  refine thenK_n ?_
                  refine KC.ret ?_
                  refine thenK_r ?_
                  exact ⟨.inl rfl, _, rfl, rfl⟩
                 ·skip
                  rw [Bool.not_eq_false'] at hb148 hb154
                  rw [← hzZ] at hb148 hb154
                  exact absurd (anE_two hb154 hv) hb142
              ·skip
               replace hb138 := of_decide_eq_false hb138
               refine KT.skip rfl rfl ?_
               refine KT.skip rfl rfl ?_
               refine KT.step rfl rfl (K.pick rfl (fun h => by cases h) (fun _ => rfl)) ?_
               refine KT.step rfl rfl (K.move rfl) ?_
               refine KT.step rfl rfl (K.move rfl) ?_
               refine KT.step rfl rfl (K.loadOA ([DI gi, DI gj, DI gb]) rfl y0 (by decide) Try.agg36 Try.size36 rfl) ?_
               refine KT.step rfl rfl (K.call2 rfl rfl plainTry_49 (Clock49 hd hl hr)) ?_
               refine KT.step rfl rfl (K.not rfl) ?_
               refine KT.step rfl rfl (K.pick rfl (fun h => by cases h) (fun _ => rfl)) ?_
               refine KT.step rfl rfl (K.move rfl) ?_
               refine KT.bcase (fun hb148 => ?_) (fun hb148 => ?_)
               ·skip
                refine KT.skip rfl rfl ?_
                refine KT.skip rfl rfl ?_
                refine KT.skip rfl rfl ?_
                refine KT.skip rfl rfl ?_
                refine KT.step rfl rfl (K.pick rfl (fun _ => rfl) (fun h => by cases h)) ?_
                refine KT.step rfl rfl (K.move rfl) ?_
                refine KT.step rfl rfl (K.call0 plainTry_21 (awake21)) ?_
                refine KT.step rfl rfl (K.pick rfl (fun _ => rfl) (fun h => by cases h)) ?_
                refine KT.step rfl rfl (K.assign rfl) ?_
                refine KT.nil ?_
                refine thenK_n ?_
                refine KC.ret ?_
                refine thenK_r ?_
                exact ⟨.inl rfl, _, rfl, rfl⟩
               ·skip
                refine KT.step rfl rfl (K.move rfl) ?_
                refine KT.step rfl rfl (K.loadOA ([DI hi, DI hj, DI hb]) rfl y1 (by decide) Try.agg36 Try.size36 rfl) ?_
                refine KT.step rfl rfl (K.call2 rfl rfl plainTry_49 (Clock49 hd hl hr)) ?_
                refine KT.step rfl rfl (K.not rfl) ?_
                refine KT.step rfl rfl (K.pick rfl (fun h => by cases h) (fun _ => rfl)) ?_
                refine KT.step rfl rfl (K.move rfl) ?_
                refine KT.bcase (fun hb154 => ?_) (fun hb154 => ?_)
                ·skip
                 refine KT.step rfl rfl (K.call0 plainTry_21 (awake21)) ?_
                 refine KT.step rfl rfl (K.pick rfl (fun _ => rfl) (fun h => by cases h)) ?_
                 refine KT.step rfl rfl (K.assign rfl) ?_
                 refine KT.nil ?_
                 refine thenK_n ?_
                 refine KC.ret ?_
                 refine thenK_r ?_
                 exact ⟨.inl rfl, _, rfl, rfl⟩
                ·skip
                 rw [Bool.not_eq_false'] at hb148 hb154
                 rw [← hzZ] at hb148 hb154
                 exact absurd (anE_two hb148 hv) hb138
             ·skip
              have a1 := Classical.not_not.1 hb122
              have a2 := Classical.not_not.1 hb126
              rw [Bool.not_eq_false'] at hb131 hc135
              have hx := an_an a1 a2 hb131 hc135
              have hy := an_twice a1 hb131
              refine KC.skip ?_
              refine thenK_n ?_
              refine KC.seq ?_
              refine KC.region ?_
              refine KT.step rfl rfl (K.move rfl) ?_
              refine KT.step rfl rfl (K.loadOA ([DI hi, DI hj, DI hb]) rfl x3 (by decide) Try.agg38 Try.size38 rfl) ?_
              refine KT.step rfl rfl (K.call2 rfl rfl plainTry_23 (And23 (z := anZ Z gi gj gb) (resD_mat (e := anE (Z) gi gj gb) (n := (Z).length) (a := tightM (Z).length (andM (Z) gi.toNat gj.toNat gb))) (resZ_len (kz.1) _).1 (resZ_len (kz.1) _).2)) ?_
              refine KT.step rfl rfl (K.move rfl) ?_
              refine KT.step rfl rfl (K.extract rfl rfl) ?_
              refine KT.step rfl rfl (K.extract rfl rfl) ?_
              refine KT.step rfl rfl (K.assign rfl) ?_
              refine KT.step rfl rfl (K.assign rfl) ?_
              refine KT.nil ?_
              refine thenK_n ?_
              refine KC.seq ?_
              refine KC.region ?_
              refine KT.step rfl rfl (K.move rfl) ?_
              refine KT.step rfl rfl (K.loadOA ([DI gi, DI gj, DI gb]) rfl x2 (by decide) Try.agg38 Try.size38 rfl) ?_
              refine KT.step rfl rfl (K.call2 rfl rfl plainTry_23 (And23 (z := anZ Z hi hj hb) (resD_mat (e := anE (Z) hi hj hb) (n := (Z).length) (a := tightM (Z).length (andM (Z) hi.toNat hj.toNat hb))) (resZ_len (kz.1) _).1 (resZ_len (kz.1) _).2)) ?_
              refine KT.step rfl rfl (K.move rfl) ?_
              refine KT.step rfl rfl (K.extract rfl rfl) ?_
              refine KT.step rfl rfl (K.extract rfl rfl) ?_
              refine KT.step rfl rfl (K.assign rfl) ?_
              refine KT.step rfl rfl (K.assign rfl) ?_
              refine KT.nil ?_
              refine thenK_n ?_
              refine KC.seq ?_
              refine KC.region ?_
              refine KT.step rfl rfl (K.move rfl) ?_
              refine KT.step rfl rfl (K.loadOA ([DI gi, DI gj, DI gb]) rfl x2 (by decide) Try.agg38 Try.size38 rfl) ?_
              refine KT.step rfl rfl (K.call2 rfl rfl plainTry_23 (And23 (z := anZ Z gi gj gb) (resD_mat (e := anE (Z) gi gj gb) (n := (Z).length) (a := tightM (Z).length (andM (Z) gi.toNat gj.toNat gb))) (resZ_len (kz.1) _).1 (resZ_len (kz.1) _).2)) ?_
              refine KT.step rfl rfl (K.move rfl) ?_
              refine KT.step rfl rfl (K.extract rfl rfl) ?_
              refine KT.step rfl rfl (K.extract rfl rfl) ?_
              refine KT.step rfl rfl (K.assign rfl) ?_
              refine KT.step rfl rfl (K.assign rfl) ?_
              refine KT.nil ?_
              refine thenK_n ?_
              refine KC.seq ?_
              refine KC.region ?_
              refine KT.step rfl rfl (K.move rfl) ?_
              refine KT.step rfl rfl (K.move rfl) ?_
              refine KT.step rfl rfl (K.eql rfl rfl) ?_
              refine KT.step rfl rfl (K.move rfl) ?_
              refine KT.bcase (fun hb178 => ?_) (fun hb178 => ?_)
              ·skip
               replace hb178 := of_decide_eq_true hb178
               refine KT.step rfl rfl (K.move rfl) ?_
               refine KT.step rfl rfl (K.move rfl) ?_
               refine KT.step rfl rfl (K.call2 rfl rfl plainTry_20 (same20 (resD_mat (e := anE (anZ Z gi gj gb) hi hj hb) (n := (anZ Z gi gj gb).length) (a := tightM (anZ Z gi gj gb).length (andM (anZ Z gi gj gb) hi.toNat hj.toNat hb))) (resD_mat (e := anE (anZ Z hi hj hb) gi gj gb) (n := (anZ Z hi hj hb).length) (a := tightM (anZ Z hi hj hb).length (andM (anZ Z hi hj hb) gi.toNat gj.toNat gb))) (resZ_len (anZ_le kz.1) _).1 (resZ_len (anZ_le kz.1) _).2)) ?_
               refine KT.step rfl rfl (K.pick rfl (fun _ => rfl) (fun h => by cases h)) ?_
               refine KT.step rfl rfl (K.move rfl) ?_
               refine KT.bcase (fun hb183 => ?_) (fun hb183 => ?_)
               ·skip
                refine KT.step rfl rfl (K.move rfl) ?_
                refine KT.step rfl rfl (K.eql rfl rfl) ?_
                refine KT.step rfl rfl (K.pick rfl (fun _ => rfl) (fun h => by cases h)) ?_
                refine KT.step rfl rfl (K.move rfl) ?_
                refine KT.bcase (fun hb187 => ?_) (fun hb187 => ?_)
                ·skip
                 replace hb187 := of_decide_eq_true hb187
                 refine KT.step rfl rfl (K.move rfl) ?_
                 refine KT.step rfl rfl (K.move rfl) ?_
                 refine KT.step rfl rfl (K.call2 rfl rfl plainTry_20 (same20 (resD_mat (e := anE (anZ Z gi gj gb) gi gj gb) (n := (anZ Z gi gj gb).length) (a := tightM (anZ Z gi gj gb).length (andM (anZ Z gi gj gb) gi.toNat gj.toNat gb))) (resD_mat (e := anE (Z) gi gj gb) (n := (Z).length) (a := tightM (Z).length (andM (Z) gi.toNat gj.toNat gb))) (resZ_len (anZ_le kz.1) _).1 (resZ_len (anZ_le kz.1) _).2)) ?_
                 refine KT.step rfl rfl (K.pick rfl (fun _ => rfl) (fun h => by cases h)) ?_
                 refine KT.step rfl rfl (K.move rfl) ?_
                 refine KT.bcase (fun hb192 => ?_) (fun hb192 => ?_)
                 ·skip
                  refine KT.step rfl rfl (K.call0 plainTry_21 (awake21)) ?_
                  refine KT.step rfl rfl (K.pick rfl (fun _ => rfl) (fun h => by cases h)) ?_
                  refine KT.step rfl rfl (K.assign rfl) ?_
                  refine KT.nil ?_
                  refine thenK_n ?_
                  refine KC.ret ?_
                  exact ⟨.inl rfl, _, rfl, rfl⟩
                 ·skip
                  exact absurd hy.2 (of_decide_eq_false hb192)
                ·skip
                 exact absurd hy.1 (of_decide_eq_false hb187)
               ·skip
                exact absurd hx.2 (of_decide_eq_false hb183)
              ·skip
               exact absurd hx.1 (of_decide_eq_false hb178)
        ·skip
         exact absurd hb78 (of_decide_eq_false hb87)
      ·skip
       replace hc69 := of_decide_eq_false hc69
       refine KC.skip ?_
       refine thenK_n ?_
       refine KC.seq ?_
       refine KC.drawV Try.mixed (i1 := 14) (j1 := 16) (i2 := 15) (j2 := 17) (t1 := 15) (t2 := 16) (s1 := 98) (s2 := 105) (c1 := [.d (DI gi), .d (DI gj), .d (DI gb)]) (c2 := [.d (DI hi), .d (DI hj), .d (DI hb)]) (C := fun k => if k = 16 then [.d (DI gi), .d (DI gj), .d (DI gb)] else [.d (DI hi), .d (DI hj), .d (DI hb)]) ⟨38, _, _, _, rfl, rfl, rfl, rfl, Try.zero38, rfl, rfl, rfl, rfl, rfl, Try.size38, rfl⟩ ⟨38, _, _, _, rfl, rfl, rfl, rfl, Try.zero38, rfl, rfl, rfl, rfl, rfl, Try.size38, rfl⟩ rfl rfl (by decide) (by kernel_rfl) ?_
       refine KTV.read rfl rfl (K.fieldAddrO rfl Try.fld36_0 Try.size3) (by decide) ?_
       refine KTV.read rfl rfl (K.loadO rfl rfl (by simp) rfl Try.agg3) (by decide) ?_
       refine KTV.read rfl rfl (K.fieldAddrO rfl Try.fld36_1 Try.size3) (by decide) ?_
       refine KTV.read rfl rfl (K.loadO rfl rfl (by simp) rfl Try.agg3) (by decide) ?_
       refine KTV.read rfl rfl (K.fieldAddrO rfl Try.fld36_2 Try.size3) (by decide) ?_
       refine KTV.read rfl rfl (K.loadO rfl rfl (by simp) rfl Try.agg3) (by decide) ?_
       refine KTV.read rfl rfl (K.buildL rfl (build38 _ _ _)) (by decide) ?_
       refine KTV.read rfl rfl (K.fieldAddrO rfl Try.fld36_0 Try.size3) (by decide) ?_
       refine KTV.read rfl rfl (K.loadO rfl rfl (by simp) rfl Try.agg3) (by decide) ?_
       refine KTV.read rfl rfl (K.fieldAddrO rfl Try.fld36_1 Try.size3) (by decide) ?_
       refine KTV.read rfl rfl (K.loadO rfl rfl (by simp) rfl Try.agg3) (by decide) ?_
       refine KTV.read rfl rfl (K.fieldAddrO rfl Try.fld36_2 Try.size3) (by decide) ?_
       refine KTV.read rfl rfl (K.loadO rfl rfl (by simp) rfl Try.agg3) (by decide) ?_
       refine KTV.read rfl rfl (K.buildL rfl (build38 _ _ _)) (by decide) ?_
       refine KTV.make rfl ?_
       refine KTV.make rfl ?_
       refine KTV.put rfl rfl rfl rfl ?_
       refine KTV.put rfl rfl rfl rfl ?_
       refine KTV.nil ?_
       refine ⟨by kernel_rfl, fun σ3 p q hp hq hpq x2 x3 v3 l3 => ?_⟩
       have y0 := v3 0 (by simp)
       have y1 := v3 1 (by simp)
       refine thenK_n ?_
       refine KC.seq ?_
       refine KC.draw Try.mixed ?_
       refine KT.step rfl rfl (K.move rfl) ?_
       refine KT.step rfl rfl (K.call1 rfl plainTry_16 (few16 hd hl hr)) ?_
       refine KT.step rfl rfl (K.loadOA ([DI gi, DI gj, DI gb]) rfl x2 (by decide) Try.agg38 Try.size38 rfl) ?_
       refine KT.step rfl rfl (K.call2 rfl rfl plainTry_23 (And23 hmz fz.1 fz.2)) ?_
       refine KT.step rfl rfl (K.move rfl) ?_
       refine KT.step rfl rfl (K.extract rfl rfl) ?_
       refine KT.step rfl rfl (K.extract rfl rfl) ?_
       refine KT.step rfl rfl (K.assign rfl) ?_
       refine KT.step rfl rfl (K.assign rfl) ?_
       refine KT.nil ?_
       refine ⟨by kernel_rfl, ?_⟩
       refine thenK_n ?_
       refine KC.seq ?_
       refine KC.draw Try.mixed ?_
       refine KT.step rfl rfl (K.move rfl) ?_
       refine KT.step rfl rfl (K.call1 rfl plainTry_16 (few16 hd hl hr)) ?_
       refine KT.step rfl rfl (K.loadOA ([DI hi, DI hj, DI hb]) rfl x3 (by decide) Try.agg38 Try.size38 rfl) ?_
       refine KT.step rfl rfl (K.call2 rfl rfl plainTry_23 (And23 hmz fz.1 fz.2)) ?_
       refine KT.step rfl rfl (K.move rfl) ?_
       refine KT.step rfl rfl (K.extract rfl rfl) ?_
       refine KT.step rfl rfl (K.extract rfl rfl) ?_
       refine KT.step rfl rfl (K.assign rfl) ?_
       refine KT.step rfl rfl (K.assign rfl) ?_
       refine KT.nil ?_
       refine ⟨by kernel_rfl, ?_⟩
       refine thenK_n ?_
       refine KC.seq ?_
       refine KC.seq ?_
       refine KC.region ?_
       refine KT.step rfl rfl (K.move rfl) ?_
       refine KT.step rfl rfl (K.neq rfl rfl) ?_
       refine KT.step rfl rfl (K.move rfl) ?_
       refine KT.bcase (fun hb122 => ?_) (fun hb122 => ?_)
       ·skip
        replace hb122 := of_decide_eq_true hb122
        refine KT.skip rfl rfl ?_
        refine KT.skip rfl rfl ?_
        refine KT.step rfl rfl (K.pick rfl (fun _ => rfl) (fun h => by cases h)) ?_
        refine KT.step rfl rfl (K.move rfl) ?_
        refine KT.skip rfl rfl ?_
        refine KT.skip rfl rfl ?_
        refine KT.skip rfl rfl ?_
        refine KT.step rfl rfl (K.pick rfl (fun _ => rfl) (fun h => by cases h)) ?_
        refine KT.step rfl rfl (K.move rfl) ?_
        refine KT.skip rfl rfl ?_
        refine KT.skip rfl rfl ?_
        refine KT.skip rfl rfl ?_
        refine KT.step rfl rfl (K.pick rfl (fun _ => rfl) (fun h => by cases h)) ?_
        refine KT.nil ?_
        refine thenK_n ?_
        refine KC.cond rfl (fun hc135 => ?_) (fun hc135 => ?_)
        ·skip
         refine KC.seq ?_
         refine KC.region ?_
         refine KT.step rfl rfl (K.move rfl) ?_
         refine KT.step rfl rfl (K.neq rfl rfl) ?_
         refine KT.step rfl rfl (K.move rfl) ?_
         refine KT.bcase (fun hb138 => ?_) (fun hb138 => ?_)
         ·skip
          replace hb138 := of_decide_eq_true hb138
          refine KT.step rfl rfl (K.move rfl) ?_
          refine KT.step rfl rfl (K.neq rfl rfl) ?_
          refine KT.step rfl rfl (K.pick rfl (fun _ => rfl) (fun h => by cases h)) ?_
          refine KT.step rfl rfl (K.move rfl) ?_
          refine KT.bcase (fun hb142 => ?_) (fun hb142 => ?_)
          ·skip
           replace hb142 := of_decide_eq_true hb142
           refine KT.skip rfl rfl ?_
           refine KT.skip rfl rfl ?_
           refine KT.skip rfl rfl ?_
           refine KT.skip rfl rfl ?_
           refine KT.step rfl rfl (K.pick rfl (fun _ => rfl) (fun h => by cases h)) ?_
           refine KT.step rfl rfl (K.move rfl) ?_
           refine KT.skip rfl rfl ?_
           refine KT.skip rfl rfl ?_
           refine KT.skip rfl rfl ?_
           refine KT.skip rfl rfl ?_
           refine KT.step rfl rfl (K.pick rfl (fun _ => rfl) (fun h => by cases h)) ?_
           refine KT.step rfl rfl (K.move rfl) ?_
           refine KT.step rfl rfl (K.call0 plainTry_21 (awake21)) ?_
           refine KT.step rfl rfl (K.pick rfl (fun _ => rfl) (fun h => by cases h)) ?_
           refine KT.step rfl rfl (K.assign rfl) ?_
           refine KT.nil ?_
           refine thenK_n ?_
           refine KC.ret ?_
           refine thenK_r ?_
           exact ⟨.inl rfl, _, rfl, rfl⟩
          ·skip
           replace hb142 := of_decide_eq_false hb142
           refine KT.step rfl rfl (K.move rfl) ?_
           refine KT.step rfl rfl (K.loadOA ([DI gi, DI gj, DI gb]) rfl y0 (by decide) Try.agg36 Try.size36 rfl) ?_
           refine KT.step rfl rfl (K.call2 rfl rfl plainTry_49 (Clock49 hd hl hr)) ?_
           refine KT.step rfl rfl (K.not rfl) ?_
           refine KT.step rfl rfl (K.pick rfl (fun h => by cases h) (fun _ => rfl)) ?_
           refine KT.step rfl rfl (K.move rfl) ?_
           refine KT.bcase (fun hb148 => ?_) (fun hb148 => ?_)
           ·skip
            refine KT.skip rfl rfl ?_
            refine KT.skip rfl rfl ?_
            refine KT.skip rfl rfl ?_
            refine KT.skip rfl rfl ?_
            refine KT.step rfl rfl (K.pick rfl (fun _ => rfl) (fun h => by cases h)) ?_
            refine KT.step rfl rfl (K.move rfl) ?_
            refine KT.step rfl rfl (K.call0 plainTry_21 (awake21)) ?_
            refine KT.step rfl rfl (K.pick rfl (fun _ => rfl) (fun h => by cases h)) ?_
            refine KT.step rfl rfl (K.assign rfl) ?_
            refine KT.nil ?_
            refine thenK_n ?_
            refine KC.ret ?_
            refine thenK_r ?_
            exact ⟨.inl rfl, _, rfl, rfl⟩
           ·skip
            refine KT.step rfl rfl (K.move rfl) ?_
            refine KT.step rfl rfl (K.loadOA ([DI hi, DI hj, DI hb]) rfl y1 (by decide) Try.agg36 Try.size36 rfl) ?_
            refine KT.step rfl rfl (K.call2 rfl rfl plainTry_49 (Clock49 hd hl hr)) ?_
            refine KT.step rfl rfl (K.not rfl) ?_
            refine KT.step rfl rfl (K.pick rfl (fun h => by cases h) (fun _ => rfl)) ?_
            refine KT.step rfl rfl (K.move rfl) ?_
            refine KT.bcase (fun hb154 => ?_) (fun hb154 => ?_)
            ·skip
             refine KT.step rfl rfl (K.call0 plainTry_21 (awake21)) ?_
             refine KT.step rfl rfl (K.pick rfl (fun _ => rfl) (fun h => by cases h)) ?_
             refine KT.step rfl rfl (K.assign rfl) ?_
             refine KT.nil ?_
             refine thenK_n ?_
             refine KC.ret ?_
             refine thenK_r ?_
             exact ⟨.inl rfl, _, rfl, rfl⟩
            ·skip
             rw [Bool.not_eq_false'] at hb148 hb154
             rw [← hzZ] at hb148 hb154
             exact absurd (anE_two hb154 hv) hb142
         ·skip
          replace hb138 := of_decide_eq_false hb138
          refine KT.skip rfl rfl ?_
          refine KT.skip rfl rfl ?_
          refine KT.step rfl rfl (K.pick rfl (fun h => by cases h) (fun _ => rfl)) ?_
          refine KT.step rfl rfl (K.move rfl) ?_
          refine KT.step rfl rfl (K.move rfl) ?_
          refine KT.step rfl rfl (K.loadOA ([DI gi, DI gj, DI gb]) rfl y0 (by decide) Try.agg36 Try.size36 rfl) ?_
          refine KT.step rfl rfl (K.call2 rfl rfl plainTry_49 (Clock49 hd hl hr)) ?_
          refine KT.step rfl rfl (K.not rfl) ?_
          refine KT.step rfl rfl (K.pick rfl (fun h => by cases h) (fun _ => rfl)) ?_
          refine KT.step rfl rfl (K.move rfl) ?_
          refine KT.bcase (fun hb148 => ?_) (fun hb148 => ?_)
          ·skip
           refine KT.skip rfl rfl ?_
           refine KT.skip rfl rfl ?_
           refine KT.skip rfl rfl ?_
           refine KT.skip rfl rfl ?_
           refine KT.step rfl rfl (K.pick rfl (fun _ => rfl) (fun h => by cases h)) ?_
           refine KT.step rfl rfl (K.move rfl) ?_
           refine KT.step rfl rfl (K.call0 plainTry_21 (awake21)) ?_
           refine KT.step rfl rfl (K.pick rfl (fun _ => rfl) (fun h => by cases h)) ?_
           refine KT.step rfl rfl (K.assign rfl) ?_
           refine KT.nil ?_
           refine thenK_n ?_
           refine KC.ret ?_
           refine thenK_r ?_
           exact ⟨.inl rfl, _, rfl, rfl⟩
          ·skip
           refine KT.step rfl rfl (K.move rfl) ?_
           refine KT.step rfl rfl (K.loadOA ([DI hi, DI hj, DI hb]) rfl y1 (by decide) Try.agg36 Try.size36 rfl) ?_
           refine KT.step rfl rfl (K.call2 rfl rfl plainTry_49 (Clock49 hd hl hr)) ?_
           refine KT.step rfl rfl (K.not rfl) ?_
           refine KT.step rfl rfl (K.pick rfl (fun h => by cases h) (fun _ => rfl)) ?_
           refine KT.step rfl rfl (K.move rfl) ?_
           refine KT.bcase (fun hb154 => ?_) (fun hb154 => ?_)
           ·skip
            refine KT.step rfl rfl (K.call0 plainTry_21 (awake21)) ?_
            refine KT.step rfl rfl (K.pick rfl (fun _ => rfl) (fun h => by cases h)) ?_
            refine KT.step rfl rfl (K.assign rfl) ?_
            refine KT.nil ?_
            refine thenK_n ?_
            refine KC.ret ?_
            refine thenK_r ?_
            exact ⟨.inl rfl, _, rfl, rfl⟩
           ·skip
            rw [Bool.not_eq_false'] at hb148 hb154
            rw [← hzZ] at hb148 hb154
            exact absurd (anE_two hb148 hv) hb138
        ·cases hc135
       ·skip
        replace hb122 := of_decide_eq_false hb122
        refine KT.step rfl rfl (K.move rfl) ?_
        refine KT.step rfl rfl (K.neq rfl rfl) ?_
        refine KT.step rfl rfl (K.pick rfl (fun h => by cases h) (fun _ => rfl)) ?_
        refine KT.step rfl rfl (K.move rfl) ?_
        refine KT.bcase (fun hb126 => ?_) (fun hb126 => ?_)
        ·skip
         replace hb126 := of_decide_eq_true hb126
         refine KT.skip rfl rfl ?_
         refine KT.skip rfl rfl ?_
         refine KT.skip rfl rfl ?_
         refine KT.step rfl rfl (K.pick rfl (fun _ => rfl) (fun h => by cases h)) ?_
         refine KT.step rfl rfl (K.move rfl) ?_
         refine KT.skip rfl rfl ?_
         refine KT.skip rfl rfl ?_
         refine KT.skip rfl rfl ?_
         refine KT.step rfl rfl (K.pick rfl (fun _ => rfl) (fun h => by cases h)) ?_
         refine KT.nil ?_
         refine thenK_n ?_
         refine KC.cond rfl (fun hc135 => ?_) (fun hc135 => ?_)
         ·skip
          refine KC.seq ?_
          refine KC.region ?_
          refine KT.step rfl rfl (K.move rfl) ?_
          refine KT.step rfl rfl (K.neq rfl rfl) ?_
          refine KT.step rfl rfl (K.move rfl) ?_
          refine KT.bcase (fun hb138 => ?_) (fun hb138 => ?_)
          ·skip
           replace hb138 := of_decide_eq_true hb138
           refine KT.step rfl rfl (K.move rfl) ?_
           refine KT.step rfl rfl (K.neq rfl rfl) ?_
           refine KT.step rfl rfl (K.pick rfl (fun _ => rfl) (fun h => by cases h)) ?_
           refine KT.step rfl rfl (K.move rfl) ?_
           refine KT.bcase (fun hb142 => ?_) (fun hb142 => ?_)
           ·skip
            replace hb142 := of_decide_eq_true hb142
            refine KT.skip rfl rfl ?_
            refine KT.skip rfl rfl ?_
            refine KT.skip rfl rfl ?_
            refine KT.skip rfl rfl ?_
            refine KT.step rfl rfl (K.pick rfl (fun _ => rfl) (fun h => by cases h)) ?_
            refine KT.step rfl rfl (K.move rfl) ?_
            refine KT.skip rfl rfl ?_
            refine KT.skip rfl rfl ?_
            refine KT.skip rfl rfl ?_
            refine KT.skip rfl rfl ?_
            refine KT.step rfl rfl (K.pick rfl (fun _ => rfl) (fun h => by cases h)) ?_
            refine KT.step rfl rfl (K.move rfl) ?_
            refine KT.step rfl rfl (K.call0 plainTry_21 (awake21)) ?_
            refine KT.step rfl rfl (K.pick rfl (fun _ => rfl) (fun h => by cases h)) ?_
            refine KT.step rfl rfl (K.assign rfl) ?_
            refine KT.nil ?_
            refine thenK_n ?_
            refine KC.ret ?_
            refine thenK_r ?_
            exact ⟨.inl rfl, _, rfl, rfl⟩
           ·skip
            replace hb142 := of_decide_eq_false hb142
            refine KT.step rfl rfl (K.move rfl) ?_
            refine KT.step rfl rfl (K.loadOA ([DI gi, DI gj, DI gb]) rfl y0 (by decide) Try.agg36 Try.size36 rfl) ?_
            refine KT.step rfl rfl (K.call2 rfl rfl plainTry_49 (Clock49 hd hl hr)) ?_
            refine KT.step rfl rfl (K.not rfl) ?_
            refine KT.step rfl rfl (K.pick rfl (fun h => by cases h) (fun _ => rfl)) ?_
            refine KT.step rfl rfl (K.move rfl) ?_
            refine KT.bcase (fun hb148 => ?_) (fun hb148 => ?_)
            ·skip
             refine KT.skip rfl rfl ?_
             refine KT.skip rfl rfl ?_
             refine KT.skip rfl rfl ?_
             refine KT.skip rfl rfl ?_
             refine KT.step rfl rfl (K.pick rfl (fun _ => rfl) (fun h => by cases h)) ?_
             refine KT.step rfl rfl (K.move rfl) ?_
             refine KT.step rfl rfl (K.call0 plainTry_21 (awake21)) ?_
             refine KT.step rfl rfl (K.pick rfl (fun _ => rfl) (fun h => by cases h)) ?_
             refine KT.step rfl rfl (K.assign rfl) ?_
             refine KT.nil ?_
             refine thenK_n ?_
             refine KC.ret ?_
             refine thenK_r ?_
             exact ⟨.inl rfl, _, rfl, rfl⟩
            ·skip
             refine KT.step rfl rfl (K.move rfl) ?_
             refine KT.step rfl rfl (K.loadOA ([DI hi, DI hj, DI hb]) rfl y1 (by decide) Try.agg36 Try.size36 rfl) ?_
             refine KT.step rfl rfl (K.call2 rfl rfl plainTry_49 (Clock49 hd hl hr)) ?_
             refine KT.step rfl rfl (K.not rfl) ?_
             refine KT.step rfl rfl (K.pick rfl (fun h => by cases h) (fun _ => rfl)) ?_
             refine KT.step rfl rfl (K.move rfl) ?_
             refine KT.bcase (fun hb154 => ?_) (fun hb154 => ?_)
             ·skip
              refine KT.step rfl rfl (K.call0 plainTry_21 (awake21)) ?_
              refine KT.step rfl rfl (K.pick rfl (fun _ => rfl) (fun h => by cases h)) ?_
              refine KT.step rfl rfl (K.assign rfl) ?_
              refine KT.nil ?_
              refine thenK_n ?_
              refine KC.ret ?_
              refine thenK_r ?_
              exact ⟨.inl rfl, _, rfl, rfl⟩
             ·skip
              rw [Bool.not_eq_false'] at hb148 hb154
              rw [← hzZ] at hb148 hb154
              exact absurd (anE_two hb154 hv) hb142
          ·skip
           replace hb138 := of_decide_eq_false hb138
           refine KT.skip rfl rfl ?_
           refine KT.skip rfl rfl ?_
           refine KT.step rfl rfl (K.pick rfl (fun h => by cases h) (fun _ => rfl)) ?_
           refine KT.step rfl rfl (K.move rfl) ?_
           refine KT.step rfl rfl (K.move rfl) ?_
           refine KT.step rfl rfl (K.loadOA ([DI gi, DI gj, DI gb]) rfl y0 (by decide) Try.agg36 Try.size36 rfl) ?_
           refine KT.step rfl rfl (K.call2 rfl rfl plainTry_49 (Clock49 hd hl hr)) ?_
           refine KT.step rfl rfl (K.not rfl) ?_
           refine KT.step rfl rfl (K.pick rfl (fun h => by cases h) (fun _ => rfl)) ?_
           refine KT.step rfl rfl (K.move rfl) ?_
           refine KT.bcase (fun hb148 => ?_) (fun hb148 => ?_)
           ·skip
            refine KT.skip rfl rfl ?_
            refine KT.skip rfl rfl ?_
            refine KT.skip rfl rfl ?_
            refine KT.skip rfl rfl ?_
            refine KT.step rfl rfl (K.pick rfl (fun _ => rfl) (fun h => by cases h)) ?_
            refine KT.step rfl rfl (K.move rfl) ?_
            refine KT.step rfl rfl (K.call0 plainTry_21 (awake21)) ?_
            refine KT.step rfl rfl (K.pick rfl (fun _ => rfl) (fun h => by cases h)) ?_
            refine KT.step rfl rfl (K.assign rfl) ?_
            refine KT.nil ?_
            refine thenK_n ?_
            refine KC.ret ?_
            refine thenK_r ?_
            exact ⟨.inl rfl, _, rfl, rfl⟩
           ·skip
            refine KT.step rfl rfl (K.move rfl) ?_
            refine KT.step rfl rfl (K.loadOA ([DI hi, DI hj, DI hb]) rfl y1 (by decide) Try.agg36 Try.size36 rfl) ?_
            refine KT.step rfl rfl (K.call2 rfl rfl plainTry_49 (Clock49 hd hl hr)) ?_
            refine KT.step rfl rfl (K.not rfl) ?_
            refine KT.step rfl rfl (K.pick rfl (fun h => by cases h) (fun _ => rfl)) ?_
            refine KT.step rfl rfl (K.move rfl) ?_
            refine KT.bcase (fun hb154 => ?_) (fun hb154 => ?_)
            ·skip
             refine KT.step rfl rfl (K.call0 plainTry_21 (awake21)) ?_
             refine KT.step rfl rfl (K.pick rfl (fun _ => rfl) (fun h => by cases h)) ?_
             refine KT.step rfl rfl (K.assign rfl) ?_
             refine KT.nil ?_
             refine thenK_n ?_
             refine KC.ret ?_
             refine thenK_r ?_
             exact ⟨.inl rfl, _, rfl, rfl⟩
            ·skip
             rw [Bool.not_eq_false'] at hb148 hb154
             rw [← hzZ] at hb148 hb154
             exact absurd (anE_two hb148 hv) hb138
         ·cases hc135
        ·skip
         replace hb126 := of_decide_eq_false hb126
         refine KT.step rfl rfl (K.move rfl) ?_
         refine KT.step rfl rfl (K.call1 rfl plainTry_36 (Valid36 (z := anZ Z gi gj gb) (resD_mat (e := anE (Z) gi gj gb) (n := (Z).length) (a := tightM (Z).length (andM (Z) gi.toNat gj.toNat gb))) (resZ_len (kz.1) _).1 (resZ_len (kz.1) _).2)) ?_
         refine KT.step rfl rfl (K.not rfl) ?_
         refine KT.step rfl rfl (K.pick rfl (fun h => by cases h) (fun _ => rfl)) ?_
         refine KT.step rfl rfl (K.move rfl) ?_
         refine KT.bcase (fun hb131 => ?_) (fun hb131 => ?_)
         ·skip
          refine KT.skip rfl rfl ?_
          refine KT.skip rfl rfl ?_
          refine KT.skip rfl rfl ?_
          refine KT.step rfl rfl (K.pick rfl (fun _ => rfl) (fun h => by cases h)) ?_
          refine KT.nil ?_
          refine thenK_n ?_
          refine KC.cond rfl (fun hc135 => ?_) (fun hc135 => ?_)
          ·skip
           refine KC.seq ?_
           refine KC.region ?_
           refine KT.step rfl rfl (K.move rfl) ?_
           refine KT.step rfl rfl (K.neq rfl rfl) ?_
           refine KT.step rfl rfl (K.move rfl) ?_
           refine KT.bcase (fun hb138 => ?_) (fun hb138 => ?_)
           ·skip
            replace hb138 := of_decide_eq_true hb138
            refine KT.step rfl rfl (K.move rfl) ?_
            refine KT.step rfl rfl (K.neq rfl rfl) ?_
            refine KT.step rfl rfl (K.pick rfl (fun _ => rfl) (fun h => by cases h)) ?_
            refine KT.step rfl rfl (K.move rfl) ?_
            refine KT.bcase (fun hb142 => ?_) (fun hb142 => ?_)
            ·skip
             replace hb142 := of_decide_eq_true hb142
             refine KT.skip rfl rfl ?_
             refine KT.skip rfl rfl ?_
             refine KT.skip rfl rfl ?_
             refine KT.skip rfl rfl ?_
             refine KT.step rfl rfl (K.pick rfl (fun _ => rfl) (fun h => by cases h)) ?_
             refine KT.step rfl rfl (K.move rfl) ?_
             refine KT.skip rfl rfl ?_
             refine KT.skip rfl rfl ?_
             refine KT.skip rfl rfl ?_
             refine KT.skip rfl rfl ?_
             refine KT.step rfl rfl (K.pick rfl (fun _ => rfl) (fun h => by cases h)) ?_
             refine KT.step rfl rfl (K.move rfl) ?_
             refine KT.step rfl rfl (K.call0 plainTry_21 (awake21)) ?_
             refine KT.step rfl rfl (K.pick rfl (fun _ => rfl) (fun h => by cases h)) ?_
             refine KT.step rfl rfl (K.assign rfl) ?_
             refine KT.nil ?_
             refine thenK_n ?_
             refine KC.ret ?_
             refine thenK_r ?_
             exact ⟨.inl rfl, _, rfl, rfl⟩
            ·skip
             replace hb142 := of_decide_eq_false hb142
             refine KT.step rfl rfl (K.move rfl) ?_
             refine KT.step rfl rfl (K.loadOA ([DI gi, DI gj, DI gb]) rfl y0 (by decide) Try.agg36 Try.size36 rfl) ?_
             refine KT.step rfl rfl (K.call2 rfl rfl plainTry_49 (Clock49 hd hl hr)) ?_
             refine KT.step rfl rfl (K.not rfl) ?_
             refine KT.step rfl rfl (K.pick rfl (fun h => by cases h) (fun _ => rfl)) ?_
             refine KT.step rfl rfl (K.move rfl) ?_
             refine KT.bcase (fun hb148 => ?_) (fun hb148 => ?_)
             ·skip
              refine KT.skip rfl rfl ?_
              refine KT.skip rfl rfl ?_
              refine KT.skip rfl rfl ?_
              refine KT.skip rfl rfl ?_
              refine KT.step rfl rfl (K.pick rfl (fun _ => rfl) (fun h => by cases h)) ?_
              refine KT.step rfl rfl (K.move rfl) ?_
              refine KT.step rfl rfl (K.call0 plainTry_21 (awake21)) ?_
              refine KT.step rfl rfl (K.pick rfl (fun _ => rfl) (fun h => by cases h)) ?_
              refine KT.step rfl rfl (K.assign rfl) ?_
              refine KT.nil ?_
              refine thenK_n ?_
              refine KC.ret ?_
              refine thenK_r ?_
              exact ⟨.inl rfl, _, rfl, rfl⟩
             ·skip
              refine KT.step rfl rfl (K.move rfl) ?_
              refine KT.step rfl rfl (K.loadOA ([DI hi, DI hj, DI hb]) rfl y1 (by decide) Try.agg36 Try.size36 rfl) ?_
              refine KT.step rfl rfl (K.call2 rfl rfl plainTry_49 (Clock49 hd hl hr)) ?_
              refine KT.step rfl rfl (K.not rfl) ?_
              refine KT.step rfl rfl (K.pick rfl (fun h => by cases h) (fun _ => rfl)) ?_
              refine KT.step rfl rfl (K.move rfl) ?_
              refine KT.bcase (fun hb154 => ?_) (fun hb154 => ?_)
              ·skip
               refine KT.step rfl rfl (K.call0 plainTry_21 (awake21)) ?_
               refine KT.step rfl rfl (K.pick rfl (fun _ => rfl) (fun h => by cases h)) ?_
               refine KT.step rfl rfl (K.assign rfl) ?_
               refine KT.nil ?_
               refine thenK_n ?_
               refine KC.ret ?_
               refine thenK_r ?_
               exact ⟨.inl rfl, _, rfl, rfl⟩
              ·skip
               rw [Bool.not_eq_false'] at hb148 hb154
               rw [← hzZ] at hb148 hb154
               exact absurd (anE_two hb154 hv) hb142
           ·skip
            replace hb138 := of_decide_eq_false hb138
            refine KT.skip rfl rfl ?_
            refine KT.skip rfl rfl ?_
            refine KT.step rfl rfl (K.pick rfl (fun h => by cases h) (fun _ => rfl)) ?_
            refine KT.step rfl rfl (K.move rfl) ?_
            refine KT.step rfl rfl (K.move rfl) ?_
            refine KT.step rfl rfl (K.loadOA ([DI gi, DI gj, DI gb]) rfl y0 (by decide) Try.agg36 Try.size36 rfl) ?_
            refine KT.step rfl rfl (K.call2 rfl rfl plainTry_49 (Clock49 hd hl hr)) ?_
            refine KT.step rfl rfl (K.not rfl) ?_
            refine KT.step rfl rfl (K.pick rfl (fun h => by cases h) (fun _ => rfl)) ?_
            refine KT.step rfl rfl (K.move rfl) ?_
            refine KT.bcase (fun hb148 => ?_) (fun hb148 => ?_)
            ·skip
             refine KT.skip rfl rfl ?_
             refine KT.skip rfl rfl ?_
             refine KT.skip rfl rfl ?_
             refine KT.skip rfl rfl ?_
             refine KT.step rfl rfl (K.pick rfl (fun _ => rfl) (fun h => by cases h)) ?_
             refine KT.step rfl rfl (K.move rfl) ?_
             refine KT.step rfl rfl (K.call0 plainTry_21 (awake21)) ?_
             refine KT.step rfl rfl (K.pick rfl (fun _ => rfl) (fun h => by cases h)) ?_
             refine KT.step rfl rfl (K.assign rfl) ?_
             refine KT.nil ?_
             refine thenK_n ?_
             refine KC.ret ?_
             refine thenK_r ?_
             exact ⟨.inl rfl, _, rfl, rfl⟩
            ·skip
             refine KT.step rfl rfl (K.move rfl) ?_
             refine KT.step rfl rfl (K.loadOA ([DI hi, DI hj, DI hb]) rfl y1 (by decide) Try.agg36 Try.size36 rfl) ?_
             refine KT.step rfl rfl (K.call2 rfl rfl plainTry_49 (Clock49 hd hl hr)) ?_
             refine KT.step rfl rfl (K.not rfl) ?_
             refine KT.step rfl rfl (K.pick rfl (fun h => by cases h) (fun _ => rfl)) ?_
             refine KT.step rfl rfl (K.move rfl) ?_
             refine KT.bcase (fun hb154 => ?_) (fun hb154 => ?_)
             ·skip
              refine KT.step rfl rfl (K.call0 plainTry_21 (awake21)) ?_
              refine KT.step rfl rfl (K.pick rfl (fun _ => rfl) (fun h => by cases h)) ?_
              refine KT.step rfl rfl (K.assign rfl) ?_
              refine KT.nil ?_
              refine thenK_n ?_
              refine KC.ret ?_
              refine thenK_r ?_
              exact ⟨.inl rfl, _, rfl, rfl⟩
             ·skip
              rw [Bool.not_eq_false'] at hb148 hb154
              rw [← hzZ] at hb148 hb154
              exact absurd (anE_two hb148 hv) hb138
          ·cases hc135
         ·skip
          refine KT.step rfl rfl (K.move rfl) ?_
          refine KT.step rfl rfl (K.call1 rfl plainTry_36 (Valid36 (z := anZ Z hi hj hb) (resD_mat (e := anE (Z) hi hj hb) (n := (Z).length) (a := tightM (Z).length (andM (Z) hi.toNat hj.toNat hb))) (resZ_len (kz.1) _).1 (resZ_len (kz.1) _).2)) ?_
          refine KT.step rfl rfl (K.not rfl) ?_
          refine KT.step rfl rfl (K.pick rfl (fun h => by cases h) (fun _ => rfl)) ?_
          refine KT.nil ?_
          refine thenK_n ?_
          refine KC.cond rfl (fun hc135 => ?_) (fun hc135 => ?_)
          ·skip
           refine KC.seq ?_
           refine KC.region ?_
           refine KT.step rfl rfl (K.move rfl) ?_
           refine KT.step rfl rfl (K.neq rfl rfl) ?_
           refine KT.step rfl rfl (K.move rfl) ?_
           refine KT.bcase (fun hb138 => ?_) (fun hb138 => ?_)
           ·skip
            replace hb138 := of_decide_eq_true hb138
            refine KT.step rfl rfl (K.move rfl) ?_
            refine KT.step rfl rfl (K.neq rfl rfl) ?_
            refine KT.step rfl rfl (K.pick rfl (fun _ => rfl) (fun h => by cases h)) ?_
            refine KT.step rfl rfl (K.move rfl) ?_
            refine KT.bcase (fun hb142 => ?_) (fun hb142 => ?_)
            ·skip
             replace hb142 := of_decide_eq_true hb142
             refine KT.skip rfl rfl ?_
             refine KT.skip rfl rfl ?_
             refine KT.skip rfl rfl ?_
             refine KT.skip rfl rfl ?_
             refine KT.step rfl rfl (K.pick rfl (fun _ => rfl) (fun h => by cases h)) ?_
             refine KT.step rfl rfl (K.move rfl) ?_
             refine KT.skip rfl rfl ?_
             refine KT.skip rfl rfl ?_
             refine KT.skip rfl rfl ?_
             refine KT.skip rfl rfl ?_
             refine KT.step rfl rfl (K.pick rfl (fun _ => rfl) (fun h => by cases h)) ?_
             refine KT.step rfl rfl (K.move rfl) ?_
             refine KT.step rfl rfl (K.call0 plainTry_21 (awake21)) ?_
             refine KT.step rfl rfl (K.pick rfl (fun _ => rfl) (fun h => by cases h)) ?_
             refine KT.step rfl rfl (K.assign rfl) ?_
             refine KT.nil ?_
             refine thenK_n ?_
             refine KC.ret ?_
             refine thenK_r ?_
             exact ⟨.inl rfl, _, rfl, rfl⟩
            ·skip
             replace hb142 := of_decide_eq_false hb142
             refine KT.step rfl rfl (K.move rfl) ?_
             refine KT.step rfl rfl (K.loadOA ([DI gi, DI gj, DI gb]) rfl y0 (by decide) Try.agg36 Try.size36 rfl) ?_
             refine KT.step rfl rfl (K.call2 rfl rfl plainTry_49 (Clock49 hd hl hr)) ?_
             refine KT.step rfl rfl (K.not rfl) ?_
             refine KT.step rfl rfl (K.pick rfl (fun h => by cases h) (fun _ => rfl)) ?_
             refine KT.step rfl rfl (K.move rfl) ?_
             refine KT.bcase (fun hb148 => ?_) (fun hb148 => ?_)
             ·skip
              refine KT.skip rfl rfl ?_
              refine KT.skip rfl rfl ?_
              refine KT.skip rfl rfl ?_
              refine KT.skip rfl rfl ?_
              refine KT.step rfl rfl (K.pick rfl (fun _ => rfl) (fun h => by cases h)) ?_
              refine KT.step rfl rfl (K.move rfl) ?_
              refine KT.step rfl rfl (K.call0 plainTry_21 (awake21)) ?_
              refine KT.step rfl rfl (K.pick rfl (fun _ => rfl) (fun h => by cases h)) ?_
              refine KT.step rfl rfl (K.assign rfl) ?_
              refine KT.nil ?_
              refine thenK_n ?_
              refine KC.ret ?_
              refine thenK_r ?_
              exact ⟨.inl rfl, _, rfl, rfl⟩
             ·skip
              refine KT.step rfl rfl (K.move rfl) ?_
              refine KT.step rfl rfl (K.loadOA ([DI hi, DI hj, DI hb]) rfl y1 (by decide) Try.agg36 Try.size36 rfl) ?_
              refine KT.step rfl rfl (K.call2 rfl rfl plainTry_49 (Clock49 hd hl hr)) ?_
              refine KT.step rfl rfl (K.not rfl) ?_
              refine KT.step rfl rfl (K.pick rfl (fun h => by cases h) (fun _ => rfl)) ?_
              refine KT.step rfl rfl (K.move rfl) ?_
              refine KT.bcase (fun hb154 => ?_) (fun hb154 => ?_)
              ·skip
               refine KT.step rfl rfl (K.call0 plainTry_21 (awake21)) ?_
               refine KT.step rfl rfl (K.pick rfl (fun _ => rfl) (fun h => by cases h)) ?_
               refine KT.step rfl rfl (K.assign rfl) ?_
               refine KT.nil ?_
               refine thenK_n ?_
               refine KC.ret ?_
               refine thenK_r ?_
               exact ⟨.inl rfl, _, rfl, rfl⟩
              ·skip
               rw [Bool.not_eq_false'] at hb148 hb154
               rw [← hzZ] at hb148 hb154
               exact absurd (anE_two hb154 hv) hb142
           ·skip
            replace hb138 := of_decide_eq_false hb138
            refine KT.skip rfl rfl ?_
            refine KT.skip rfl rfl ?_
            refine KT.step rfl rfl (K.pick rfl (fun h => by cases h) (fun _ => rfl)) ?_
            refine KT.step rfl rfl (K.move rfl) ?_
            refine KT.step rfl rfl (K.move rfl) ?_
            refine KT.step rfl rfl (K.loadOA ([DI gi, DI gj, DI gb]) rfl y0 (by decide) Try.agg36 Try.size36 rfl) ?_
            refine KT.step rfl rfl (K.call2 rfl rfl plainTry_49 (Clock49 hd hl hr)) ?_
            refine KT.step rfl rfl (K.not rfl) ?_
            refine KT.step rfl rfl (K.pick rfl (fun h => by cases h) (fun _ => rfl)) ?_
            refine KT.step rfl rfl (K.move rfl) ?_
            refine KT.bcase (fun hb148 => ?_) (fun hb148 => ?_)
            ·skip
             refine KT.skip rfl rfl ?_
             refine KT.skip rfl rfl ?_
             refine KT.skip rfl rfl ?_
             refine KT.skip rfl rfl ?_
             refine KT.step rfl rfl (K.pick rfl (fun _ => rfl) (fun h => by cases h)) ?_
             refine KT.step rfl rfl (K.move rfl) ?_
             refine KT.step rfl rfl (K.call0 plainTry_21 (awake21)) ?_
             refine KT.step rfl rfl (K.pick rfl (fun _ => rfl) (fun h => by cases h)) ?_
             refine KT.step rfl rfl (K.assign rfl) ?_
             refine KT.nil ?_
             refine thenK_n ?_
             refine KC.ret ?_
             refine thenK_r ?_
             exact ⟨.inl rfl, _, rfl, rfl⟩
            ·skip
             refine KT.step rfl rfl (K.move rfl) ?_
             refine KT.step rfl rfl (K.loadOA ([DI hi, DI hj, DI hb]) rfl y1 (by decide) Try.agg36 Try.size36 rfl) ?_
             refine KT.step rfl rfl (K.call2 rfl rfl plainTry_49 (Clock49 hd hl hr)) ?_
             refine KT.step rfl rfl (K.not rfl) ?_
             refine KT.step rfl rfl (K.pick rfl (fun h => by cases h) (fun _ => rfl)) ?_
             refine KT.step rfl rfl (K.move rfl) ?_
             refine KT.bcase (fun hb154 => ?_) (fun hb154 => ?_)
             ·skip
              refine KT.step rfl rfl (K.call0 plainTry_21 (awake21)) ?_
              refine KT.step rfl rfl (K.pick rfl (fun _ => rfl) (fun h => by cases h)) ?_
              refine KT.step rfl rfl (K.assign rfl) ?_
              refine KT.nil ?_
              refine thenK_n ?_
              refine KC.ret ?_
              refine thenK_r ?_
              exact ⟨.inl rfl, _, rfl, rfl⟩
             ·skip
              rw [Bool.not_eq_false'] at hb148 hb154
              rw [← hzZ] at hb148 hb154
              exact absurd (anE_two hb148 hv) hb138
          ·skip
           have a1 := Classical.not_not.1 hb122
           have a2 := Classical.not_not.1 hb126
           rw [Bool.not_eq_false'] at hb131 hc135
           have hx := an_an a1 a2 hb131 hc135
           have hy := an_twice a1 hb131
           refine KC.skip ?_
           refine thenK_n ?_
           refine KC.seq ?_
           refine KC.region ?_
           refine KT.step rfl rfl (K.move rfl) ?_
           refine KT.step rfl rfl (K.loadOA ([DI hi, DI hj, DI hb]) rfl x3 (by decide) Try.agg38 Try.size38 rfl) ?_
           refine KT.step rfl rfl (K.call2 rfl rfl plainTry_23 (And23 (z := anZ Z gi gj gb) (resD_mat (e := anE (Z) gi gj gb) (n := (Z).length) (a := tightM (Z).length (andM (Z) gi.toNat gj.toNat gb))) (resZ_len (kz.1) _).1 (resZ_len (kz.1) _).2)) ?_
           refine KT.step rfl rfl (K.move rfl) ?_
           refine KT.step rfl rfl (K.extract rfl rfl) ?_
           refine KT.step rfl rfl (K.extract rfl rfl) ?_
           refine KT.step rfl rfl (K.assign rfl) ?_
           refine KT.step rfl rfl (K.assign rfl) ?_
           refine KT.nil ?_
           refine thenK_n ?_
           refine KC.seq ?_
           refine KC.region ?_
           refine KT.step rfl rfl (K.move rfl) ?_
           refine KT.step rfl rfl (K.loadOA ([DI gi, DI gj, DI gb]) rfl x2 (by decide) Try.agg38 Try.size38 rfl) ?_
           refine KT.step rfl rfl (K.call2 rfl rfl plainTry_23 (And23 (z := anZ Z hi hj hb) (resD_mat (e := anE (Z) hi hj hb) (n := (Z).length) (a := tightM (Z).length (andM (Z) hi.toNat hj.toNat hb))) (resZ_len (kz.1) _).1 (resZ_len (kz.1) _).2)) ?_
           refine KT.step rfl rfl (K.move rfl) ?_
           refine KT.step rfl rfl (K.extract rfl rfl) ?_
           refine KT.step rfl rfl (K.extract rfl rfl) ?_
           refine KT.step rfl rfl (K.assign rfl) ?_
           refine KT.step rfl rfl (K.assign rfl) ?_
           refine KT.nil ?_
           refine thenK_n ?_
           refine KC.seq ?_
           refine KC.region ?_
           refine KT.step rfl rfl (K.move rfl) ?_
           refine KT.step rfl rfl (K.loadOA ([DI gi, DI gj, DI gb]) rfl x2 (by decide) Try.agg38 Try.size38 rfl) ?_
           refine KT.step rfl rfl (K.call2 rfl rfl plainTry_23 (And23 (z := anZ Z gi gj gb) (resD_mat (e := anE (Z) gi gj gb) (n := (Z).length) (a := tightM (Z).length (andM (Z) gi.toNat gj.toNat gb))) (resZ_len (kz.1) _).1 (resZ_len (kz.1) _).2)) ?_
           refine KT.step rfl rfl (K.move rfl) ?_
           refine KT.step rfl rfl (K.extract rfl rfl) ?_
           refine KT.step rfl rfl (K.extract rfl rfl) ?_
           refine KT.step rfl rfl (K.assign rfl) ?_
           refine KT.step rfl rfl (K.assign rfl) ?_
           refine KT.nil ?_
           refine thenK_n ?_
           refine KC.seq ?_
           refine KC.region ?_
           refine KT.step rfl rfl (K.move rfl) ?_
           refine KT.step rfl rfl (K.move rfl) ?_
           refine KT.step rfl rfl (K.eql rfl rfl) ?_
           refine KT.step rfl rfl (K.move rfl) ?_
           refine KT.bcase (fun hb178 => ?_) (fun hb178 => ?_)
           ·skip
            replace hb178 := of_decide_eq_true hb178
            refine KT.step rfl rfl (K.move rfl) ?_
            refine KT.step rfl rfl (K.move rfl) ?_
            refine KT.step rfl rfl (K.call2 rfl rfl plainTry_20 (same20 (resD_mat (e := anE (anZ Z gi gj gb) hi hj hb) (n := (anZ Z gi gj gb).length) (a := tightM (anZ Z gi gj gb).length (andM (anZ Z gi gj gb) hi.toNat hj.toNat hb))) (resD_mat (e := anE (anZ Z hi hj hb) gi gj gb) (n := (anZ Z hi hj hb).length) (a := tightM (anZ Z hi hj hb).length (andM (anZ Z hi hj hb) gi.toNat gj.toNat gb))) (resZ_len (anZ_le kz.1) _).1 (resZ_len (anZ_le kz.1) _).2)) ?_
            refine KT.step rfl rfl (K.pick rfl (fun _ => rfl) (fun h => by cases h)) ?_
            refine KT.step rfl rfl (K.move rfl) ?_
            refine KT.bcase (fun hb183 => ?_) (fun hb183 => ?_)
            ·skip
             refine KT.step rfl rfl (K.move rfl) ?_
             refine KT.step rfl rfl (K.eql rfl rfl) ?_
             refine KT.step rfl rfl (K.pick rfl (fun _ => rfl) (fun h => by cases h)) ?_
             refine KT.step rfl rfl (K.move rfl) ?_
             refine KT.bcase (fun hb187 => ?_) (fun hb187 => ?_)
             ·skip
              replace hb187 := of_decide_eq_true hb187
              refine KT.step rfl rfl (K.move rfl) ?_
              refine KT.step rfl rfl (K.move rfl) ?_
              refine KT.step rfl rfl (K.call2 rfl rfl plainTry_20 (same20 (resD_mat (e := anE (anZ Z gi gj gb) gi gj gb) (n := (anZ Z gi gj gb).length) (a := tightM (anZ Z gi gj gb).length (andM (anZ Z gi gj gb) gi.toNat gj.toNat gb))) (resD_mat (e := anE (Z) gi gj gb) (n := (Z).length) (a := tightM (Z).length (andM (Z) gi.toNat gj.toNat gb))) (resZ_len (anZ_le kz.1) _).1 (resZ_len (anZ_le kz.1) _).2)) ?_
              refine KT.step rfl rfl (K.pick rfl (fun _ => rfl) (fun h => by cases h)) ?_
              refine KT.step rfl rfl (K.move rfl) ?_
              refine KT.bcase (fun hb192 => ?_) (fun hb192 => ?_)
              ·skip
               refine KT.step rfl rfl (K.call0 plainTry_21 (awake21)) ?_
               refine KT.step rfl rfl (K.pick rfl (fun _ => rfl) (fun h => by cases h)) ?_
               refine KT.step rfl rfl (K.assign rfl) ?_
               refine KT.nil ?_
               refine thenK_n ?_
               refine KC.ret ?_
               exact ⟨.inl rfl, _, rfl, rfl⟩
              ·skip
               exact absurd hy.2 (of_decide_eq_false hb192)
             ·skip
              exact absurd hy.1 (of_decide_eq_false hb187)
            ·skip
             exact absurd hx.2 (of_decide_eq_false hb183)
           ·skip
            exact absurd hx.1 (of_decide_eq_false hb178)
  ·skip
   replace hb47 := of_decide_eq_false hb47
   refine KT.skip rfl rfl ?_
   refine KT.skip rfl rfl ?_
   refine KT.skip rfl rfl ?_
   refine KT.skip rfl rfl ?_
   refine KT.step rfl rfl (K.pick rfl (fun h => by cases h) (fun _ => rfl)) ?_
   refine KT.step rfl rfl (K.move rfl) ?_
   refine KT.step rfl rfl (K.move rfl) ?_
   refine KT.step rfl rfl (K.neq rfl rfl) ?_
   refine KT.step rfl rfl (K.move rfl) ?_
   refine KT.bcase (fun hb56 => ?_) (fun hb56 => ?_)
   ·skip
    replace hb56 := of_decide_eq_true hb56
    refine KT.step rfl rfl (K.move rfl) ?_
    refine KT.step rfl rfl (K.call1 rfl plainTry_36 (Valid36 (z := dlZ Z) (resD_mat (e := dlE Z) (n := Z.length) (a := delM Z.length (tightM Z.length (zf Z)))) (resZ_len (kz.1) _).1 (resZ_len (kz.1) _).2)) ?_
    refine KT.step rfl rfl (K.pick rfl (fun _ => rfl) (fun h => by cases h)) ?_
    refine KT.step rfl rfl (K.pick rfl (fun h => by cases h) (fun _ => rfl)) ?_
    refine KT.nil ?_
    refine thenK_n ?_
    refine KC.cond rfl (fun hc60 => ?_) (fun hc60 => ?_)
    ·skip
     exact Bool.noConfusion ((ht.2 hb47).symm.trans hc60)
    ·skip
     refine KC.skip ?_
     refine thenK_n ?_
     refine KC.seq ?_
     refine KC.region ?_
     refine KT.step rfl rfl (K.move rfl) ?_
     refine KT.step rfl rfl (K.call1 rfl plainTry_16 (few16 hd hl hr)) ?_
     refine KT.step rfl rfl (K.move rfl) ?_
     refine KT.step rfl rfl (K.call2 rfl rfl plainTry_27 (Reset27 hmz fz.1 fz.2 kz.1)) ?_
     refine KT.step rfl rfl (K.move rfl) ?_
     refine KT.step rfl rfl (K.extract rfl rfl) ?_
     refine KT.step rfl rfl (K.extract rfl rfl) ?_
     refine KT.step rfl rfl (K.assign rfl) ?_
     refine KT.step rfl rfl (K.assign rfl) ?_
     refine KT.nil ?_
     refine thenK_n ?_
     refine KC.seq ?_
     refine KC.seq ?_
     refine KC.region ?_
     refine KT.step rfl rfl (K.move rfl) ?_
     refine KT.step rfl rfl (K.eql rfl rfl) ?_
     refine KT.nil ?_
     refine thenK_n ?_
     refine KC.cond rfl (fun hc69 => ?_) (fun hc69 => ?_)
     ·skip
      replace hc69 := of_decide_eq_true hc69
      have hs := rs_rs hc69
      refine KC.seq ?_
      refine KC.region ?_
      refine KT.step rfl rfl (K.move rfl) ?_
      refine KT.step rfl rfl (K.move rfl) ?_
      refine KT.step rfl rfl (K.call2 rfl rfl plainTry_27 (Reset27 (z := rsZ Z s) (resD_mat (e := rsE Z s) (n := Z.length) (a := resM Z.length s.toNat (tightM Z.length (zf Z)))) (resZ_len (kz.1) _).1 (resZ_len (kz.1) _).2 (rsZ_le kz.1))) ?_
      refine KT.step rfl rfl (K.move rfl) ?_
      refine KT.step rfl rfl (K.extract rfl rfl) ?_
      refine KT.step rfl rfl (K.extract rfl rfl) ?_
      refine KT.step rfl rfl (K.assign rfl) ?_
      refine KT.step rfl rfl (K.assign rfl) ?_
      refine KT.nil ?_
      refine thenK_n ?_
      refine KC.seq ?_
      refine KC.region ?_
      refine KT.step rfl rfl (K.move rfl) ?_
      refine KT.step rfl rfl (K.eql rfl rfl) ?_
      refine KT.step rfl rfl (K.move rfl) ?_
      refine KT.bcase (fun hb78 => ?_) (fun hb78 => ?_)
      ·skip
       replace hb78 := of_decide_eq_true hb78
       refine KT.step rfl rfl (K.move rfl) ?_
       refine KT.step rfl rfl (K.move rfl) ?_
       refine KT.step rfl rfl (K.call2 rfl rfl plainTry_20 (same20 (resD_mat (e := rsE Z s) (n := Z.length) (a := resM Z.length s.toNat (tightM Z.length (zf Z)))) (resD_mat (e := rsE (rsZ Z s) s) (n := (rsZ Z s).length) (a := resM (rsZ Z s).length s.toNat (tightM (rsZ Z s).length (zf (rsZ Z s))))) (resZ_len (kz.1) _).1 (resZ_len (kz.1) _).2)) ?_
       refine KT.step rfl rfl (K.not rfl) ?_
       refine KT.step rfl rfl (K.pick rfl (fun _ => rfl) (fun h => by cases h)) ?_
       refine KT.step rfl rfl (K.move rfl) ?_
       refine KT.bcase (fun hb84 => ?_) (fun hb84 => ?_)
       ·skip
        rw [Bool.not_eq_true'] at hb84
        exact absurd (hs.1 hb78).symm (of_decide_eq_false hb84)
       ·skip
        refine KT.step rfl rfl (K.move rfl) ?_
        refine KT.step rfl rfl (K.neq rfl rfl) ?_
        refine KT.step rfl rfl (K.move rfl) ?_
        refine KT.bcase (fun hb87 => ?_) (fun hb87 => ?_)
        ·skip
         exact absurd hb78 (of_decide_eq_true hb87)
        ·skip
         replace hb87 := of_decide_eq_false hb87
         refine KT.skip rfl rfl ?_
         refine KT.skip rfl rfl ?_
         refine KT.step rfl rfl (K.pick rfl (fun h => by cases h) (fun _ => rfl)) ?_
         refine KT.step rfl rfl (K.pick rfl (fun h => by cases h) (fun _ => rfl)) ?_
         refine KT.nil ?_
         refine thenK_n ?_
         refine KC.cond rfl (fun hc91 => ?_) (fun hc91 => ?_)
         ·cases hc91
         ·skip
          refine KC.skip ?_
          refine thenK_n ?_
          refine KC.seq ?_
          refine KC.drawV Try.mixed (i1 := 14) (j1 := 16) (i2 := 15) (j2 := 17) (t1 := 15) (t2 := 16) (s1 := 98) (s2 := 105) (c1 := [.d (DI gi), .d (DI gj), .d (DI gb)]) (c2 := [.d (DI hi), .d (DI hj), .d (DI hb)]) (C := fun k => if k = 16 then [.d (DI gi), .d (DI gj), .d (DI gb)] else [.d (DI hi), .d (DI hj), .d (DI hb)]) ⟨38, _, _, _, rfl, rfl, rfl, rfl, Try.zero38, rfl, rfl, rfl, rfl, rfl, Try.size38, rfl⟩ ⟨38, _, _, _, rfl, rfl, rfl, rfl, Try.zero38, rfl, rfl, rfl, rfl, rfl, Try.size38, rfl⟩ rfl rfl (by decide) (by kernel_rfl) ?_
          refine KTV.read rfl rfl (K.fieldAddrO rfl Try.fld36_0 Try.size3) (by decide) ?_
          refine KTV.read rfl rfl (K.loadO rfl rfl (by simp) rfl Try.agg3) (by decide) ?_
          refine KTV.read rfl rfl (K.fieldAddrO rfl Try.fld36_1 Try.size3) (by decide) ?_
          refine KTV.read rfl rfl (K.loadO rfl rfl (by simp) rfl Try.agg3) (by decide) ?_
          refine KTV.read rfl rfl (K.fieldAddrO rfl Try.fld36_2 Try.size3) (by decide) ?_
          refine KTV.read rfl rfl (K.loadO rfl rfl (by simp) rfl Try.agg3) (by decide) ?_
          refine KTV.read rfl rfl (K.buildL rfl (build38 _ _ _)) (by decide) ?_
          refine KTV.read rfl rfl (K.fieldAddrO rfl Try.fld36_0 Try.size3) (by decide) ?_
          refine KTV.read rfl rfl (K.loadO rfl rfl (by simp) rfl Try.agg3) (by decide) ?_
          refine KTV.read rfl rfl (K.fieldAddrO rfl Try.fld36_1 Try.size3) (by decide) ?_
          refine KTV.read rfl rfl (K.loadO rfl rfl (by simp) rfl Try.agg3) (by decide) ?_
          refine KTV.read rfl rfl (K.fieldAddrO rfl Try.fld36_2 Try.size3) (by decide) ?_
          refine KTV.read rfl rfl (K.loadO rfl rfl (by simp) rfl Try.agg3) (by decide) ?_
          refine KTV.read rfl rfl (K.buildL rfl (build38 _ _ _)) (by decide) ?_
          refine KTV.make rfl ?_
          refine KTV.make rfl ?_
          refine KTV.put rfl rfl rfl rfl ?_
          refine KTV.put rfl rfl rfl rfl ?_
          refine KTV.nil ?_
          refine ⟨by kernel_rfl, fun σ3 p q hp hq hpq x2 x3 v3 l3 => ?_⟩
          have y0 := v3 0 (by simp)
          have y1 := v3 1 (by simp)
          refine thenK_n ?_
          refine KC.seq ?_
          refine KC.draw Try.mixed ?_
          refine KT.step rfl rfl (K.move rfl) ?_
          refine KT.step rfl rfl (K.call1 rfl plainTry_16 (few16 hd hl hr)) ?_
          refine KT.step rfl rfl (K.loadOA ([DI gi, DI gj, DI gb]) rfl x2 (by decide) Try.agg38 Try.size38 rfl) ?_
          refine KT.step rfl rfl (K.call2 rfl rfl plainTry_23 (And23 hmz fz.1 fz.2)) ?_
          refine KT.step rfl rfl (K.move rfl) ?_
          refine KT.step rfl rfl (K.extract rfl rfl) ?_
          refine KT.step rfl rfl (K.extract rfl rfl) ?_
          refine KT.step rfl rfl (K.assign rfl) ?_
          refine KT.step rfl rfl (K.assign rfl) ?_
          refine KT.nil ?_
          refine ⟨by kernel_rfl, ?_⟩
          refine thenK_n ?_
          refine KC.seq ?_
          refine KC.draw Try.mixed ?_
          refine KT.step rfl rfl (K.move rfl) ?_
          refine KT.step rfl rfl (K.call1 rfl plainTry_16 (few16 hd hl hr)) ?_
          refine KT.step rfl rfl (K.loadOA ([DI hi, DI hj, DI hb]) rfl x3 (by decide) Try.agg38 Try.size38 rfl) ?_
          refine KT.step rfl rfl (K.call2 rfl rfl plainTry_23 (And23 hmz fz.1 fz.2)) ?_
          refine KT.step rfl rfl (K.move rfl) ?_
          refine KT.step rfl rfl (K.extract rfl rfl) ?_
          refine KT.step rfl rfl (K.extract rfl rfl) ?_
          refine KT.step rfl rfl (K.assign rfl) ?_
          refine KT.step rfl rfl (K.assign rfl) ?_
          refine KT.nil ?_
          refine ⟨by kernel_rfl, ?_⟩
          refine thenK_n ?_
          refine KC.seq ?_
          refine KC.seq ?_
          refine KC.region ?_
          refine KT.step rfl rfl (K.move rfl) ?_
          refine KT.step rfl rfl (K.neq rfl rfl) ?_
          refine KT.step rfl rfl (K.move rfl) ?_
          refine KT.bcase (fun hb122 => ?_) (fun hb122 => ?_)
          ·skip
           replace hb122 := of_decide_eq_true hb122
           refine KT.skip rfl rfl ?_
           refine KT.skip rfl rfl ?_
           refine KT.step rfl rfl (K.pick rfl (fun _ => rfl) (fun h => by cases h)) ?_
           refine KT.step rfl rfl (K.move rfl) ?_
           refine KT.skip rfl rfl ?_
           refine KT.skip rfl rfl ?_
           refine KT.skip rfl rfl ?_
           refine KT.step rfl rfl (K.pick rfl (fun _ => rfl) (fun h => by cases h)) ?_
           refine KT.step rfl rfl (K.move rfl) ?_
           refine KT.skip rfl rfl ?_
           refine KT.skip rfl rfl ?_
           refine KT.skip rfl rfl ?_
           refine KT.step rfl rfl (K.pick rfl (fun _ => rfl) (fun h => by cases h)) ?_
           refine KT.nil ?_
           refine thenK_n ?_
           refine KC.cond rfl (fun hc135 => ?_) (fun hc135 => ?_)
           ·skip
            refine KC.seq ?_
            refine KC.region ?_
            refine KT.step rfl rfl (K.move rfl) ?_
            refine KT.step rfl rfl (K.neq rfl rfl) ?_
            refine KT.step rfl rfl (K.move rfl) ?_
            refine KT.bcase (fun hb138 => ?_) (fun hb138 => ?_)
            ·skip
             replace hb138 := of_decide_eq_true hb138
             refine KT.step rfl rfl (K.move rfl) ?_
             refine KT.step rfl rfl (K.neq rfl rfl) ?_
             refine KT.step rfl rfl (K.pick rfl (fun _ => rfl) (fun h => by cases h)) ?_
             refine KT.step rfl rfl (K.move rfl) ?_
             refine KT.bcase (fun hb142 => ?_) (fun hb142 => ?_)
             ·skip
              replace hb142 := of_decide_eq_true hb142
              refine KT.skip rfl rfl ?_
              refine KT.skip rfl rfl ?_
              refine KT.skip rfl rfl ?_
              refine KT.skip rfl rfl ?_
              refine KT.step rfl rfl (K.pick rfl (fun _ => rfl) (fun h => by cases h)) ?_
              refine KT.step rfl rfl (K.move rfl) ?_
              refine KT.skip rfl rfl ?_
              refine KT.skip rfl rfl ?_
              refine KT.skip rfl rfl ?_
              refine KT.skip rfl rfl ?_
              refine KT.step rfl rfl (K.pick rfl (fun _ => rfl) (fun h => by cases h)) ?_
              refine KT.step rfl rfl (K.move rfl) ?_
              refine KT.step rfl rfl (K.call0 plainTry_21 (awake21)) ?_
              refine KT.step rfl rfl (K.pick rfl (fun _ => rfl) (fun h => by cases h)) ?_
              refine KT.step rfl rfl (K.assign rfl) ?_
              refine KT.nil ?_
              refine thenK_n ?_
              refine KC.ret ?_
              refine thenK_r ?_
              exact ⟨.inl rfl, _, rfl, rfl⟩
             ·skip
              replace hb142 := of_decide_eq_false hb142
              refine KT.step rfl rfl (K.move rfl) ?_
              refine KT.step rfl rfl (K.loadOA ([DI gi, DI gj, DI gb]) rfl y0 (by decide) Try.agg36 Try.size36 rfl) ?_
              refine KT.step rfl rfl (K.call2 rfl rfl plainTry_49 (Clock49 hd hl hr)) ?_
              refine KT.step rfl rfl (K.not rfl) ?_
              refine KT.step rfl rfl (K.pick rfl (fun h => by cases h) (fun _ => rfl)) ?_
              refine KT.step rfl rfl (K.move rfl) ?_
              refine KT.bcase (fun hb148 => ?_) (fun hb148 => ?_)
              ·skip
               refine KT.skip rfl rfl ?_
               refine KT.skip rfl rfl ?_
               refine KT.skip rfl rfl ?_
               refine KT.skip rfl rfl ?_
               refine KT.step rfl rfl (K.pick rfl (fun _ => rfl) (fun h => by cases h)) ?_
               refine KT.step rfl rfl (K.move rfl) ?_
               refine KT.step rfl rfl (K.call0 plainTry_21 (awake21)) ?_
               refine KT.step rfl rfl (K.pick rfl (fun _ => rfl) (fun h => by cases h)) ?_
               refine KT.step rfl rfl (K.assign rfl) ?_
               refine KT.nil ?_
               refine thenK_n ?_
               refine KC.ret ?_
               refine thenK_r ?_
               exact ⟨.inl rfl, _, rfl, rfl⟩
              ·skip
               refine KT.step rfl rfl (K.move rfl) ?_
               refine KT.step rfl rfl (K.loadOA ([DI hi, DI hj, DI hb]) rfl y1 (by decide) Try.agg36 Try.size36 rfl) ?_
               refine KT.step rfl rfl (K.call2 rfl rfl plainTry_49 (Clock49 hd hl hr)) ?_
               refine KT.step rfl rfl (K.not rfl) ?_
               refine KT.step rfl rfl (K.pick rfl (fun h => by cases h) (fun _ => rfl)) ?_
               refine KT.step rfl rfl (K.move rfl) ?_
               refine KT.bcase (fun hb154 => ?_) (fun hb154 => ?_)
               ·skip
                refine KT.step rfl rfl (K.call0 plainTry_21 (awake21)) ?_
                refine KT.step rfl rfl (K.pick rfl (fun _ => rfl) (fun h => by cases h)) ?_
                refine KT.step rfl rfl (K.assign rfl) ?_
                refine KT.nil ?_
                refine thenK_n ?_
                refine KC.ret ?_
                refine thenK_r ?_
                exact ⟨.inl rfl, _, rfl, rfl⟩
               ·skip
                rw [Bool.not_eq_false'] at hb148 hb154
                rw [← hzZ] at hb148 hb154
                exact absurd (anE_two hb154 hv) hb142
            ·skip
             replace hb138 := of_decide_eq_false hb138
             refine KT.skip rfl rfl ?_
             refine KT.skip rfl rfl ?_
             refine KT.step rfl rfl (K.pick rfl (fun h => by cases h) (fun _ => rfl)) ?_
             refine KT.step rfl rfl (K.move rfl) ?_
             refine KT.step rfl rfl (K.move rfl) ?_
             refine KT.step rfl rfl (K.loadOA ([DI gi, DI gj, DI gb]) rfl y0 (by decide) Try.agg36 Try.size36 rfl) ?_
             refine KT.step rfl rfl (K.call2 rfl rfl plainTry_49 (Clock49 hd hl hr)) ?_
             refine KT.step rfl rfl (K.not rfl) ?_
             refine KT.step rfl rfl (K.pick rfl (fun h => by cases h) (fun _ => rfl)) ?_
             refine KT.step rfl rfl (K.move rfl) ?_
             refine KT.bcase (fun hb148 => ?_) (fun hb148 => ?_)
             ·skip
              refine KT.skip rfl rfl ?_
              refine KT.skip rfl rfl ?_
              refine KT.skip rfl rfl ?_
              refine KT.skip rfl rfl ?_
              refine KT.step rfl rfl (K.pick rfl (fun _ => rfl) (fun h => by cases h)) ?_
              refine KT.step rfl rfl (K.move rfl) ?_
              refine KT.step rfl rfl (K.call0 plainTry_21 (awake21)) ?_
              refine KT.step rfl rfl (K.pick rfl (fun _ => rfl) (fun h => by cases h)) ?_
              refine KT.step rfl rfl (K.assign rfl) ?_
              refine KT.nil ?_
              refine thenK_n ?_
              refine KC.ret ?_
              refine thenK_r ?_
              exact ⟨.inl rfl, _, rfl, rfl⟩
             ·skip
              refine KT.step rfl rfl (K.move rfl) ?_
              refine KT.step rfl rfl (K.loadOA ([DI hi, DI hj, DI hb]) rfl y1 (by decide) Try.agg36 Try.size36 rfl) ?_
              refine KT.step rfl rfl (K.call2 rfl rfl plainTry_49 (Clock49 hd hl hr)) ?_
              refine KT.step rfl rfl (K.not rfl) ?_
              refine KT.step rfl rfl (K.pick rfl (fun h => by cases h) (fun _ => rfl)) ?_
              refine KT.step rfl rfl (K.move rfl) ?_
              refine KT.bcase (fun hb154 => ?_) (fun hb154 => ?_)
              ·skip
               refine KT.step rfl rfl (K.call0 plainTry_21 (awake21)) ?_
               refine KT.step rfl rfl (K.pick rfl (fun _ => rfl) (fun h => by cases h)) ?_
               refine KT.step rfl rfl (K.assign rfl) ?_
               refine KT.nil ?_
               refine thenK_n ?_
               refine KC.ret ?_
               refine thenK_r ?_
               exact ⟨.inl rfl, _, rfl, rfl⟩
              ·skip
               rw [Bool.not_eq_false'] at hb148 hb154
               rw [← hzZ] at hb148 hb154
               exact absurd (anE_two hb148 hv) hb138
           ·cases hc135
          ·skip
           replace hb122 := of_decide_eq_false hb122
           refine KT.step rfl rfl (K.move rfl) ?_
           refine KT.step rfl rfl (K.neq rfl rfl) ?_
           refine KT.step rfl rfl (K.pick rfl (fun h => by cases h) (fun _ => rfl)) ?_
           refine KT.step rfl rfl (K.move rfl) ?_
           refine KT.bcase (fun hb126 => ?_) (fun hb126 => ?_)
           ·skip
            replace hb126 := of_decide_eq_true hb126
            refine KT.skip rfl rfl ?_
            refine KT.skip rfl rfl ?_
            refine KT.skip rfl rfl ?_
            refine KT.step rfl rfl (K.pick rfl (fun _ => rfl) (fun h => by cases h)) ?_
            refine KT.step rfl rfl (K.move rfl) ?_
            refine KT.skip rfl rfl ?_
            refine KT.skip rfl rfl ?_
            refine KT.skip rfl rfl ?_
            refine KT.step rfl rfl (K.pick rfl (fun _ => rfl) (fun h => by cases h)) ?_
            refine KT.nil ?_
            refine thenK_n ?_
            refine KC.cond rfl (fun hc135 => ?_) (fun hc135 => ?_)
            ·skip
             refine KC.seq ?_
             refine KC.region ?_
             refine KT.step rfl rfl (K.move rfl) ?_
             refine KT.step rfl rfl (K.neq rfl rfl) ?_
             refine KT.step rfl rfl (K.move rfl) ?_
             refine KT.bcase (fun hb138 => ?_) (fun hb138 => ?_)
             ·skip
              replace hb138 := of_decide_eq_true hb138
              refine KT.step rfl rfl (K.move rfl) ?_
              refine KT.step rfl rfl (K.neq rfl rfl) ?_
              refine KT.step rfl rfl (K.pick rfl (fun _ => rfl) (fun h => by cases h)) ?_
              refine KT.step rfl rfl (K.move rfl) ?_
              refine KT.bcase (fun hb142 => ?_) (fun hb142 => ?_)
              ·skip
               replace hb142 := of_decide_eq_true hb142
               refine KT.skip rfl rfl ?_
               refine KT.skip rfl rfl ?_
               refine KT.skip rfl rfl ?_
               refine KT.skip rfl rfl ?_
               refine KT.step rfl rfl (K.pick rfl (fun _ => rfl) (fun h => by cases h)) ?_
               refine KT.step rfl rfl (K.move rfl) ?_
               refine KT.skip rfl rfl ?_
               refine KT.skip rfl rfl ?_
               refine KT.skip rfl rfl ?_
               refine KT.skip rfl rfl ?_
               refine KT.step rfl rfl (K.pick rfl (fun _ => rfl) (fun h => by cases h)) ?_
               refine KT.step rfl rfl (K.move rfl) ?_
               refine KT.step rfl rfl (K.call0 plainTry_21 (awake21)) ?_
               refine KT.step rfl rfl (K.pick rfl (fun _ => rfl) (fun h => by cases h)) ?_
               refine KT.step rfl rfl (K.assign rfl) ?_
               refine KT.nil ?_
               refine thenK_n ?_
               refine KC.ret ?_
               refine thenK_r ?_
               exact ⟨.inl rfl, _, rfl, rfl⟩
              ·skip
               replace hb142 := of_decide_eq_false hb142
               refine KT.step rfl rfl (K.move rfl) ?_
               refine KT.step rfl rfl (K.loadOA ([DI gi, DI gj, DI gb]) rfl y0 (by decide) Try.agg36 Try.size36 rfl) ?_
               refine KT.step rfl rfl (K.call2 rfl rfl plainTry_49 (Clock49 hd hl hr)) ?_
               refine KT.step rfl rfl (K.not rfl) ?_
               refine KT.step rfl rfl (K.pick rfl (fun h => by cases h) (fun _ => rfl)) ?_
               refine KT.step rfl rfl (K.move rfl) ?_
               refine KT.bcase (fun hb148 => ?_) (fun hb148 => ?_)
               ·skip
                refine KT.skip rfl rfl ?_
                refine KT.skip rfl rfl ?_
                refine KT.skip rfl rfl ?_
                refine KT.skip rfl rfl ?_
                refine KT.step rfl rfl (K.pick rfl (fun _ => rfl) (fun h => by cases h)) ?_
                refine KT.step rfl rfl (K.move rfl) ?_
                refine KT.step rfl rfl (K.call0 plainTry_21 (awake21)) ?_
                refine KT.step rfl rfl (K.pick rfl (fun _ => rfl) (fun h => by cases h)) ?_
                refine KT.step rfl rfl (K.assign rfl) ?_
                refine KT.nil ?_
                refine thenK_n ?_
                refine KC.ret ?_
                refine thenK_r ?_
                exact ⟨.inl rfl, _, rfl, rfl⟩
               ·skip
                refine KT.step rfl rfl (K.move rfl) ?_
                refine KT.step rfl rfl (K.loadOA ([DI hi, DI hj, DI hb]) rfl y1 (by decide) Try.agg36 Try.size36 rfl) ?_
                refine KT.step rfl rfl (K.call2 rfl rfl plainTry_49 (Clock49 hd hl hr)) ?_
                refine KT.step rfl rfl (K.not rfl) ?_
                refine KT.step rfl rfl (K.pick rfl (fun h => by cases h) (fun _ => rfl)) ?_
                refine KT.step rfl rfl (K.move rfl) ?_
                refine KT.bcase (fun hb154 => ?_) (fun hb154 => ?_)
                ·skip
                 refine KT.step rfl rfl (K.call0 plainTry_21 (awake21)) ?_
                 refine KT.step rfl rfl (K.pick rfl (fun _ => rfl) (fun h => by cases h)) ?_
                 refine KT.step rfl rfl (K.assign rfl) ?_
                 refine KT.nil ?_
                 refine thenK_n ?_
                 refine KC.ret ?_
                 refine thenK_r ?_
                 exact ⟨.inl rfl, _, rfl, rfl⟩
                ·skip
                 rw [Bool.not_eq_false'] at hb148 hb154
                 rw [← hzZ] at hb148 hb154
                 exact absurd (anE_two hb154 hv) hb142
             ·skip
              replace hb138 := of_decide_eq_false hb138
              refine KT.skip rfl rfl ?_
              refine KT.skip rfl rfl ?_
              refine KT.step rfl rfl (K.pick rfl (fun h => by cases h) (fun _ => rfl)) ?_
              refine KT.step rfl rfl (K.move rfl) ?_
              refine KT.step rfl rfl (K.move rfl) ?_
              refine KT.step rfl rfl (K.loadOA ([DI gi, DI gj, DI gb]) rfl y0 (by decide) Try.agg36 Try.size36 rfl) ?_
              refine KT.step rfl rfl (K.call2 rfl rfl plainTry_49 (Clock49 hd hl hr)) ?_
              refine KT.step rfl rfl (K.not rfl) ?_
              refine KT.step rfl rfl (K.pick rfl (fun h => by cases h) (fun _ => rfl)) ?_
              refine KT.step rfl rfl (K.move rfl) ?_
              refine KT.bcase (fun hb148 => ?_) (fun hb148 => ?_)
              ·skip
               refine KT.skip rfl rfl ?_
               refine KT.skip rfl rfl ?_
               refine KT.skip rfl rfl ?_
               refine KT.skip rfl rfl ?_
               refine KT.step rfl rfl (K.pick rfl (fun _ => rfl) (fun h => by cases h)) ?_
               refine KT.step rfl rfl (K.move rfl) ?_
               refine KT.step rfl rfl (K.call0 plainTry_21 (awake21)) ?_
               refine KT.step rfl rfl (K.pick rfl (fun _ => rfl) (fun h => by cases h)) ?_
               refine KT.step rfl rfl (K.assign rfl) ?_
               refine KT.nil ?_
               refine thenK_n ?_
               refine KC.ret ?_
               refine thenK_r ?_
               exact ⟨.inl rfl, _, rfl, rfl⟩
              ·skip
               refine KT.step rfl rfl (K.move rfl) ?_
               refine KT.step rfl rfl (K.loadOA ([DI hi, DI hj, DI hb]) rfl y1 (by decide) Try.agg36 Try.size36 rfl) ?_
               refine KT.step rfl rfl (K.call2 rfl rfl plainTry_49 (Clock49 hd hl hr)) ?_
               refine KT.step rfl rfl (K.not rfl) ?_
               refine KT.step rfl rfl (K.pick rfl (fun h => by cases h) (fun _ => rfl)) ?_
               refine KT.step rfl rfl (K.move rfl) ?_
               refine KT.bcase (fun hb154 => ?_) (fun hb154 => ?_)
               ·skip
                refine KT.step rfl rfl (K.call0 plainTry_21 (awake21)) ?_
                refine KT.step rfl rfl (K.pick rfl (fun _ => rfl) (fun h => by cases h)) ?_
                refine KT.step rfl rfl (K.assign rfl) ?_
                refine KT.nil ?_
                refine thenK_n ?_
                refine KC.ret ?_
                refine thenK_r ?_
                exact ⟨.inl rfl, _, rfl, rfl⟩
               ·skip
                rw [Bool.not_eq_false'] at hb148 hb154
                rw [← hzZ] at hb148 hb154
                exact absurd (anE_two hb148 hv) hb138
            ·cases hc135
           ·skip
            replace hb126 := of_decide_eq_false hb126
            refine KT.step rfl rfl (K.move rfl) ?_
            refine KT.step rfl rfl (K.call1 rfl plainTry_36 (Valid36 (z := anZ Z gi gj gb) (resD_mat (e := anE (Z) gi gj gb) (n := (Z).length) (a := tightM (Z).length (andM (Z) gi.toNat gj.toNat gb))) (resZ_len (kz.1) _).1 (resZ_len (kz.1) _).2)) ?_
            refine KT.step rfl rfl (K.not rfl) ?_
            refine KT.step rfl rfl (K.pick rfl (fun h => by cases h) (fun _ => rfl)) ?_
            refine KT.step rfl rfl (K.move rfl) ?_
            refine KT.bcase (fun hb131 => ?_) (fun hb131 => ?_)
            ·skip
             refine KT.skip rfl rfl ?_
             refine KT.skip rfl rfl ?_
             refine KT.skip rfl rfl ?_
             refine KT.step rfl rfl (K.pick rfl (fun _ => rfl) (fun h => by cases h)) ?_
             refine KT.nil ?_
             refine thenK_n ?_
             refine KC.cond rfl (fun hc135 => ?_) (fun hc135 => ?_)
             ·skip
              refine KC.seq ?_
              refine KC.region ?_
              refine KT.step rfl rfl (K.move rfl) ?_
              refine KT.step rfl rfl (K.neq rfl rfl) ?_
              refine KT.step rfl rfl (K.move rfl) ?_
              refine KT.bcase (fun hb138 => ?_) (fun hb138 => ?_)
              ·skip
               replace hb138 := of_decide_eq_true hb138
               refine KT.step rfl rfl (K.move rfl) ?_
               refine KT.step rfl rfl (K.neq rfl rfl) ?_
               refine KT.step rfl rfl (K.pick rfl (fun _ => rfl) (fun h => by cases h)) ?_
               refine KT.step rfl rfl (K.move rfl) ?_
               refine KT.bcase (fun hb142 => ?_) (fun hb142 => ?_)
               ·skip
                replace hb142 := of_decide_eq_true hb142
                refine KT.skip rfl rfl ?_
                refine KT.skip rfl rfl ?_
                refine KT.skip rfl rfl ?_
                refine KT.skip rfl rfl ?_
                refine KT.step rfl rfl (K.pick rfl (fun _ => rfl) (fun h => by cases h)) ?_
                refine KT.step rfl rfl (K.move rfl) ?_
                refine KT.skip rfl rfl ?_
                refine KT.skip rfl rfl ?_
                refine KT.skip rfl rfl ?_
                refine KT.skip rfl rfl ?_
                refine KT.step rfl rfl (K.pick rfl (fun _ => rfl) (fun h => by cases h)) ?_
                refine KT.step rfl rfl (K.move rfl) ?_
                refine KT.step rfl rfl (K.call0 plainTry_21 (awake21)) ?_
                refine KT.step rfl rfl (K.pick rfl (fun _ => rfl) (fun h => by cases h)) ?_
                refine KT.step rfl rfl (K.assign rfl) ?_
                refine KT.nil ?_
                refine thenK_n ?_
                refine KC.ret ?_
                refine thenK_r ?_
                exact ⟨.inl rfl, _, rfl, rfl⟩
               ·skip
                replace hb142 := of_decide_eq_false hb142
                refine KT.step rfl rfl (K.move rfl) ?_
                refine KT.step rfl rfl (K.loadOA ([DI gi, DI gj, DI gb]) rfl y0 (by decide) Try.agg36 Try.size36 rfl) ?_
                refine KT.step rfl rfl (K.call2 rfl rfl plainTry_49 (Clock49 hd hl hr)) ?_
                refine KT.step rfl rfl (K.not rfl) ?_
                refine KT.step rfl rfl (K.pick rfl (fun h => by cases h) (fun _ => rfl)) ?_
                refine KT.step rfl rfl (K.move rfl) ?_
                refine KT.bcase (fun hb148 => ?_) (fun hb148 => ?_)
                ·skip
                 refine KT.skip rfl rfl ?_
                 refine KT.skip rfl rfl ?_
                 refine KT.skip rfl rfl ?_
                 refine KT.skip rfl rfl ?_
                 refine KT.step rfl rfl (K.pick rfl (fun _ => rfl) (fun h => by cases h)) ?_
                 refine KT.step rfl rfl (K.move rfl) ?_
                 refine KT.step rfl rfl (K.call0 plainTry_21 (awake21)) ?_
                 refine KT.step rfl rfl (K.pick rfl (fun _ => rfl) (fun h => by cases h)) ?_
                 refine KT.step rfl rfl (K.assign rfl) ?_
                 refine KT.nil ?_
                 refine thenK_n ?_
                 refine KC.ret ?_
                 refine thenK_r ?_
                 exact ⟨.inl rfl, _, rfl, rfl⟩
                ·skip
                 refine KT.step rfl rfl (K.move rfl) ?_
                 refine KT.step rfl rfl (K.loadOA ([DI hi, DI hj, DI hb]) rfl y1 (by decide) Try.agg36 Try.size36 rfl) ?_
                 refine KT.step rfl rfl (K.call2 rfl rfl plainTry_49 (Clock49 hd hl hr)) ?_
                 refine KT.step rfl rfl (K.not rfl) ?_
                 refine KT.step rfl rfl (K.pick rfl (fun h => by cases h) (fun _ => rfl)) ?_
                 refine KT.step rfl rfl (K.move rfl) ?_
                 refine KT.bcase (fun hb154 => ?_) (fun hb154 => ?_)
                 ·skip
                  refine KT.step rfl rfl (K.call0 plainTry_21 (awake21)) ?_
                  refine KT.step rfl rfl (K.pick rfl (fun _ => rfl) (fun h => by cases h)) ?_
                  refine KT.step rfl rfl (K.assign rfl) ?_
                  refine KT.nil ?_
                  refine thenK_n ?_
                  refine KC.ret ?_
                  refine thenK_r ?_
                  exact ⟨.inl rfl, _, rfl, rfl⟩
                 ·skip
                  rw [Bool.not_eq_false'] at hb148 hb154
                  rw [← hzZ] at hb148 hb154
                  exact absurd (anE_two hb154 hv) hb142
              ·skip
               replace hb138 := of_decide_eq_false hb138
               refine KT.skip rfl rfl ?_
               refine KT.skip rfl rfl ?_
               refine KT.step rfl rfl (K.pick rfl (fun h => by cases h) (fun _ => rfl)) ?_
               refine KT.step rfl rfl (K.move rfl) ?_
               refine KT.step rfl rfl (K.move rfl) ?_
               refine KT.step rfl rfl (K.loadOA ([DI gi, DI gj, DI gb]) rfl y0 (by decide) Try.agg36 Try.size36 rfl) ?_
               refine KT.step rfl rfl (K.call2 rfl rfl plainTry_49 (Clock49 hd hl hr)) ?_
               refine KT.step rfl rfl (K.not rfl) ?_
               refine KT.step rfl rfl (K.pick rfl (fun h => by cases h) (fun _ => rfl)) ?_
               refine KT.step rfl rfl (K.move rfl) ?_
               refine KT.bcase (fun hb148 => ?_) (fun hb148 => ?_)
               ·skip
                refine KT.skip rfl rfl ?_
                refine KT.skip rfl rfl ?_
                refine KT.skip rfl rfl ?_
                refine KT.skip rfl rfl ?_
                refine KT.step rfl rfl (K.pick rfl (fun _ => rfl) (fun h => by cases h)) ?_
                refine KT.step rfl rfl (K.move rfl) ?_
                refine KT.step rfl rfl (K.call0 plainTry_21 (awake21)) ?_
                refine KT.step rfl rfl (K.pick rfl (fun _ => rfl) (fun h => by cases h)) ?_
                refine KT.step rfl rfl (K.assign rfl) ?_
                refine KT.nil ?_
                refine thenK_n ?_
                refine KC.ret ?_
                refine thenK_r ?_
                exact ⟨.inl rfl, _, rfl, rfl⟩
               ·skip
                refine KT.step rfl rfl (K.move rfl) ?_
                refine KT.step rfl rfl (K.loadOA ([DI hi, DI hj, DI hb]) rfl y1 (by decide) Try.agg36 Try.size36 rfl) ?_
                refine KT.step rfl rfl (K.call2 rfl rfl plainTry_49 (Clock49 hd hl hr)) ?_
                refine KT.step rfl rfl (K.not rfl) ?_
                refine KT.step rfl rfl (K.pick rfl (fun h => by cases h) (fun _ => rfl)) ?_
                refine KT.step rfl rfl (K.move rfl) ?_
                refine KT.bcase (fun hb154 => ?_) (fun hb154 => ?_)
                ·skip
                 refine KT.step rfl rfl (K.call0 plainTry_21 (awake21)) ?_
                 refine KT.step rfl rfl (K.pick rfl (fun _ => rfl) (fun h => by cases h)) ?_
                 refine KT.step rfl rfl (K.assign rfl) ?_
                 refine KT.nil ?_
                 refine thenK_n ?_
                 refine KC.ret ?_
                 refine thenK_r ?_
                 exact ⟨.inl rfl, _, rfl, rfl⟩
                ·skip
                 rw [Bool.not_eq_false'] at hb148 hb154
                 rw [← hzZ] at hb148 hb154
                 exact absurd (anE_two hb148 hv) hb138
             ·cases hc135
            ·skip
             refine KT.step rfl rfl (K.move rfl) ?_
             refine KT.step rfl rfl (K.call1 rfl plainTry_36 (Valid36 (z := anZ Z hi hj hb) (resD_mat (e := anE (Z) hi hj hb) (n := (Z).length) (a := tightM (Z).length (andM (Z) hi.toNat hj.toNat hb))) (resZ_len (kz.1) _).1 (resZ_len (kz.1) _).2)) ?_
             refine KT.step rfl rfl (K.not rfl) ?_
             refine KT.step rfl rfl (K.pick rfl (fun h => by cases h) (fun _ => rfl)) ?_
             refine KT.nil ?_
             refine thenK_n ?_
             refine KC.cond rfl (fun hc135 => ?_) (fun hc135 => ?_)
             ·skip
              refine KC.seq ?_
              refine KC.region ?_
              refine KT.step rfl rfl (K.move rfl) ?_
              refine KT.step rfl rfl (K.neq rfl rfl) ?_
              refine KT.step rfl rfl (K.move rfl) ?_
              refine KT.bcase (fun hb138 => ?_) (fun hb138 => ?_)
              ·skip
               replace hb138 := of_decide_eq_true hb138
               refine KT.step rfl rfl (K.move rfl) ?_
               refine KT.step rfl rfl (K.neq rfl rfl) ?_
               refine KT.step rfl rfl (K.pick rfl (fun _ => rfl) (fun h => by cases h)) ?_
               refine KT.step rfl rfl (K.move rfl) ?_
               refine KT.bcase (fun hb142 => ?_) (fun hb142 => ?_)
               ·skip
                replace hb142 := of_decide_eq_true hb142
                refine KT.skip rfl rfl ?_
                refine KT.skip rfl rfl ?_
                refine KT.skip rfl rfl ?_
                refine KT.skip rfl rfl ?_
                refine KT.step rfl rfl (K.pick rfl (fun _ => rfl) (fun h => by cases h)) ?_
                refine KT.step rfl rfl (K.move rfl) ?_
                refine KT.skip rfl rfl ?_
                refine KT.skip rfl rfl ?_
                refine KT.skip rfl rfl ?_
                refine KT.skip rfl rfl ?_
                refine KT.step rfl rfl (K.pick rfl (fun _ => rfl) (fun h => by cases h)) ?_
                refine KT.step rfl rfl (K.move rfl) ?_
                refine KT.step rfl rfl (K.call0 plainTry_21 (awake21)) ?_
                refine KT.step rfl rfl (K.pick rfl (fun _ => rfl) (fun h => by cases h)) ?_
                refine KT.step rfl rfl (K.assign rfl) ?_
                refine KT.nil ?_
                refine thenK_n ?_
                refine KC.ret ?_
                refine thenK_r ?_
                exact ⟨.inl rfl, _, rfl, rfl⟩
               ·skip
                replace hb142 := of_decide_eq_false hb142
                refine KT.step rfl rfl (K.move rfl) ?_
                refine KT.step rfl rfl (K.loadOA ([DI gi, DI gj, DI gb]) rfl y0 (by decide) Try.agg36 Try.size36 rfl) ?_
                refine KT.step rfl rfl (K.call2 rfl rfl plainTry_49 (Clock49 hd hl hr)) ?_
                refine KT.step rfl rfl (K.not rfl) ?_
                refine KT.step rfl rfl (K.pick rfl (fun h => by cases h) (fun _ => rfl)) ?_
                refine KT.step rfl rfl (K.move rfl) ?_
                refine KT.bcase (fun hb148 => ?_) (fun hb148 => ?_)
                ·skip
                 refine KT.skip rfl rfl ?_
                 refine KT.skip rfl rfl ?_
                 refine KT.skip rfl rfl ?_
                 refine KT.skip rfl rfl ?_
                 refine KT.step rfl rfl (K.pick rfl (fun _ => rfl) (fun h => by cases h)) ?_
                 refine KT.step rfl rfl (K.move rfl) ?_
                 refine KT.step rfl rfl (K.call0 plainTry_21 (awake21)) ?_
                 refine KT.step rfl rfl (K.pick rfl (fun _ => rfl) (fun h => by cases h)) ?_
                 refine KT.step rfl rfl (K.assign rfl) ?_
                 refine KT.nil ?_
                 refine thenK_n ?_
                 refine KC.ret ?_
                 refine thenK_r ?_
                 exact ⟨.inl rfl, _, rfl, rfl⟩
                ·skip
                 refine KT.step rfl rfl (K.move rfl) ?_
                 refine KT.step rfl rfl (K.loadOA ([DI hi, DI hj, DI hb]) rfl y1 (by decide) Try.agg36 Try.size36 rfl) ?_
                 refine KT.step rfl rfl (K.call2 rfl rfl plainTry_49 (Clock49 hd hl hr)) ?_
                 refine KT.step rfl rfl (K.not rfl) ?_
                 refine KT.step rfl rfl (K.pick rfl (fun h => by cases h) (fun _ => rfl)) ?_
                 refine KT.step rfl rfl (K.move rfl) ?_
                 refine KT.bcase (fun hb154 => ?_) (fun hb154 => ?_)
                 ·skip
                  refine KT.step rfl rfl (K.call0 plainTry_21 (awake21)) ?_
                  refine KT.step rfl rfl (K.pick rfl (fun _ => rfl) (fun h => by cases h)) ?_
                  refine KT.step rfl rfl (K.assign rfl) ?_
                  refine KT.nil ?_
                  refine thenK_n ?_
                  refine KC.ret ?_
                  refine thenK_r ?_
                  exact ⟨.inl rfl, _, rfl, rfl⟩
                 ·skip
                  rw [Bool.not_eq_false'] at hb148 hb154
                  rw [← hzZ] at hb148 hb154
                  exact absurd (anE_two hb154 hv) hb142
              ·skip
               replace hb138 := of_decide_eq_false hb138
               refine KT.skip rfl rfl ?_
               refine KT.skip rfl rfl ?_
               refine KT.step rfl rfl (K.pick rfl (fun h => by cases h) (fun _ => rfl)) ?_
               refine KT.step rfl rfl (K.move rfl) ?_
               refine KT.step rfl rfl (K.move rfl) ?_
               refine KT.step rfl rfl (K.loadOA ([DI gi, DI gj, DI gb]) rfl y0 (by decide) Try.agg36 Try.size36 rfl) ?_
               refine KT.step rfl rfl (K.call2 rfl rfl plainTry_49 (Clock49 hd hl hr)) ?_
               refine KT.step rfl rfl (K.not rfl) ?_
               refine KT.step rfl rfl (K.pick rfl (fun h => by cases h) (fun _ => rfl)) ?_
               refine KT.step rfl rfl (K.move rfl) ?_
               refine KT.bcase (fun hb148 => ?_) (fun hb148 => ?_)
               ·skip
                refine KT.skip rfl rfl ?_
                refine KT.skip rfl rfl ?_
                refine KT.skip rfl rfl ?_
                refine KT.skip rfl rfl ?_
                refine KT.step rfl rfl (K.pick rfl (fun _ => rfl) (fun h => by cases h)) ?_
                refine KT.step rfl rfl (K.move rfl) ?_
                refine KT.step rfl rfl (K.call0 plainTry_21 (awake21)) ?_
                refine KT.step rfl rfl (K.pick rfl (fun _ => rfl) (fun h => by cases h)) ?_
                refine KT.step rfl rfl (K.assign rfl) ?_
                refine KT.nil ?_
                refine thenK_n ?_
                refine KC.ret ?_
                refine thenK_r ?_
                exact ⟨.inl rfl, _, rfl, rfl⟩
               ·skip
                refine KT.step rfl rfl (K.move rfl) ?_
                refine KT.step rfl rfl (K.loadOA ([DI hi, DI hj, DI hb]) rfl y1 (by decide) Try.agg36 Try.size36 rfl) ?_
                refine KT.step rfl rfl (K.call2 rfl rfl plainTry_49 (Clock49 hd hl hr)) ?_
                refine KT.step rfl rfl (K.not rfl) ?_
                refine KT.step rfl rfl (K.pick rfl (fun h => by cases h) (fun _ => rfl)) ?_
                refine KT.step rfl rfl (K.move rfl) ?_
                refine KT.bcase (fun hb154 => ?_) (fun hb154 => ?_)
                ·skip
                 refine KT.step rfl rfl (K.call0 plainTry_21 (awake21)) ?_
                 refine KT.step rfl rfl (K.pick rfl (fun _ => rfl) (fun h => by cases h)) ?_
                 refine KT.step rfl rfl (K.assign rfl) ?_
                 refine KT.nil ?_
                 refine thenK_n ?_
                 refine KC.ret ?_
                 refine thenK_r ?_
                 exact ⟨.inl rfl, _, rfl, rfl⟩
                ·skip
                 rw [Bool.not_eq_false'] at hb148 hb154
                 rw [← hzZ] at hb148 hb154
                 exact absurd (anE_two hb148 hv) hb138
             ·skip
              have a1 := Classical.not_not.1 hb122
              have a2 := Classical.not_not.1 hb126
              rw [Bool.not_eq_false'] at hb131 hc135
              have hx := an_an a1 a2 hb131 hc135
              have hy := an_twice a1 hb131
              refine KC.skip ?_
              refine thenK_n ?_
              refine KC.seq ?_
              refine KC.region ?_
              refine KT.step rfl rfl (K.move rfl) ?_
              refine KT.step rfl rfl (K.loadOA ([DI hi, DI hj, DI hb]) rfl x3 (by decide) Try.agg38 Try.size38 rfl) ?_
              refine KT.step rfl rfl (K.call2 rfl rfl plainTry_23 (And23 (z := anZ Z gi gj gb) (resD_mat (e := anE (Z) gi gj gb) (n := (Z).length) (a := tightM (Z).length (andM (Z) gi.toNat gj.toNat gb))) (resZ_len (kz.1) _).1 (resZ_len (kz.1) _).2)) ?_
              refine KT.step rfl rfl (K.move rfl) ?_
              refine KT.step rfl rfl (K.extract rfl rfl) ?_
              refine KT.step rfl rfl (K.extract rfl rfl) ?_
              refine KT.step rfl rfl (K.assign rfl) ?_
              refine KT.step rfl rfl (K.assign rfl) ?_
              refine KT.nil ?_
              refine thenK_n ?_
              refine KC.seq ?_
              refine KC.region ?_
              refine KT.step rfl rfl (K.move rfl) ?_
              refine KT.step rfl rfl (K.loadOA ([DI gi, DI gj, DI gb]) rfl x2 (by decide) Try.agg38 Try.size38 rfl) ?_
              refine KT.step rfl rfl (K.call2 rfl rfl plainTry_23 (And23 (z := anZ Z hi hj hb) (resD_mat (e := anE (Z) hi hj hb) (n := (Z).length) (a := tightM (Z).length (andM (Z) hi.toNat hj.toNat hb))) (resZ_len (kz.1) _).1 (resZ_len (kz.1) _).2)) ?_
              refine KT.step rfl rfl (K.move rfl) ?_
              refine KT.step rfl rfl (K.extract rfl rfl) ?_
              refine KT.step rfl rfl (K.extract rfl rfl) ?_
              refine KT.step rfl rfl (K.assign rfl) ?_
              refine KT.step rfl rfl (K.assign rfl) ?_
              refine KT.nil ?_
              refine thenK_n ?_
              refine KC.seq ?_
              refine KC.region ?_
              refine KT.step rfl rfl (K.move rfl) ?_
              refine KT.step rfl rfl (K.loadOA ([DI gi, DI gj, DI gb]) rfl x2 (by decide) Try.agg38 Try.size38 rfl) ?_
              refine KT.step rfl rfl (K.call2 rfl rfl plainTry_23 (And23 (z := anZ Z gi gj gb) (resD_mat (e := anE (Z) gi gj gb) (n := (Z).length) (a := tightM (Z).length (andM (Z) gi.toNat gj.toNat gb))) (resZ_len (kz.1) _).1 (resZ_len (kz.1) _).2)) ?_
              refine KT.step rfl rfl (K.move rfl) ?_
              refine KT.step rfl rfl (K.extract rfl rfl) ?_
              refine KT.step rfl rfl (K.extract rfl rfl) ?_
              refine KT.step rfl rfl (K.assign rfl) ?_
              refine KT.step rfl rfl (K.assign rfl) ?_
              refine KT.nil ?_
              refine thenK_n ?_
              refine KC.seq ?_
              refine KC.region ?_
              refine KT.step rfl rfl (K.move rfl) ?_
              refine KT.step rfl rfl (K.move rfl) ?_
              refine KT.step rfl rfl (K.eql rfl rfl) ?_
              refine KT.step rfl rfl (K.move rfl) ?_
              refine KT.bcase (fun hb178 => ?_) (fun hb178 => ?_)
              ·skip
               replace hb178 := of_decide_eq_true hb178
               refine KT.step rfl rfl (K.move rfl) ?_
               refine KT.step rfl rfl (K.move rfl) ?_
               refine KT.step rfl rfl (K.call2 rfl rfl plainTry_20 (same20 (resD_mat (e := anE (anZ Z gi gj gb) hi hj hb) (n := (anZ Z gi gj gb).length) (a := tightM (anZ Z gi gj gb).length (andM (anZ Z gi gj gb) hi.toNat hj.toNat hb))) (resD_mat (e := anE (anZ Z hi hj hb) gi gj gb) (n := (anZ Z hi hj hb).length) (a := tightM (anZ Z hi hj hb).length (andM (anZ Z hi hj hb) gi.toNat gj.toNat gb))) (resZ_len (anZ_le kz.1) _).1 (resZ_len (anZ_le kz.1) _).2)) ?_
               refine KT.step rfl rfl (K.pick rfl (fun _ => rfl) (fun h => by cases h)) ?_
               refine KT.step rfl rfl (K.move rfl) ?_
               refine KT.bcase (fun hb183 => ?_) (fun hb183 => ?_)
               ·skip
                refine KT.step rfl rfl (K.move rfl) ?_
                refine KT.step rfl rfl (K.eql rfl rfl) ?_
                refine KT.step rfl rfl (K.pick rfl (fun _ => rfl) (fun h => by cases h)) ?_
                refine KT.step rfl rfl (K.move rfl) ?_
                refine KT.bcase (fun hb187 => ?_) (fun hb187 => ?_)
                ·skip
                 replace hb187 := of_decide_eq_true hb187
                 refine KT.step rfl rfl (K.move rfl) ?_
                 refine KT.step rfl rfl (K.move rfl) ?_
                 refine KT.step rfl rfl (K.call2 rfl rfl plainTry_20 (same20 (resD_mat (e := anE (anZ Z gi gj gb) gi gj gb) (n := (anZ Z gi gj gb).length) (a := tightM (anZ Z gi gj gb).length (andM (anZ Z gi gj gb) gi.toNat gj.toNat gb))) (resD_mat (e := anE (Z) gi gj gb) (n := (Z).length) (a := tightM (Z).length (andM (Z) gi.toNat gj.toNat gb))) (resZ_len (anZ_le kz.1) _).1 (resZ_len (anZ_le kz.1) _).2)) ?_
                 refine KT.step rfl rfl (K.pick rfl (fun _ => rfl) (fun h => by cases h)) ?_
                 refine KT.step rfl rfl (K.move rfl) ?_
                 refine KT.bcase (fun hb192 => ?_) (fun hb192 => ?_)
                 ·skip
                  refine KT.step rfl rfl (K.call0 plainTry_21 (awake21)) ?_
                  refine KT.step rfl rfl (K.pick rfl (fun _ => rfl) (fun h => by cases h)) ?_
                  refine KT.step rfl rfl (K.assign rfl) ?_
                  refine KT.nil ?_
                  refine thenK_n ?_
                  refine KC.ret ?_
                  exact ⟨.inl rfl, _, rfl, rfl⟩
                 ·skip
                  exact absurd hy.2 (of_decide_eq_false hb192)
                ·skip
                 exact absurd hy.1 (of_decide_eq_false hb187)
               ·skip
                exact absurd hx.2 (of_decide_eq_false hb183)
              ·skip
               exact absurd hx.1 (of_decide_eq_false hb178)
      ·skip
       replace hb78 := of_decide_eq_false hb78
       refine KT.skip rfl rfl ?_
       refine KT.skip rfl rfl ?_
       refine KT.skip rfl rfl ?_
       refine KT.skip rfl rfl ?_
       refine KT.step rfl rfl (K.pick rfl (fun h => by cases h) (fun _ => rfl)) ?_
       refine KT.step rfl rfl (K.move rfl) ?_
       refine KT.step rfl rfl (K.move rfl) ?_
       refine KT.step rfl rfl (K.neq rfl rfl) ?_
       refine KT.step rfl rfl (K.move rfl) ?_
       refine KT.bcase (fun hb87 => ?_) (fun hb87 => ?_)
       ·skip
        replace hb87 := of_decide_eq_true hb87
        refine KT.step rfl rfl (K.move rfl) ?_
        refine KT.step rfl rfl (K.call1 rfl plainTry_36 (Valid36 (z := rsZ Z s) (resD_mat (e := rsE Z s) (n := Z.length) (a := resM Z.length s.toNat (tightM Z.length (zf Z)))) (resZ_len (kz.1) _).1 (resZ_len (kz.1) _).2)) ?_
        refine KT.step rfl rfl (K.pick rfl (fun _ => rfl) (fun h => by cases h)) ?_
        refine KT.step rfl rfl (K.pick rfl (fun h => by cases h) (fun _ => rfl)) ?_
        refine KT.nil ?_
        refine thenK_n ?_
        refine KC.cond rfl (fun hc91 => ?_) (fun hc91 => ?_)
        ·skip
         exact Bool.noConfusion ((hs.2 hb78).symm.trans hc91)
        ·skip
         refine KC.skip ?_
         refine thenK_n ?_
         refine KC.seq ?_
         refine KC.drawV Try.mixed (i1 := 14) (j1 := 16) (i2 := 15) (j2 := 17) (t1 := 15) (t2 := 16) (s1 := 98) (s2 := 105) (c1 := [.d (DI gi), .d (DI gj), .d (DI gb)]) (c2 := [.d (DI hi), .d (DI hj), .d (DI hb)]) (C := fun k => if k = 16 then [.d (DI gi), .d (DI gj), .d (DI gb)] else [.d (DI hi), .d (DI hj), .d (DI hb)]) ⟨38, _, _, _, rfl, rfl, rfl, rfl, Try.zero38, rfl, rfl, rfl, rfl, rfl, Try.size38, rfl⟩ ⟨38, _, _, _, rfl, rfl, rfl, rfl, Try.zero38, rfl, rfl, rfl, rfl, rfl, Try.size38, rfl⟩ rfl rfl (by decide) (by kernel_rfl) ?_
         refine KTV.read rfl rfl (K.fieldAddrO rfl Try.fld36_0 Try.size3) (by decide) ?_
         refine KTV.read rfl rfl (K.loadO rfl rfl (by simp) rfl Try.agg3) (by decide) ?_
         refine KTV.read rfl rfl (K.fieldAddrO rfl Try.fld36_1 Try.size3) (by decide) ?_
         refine KTV.read rfl rfl (K.loadO rfl rfl (by simp) rfl Try.agg3) (by decide) ?_
         refine KTV.read rfl rfl (K.fieldAddrO rfl Try.fld36_2 Try.size3) (by decide) ?_
         refine KTV.read rfl rfl (K.loadO rfl rfl (by simp) rfl Try.agg3) (by decide) ?_
         refine KTV.read rfl rfl (K.buildL rfl (build38 _ _ _)) (by decide) ?_
         refine KTV.read rfl rfl (K.fieldAddrO rfl Try.fld36_0 Try.size3) (by decide) ?_
         refine KTV.read rfl rfl (K.loadO rfl rfl (by simp) rfl Try.agg3) (by decide) ?_
         refine KTV.read rfl rfl (K.fieldAddrO rfl Try.fld36_1 Try.size3) (by decide) ?_
         refine KTV.read rfl rfl (K.loadO rfl rfl (by simp) rfl Try.agg3) (by decide) ?_
         refine KTV.read rfl rfl (K.fieldAddrO rfl Try.fld36_2 Try.size3) (by decide) ?_
         refine KTV.read rfl rfl (K.loadO rfl rfl (by simp) rfl Try.agg3) (by decide) ?_
         refine KTV.read rfl rfl (K.buildL rfl (build38 _ _ _)) (by decide) ?_
         refine KTV.make rfl ?_
         refine KTV.make rfl ?_
         refine KTV.put rfl rfl rfl rfl ?_
         refine KTV.put rfl rfl rfl rfl ?_
         refine KTV.nil ?_
         refine ⟨by kernel_rfl, fun σ3 p q hp hq hpq x2 x3 v3 l3 => ?_⟩
         have y0 := v3 0 (by simp)
         have y1 := v3 1 (by simp)
         refine thenK_n ?_
         refine KC.seq ?_
         refine KC.draw Try.mixed ?_
         refine KT.step rfl rfl (K.move rfl) ?_
         refine KT.step rfl rfl (K.call1 rfl plainTry_16 (few16 hd hl hr)) ?_
         refine KT.step rfl rfl (K.loadOA ([DI gi, DI gj, DI gb]) rfl x2 (by decide) Try.agg38 Try.size38 rfl) ?_
         refine KT.step rfl rfl (K.call2 rfl rfl plainTry_23 (And23 hmz fz.1 fz.2)) ?_
         refine KT.step rfl rfl (K.move rfl) ?_
         refine KT.step rfl rfl (K.extract rfl rfl) ?_
         refine KT.step rfl rfl (K.extract rfl rfl) ?_
         refine KT.step rfl rfl (K.assign rfl) ?_
         refine KT.step rfl rfl (K.assign rfl) ?_
         refine KT.nil ?_
         refine ⟨by kernel_rfl, ?_⟩
         refine thenK_n ?_
         refine KC.seq ?_
         refine KC.draw Try.mixed ?_
         refine KT.step rfl rfl (K.move rfl) ?_
         refine KT.step rfl rfl (K.call1 rfl plainTry_16 (few16 hd hl hr)) ?_
         refine KT.step rfl rfl (K.loadOA ([DI hi, DI hj, DI hb]) rfl x3 (by decide) Try.agg38 Try.size38 rfl) ?_
         refine KT.step rfl rfl (K.call2 rfl rfl plainTry_23 (And23 hmz fz.1 fz.2)) ?_
         refine KT.step rfl rfl (K.move rfl) ?_
         refine KT.step rfl rfl (K.extract rfl rfl) ?_
         refine KT.step rfl rfl (K.extract rfl rfl) ?_
         refine KT.step rfl rfl (K.assign rfl) ?_
         refine KT.step rfl rfl (K.assign rfl) ?_
         refine KT.nil ?_
         refine ⟨by kernel_rfl, ?_⟩
         refine thenK_n ?_
         refine KC.seq ?_
         refine KC.seq ?_
         refine KC.region ?_
         refine KT.step rfl rfl (K.move rfl) ?_
         refine KT.step rfl rfl (K.neq rfl rfl) ?_
         refine KT.step rfl rfl (K.move rfl) ?_
         refine KT.bcase (fun hb122 => ?_) (fun hb122 => ?_)
         ·skip
          replace hb122 := of_decide_eq_true hb122
          refine KT.skip rfl rfl ?_
          refine KT.skip rfl rfl ?_
          refine KT.step rfl rfl (K.pick rfl (fun _ => rfl) (fun h => by cases h)) ?_
          refine KT.step rfl rfl (K.move rfl) ?_
          refine KT.skip rfl rfl ?_
          refine KT.skip rfl rfl ?_
          refine KT.skip rfl rfl ?_
          refine KT.step rfl rfl (K.pick rfl (fun _ => rfl) (fun h => by cases h)) ?_
          refine KT.step rfl rfl (K.move rfl) ?_
          refine KT.skip rfl rfl ?_
          refine KT.skip rfl rfl ?_
          refine KT.skip rfl rfl ?_
          refine KT.step rfl rfl (K.pick rfl (fun _ => rfl) (fun h => by cases h)) ?_
          refine KT.nil ?_
          refine thenK_n ?_
          refine KC.cond rfl (fun hc135 => ?_) (fun hc135 => ?_)
          ·skip
           refine KC.seq ?_
           refine KC.region ?_
           refine KT.step rfl rfl (K.move rfl) ?_
           refine KT.step rfl rfl (K.neq rfl rfl) ?_
           refine KT.step rfl rfl (K.move rfl) ?_
           refine KT.bcase (fun hb138 => ?_) (fun hb138 => ?_)
           ·skip
            replace hb138 := of_decide_eq_true hb138
            refine KT.step rfl rfl (K.move rfl) ?_
            refine KT.step rfl rfl (K.neq rfl rfl) ?_
            refine KT.step rfl rfl (K.pick rfl (fun _ => rfl) (fun h => by cases h)) ?_
            refine KT.step rfl rfl (K.move rfl) ?_
            refine KT.bcase (fun hb142 => ?_) (fun hb142 => ?_)
            ·skip
             replace hb142 := of_decide_eq_true hb142
             refine KT.skip rfl rfl ?_
             refine KT.skip rfl rfl ?_
             refine KT.skip rfl rfl ?_
             refine KT.skip rfl rfl ?_
             refine KT.step rfl rfl (K.pick rfl (fun _ => rfl) (fun h => by cases h)) ?_
             refine KT.step rfl rfl (K.move rfl) ?_
             refine KT.skip rfl rfl ?_
             refine KT.skip rfl rfl ?_
             refine KT.skip rfl rfl ?_
             refine KT.skip rfl rfl ?_
             refine KT.step rfl rfl (K.pick rfl (fun _ => rfl) (fun h => by cases h)) ?_
             refine KT.step rfl rfl (K.move rfl) ?_
             refine KT.step rfl rfl (K.call0 plainTry_21 (awake21)) ?_
             refine KT.step rfl rfl (K.pick rfl (fun _ => rfl) (fun h => by cases h)) ?_
             refine KT.step rfl rfl (K.assign rfl) ?_
             refine KT.nil ?_
             refine thenK_n ?_
             refine KC.ret ?_
             refine thenK_r ?_
             exact ⟨.inl rfl, _, rfl, rfl⟩
            ·skip
             replace hb142 := of_decide_eq_false hb142
             refine KT.step rfl rfl (K.move rfl) ?_
             refine KT.step rfl rfl (K.loadOA ([DI gi, DI gj, DI gb]) rfl y0 (by decide) Try.agg36 Try.size36 rfl) ?_
             refine KT.step rfl rfl (K.call2 rfl rfl plainTry_49 (Clock49 hd hl hr)) ?_
             refine KT.step rfl rfl (K.not rfl) ?_
             refine KT.step rfl rfl (K.pick rfl (fun h => by cases h) (fun _ => rfl)) ?_
             refine KT.step rfl rfl (K.move rfl) ?_
             refine KT.bcase (fun hb148 => ?_) (fun hb148 => ?_)
             ·skip
              refine KT.skip rfl rfl ?_
              refine KT.skip rfl rfl ?_
              refine KT.skip rfl rfl ?_
              refine KT.skip rfl rfl ?_
              refine KT.step rfl rfl (K.pick rfl (fun _ => rfl) (fun h => by cases h)) ?_
              refine KT.step rfl rfl (K.move rfl) ?_
              refine KT.step rfl rfl (K.call0 plainTry_21 (awake21)) ?_
              refine KT.step rfl rfl (K.pick rfl (fun _ => rfl) (fun h => by cases h)) ?_
              refine KT.step rfl rfl (K.assign rfl) ?_
              refine KT.nil ?_
              refine thenK_n ?_
              refine KC.ret ?_
              refine thenK_r ?_
              exact ⟨.inl rfl, _, rfl, rfl⟩
             ·skip
              refine KT.step rfl rfl (K.move rfl) ?_
              refine KT.step rfl rfl (K.loadOA ([DI hi, DI hj, DI hb]) rfl y1 (by decide) Try.agg36 Try.size36 rfl) ?_
              refine KT.step rfl rfl (K.call2 rfl rfl plainTry_49 (Clock49 hd hl hr)) ?_
              refine KT.step rfl rfl (K.not rfl) ?_
              refine KT.step rfl rfl (K.pick rfl (fun h => by cases h) (fun _ => rfl)) ?_
              refine KT.step rfl rfl (K.move rfl) ?_
              refine KT.bcase (fun hb154 => ?_) (fun hb154 => ?_)
              ·skip
               refine KT.step rfl rfl (K.call0 plainTry_21 (awake21)) ?_
               refine KT.step rfl rfl (K.pick rfl (fun _ => rfl) (fun h => by cases h)) ?_
               refine KT.step rfl rfl (K.assign rfl) ?_
               refine KT.nil ?_
               refine thenK_n ?_
               refine KC.ret ?_
               refine thenK_r ?_
               exact ⟨.inl rfl, _, rfl, rfl⟩
              ·skip
               rw [Bool.not_eq_false'] at hb148 hb154
               rw [← hzZ] at hb148 hb154
               exact absurd (anE_two hb154 hv) hb142
           ·skip
            replace hb138 := of_decide_eq_false hb138
            refine KT.skip rfl rfl ?_
            refine KT.skip rfl rfl ?_
            refine KT.step rfl rfl (K.pick rfl (fun h => by cases h) (fun _ => rfl)) ?_
            refine KT.step rfl rfl (K.move rfl) ?_
            refine KT.step rfl rfl (K.move rfl) ?_
            refine KT.step rfl rfl (K.loadOA ([DI gi, DI gj, DI gb]) rfl y0 (by decide) Try.agg36 Try.size36 rfl) ?_
            refine KT.step rfl rfl (K.call2 rfl rfl plainTry_49 (Clock49 hd hl hr)) ?_
            refine KT.step rfl rfl (K.not rfl) ?_
            refine KT.step rfl rfl (K.pick rfl (fun h => by cases h) (fun _ => rfl)) ?_
            refine KT.step rfl rfl (K.move rfl) ?_
            refine KT.bcase (fun hb148 => ?_) (fun hb148 => ?_)
            ·skip
             refine KT.skip rfl rfl ?_
             refine KT.skip rfl rfl ?_
             refine KT.skip rfl rfl ?_
             refine KT.skip rfl rfl ?_
             refine KT.step rfl rfl (K.pick rfl (fun _ => rfl) (fun h => by cases h)) ?_
             refine KT.step rfl rfl (K.move rfl) ?_
             refine KT.step rfl rfl (K.call0 plainTry_21 (awake21)) ?_
             refine KT.step rfl rfl (K.pick rfl (fun _ => rfl) (fun h => by cases h)) ?_
             refine KT.step rfl rfl (K.assign rfl) ?_
             refine KT.nil ?_
             refine thenK_n ?_
             refine KC.ret ?_
             refine thenK_r ?_
             exact ⟨.inl rfl, _, rfl, rfl⟩
            ·skip
             refine KT.step rfl rfl (K.move rfl) ?_
             refine KT.step rfl rfl (K.loadOA ([DI hi, DI hj, DI hb]) rfl y1 (by decide) Try.agg36 Try.size36 rfl) ?_
             refine KT.step rfl rfl (K.call2 rfl rfl plainTry_49 (Clock49 hd hl hr)) ?_
             refine KT.step rfl rfl (K.not rfl) ?_
             refine KT.step rfl rfl (K.pick rfl (fun h => by cases h) (fun _ => rfl)) ?_
             refine KT.step rfl rfl (K.move rfl) ?_
             refine KT.bcase (fun hb154 => ?_) (fun hb154 => ?_)
             ·skip
              refine KT.step rfl rfl (K.call0 plainTry_21 (awake21)) ?_
              refine KT.step rfl rfl (K.pick rfl (fun _ => rfl) (fun h => by cases h)) ?_
              refine KT.step rfl rfl (K.assign rfl) ?_
              refine KT.nil ?_
              refine thenK_n ?_
              refine KC.ret ?_
              refine thenK_r ?_
              exact ⟨.inl rfl, _, rfl, rfl⟩
             ·skip
              rw [Bool.not_eq_false'] at hb148 hb154
              rw [← hzZ] at hb148 hb154
              exact absurd (anE_two hb148 hv) hb138
          ·cases hc135
         ·skip
          replace hb122 := of_decide_eq_false hb122
          refine KT.step rfl rfl (K.move rfl) ?_
          refine KT.step rfl rfl (K.neq rfl rfl) ?_
          refine KT.step rfl rfl (K.pick rfl (fun h => by cases h) (fun _ => rfl)) ?_
          refine KT.step rfl rfl (K.move rfl) ?_
          refine KT.bcase (fun hb126 => ?_) (fun hb126 => ?_)
          ·skip
           replace hb126 := of_decide_eq_true hb126
           refine KT.skip rfl rfl ?_
           refine KT.skip rfl rfl ?_
           refine KT.skip rfl rfl ?_
           refine KT.step rfl rfl (K.pick rfl (fun _ => rfl) (fun h => by cases h)) ?_
           refine KT.step rfl rfl (K.move rfl) ?_
           refine KT.skip rfl rfl ?_
           refine KT.skip rfl rfl ?_
           refine KT.skip rfl rfl ?_
           refine KT.step rfl rfl (K.pick rfl (fun _ => rfl) (fun h => by cases h)) ?_
           refine KT.nil ?_
           refine thenK_n ?_
           refine KC.cond rfl (fun hc135 => ?_) (fun hc135 => ?_)
           ·skip
            refine KC.seq ?_
            refine KC.region ?_
            refine KT.step rfl rfl (K.move rfl) ?_
            refine KT.step rfl rfl (K.neq rfl rfl) ?_
            refine KT.step rfl rfl (K.move rfl) ?_
            refine KT.bcase (fun hb138 => ?_) (fun hb138 => ?_)
            ·skip
             replace hb138 := of_decide_eq_true hb138
             refine KT.step rfl rfl (K.move rfl) ?_
             refine KT.step rfl rfl (K.neq rfl rfl) ?_
             refine KT.step rfl rfl (K.pick rfl (fun _ => rfl) (fun h => by cases h)) ?_
             refine KT.step rfl rfl (K.move rfl) ?_
             refine KT.bcase (fun hb142 => ?_) (fun hb142 => ?_)
             ·skip
              replace hb142 := of_decide_eq_true hb142
              refine KT.skip rfl rfl ?_
              refine KT.skip rfl rfl ?_
              refine KT.skip rfl rfl ?_
              refine KT.skip rfl rfl ?_
              refine KT.step rfl rfl (K.pick rfl (fun _ => rfl) (fun h => by cases h)) ?_
              refine KT.step rfl rfl (K.move rfl) ?_
              refine KT.skip rfl rfl ?_
              refine KT.skip rfl rfl ?_
              refine KT.skip rfl rfl ?_
              refine KT.skip rfl rfl ?_
              refine KT.step rfl rfl (K.pick rfl (fun _ => rfl) (fun h => by cases h)) ?_
              refine KT.step rfl rfl (K.move rfl) ?_
              refine KT.step rfl rfl (K.call0 plainTry_21 (awake21)) ?_
              refine KT.step rfl rfl (K.pick rfl (fun _ => rfl) (fun h => by cases h)) ?_
              refine KT.step rfl rfl (K.assign rfl) ?_
              refine KT.nil ?_
              refine thenK_n ?_
              refine KC.ret ?_
              refine thenK_r ?_
              exact ⟨.inl rfl, _, rfl, rfl⟩
             ·skip
              replace hb142 := of_decide_eq_false hb142
              refine KT.step rfl rfl (K.move rfl) ?_
              refine KT.step rfl rfl (K.loadOA ([DI gi, DI gj, DI gb]) rfl y0 (by decide) Try.agg36 Try.size36 rfl) ?_
              refine KT.step rfl rfl (K.call2 rfl rfl plainTry_49 (Clock49 hd hl hr)) ?_
              refine KT.step rfl rfl (K.not rfl) ?_
              refine KT.step rfl rfl (K.pick rfl (fun h => by cases h) (fun _ => rfl)) ?_
              refine KT.step rfl rfl (K.move rfl) ?_
              refine KT.bcase (fun hb148 => ?_) (fun hb148 => ?_)
              ·skip
               refine KT.skip rfl rfl ?_
               refine KT.skip rfl rfl ?_
               refine KT.skip rfl rfl ?_
               refine KT.skip rfl rfl ?_
               refine KT.step rfl rfl (K.pick rfl (fun _ => rfl) (fun h => by cases h)) ?_
               refine KT.step rfl rfl (K.move rfl) ?_
               refine KT.step rfl rfl (K.call0 plainTry_21 (awake21)) ?_
               refine KT.step rfl rfl (K.pick rfl (fun _ => rfl) (fun h => by cases h)) ?_
               refine KT.step rfl rfl (K.assign rfl) ?_
               refine KT.nil ?_
               refine thenK_n ?_
               refine KC.ret ?_
               refine thenK_r ?_
               exact ⟨.inl rfl, _, rfl, rfl⟩
              ·skip
               refine KT.step rfl rfl (K.move rfl) ?_
               refine KT.step rfl rfl (K.loadOA ([DI hi, DI hj, DI hb]) rfl y1 (by decide) Try.agg36 Try.size36 rfl) ?_
               refine KT.step rfl rfl (K.call2 rfl rfl plainTry_49 (Clock49 hd hl hr)) ?_
               refine KT.step rfl rfl (K.not rfl) ?_
               refine KT.step rfl rfl (K.pick rfl (fun h => by cases h) (fun _ => rfl)) ?_
               refine KT.step rfl rfl (K.move rfl) ?_
               refine KT.bcase (fun hb154 => ?_) (fun hb154 => ?_)
               ·skip
                refine KT.step rfl rfl (K.call0 plainTry_21 (awake21)) ?_
                refine KT.step rfl rfl (K.pick rfl (fun _ => rfl) (fun h => by cases h)) ?_
                refine KT.step rfl rfl (K.assign rfl) ?_
                refine KT.nil ?_
                refine thenK_n ?_
                refine KC.ret ?_
                refine thenK_r ?_
                exact ⟨.inl rfl, _, rfl, rfl⟩
               ·skip
                rw [Bool.not_eq_false'] at hb148 hb154
                rw [← hzZ] at hb148 hb154
                exact absurd (anE_two hb154 hv) hb142
            ·skip
             replace hb138 := of_decide_eq_false hb138
             refine KT.skip rfl rfl ?_
             refine KT.skip rfl rfl ?_
             refine KT.step rfl rfl (K.pick rfl (fun h => by cases h) (fun _ => rfl)) ?_
             refine KT.step rfl rfl (K.move rfl) ?_
             refine KT.step rfl rfl (K.move rfl) ?_
             refine KT.step rfl rfl (K.loadOA ([DI gi, DI gj, DI gb]) rfl y0 (by decide) Try.agg36 Try.size36 rfl) ?_
             refine KT.step rfl rfl (K.call2 rfl rfl plainTry_49 (Clock49 hd hl hr)) ?_
             refine KT.step rfl rfl (K.not rfl) ?_
             refine KT.step rfl rfl (K.pick rfl (fun h => by cases h) (fun _ => rfl)) ?_
             refine KT.step rfl rfl (K.move rfl) ?_
             refine KT.bcase (fun hb148 => ?_) (fun hb148 => ?_)
             ·skip
              refine KT.skip rfl rfl ?_
              refine KT.skip rfl rfl ?_
              refine KT.skip rfl rfl ?_
              refine KT.skip rfl rfl ?_
              refine KT.step rfl rfl (K.pick rfl (fun _ => rfl) (fun h => by cases h)) ?_
              refine KT.step rfl rfl (K.move rfl) ?_
              refine KT.step rfl rfl (K.call0 plainTry_21 (awake21)) ?_
              refine KT.step rfl rfl (K.pick rfl (fun _ => rfl) (fun h => by cases h)) ?_
              refine KT.step rfl rfl (K.assign rfl) ?_
              refine KT.nil ?_
              refine thenK_n ?_
              refine KC.ret ?_
              refine thenK_r ?_
              exact ⟨.inl rfl, _, rfl, rfl⟩
             ·skip
              refine KT.step rfl rfl (K.move rfl) ?_
              refine KT.step rfl rfl (K.loadOA ([DI hi, DI hj, DI hb]) rfl y1 (by decide) Try.agg36 Try.size36 rfl) ?_
              refine KT.step rfl rfl (K.call2 rfl rfl plainTry_49 (Clock49 hd hl hr)) ?_
              refine KT.step rfl rfl (K.not rfl) ?_
              refine KT.step rfl rfl (K.pick rfl (fun h => by cases h) (fun _ => rfl)) ?_
              refine KT.step rfl rfl (K.move rfl) ?_
              refine KT.bcase (fun hb154 => ?_) (fun hb154 => ?_)
              ·skip
               refine KT.step rfl rfl (K.call0 plainTry_21 (awake21)) ?_
               refine KT.step rfl rfl (K.pick rfl (fun _ => rfl) (fun h => by cases h)) ?_
               refine KT.step rfl rfl (K.assign rfl) ?_
               refine KT.nil ?_
               refine thenK_n ?_
               refine KC.ret ?_
               refine thenK_r ?_
               exact ⟨.inl rfl, _, rfl, rfl⟩
              ·skip
               rw [Bool.not_eq_false'] at hb148 hb154
               rw [← hzZ] at hb148 hb154
               exact absurd (anE_two hb148 hv) hb138
           ·cases hc135
          ·skip
           replace hb126 := of_decide_eq_false hb126
           refine KT.step rfl rfl (K.move rfl) ?_
           refine KT.step rfl rfl (K.call1 rfl plainTry_36 (Valid36 (z := anZ Z gi gj gb) (resD_mat (e := anE (Z) gi gj gb) (n := (Z).length) (a := tightM (Z).length (andM (Z) gi.toNat gj.toNat gb))) (resZ_len (kz.1) _).1 (resZ_len (kz.1) _).2)) ?_
           refine KT.step rfl rfl (K.not rfl) ?_
           refine KT.step rfl rfl (K.pick rfl (fun h => by cases h) (fun _ => rfl)) ?_
           refine KT.step rfl rfl (K.move rfl) ?_
           refine KT.bcase (fun hb131 => ?_) (fun hb131 => ?_)
           ·skip
            refine KT.skip rfl rfl ?_
            refine KT.skip rfl rfl ?_
            refine KT.skip rfl rfl ?_
            refine KT.step rfl rfl (K.pick rfl (fun _ => rfl) (fun h => by cases h)) ?_
            refine KT.nil ?_
            refine thenK_n ?_
            refine KC.cond rfl (fun hc135 => ?_) (fun hc135 => ?_)
            ·skip
             refine KC.seq ?_
             refine KC.region ?_
             refine KT.step rfl rfl (K.move rfl) ?_
             refine KT.step rfl rfl (K.neq rfl rfl) ?_
             refine KT.step rfl rfl (K.move rfl) ?_
             refine KT.bcase (fun hb138 => ?_) (fun hb138 => ?_)
             ·skip
              replace hb138 := of_decide_eq_true hb138
              refine KT.step rfl rfl (K.move rfl) ?_
              refine KT.step rfl rfl (K.neq rfl rfl) ?_
              refine KT.step rfl rfl (K.pick rfl (fun _ => rfl) (fun h => by cases h)) ?_
              refine KT.step rfl rfl (K.move rfl) ?_
              refine KT.bcase (fun hb142 => ?_) (fun hb142 => ?_)
              ·skip
               replace hb142 := of_decide_eq_true hb142
               refine KT.skip rfl rfl ?_
               refine KT.skip rfl rfl ?_
               refine KT.skip rfl rfl ?_
               refine KT.skip rfl rfl ?_
               refine KT.step rfl rfl (K.pick rfl (fun _ => rfl) (fun h => by cases h)) ?_
               refine KT.step rfl rfl (K.move rfl) ?_
               refine KT.skip rfl rfl ?_
               refine KT.skip rfl rfl ?_
               refine KT.skip rfl rfl ?_
               refine KT.skip rfl rfl ?_
               refine KT.step rfl rfl (K.pick rfl (fun _ => rfl) (fun h => by cases h)) ?_
               refine KT.step rfl rfl (K.move rfl) ?_
               refine KT.step rfl rfl (K.call0 plainTry_21 (awake21)) ?_
               refine KT.step rfl rfl (K.pick rfl (fun _ => rfl) (fun h => by cases h)) ?_
               refine KT.step rfl rfl (K.assign rfl) ?_
               refine KT.nil ?_
               refine thenK_n ?_
               refine KC.ret ?_
               refine thenK_r ?_
               exact ⟨.inl rfl, _, rfl, rfl⟩
              ·skip
               replace hb142 := of_decide_eq_false hb142
               refine KT.step rfl rfl (K.move rfl) ?_
               refine KT.step rfl rfl (K.loadOA ([DI gi, DI gj, DI gb]) rfl y0 (by decide) Try.agg36 Try.size36 rfl) ?_
               refine KT.step rfl rfl (K.call2 rfl rfl plainTry_49 (Clock49 hd hl hr)) ?_
               refine KT.step rfl rfl (K.not rfl) ?_
               refine KT.step rfl rfl (K.pick rfl (fun h => by cases h) (fun _ => rfl)) ?_
               refine KT.step rfl rfl (K.move rfl) ?_
               refine KT.bcase (fun hb148 => ?_) (fun hb148 => ?_)
               ·skip
                refine KT.skip rfl rfl ?_
                refine KT.skip rfl rfl ?_
                refine KT.skip rfl rfl ?_
                refine KT.skip rfl rfl ?_
                refine KT.step rfl rfl (K.pick rfl (fun _ => rfl) (fun h => by cases h)) ?_
                refine KT.step rfl rfl (K.move rfl) ?_
                refine KT.step rfl rfl (K.call0 plainTry_21 (awake21)) ?_
                refine KT.step rfl rfl (K.pick rfl (fun _ => rfl) (fun h => by cases h)) ?_
                refine KT.step rfl rfl (K.assign rfl) ?_
                refine KT.nil ?_
                refine thenK_n ?_
                refine KC.ret ?_
                refine thenK_r ?_
                exact ⟨.inl rfl, _, rfl, rfl⟩
               ·skip
                refine KT.step rfl rfl (K.move rfl) ?_
                refine KT.step rfl rfl (K.loadOA ([DI hi, DI hj, DI hb]) rfl y1 (by decide) Try.agg36 Try.size36 rfl) ?_
                refine KT.step rfl rfl (K.call2 rfl rfl plainTry_49 (Clock49 hd hl hr)) ?_
                refine KT.step rfl rfl (K.not rfl) ?_
                refine KT.step rfl rfl (K.pick rfl (fun h => by cases h) (fun _ => rfl)) ?_
                refine KT.step rfl rfl (K.move rfl) ?_
                refine KT.bcase (fun hb154 => ?_) (fun hb154 => ?_)
                ·skip
                 refine KT.step rfl rfl (K.call0 plainTry_21 (awake21)) ?_
                 refine KT.step rfl rfl (K.pick rfl (fun _ => rfl) (fun h => by cases h)) ?_
                 refine KT.step rfl rfl (K.assign rfl) ?_
                 refine KT.nil ?_
                 refine thenK_n ?_
                 refine KC.ret ?_
                 refine thenK_r ?_
                 exact ⟨.inl rfl, _, rfl, rfl⟩
                ·skip
                 rw [Bool.not_eq_false'] at hb148 hb154
                 rw [← hzZ] at hb148 hb154
                 exact absurd (anE_two hb154 hv) hb142
             ·skip
              replace hb138 := of_decide_eq_false hb138
              refine KT.skip rfl rfl ?_
              refine KT.skip rfl rfl ?_
              refine KT.step rfl rfl (K.pick rfl (fun h => by cases h) (fun _ => rfl)) ?_
              refine KT.step rfl rfl (K.move rfl) ?_
              refine KT.step rfl rfl (K.move rfl) ?_
              refine KT.step rfl rfl (K.loadOA ([DI gi, DI gj, DI gb]) rfl y0 (by decide) Try.agg36 Try.size36 rfl) ?_
              refine KT.step rfl rfl (K.call2 rfl rfl plainTry_49 (Clock49 hd hl hr)) ?_
              refine KT.step rfl rfl (K.not rfl) ?_
              refine KT.step rfl rfl (K.pick rfl (fun h => by cases h) (fun _ => rfl)) ?_
              refine KT.step rfl rfl (K.move rfl) ?_
              refine KT.bcase (fun hb148 => ?_) (fun hb148 => ?_)
              ·skip
               refine KT.skip rfl rfl ?_
               refine KT.skip rfl rfl ?_
               refine KT.skip rfl rfl ?_
               refine KT.skip rfl rfl ?_
               refine KT.step rfl rfl (K.pick rfl (fun _ => rfl) (fun h => by cases h)) ?_
               refine KT.step rfl rfl (K.move rfl) ?_
               refine KT.step rfl rfl (K.call0 plainTry_21 (awake21)) ?_
               refine KT.step rfl rfl (K.pick rfl (fun _ => rfl) (fun h => by cases h)) ?_
               refine KT.step rfl rfl (K.assign rfl) ?_
               refine KT.nil ?_
               refine thenK_n ?_
               refine KC.ret ?_
               refine thenK_r ?_
               exact ⟨.inl rfl, _, rfl, rfl⟩
              ·skip
               refine KT.step rfl rfl (K.move rfl) ?_
               refine KT.step rfl rfl (K.loadOA ([DI hi, DI hj, DI hb]) rfl y1 (by decide) Try.agg36 Try.size36 rfl) ?_
               refine KT.step rfl rfl (K.call2 rfl rfl plainTry_49 (Clock49 hd hl hr)) ?_
               refine KT.step rfl rfl (K.not rfl) ?_
               refine KT.step rfl rfl (K.pick rfl (fun h => by cases h) (fun _ => rfl)) ?_
               refine KT.step rfl rfl (K.move rfl) ?_
               refine KT.bcase (fun hb154 => ?_) (fun hb154 => ?_)
               ·skip
                refine KT.step rfl rfl (K.call0 plainTry_21 (awake21)) ?_
                refine KT.step rfl rfl (K.pick rfl (fun _ => rfl) (fun h => by cases h)) ?_
                refine KT.step rfl rfl (K.assign rfl) ?_
                refine KT.nil ?_
                refine thenK_n ?_
                refine KC.ret ?_
                refine thenK_r ?_
                exact ⟨.inl rfl, _, rfl, rfl⟩
               ·skip
                rw [Bool.not_eq_false'] at hb148 hb154
                rw [← hzZ] at hb148 hb154
                exact absurd (anE_two hb148 hv) hb138
            ·cases hc135
           ·skip
            refine KT.step rfl rfl (K.move rfl) ?_
            refine KT.step rfl rfl (K.call1 rfl plainTry_36 (Valid36 (z := anZ Z hi hj hb) (resD_mat (e := anE (Z) hi hj hb) (n := (Z).length) (a := tightM (Z).length (andM (Z) hi.toNat hj.toNat hb))) (resZ_len (kz.1) _).1 (resZ_len (kz.1) _).2)) ?_
            refine KT.step rfl rfl (K.not rfl) ?_
            refine KT.step rfl rfl (K.pick rfl (fun h => by cases h) (fun _ => rfl)) ?_
            refine KT.nil ?_
            refine thenK_n ?_
            refine KC.cond rfl (fun hc135 => ?_) (fun hc135 => ?_)
            ·skip
             refine KC.seq ?_
             refine KC.region ?_
             refine KT.step rfl rfl (K.move rfl) ?_
             refine KT.step rfl rfl (K.neq rfl rfl) ?_
             refine KT.step rfl rfl (K.move rfl) ?_
             refine KT.bcase (fun hb138 => ?_) (fun hb138 => ?_)
             ·skip
              replace hb138 := of_decide_eq_true hb138
              refine KT.step rfl rfl (K.move rfl) ?_
              refine KT.step rfl rfl (K.neq rfl rfl) ?_
              refine KT.step rfl rfl (K.pick rfl (fun _ => rfl) (fun h => by cases h)) ?_
              refine KT.step rfl rfl (K.move rfl) ?_
              refine KT.bcase (fun hb142 => ?_) (fun hb142 => ?_)
              ·skip
               replace hb142 := of_decide_eq_true hb142
               refine KT.skip rfl rfl ?_
               refine KT.skip rfl rfl ?_
               refine KT.skip rfl rfl ?_
               refine KT.skip rfl rfl ?_
               refine KT.step rfl rfl (K.pick rfl (fun _ => rfl) (fun h => by cases h)) ?_
               refine KT.step rfl rfl (K.move rfl) ?_
               refine KT.skip rfl rfl ?_
               refine KT.skip rfl rfl ?_
               refine KT.skip rfl rfl ?_
               refine KT.skip rfl rfl ?_
               refine KT.step rfl rfl (K.pick rfl (fun _ => rfl) (fun h => by cases h)) ?_
               refine KT.step rfl rfl (K.move rfl) ?_
               refine KT.step rfl rfl (K.call0 plainTry_21 (awake21)) ?_
               refine KT.step rfl rfl (K.pick rfl (fun _ => rfl) (fun h => by cases h)) ?_
               refine KT.step rfl rfl (K.assign rfl) ?_
               refine KT.nil ?_
               refine thenK_n ?_
               refine KC.ret ?_
               refine thenK_r ?_
               exact ⟨.inl rfl, _, rfl, rfl⟩
              ·skip
               replace hb142 := of_decide_eq_false hb142
               refine KT.step rfl rfl (K.move rfl) ?_
               refine KT.step rfl rfl (K.loadOA ([DI gi, DI gj, DI gb]) rfl y0 (by decide) Try.agg36 Try.size36 rfl) ?_
               refine KT.step rfl rfl (K.call2 rfl rfl plainTry_49 (Clock49 hd hl hr)) ?_
               refine KT.step rfl rfl (K.not rfl) ?_
               refine KT.step rfl rfl (K.pick rfl (fun h => by cases h) (fun _ => rfl)) ?_
               refine KT.step rfl rfl (K.move rfl) ?_
               refine KT.bcase (fun hb148 => ?_) (fun hb148 => ?_)
               ·skip
                refine KT.skip rfl rfl ?_
                refine KT.skip rfl rfl ?_
                refine KT.skip rfl rfl ?_
                refine KT.skip rfl rfl ?_
                refine KT.step rfl rfl (K.pick rfl (fun _ => rfl) (fun h => by cases h)) ?_
                refine KT.step rfl rfl (K.move rfl) ?_
                refine KT.step rfl rfl (K.call0 plainTry_21 (awake21)) ?_
                refine KT.step rfl rfl (K.pick rfl (fun _ => rfl) (fun h => by cases h)) ?_
                refine KT.step rfl rfl (K.assign rfl) ?_
                refine KT.nil ?_
                refine thenK_n ?_
                refine KC.ret ?_
                refine thenK_r ?_
                exact ⟨.inl rfl, _, rfl, rfl⟩
               ·skip
                refine KT.step rfl rfl (K.move rfl) ?_
                refine KT.step rfl rfl (K.loadOA ([DI hi, DI hj, DI hb]) rfl y1 (by decide) Try.agg36 Try.size36 rfl) ?_
                refine KT.step rfl rfl (K.call2 rfl rfl plainTry_49 (Clock49 hd hl hr)) ?_
                refine KT.step rfl rfl (K.not rfl) ?_
                refine KT.step rfl rfl (K.pick rfl (fun h => by cases h) (fun _ => rfl)) ?_
                refine KT.step rfl rfl (K.move rfl) ?_
                refine KT.bcase (fun hb154 => ?_) (fun hb154 => ?_)
                ·skip
                 refine KT.step rfl rfl (K.call0 plainTry_21 (awake21)) ?_
                 refine KT.step rfl rfl (K.pick rfl (fun _ => rfl) (fun h => by cases h)) ?_
                 refine KT.step rfl rfl (K.assign rfl) ?_
                 refine KT.nil ?_
                 refine thenK_n ?_
                 refine KC.ret ?_
                 refine thenK_r ?_
                 exact ⟨.inl rfl, _, rfl, rfl⟩
                ·skip
                 rw [Bool.not_eq_false'] at hb148 hb154
                 rw [← hzZ] at hb148 hb154
                 exact absurd (anE_two hb154 hv) hb142
             ·skip
              replace hb138 := of_decide_eq_false hb138
              refine KT.skip rfl rfl ?_
              refine KT.skip rfl rfl ?_
              refine KT.step rfl rfl (K.pick rfl (fun h => by cases h) (fun _ => rfl)) ?_
              refine KT.step rfl rfl (K.move rfl) ?_
              refine KT.step rfl rfl (K.move rfl) ?_
              refine KT.step rfl rfl (K.loadOA ([DI gi, DI gj, DI gb]) rfl y0 (by decide) Try.agg36 Try.size36 rfl) ?_
              refine KT.step rfl rfl (K.call2 rfl rfl plainTry_49 (Clock49 hd hl hr)) ?_
              refine KT.step rfl rfl (K.not rfl) ?_
              refine KT.step rfl rfl (K.pick rfl (fun h => by cases h) (fun _ => rfl)) ?_
              refine KT.step rfl rfl (K.move rfl) ?_
              refine KT.bcase (fun hb148 => ?_) (fun hb148 => ?_)
              ·skip
               refine KT.skip rfl rfl ?_
               refine KT.skip rfl rfl ?_
               refine KT.skip rfl rfl ?_
               refine KT.skip rfl rfl ?_
               refine KT.step rfl rfl (K.pick rfl (fun _ => rfl) (fun h => by cases h)) ?_
               refine KT.step rfl rfl (K.move rfl) ?_
               refine KT.step rfl rfl (K.call0 plainTry_21 (awake21)) ?_
               refine KT.step rfl rfl (K.pick rfl (fun _ => rfl) (fun h => by cases h)) ?_
               refine KT.step rfl rfl (K.assign rfl) ?_
               refine KT.nil ?_
               refine thenK_n ?_
               refine KC.ret ?_
               refine thenK_r ?_
               exact ⟨.inl rfl, _, rfl, rfl⟩
              ·skip
               refine KT.step rfl rfl (K.move rfl) ?_
               refine KT.step rfl rfl (K.loadOA ([DI hi, DI hj, DI hb]) rfl y1 (by decide) Try.agg36 Try.size36 rfl) ?_
               refine KT.step rfl rfl (K.call2 rfl rfl plainTry_49 (Clock49 hd hl hr)) ?_
               refine KT.step rfl rfl (K.not rfl) ?_
               refine KT.step rfl rfl (K.pick rfl (fun h => by cases h) (fun _ => rfl)) ?_
               refine KT.step rfl rfl (K.move rfl) ?_
               refine KT.bcase (fun hb154 => ?_) (fun hb154 => ?_)
               ·skip
                refine KT.step rfl rfl (K.call0 plainTry_21 (awake21)) ?_
                refine KT.step rfl rfl (K.pick rfl (fun _ => rfl) (fun h => by cases h)) ?_
                refine KT.step rfl rfl (K.assign rfl) ?_
                refine KT.nil ?_
                refine thenK_n ?_
                refine KC.ret ?_
                refine thenK_r ?_
                exact ⟨.inl rfl, _, rfl, rfl⟩
               ·skip
                rw [Bool.not_eq_false'] at hb148 hb154
                rw [← hzZ] at hb148 hb154
                exact absurd (anE_two hb148 hv) hb138
            ·skip
             have a1 := Classical.not_not.1 hb122
             have a2 := Classical.not_not.1 hb126
             rw [Bool.not_eq_false'] at hb131 hc135
             have hx := an_an a1 a2 hb131 hc135
             have hy := an_twice a1 hb131
             refine KC.skip ?_
             refine thenK_n ?_
             refine KC.seq ?_
             refine KC.region ?_
             refine KT.step rfl rfl (K.move rfl) ?_
             refine KT.step rfl rfl (K.loadOA ([DI hi, DI hj, DI hb]) rfl x3 (by decide) Try.agg38 Try.size38 rfl) ?_
             refine KT.step rfl rfl (K.call2 rfl rfl plainTry_23 (And23 (z := anZ Z gi gj gb) (resD_mat (e := anE (Z) gi gj gb) (n := (Z).length) (a := tightM (Z).length (andM (Z) gi.toNat gj.toNat gb))) (resZ_len (kz.1) _).1 (resZ_len (kz.1) _).2)) ?_
             refine KT.step rfl rfl (K.move rfl) ?_
             refine KT.step rfl rfl (K.extract rfl rfl) ?_
             refine KT.step rfl rfl (K.extract rfl rfl) ?_
             refine KT.step rfl rfl (K.assign rfl) ?_
             refine KT.step rfl rfl (K.assign rfl) ?_
             refine KT.nil ?_
             refine thenK_n ?_
             refine KC.seq ?_
             refine KC.region ?_
             refine KT.step rfl rfl (K.move rfl) ?_
             refine KT.step rfl rfl (K.loadOA ([DI gi, DI gj, DI gb]) rfl x2 (by decide) Try.agg38 Try.size38 rfl) ?_
             refine KT.step rfl rfl (K.call2 rfl rfl plainTry_23 (And23 (z := anZ Z hi hj hb) (resD_mat (e := anE (Z) hi hj hb) (n := (Z).length) (a := tightM (Z).length (andM (Z) hi.toNat hj.toNat hb))) (resZ_len (kz.1) _).1 (resZ_len (kz.1) _).2)) ?_
             refine KT.step rfl rfl (K.move rfl) ?_
             refine KT.step rfl rfl (K.extract rfl rfl) ?_
             refine KT.step rfl rfl (K.extract rfl rfl) ?_
             refine KT.step rfl rfl (K.assign rfl) ?_
             refine KT.step rfl rfl (K.assign rfl) ?_
             refine KT.nil ?_
             refine thenK_n ?_
             refine KC.seq ?_
             refine KC.region ?_
             refine KT.step rfl rfl (K.move rfl) ?_
             refine KT.step rfl rfl (K.loadOA ([DI gi, DI gj, DI gb]) rfl x2 (by decide) Try.agg38 Try.size38 rfl) ?_
             refine KT.step rfl rfl (K.call2 rfl rfl plainTry_23 (And23 (z := anZ Z gi gj gb) (resD_mat (e := anE (Z) gi gj gb) (n := (Z).length) (a := tightM (Z).length (andM (Z) gi.toNat gj.toNat gb))) (resZ_len (kz.1) _).1 (resZ_len (kz.1) _).2)) ?_
             refine KT.step rfl rfl (K.move rfl) ?_
             refine KT.step rfl rfl (K.extract rfl rfl) ?_
             refine KT.step rfl rfl (K.extract rfl rfl) ?_
             refine KT.step rfl rfl (K.assign rfl) ?_
             refine KT.step rfl rfl (K.assign rfl) ?_
             refine KT.nil ?_
             refine thenK_n ?_
             refine KC.seq ?_
             refine KC.region ?_
             refine KT.step rfl rfl (K.move rfl) ?_
             refine KT.step rfl rfl (K.move rfl) ?_
             refine KT.step rfl rfl (K.eql rfl rfl) ?_
             refine KT.step rfl rfl (K.move rfl) ?_
             refine KT.bcase (fun hb178 => ?_) (fun hb178 => ?_)
             ·skip
              replace hb178 := of_decide_eq_true hb178
              refine KT.step rfl rfl (K.move rfl) ?_
              refine KT.step rfl rfl (K.move rfl) ?_
              refine KT.step rfl rfl (K.call2 rfl rfl plainTry_20 (same20 (resD_mat (e := anE (anZ Z gi gj gb) hi hj hb) (n := (anZ Z gi gj gb).length) (a := tightM (anZ Z gi gj gb).length (andM (anZ Z gi gj gb) hi.toNat hj.toNat hb))) (resD_mat (e := anE (anZ Z hi hj hb) gi gj gb) (n := (anZ Z hi hj hb).length) (a := tightM (anZ Z hi hj hb).length (andM (anZ Z hi hj hb) gi.toNat gj.toNat gb))) (resZ_len (anZ_le kz.1) _).1 (resZ_len (anZ_le kz.1) _).2)) ?_
              refine KT.step rfl rfl (K.pick rfl (fun _ => rfl) (fun h => by cases h)) ?_
              refine KT.step rfl rfl (K.move rfl) ?_
              refine KT.bcase (fun hb183 => ?_) (fun hb183 => ?_)
              ·skip
               refine KT.step rfl rfl (K.move rfl) ?_
               refine KT.step rfl rfl (K.eql rfl rfl) ?_
               refine KT.step rfl rfl (K.pick rfl (fun _ => rfl) (fun h => by cases h)) ?_
               refine KT.step rfl rfl (K.move rfl) ?_
               refine KT.bcase (fun hb187 => ?_) (fun hb187 => ?_)
               ·skip
                replace hb187 := of_decide_eq_true hb187
                refine KT.step rfl rfl (K.move rfl) ?_
                refine KT.step rfl rfl (K.move rfl) ?_
                refine KT.step rfl rfl (K.call2 rfl rfl plainTry_20 (same20 (resD_mat (e := anE (anZ Z gi gj gb) gi gj gb) (n := (anZ Z gi gj gb).length) (a := tightM (anZ Z gi gj gb).length (andM (anZ Z gi gj gb) gi.toNat gj.toNat gb))) (resD_mat (e := anE (Z) gi gj gb) (n := (Z).length) (a := tightM (Z).length (andM (Z) gi.toNat gj.toNat gb))) (resZ_len (anZ_le kz.1) _).1 (resZ_len (anZ_le kz.1) _).2)) ?_
                refine KT.step rfl rfl (K.pick rfl (fun _ => rfl) (fun h => by cases h)) ?_
                refine KT.step rfl rfl (K.move rfl) ?_
                refine KT.bcase (fun hb192 => ?_) (fun hb192 => ?_)
                ·skip
                 refine KT.step rfl rfl (K.call0 plainTry_21 (awake21)) ?_
                 refine KT.step rfl rfl (K.pick rfl (fun _ => rfl) (fun h => by cases h)) ?_
                 refine KT.step rfl rfl (K.assign rfl) ?_
                 refine KT.nil ?_
                 refine thenK_n ?_
                 refine KC.ret ?_
                 exact ⟨.inl rfl, _, rfl, rfl⟩
                ·skip
                 exact absurd hy.2 (of_decide_eq_false hb192)
               ·skip
                exact absurd hy.1 (of_decide_eq_false hb187)
              ·skip
               exact absurd hx.2 (of_decide_eq_false hb183)
             ·skip
              exact absurd hx.1 (of_decide_eq_false hb178)
       ·skip
        exact absurd hb78 (of_decide_eq_false hb87)
     ·skip
      replace hc69 := of_decide_eq_false hc69
      refine KC.skip ?_
      refine thenK_n ?_
      refine KC.seq ?_
      refine KC.drawV Try.mixed (i1 := 14) (j1 := 16) (i2 := 15) (j2 := 17) (t1 := 15) (t2 := 16) (s1 := 98) (s2 := 105) (c1 := [.d (DI gi), .d (DI gj), .d (DI gb)]) (c2 := [.d (DI hi), .d (DI hj), .d (DI hb)]) (C := fun k => if k = 16 then [.d (DI gi), .d (DI gj), .d (DI gb)] else [.d (DI hi), .d (DI hj), .d (DI hb)]) ⟨38, _, _, _, rfl, rfl, rfl, rfl, Try.zero38, rfl, rfl, rfl, rfl, rfl, Try.size38, rfl⟩ ⟨38, _, _, _, rfl, rfl, rfl, rfl, Try.zero38, rfl, rfl, rfl, rfl, rfl, Try.size38, rfl⟩ rfl rfl (by decide) (by kernel_rfl) ?_
      refine KTV.read rfl rfl (K.fieldAddrO rfl Try.fld36_0 Try.size3) (by decide) ?_
      refine KTV.read rfl rfl (K.loadO rfl rfl (by simp) rfl Try.agg3) (by decide) ?_
      refine KTV.read rfl rfl (K.fieldAddrO rfl Try.fld36_1 Try.size3) (by decide) ?_
      refine KTV.read rfl rfl (K.loadO rfl rfl (by simp) rfl Try.agg3) (by decide) ?_
      refine KTV.read rfl rfl (K.fieldAddrO rfl Try.fld36_2 Try.size3) (by decide) ?_
      refine KTV.read rfl rfl (K.loadO rfl rfl (by simp) rfl Try.agg3) (by decide) ?_
      refine KTV.read rfl rfl (K.buildL rfl (build38 _ _ _)) (by decide) ?_
      refine KTV.read rfl rfl (K.fieldAddrO rfl Try.fld36_0 Try.size3) (by decide) ?_
      refine KTV.read rfl rfl (K.loadO rfl rfl (by simp) rfl Try.agg3) (by decide) ?_
      refine KTV.read rfl rfl (K.fieldAddrO rfl Try.fld36_1 Try.size3) (by decide) ?_
      refine KTV.read rfl rfl (K.loadO rfl rfl (by simp) rfl Try.agg3) (by decide) ?_
      refine KTV.read rfl rfl (K.fieldAddrO rfl Try.fld36_2 Try.size3) (by decide) ?_
      refine KTV.read rfl rfl (K.loadO rfl rfl (by simp) rfl Try.agg3) (by decide) ?_
      refine KTV.read rfl rfl (K.buildL rfl (build38 _ _ _)) (by decide) ?_
      refine KTV.make rfl ?_
      refine KTV.make rfl ?_
      refine KTV.put rfl rfl rfl rfl ?_
      refine KTV.put rfl rfl rfl rfl ?_
      refine KTV.nil ?_
      refine ⟨by kernel_rfl, fun σ3 p q hp hq hpq x2 x3 v3 l3 => ?_⟩
      have y0 := v3 0 (by simp)
      have y1 := v3 1 (by simp)
      refine thenK_n ?_
      refine KC.seq ?_
      refine KC.draw Try.mixed ?_
      refine KT.step rfl rfl (K.move rfl) ?_
      refine KT.step rfl rfl (K.call1 rfl plainTry_16 (few16 hd hl hr)) ?_
      refine KT.step rfl rfl (K.loadOA ([DI gi, DI gj, DI gb]) rfl x2 (by decide) Try.agg38 Try.size38 rfl) ?_
      refine KT.step rfl rfl (K.call2 rfl rfl plainTry_23 (And23 hmz fz.1 fz.2)) ?_
      refine KT.step rfl rfl (K.move rfl) ?_
      refine KT.step rfl rfl (K.extract rfl rfl) ?_
      refine KT.step rfl rfl (K.extract rfl rfl) ?_
      refine KT.step rfl rfl (K.assign rfl) ?_
      refine KT.step rfl rfl (K.assign rfl) ?_
      refine KT.nil ?_
      refine ⟨by kernel_rfl, ?_⟩
      refine thenK_n ?_
      refine KC.seq ?_
      refine KC.draw Try.mixed ?_
      refine KT.step rfl rfl (K.move rfl) ?_
      refine KT.step rfl rfl (K.call1 rfl plainTry_16 (few16 hd hl hr)) ?_
      refine KT.step rfl rfl (K.loadOA ([DI hi, DI hj, DI hb]) rfl x3 (by decide) Try.agg38 Try.size38 rfl) ?_
      refine KT.step rfl rfl (K.call2 rfl rfl plainTry_23 (And23 hmz fz.1 fz.2)) ?_
      refine KT.step rfl rfl (K.move rfl) ?_
      refine KT.step rfl rfl (K.extract rfl rfl) ?_
      refine KT.step rfl rfl (K.extract rfl rfl) ?_
      refine KT.step rfl rfl (K.assign rfl) ?_
      refine KT.step rfl rfl (K.assign rfl) ?_
      refine KT.nil ?_
      refine ⟨by kernel_rfl, ?_⟩
      refine thenK_n ?_
      refine KC.seq ?_
      refine KC.seq ?_
      refine KC.region ?_
      refine KT.step rfl rfl (K.move rfl) ?_
      refine KT.step rfl rfl (K.neq rfl rfl) ?_
      refine KT.step rfl rfl (K.move rfl) ?_
      refine KT.bcase (fun hb122 => ?_) (fun hb122 => ?_)
      ·skip
       replace hb122 := of_decide_eq_true hb122
       refine KT.skip rfl rfl ?_
       refine KT.skip rfl rfl ?_
       refine KT.step rfl rfl (K.pick rfl (fun _ => rfl) (fun h => by cases h)) ?_
       refine KT.step rfl rfl (K.move rfl) ?_
       refine KT.skip rfl rfl ?_
       refine KT.skip rfl rfl ?_
       refine KT.skip rfl rfl ?_
       refine KT.step rfl rfl (K.pick rfl (fun _ => rfl) (fun h => by cases h)) ?_
       refine KT.step rfl rfl (K.move rfl) ?_
       refine KT.skip rfl rfl ?_
       refine KT.skip rfl rfl ?_
       refine KT.skip rfl rfl ?_
       refine KT.step rfl rfl (K.pick rfl (fun _ => rfl) (fun h => by cases h)) ?_
       refine KT.nil ?_
       refine thenK_n ?_
       refine KC.cond rfl (fun hc135 => ?_) (fun hc135 => ?_)
       ·skip
        refine KC.seq ?_
        refine KC.region ?_
        refine KT.step rfl rfl (K.move rfl) ?_
        refine KT.step rfl rfl (K.neq rfl rfl) ?_
        refine KT.step rfl rfl (K.move rfl) ?_
        refine KT.bcase (fun hb138 => ?_) (fun hb138 => ?_)
        ·skip
         replace hb138 := of_decide_eq_true hb138
         refine KT.step rfl rfl (K.move rfl) ?_
         refine KT.step rfl rfl (K.neq rfl rfl) ?_
         refine KT.step rfl rfl (K.pick rfl (fun _ => rfl) (fun h => by cases h)) ?_
         refine KT.step rfl rfl (K.move rfl) ?_
         refine KT.bcase (fun hb142 => ?_) (fun hb142 => ?_)
         ·skip
          replace hb142 := of_decide_eq_true hb142
          refine KT.skip rfl rfl ?_
          refine KT.skip rfl rfl ?_
          refine KT.skip rfl rfl ?_
          refine KT.skip rfl rfl ?_
          refine KT.step rfl rfl (K.pick rfl (fun _ => rfl) (fun h => by cases h)) ?_
          refine KT.step rfl rfl (K.move rfl) ?_
          refine KT.skip rfl rfl ?_
          refine KT.skip rfl rfl ?_
          refine KT.skip rfl rfl ?_
          refine KT.skip rfl rfl ?_
          refine KT.step rfl rfl (K.pick rfl (fun _ => rfl) (fun h => by cases h)) ?_
          refine KT.step rfl rfl (K.move rfl) ?_
          refine KT.step rfl rfl (K.call0 plainTry_21 (awake21)) ?_
          refine KT.step rfl rfl (K.pick rfl (fun _ => rfl) (fun h => by cases h)) ?_
          refine KT.step rfl rfl (K.assign rfl) ?_
          refine KT.nil ?_
          refine thenK_n ?_
          refine KC.ret ?_
          refine thenK_r ?_
          exact ⟨.inl rfl, _, rfl, rfl⟩
         ·skip
          replace hb142 := of_decide_eq_false hb142
          refine KT.step rfl rfl (K.move rfl) ?_
          refine KT.step rfl rfl (K.loadOA ([DI gi, DI gj, DI gb]) rfl y0 (by decide) Try.agg36 Try.size36 rfl) ?_
          refine KT.step rfl rfl (K.call2 rfl rfl plainTry_49 (Clock49 hd hl hr)) ?_
          refine KT.step rfl rfl (K.not rfl) ?_
          refine KT.step rfl rfl (K.pick rfl (fun h => by cases h) (fun _ => rfl)) ?_
          refine KT.step rfl rfl (K.move rfl) ?_
          refine KT.bcase (fun hb148 => ?_) (fun hb148 => ?_)
          ·skip
           refine KT.skip rfl rfl ?_
           refine KT.skip rfl rfl ?_
           refine KT.skip rfl rfl ?_
           refine KT.skip rfl rfl ?_
           refine KT.step rfl rfl (K.pick rfl (fun _ => rfl) (fun h => by cases h)) ?_
           refine KT.step rfl rfl (K.move rfl) ?_
           refine KT.step rfl rfl (K.call0 plainTry_21 (awake21)) ?_
           refine KT.step rfl rfl (K.pick rfl (fun _ => rfl) (fun h => by cases h)) ?_
           refine KT.step rfl rfl (K.assign rfl) ?_
           refine KT.nil ?_
           refine thenK_n ?_
           refine KC.ret ?_
           refine thenK_r ?_
           exact ⟨.inl rfl, _, rfl, rfl⟩
          ·skip
           refine KT.step rfl rfl (K.move rfl) ?_
           refine KT.step rfl rfl (K.loadOA ([DI hi, DI hj, DI hb]) rfl y1 (by decide) Try.agg36 Try.size36 rfl) ?_
           refine KT.step rfl rfl (K.call2 rfl rfl plainTry_49 (Clock49 hd hl hr)) ?_
           refine KT.step rfl rfl (K.not rfl) ?_
           refine KT.step rfl rfl (K.pick rfl (fun h => by cases h) (fun _ => rfl)) ?_
           refine KT.step rfl rfl (K.move rfl) ?_
           refine KT.bcase (fun hb154 => ?_) (fun hb154 => ?_)
           ·skip
            refine KT.step rfl rfl (K.call0 plainTry_21 (awake21)) ?_
            refine KT.step rfl rfl (K.pick rfl (fun _ => rfl) (fun h => by cases h)) ?_
            refine KT.step rfl rfl (K.assign rfl) ?_
            refine KT.nil ?_
            refine thenK_n ?_
            refine KC.ret ?_
            refine thenK_r ?_
            exact ⟨.inl rfl, _, rfl, rfl⟩
           ·skip
            rw [Bool.not_eq_false'] at hb148 hb154
            rw [← hzZ] at hb148 hb154
            exact absurd (anE_two hb154 hv) hb142
        ·skip
         replace hb138 := of_decide_eq_false hb138
         refine KT.skip rfl rfl ?_
         refine KT.skip rfl rfl ?_
         refine KT.step rfl rfl (K.pick rfl (fun h => by cases h) (fun _ => rfl)) ?_
         refine KT.step rfl rfl (K.move rfl) ?_
         refine KT.step rfl rfl (K.move rfl) ?_
         refine KT.step rfl rfl (K.loadOA ([DI gi, DI gj, DI gb]) rfl y0 (by decide) Try.agg36 Try.size36 rfl) ?_
         refine KT.step rfl rfl (K.call2 rfl rfl plainTry_49 (Clock49 hd hl hr)) ?_
         refine KT.step rfl rfl (K.not rfl) ?_
         refine KT.step rfl rfl (K.pick rfl (fun h => by cases h) (fun _ => rfl)) ?_
         refine KT.step rfl rfl (K.move rfl) ?_
         refine KT.bcase (fun hb148 => ?_) (fun hb148 => ?_)
         ·skip
          refine KT.skip rfl rfl ?_
          refine KT.skip rfl rfl ?_
          refine KT.skip rfl rfl ?_
          refine KT.skip rfl rfl ?_
          refine KT.step rfl rfl (K.pick rfl (fun _ => rfl) (fun h => by cases h)) ?_
          refine KT.step rfl rfl (K.move rfl) ?_
          refine KT.step rfl rfl (K.call0 plainTry_21 (awake21)) ?_
          refine KT.step rfl rfl (K.pick rfl (fun _ => rfl) (fun h => by cases h)) ?_
          refine KT.step rfl rfl (K.assign rfl) ?_
          refine KT.nil ?_
          refine thenK_n ?_
          refine KC.ret ?_
          refine thenK_r ?_
          exact ⟨.inl rfl, _, rfl, rfl⟩
         ·skip
          refine KT.step rfl rfl (K.move rfl) ?_
          refine KT.step rfl rfl (K.loadOA ([DI hi, DI hj, DI hb]) rfl y1 (by decide) Try.agg36 Try.size36 rfl) ?_
          refine KT.step rfl rfl (K.call2 rfl rfl plainTry_49 (Clock49 hd hl hr)) ?_
          refine KT.step rfl rfl (K.not rfl) ?_
          refine KT.step rfl rfl (K.pick rfl (fun h => by cases h) (fun _ => rfl)) ?_
          refine KT.step rfl rfl (K.move rfl) ?_
          refine KT.bcase (fun hb154 => ?_) (fun hb154 => ?_)
          ·skip
           refine KT.step rfl rfl (K.call0 plainTry_21 (awake21)) ?_
           refine KT.step rfl rfl (K.pick rfl (fun _ => rfl) (fun h => by cases h)) ?_
           refine KT.step rfl rfl (K.assign rfl) ?_
           refine KT.nil ?_
           refine thenK_n ?_
           refine KC.ret ?_
           refine thenK_r ?_
           exact ⟨.inl rfl, _, rfl, rfl⟩
          ·skip
           rw [Bool.not_eq_false'] at hb148 hb154
           rw [← hzZ] at hb148 hb154
           exact absurd (anE_two hb148 hv) hb138
       ·cases hc135
      ·skip
       replace hb122 := of_decide_eq_false hb122
       refine KT.step rfl rfl (K.move rfl) ?_
       refine KT.step rfl rfl (K.neq rfl rfl) ?_
       refine KT.step rfl rfl (K.pick rfl (fun h => by cases h) (fun _ => rfl)) ?_
       refine KT.step rfl rfl (K.move rfl) ?_
       refine KT.bcase (fun hb126 => ?_) (fun hb126 => ?_)
       ·skip
        replace hb126 := of_decide_eq_true hb126
        refine KT.skip rfl rfl ?_
        refine KT.skip rfl rfl ?_
        refine KT.skip rfl rfl ?_
        refine KT.step rfl rfl (K.pick rfl (fun _ => rfl) (fun h => by cases h)) ?_
        refine KT.step rfl rfl (K.move rfl) ?_
        refine KT.skip rfl rfl ?_
        refine KT.skip rfl rfl ?_
        refine KT.skip rfl rfl ?_
        refine KT.step rfl rfl (K.pick rfl (fun _ => rfl) (fun h => by cases h)) ?_
        refine KT.nil ?_
        refine thenK_n ?_
        refine KC.cond rfl (fun hc135 => ?_) (fun hc135 => ?_)
        ·skip
         refine KC.seq ?_
         refine KC.region ?_
         refine KT.step rfl rfl (K.move rfl) ?_
         refine KT.step rfl rfl (K.neq rfl rfl) ?_
         refine KT.step rfl rfl (K.move rfl) ?_
         refine KT.bcase (fun hb138 => ?_) (fun hb138 => ?_)
         ·skip
          replace hb138 := of_decide_eq_true hb138
          refine KT.step rfl rfl (K.move rfl) ?_
          refine KT.step rfl rfl (K.neq rfl rfl) ?_
          refine KT.step rfl rfl (K.pick rfl (fun _ => rfl) (fun h => by cases h)) ?_
          refine KT.step rfl rfl (K.move rfl) ?_
          refine KT.bcase (fun hb142 => ?_) (fun hb142 => ?_)
          ·skip
           replace hb142 := of_decide_eq_true hb142
           refine KT.skip rfl rfl ?_
           refine KT.skip rfl rfl ?_
           refine KT.skip rfl rfl ?_
           refine KT.skip rfl rfl ?_
           refine KT.step rfl rfl (K.pick rfl (fun _ => rfl) (fun h => by cases h)) ?_
           refine KT.step rfl rfl (K.move rfl) ?_
           refine KT.skip rfl rfl ?_
           refine KT.skip rfl rfl ?_
           refine KT.skip rfl rfl ?_
           refine KT.skip rfl rfl ?_
           refine KT.step rfl rfl (K.pick rfl (fun _ => rfl) (fun h => by cases h)) ?_
           refine KT.step rfl rfl (K.move rfl) ?_
           refine KT.step rfl rfl (K.call0 plainTry_21 (awake21)) ?_
           refine KT.step rfl rfl (K.pick rfl (fun _ => rfl) (fun h => by cases h)) ?_
           refine KT.step rfl rfl (K.assign rfl) ?_
           refine KT.nil ?_
           refine thenK_n ?_
           refine KC.ret ?_
           refine thenK_r ?_
           exact ⟨.inl rfl, _, rfl, rfl⟩
          ·skip
           replace hb142 := of_decide_eq_false hb142
           refine KT.step rfl rfl (K.move rfl) ?_
           refine KT.step rfl rfl (K.loadOA ([DI gi, DI gj, DI gb]) rfl y0 (by decide) Try.agg36 Try.size36 rfl) ?_
           refine KT.step rfl rfl (K.call2 rfl rfl plainTry_49 (Clock49 hd hl hr)) ?_
           refine KT.step rfl rfl (K.not rfl) ?_
           refine KT.step rfl rfl (K.pick rfl (fun h => by cases h) (fun _ => rfl)) ?_
           refine KT.step rfl rfl (K.move rfl) ?_
           refine KT.bcase (fun hb148 => ?_) (fun hb148 => ?_)
           ·skip
            refine KT.skip rfl rfl ?_
            refine KT.skip rfl rfl ?_
            refine KT.skip rfl rfl ?_
            refine KT.skip rfl rfl ?_
            refine KT.step rfl rfl (K.pick rfl (fun _ => rfl) (fun h => by cases h)) ?_
            refine KT.step rfl rfl (K.move rfl) ?_
            refine KT.step rfl rfl (K.call0 plainTry_21 (awake21)) ?_
            refine KT.step rfl rfl (K.pick rfl (fun _ => rfl) (fun h => by cases h)) ?_
            refine KT.step rfl rfl (K.assign rfl) ?_
            refine KT.nil ?_
            refine thenK_n ?_
            refine KC.ret ?_
            refine thenK_r ?_
            exact ⟨.inl rfl, _, rfl, rfl⟩
           ·skip
            refine KT.step rfl rfl (K.move rfl) ?_
            refine KT.step rfl rfl (K.loadOA ([DI hi, DI hj, DI hb]) rfl y1 (by decide) Try.agg36 Try.size36 rfl) ?_
            refine KT.step rfl rfl (K.call2 rfl rfl plainTry_49 (Clock49 hd hl hr)) ?_
            refine KT.step rfl rfl (K.not rfl) ?_
            refine KT.step rfl rfl (K.pick rfl (fun h => by cases h) (fun _ => rfl)) ?_
            refine KT.step rfl rfl (K.move rfl) ?_
            refine KT.bcase (fun hb154 => ?_) (fun hb154 => ?_)
            ·skip
             refine KT.step rfl rfl (K.call0 plainTry_21 (awake21)) ?_
             refine KT.step rfl rfl (K.pick rfl (fun _ => rfl) (fun h => by cases h)) ?_
             refine KT.step rfl rfl (K.assign rfl) ?_
             refine KT.nil ?_
             refine thenK_n ?_
             refine KC.ret ?_
             refine thenK_r ?_
             exact ⟨.inl rfl, _, rfl, rfl⟩
            ·skip
             rw [Bool.not_eq_false'] at hb148 hb154
             rw [← hzZ] at hb148 hb154
             exact absurd (anE_two hb154 hv) hb142
         ·skip
          replace hb138 := of_decide_eq_false hb138
          refine KT.skip rfl rfl ?_
          refine KT.skip rfl rfl ?_
          refine KT.step rfl rfl (K.pick rfl (fun h => by cases h) (fun _ => rfl)) ?_
          refine KT.step rfl rfl (K.move rfl) ?_
          refine KT.step rfl rfl (K.move rfl) ?_
          refine KT.step rfl rfl (K.loadOA ([DI gi, DI gj, DI gb]) rfl y0 (by decide) Try.agg36 Try.size36 rfl) ?_
          refine KT.step rfl rfl (K.call2 rfl rfl plainTry_49 (Clock49 hd hl hr)) ?_
          refine KT.step rfl rfl (K.not rfl) ?_
          refine KT.step rfl rfl (K.pick rfl (fun h => by cases h) (fun _ => rfl)) ?_
          refine KT.step rfl rfl (K.move rfl) ?_
          refine KT.bcase (fun hb148 => ?_) (fun hb148 => ?_)
          ·skip
           refine KT.skip rfl rfl ?_
           refine KT.skip rfl rfl ?_
           refine KT.skip rfl rfl ?_
           refine KT.skip rfl rfl ?_
           refine KT.step rfl rfl (K.pick rfl (fun _ => rfl) (fun h => by cases h)) ?_
           refine KT.step rfl rfl (K.move rfl) ?_
           refine KT.step rfl rfl (K.call0 plainTry_21 (awake21)) ?_
           refine KT.step rfl rfl (K.pick rfl (fun _ => rfl) (fun h => by cases h)) ?_
           refine KT.step rfl rfl (K.assign rfl) ?_
           refine KT.nil ?_
           refine thenK_n ?_
           refine KC.ret ?_
           refine thenK_r ?_
           exact ⟨.inl rfl, _, rfl, rfl⟩
          ·skip
           refine KT.step rfl rfl (K.move rfl) ?_
           refine KT.step rfl rfl (K.loadOA ([DI hi, DI hj, DI hb]) rfl y1 (by decide) Try.agg36 Try.size36 rfl) ?_
           refine KT.step rfl rfl (K.call2 rfl rfl plainTry_49 (Clock49 hd hl hr)) ?_
           refine KT.step rfl rfl (K.not rfl) ?_
           refine KT.step rfl rfl (K.pick rfl (fun h => by cases h) (fun _ => rfl)) ?_
           refine KT.step rfl rfl (K.move rfl) ?_
           refine KT.bcase (fun hb154 => ?_) (fun hb154 => ?_)
           ·skip
            refine KT.step rfl rfl (K.call0 plainTry_21 (awake21)) ?_
            refine KT.step rfl rfl (K.pick rfl (fun _ => rfl) (fun h => by cases h)) ?_
            refine KT.step rfl rfl (K.assign rfl) ?_
            refine KT.nil ?_
            refine thenK_n ?_
            refine KC.ret ?_
            refine thenK_r ?_
            exact ⟨.inl rfl, _, rfl, rfl⟩
           ·skip
            rw [Bool.not_eq_false'] at hb148 hb154
            rw [← hzZ] at hb148 hb154
            exact absurd (anE_two hb148 hv) hb138
        ·cases hc135
       ·skip
        replace hb126 := of_decide_eq_false hb126
        refine KT.step rfl rfl (K.move rfl) ?_
        refine KT.step rfl rfl (K.call1 rfl plainTry_36 (Valid36 (z := anZ Z gi gj gb) (resD_mat (e := anE (Z) gi gj gb) (n := (Z).length) (a := tightM (Z).length (andM (Z) gi.toNat gj.toNat gb))) (resZ_len (kz.1) _).1 (resZ_len (kz.1) _).2)) ?_
        refine KT.step rfl rfl (K.not rfl) ?_
        refine KT.step rfl rfl (K.pick rfl (fun h => by cases h) (fun _ => rfl)) ?_
        refine KT.step rfl rfl (K.move rfl) ?_
        refine KT.bcase (fun hb131 => ?_) (fun hb131 => ?_)
        ·skip
         refine KT.skip rfl rfl ?_
         refine KT.skip rfl rfl ?_
         refine KT.skip rfl rfl ?_
         refine KT.step rfl rfl (K.pick rfl (fun _ => rfl) (fun h => by cases h)) ?_
         refine KT.nil ?_
         refine thenK_n ?_
         refine KC.cond rfl (fun hc135 => ?_) (fun hc135 => ?_)
         ·skip
          refine KC.seq ?_
          refine KC.region ?_
          refine KT.step rfl rfl (K.move rfl) ?_
          refine KT.step rfl rfl (K.neq rfl rfl) ?_
          refine KT.step rfl rfl (K.move rfl) ?_
          refine KT.bcase (fun hb138 => ?_) (fun hb138 => ?_)
          ·skip
           replace hb138 := of_decide_eq_true hb138
           refine KT.step rfl rfl (K.move rfl) ?_
           refine KT.step rfl rfl (K.neq rfl rfl) ?_
           refine KT.step rfl rfl (K.pick rfl (fun _ => rfl) (fun h => by cases h)) ?_
           refine KT.step rfl rfl (K.move rfl) ?_
           refine KT.bcase (fun hb142 => ?_) (fun hb142 => ?_)
           ·skip
            replace hb142 := of_decide_eq_true hb142
            refine KT.skip rfl rfl ?_
            refine KT.skip rfl rfl ?_
            refine KT.skip rfl rfl ?_
            refine KT.skip rfl rfl ?_
            refine KT.step rfl rfl (K.pick rfl (fun _ => rfl) (fun h => by cases h)) ?_
            refine KT.step rfl rfl (K.move rfl) ?_
            refine KT.skip rfl rfl ?_
            refine KT.skip rfl rfl ?_
            refine KT.skip rfl rfl ?_
            refine KT.skip rfl rfl ?_
            refine KT.step rfl rfl (K.pick rfl (fun _ => rfl) (fun h => by cases h)) ?_
            refine KT.step rfl rfl (K.move rfl) ?_
            refine KT.step rfl rfl (K.call0 plainTry_21 (awake21)) ?_
            refine KT.step rfl rfl (K.pick rfl (fun _ => rfl) (fun h => by cases h)) ?_
            refine KT.step rfl rfl (K.assign rfl) ?_
            refine KT.nil ?_
            refine thenK_n ?_
            refine KC.ret ?_
            refine thenK_r ?_
            exact ⟨.inl rfl, _, rfl, rfl⟩
           ·skip
            replace hb142 := of_decide_eq_false hb142
            refine KT.step rfl rfl (K.move rfl) ?_
            refine KT.step rfl rfl (K.loadOA ([DI gi, DI gj, DI gb]) rfl y0 (by decide) Try.agg36 Try.size36 rfl) ?_
            refine KT.step rfl rfl (K.call2 rfl rfl plainTry_49 (Clock49 hd hl hr)) ?_
            refine KT.step rfl rfl (K.not rfl) ?_
            refine KT.step rfl rfl (K.pick rfl (fun h => by cases h) (fun _ => rfl)) ?_
            refine KT.step rfl rfl (K.move rfl) ?_
            refine KT.bcase (fun hb148 => ?_) (fun hb148 => ?_)
            ·skip
             refine KT.skip rfl rfl ?_
             refine KT.skip rfl rfl ?_
             refine KT.skip rfl rfl ?_
             refine KT.skip rfl rfl ?_
             refine KT.step rfl rfl (K.pick rfl (fun _ => rfl) (fun h => by cases h)) ?_
             refine KT.step rfl rfl (K.move rfl) ?_
             refine KT.step rfl rfl (K.call0 plainTry_21 (awake21)) ?_
             refine KT.step rfl rfl (K.pick rfl (fun _ => rfl) (fun h => by cases h)) ?_
             refine KT.step rfl rfl (K.assign rfl) ?_
             refine KT.nil ?_
             refine thenK_n ?_
             refine KC.ret ?_
             refine thenK_r ?_
             exact ⟨.inl rfl, _, rfl, rfl⟩
            ·skip
             refine KT.step rfl rfl (K.move rfl) ?_
             refine KT.step rfl rfl (K.loadOA ([DI hi, DI hj, DI hb]) rfl y1 (by decide) Try.agg36 Try.size36 rfl) ?_
             refine KT.step rfl rfl (K.call2 rfl rfl plainTry_49 (Clock49 hd hl hr)) ?_
             refine KT.step rfl rfl (K.not rfl) ?_
             refine KT.step rfl rfl (K.pick rfl (fun h => by cases h) (fun _ => rfl)) ?_
             refine KT.step rfl rfl (K.move rfl) ?_
             refine KT.bcase (fun hb154 => ?_) (fun hb154 => ?_)
             ·skip
              refine KT.step rfl rfl (K.call0 plainTry_21 (awake21)) ?_
              refine KT.step rfl rfl (K.pick rfl (fun _ => rfl) (fun h => by cases h)) ?_
              refine KT.step rfl rfl (K.assign rfl) ?_
              refine KT.nil ?_
              refine thenK_n ?_
              refine KC.ret ?_
              refine thenK_r ?_
              exact ⟨.inl rfl, _, rfl, rfl⟩
             ·skip
              rw [Bool.not_eq_false'] at hb148 hb154
              rw [← hzZ] at hb148 hb154
              exact absurd (anE_two hb154 hv) hb142
          ·skip
           replace hb138 := of_decide_eq_false hb138
           refine KT.skip rfl rfl ?_
           refine KT.skip rfl rfl ?_
           refine KT.step rfl rfl (K.pick rfl (fun h => by cases h) (fun _ => rfl)) ?_
           refine KT.step rfl rfl (K.move rfl) ?_
           refine KT.step rfl rfl (K.move rfl) ?_
           refine KT.step rfl rfl (K.loadOA ([DI gi, DI gj, DI gb]) rfl y0 (by decide) Try.agg36 Try.size36 rfl) ?_
           refine KT.step rfl rfl (K.call2 rfl rfl plainTry_49 (Clock49 hd hl hr)) ?_
           refine KT.step rfl rfl (K.not rfl) ?_
           refine KT.step rfl rfl (K.pick rfl (fun h => by cases h) (fun _ => rfl)) ?_
           refine KT.step rfl rfl (K.move rfl) ?_
           refine KT.bcase (fun hb148 => ?_) (fun hb148 => ?_)
           ·skip
            refine KT.skip rfl rfl ?_
            refine KT.skip rfl rfl ?_
            refine KT.skip rfl rfl ?_
            refine KT.skip rfl rfl ?_
            refine KT.step rfl rfl (K.pick rfl (fun _ => rfl) (fun h => by cases h)) ?_
            refine KT.step rfl rfl (K.move rfl) ?_
            refine KT.step rfl rfl (K.call0 plainTry_21 (awake21)) ?_
            refine KT.step rfl rfl (K.pick rfl (fun _ => rfl) (fun h => by cases h)) ?_
            refine KT.step rfl rfl (K.assign rfl) ?_
            refine KT.nil ?_
            refine thenK_n ?_
            refine KC.ret ?_
            refine thenK_r ?_
            exact ⟨.inl rfl, _, rfl, rfl⟩
           ·skip
            refine KT.step rfl rfl (K.move rfl) ?_
            refine KT.step rfl rfl (K.loadOA ([DI hi, DI hj, DI hb]) rfl y1 (by decide) Try.agg36 Try.size36 rfl) ?_
            refine KT.step rfl rfl (K.call2 rfl rfl plainTry_49 (Clock49 hd hl hr)) ?_
            refine KT.step rfl rfl (K.not rfl) ?_
            refine KT.step rfl rfl (K.pick rfl (fun h => by cases h) (fun _ => rfl)) ?_
            refine KT.step rfl rfl (K.move rfl) ?_
            refine KT.bcase (fun hb154 => ?_) (fun hb154 => ?_)
            ·skip
             refine KT.step rfl rfl (K.call0 plainTry_21 (awake21)) ?_
             refine KT.step rfl rfl (K.pick rfl (fun _ => rfl) (fun h => by cases h)) ?_
             refine KT.step rfl rfl (K.assign rfl) ?_
             refine KT.nil ?_
             refine thenK_n ?_
             refine KC.ret ?_
             refine thenK_r ?_
             exact ⟨.inl rfl, _, rfl, rfl⟩
            ·skip
             rw [Bool.not_eq_false'] at hb148 hb154
             rw [← hzZ] at hb148 hb154
             exact absurd (anE_two hb148 hv) hb138
         ·cases hc135
        ·skip
         refine KT.step rfl rfl (K.move rfl) ?_
         refine KT.step rfl rfl (K.call1 rfl plainTry_36 (Valid36 (z := anZ Z hi hj hb) (resD_mat (e := anE (Z) hi hj hb) (n := (Z).length) (a := tightM (Z).length (andM (Z) hi.toNat hj.toNat hb))) (resZ_len (kz.1) _).1 (resZ_len (kz.1) _).2)) ?_
         refine KT.step rfl rfl (K.not rfl) ?_
         refine KT.step rfl rfl (K.pick rfl (fun h => by cases h) (fun _ => rfl)) ?_
         refine KT.nil ?_
         refine thenK_n ?_
         refine KC.cond rfl (fun hc135 => ?_) (fun hc135 => ?_)
         ·skip
          refine KC.seq ?_
          refine KC.region ?_
          refine KT.step rfl rfl (K.move rfl) ?_
          refine KT.step rfl rfl (K.neq rfl rfl) ?_
          refine KT.step rfl rfl (K.move rfl) ?_
          refine KT.bcase (fun hb138 => ?_) (fun hb138 => ?_)
          ·skip
           replace hb138 := of_decide_eq_true hb138
           refine KT.step rfl rfl (K.move rfl) ?_
           refine KT.step rfl rfl (K.neq rfl rfl) ?_
           refine KT.step rfl rfl (K.pick rfl (fun _ => rfl) (fun h => by cases h)) ?_
           refine KT.step rfl rfl (K.move rfl) ?_
           refine KT.bcase (fun hb142 => ?_) (fun hb142 => ?_)
           ·skip
            replace hb142 := of_decide_eq_true hb142
            refine KT.skip rfl rfl ?_
            refine KT.skip rfl rfl ?_
            refine KT.skip rfl rfl ?_
            refine KT.skip rfl rfl ?_
            refine KT.step rfl rfl (K.pick rfl (fun _ => rfl) (fun h => by cases h)) ?_
            refine KT.step rfl rfl (K.move rfl) ?_
            refine KT.skip rfl rfl ?_
            refine KT.skip rfl rfl ?_
            refine KT.skip rfl rfl ?_
            refine KT.skip rfl rfl ?_
            refine KT.step rfl rfl (K.pick rfl (fun _ => rfl) (fun h => by cases h)) ?_
            refine KT.step rfl rfl (K.move rfl) ?_
            refine KT.step rfl rfl (K.call0 plainTry_21 (awake21)) ?_
            refine KT.step rfl rfl (K.pick rfl (fun _ => rfl) (fun h => by cases h)) ?_
            refine KT.step rfl rfl (K.assign rfl) ?_
            refine KT.nil ?_
            refine thenK_n ?_
            refine KC.ret ?_
            refine thenK_r ?_
            exact ⟨.inl rfl, _, rfl, rfl⟩
           ·skip
            replace hb142 := of_decide_eq_false hb142
            refine KT.step rfl rfl (K.move rfl) ?_
            refine KT.step rfl rfl (K.loadOA ([DI gi, DI gj, DI gb]) rfl y0 (by decide) Try.agg36 Try.size36 rfl) ?_
            refine KT.step rfl rfl (K.call2 rfl rfl plainTry_49 (Clock49 hd hl hr)) ?_
            refine KT.step rfl rfl (K.not rfl) ?_
            refine KT.step rfl rfl (K.pick rfl (fun h => by cases h) (fun _ => rfl)) ?_
            refine KT.step rfl rfl (K.move rfl) ?_
            refine KT.bcase (fun hb148 => ?_) (fun hb148 => ?_)
            ·skip
             refine KT.skip rfl rfl ?_
             refine KT.skip rfl rfl ?_
             refine KT.skip rfl rfl ?_
             refine KT.skip rfl rfl ?_
             refine KT.step rfl rfl (K.pick rfl (fun _ => rfl) (fun h => by cases h)) ?_
             refine KT.step rfl rfl (K.move rfl) ?_
             refine KT.step rfl rfl (K.call0 plainTry_21 (awake21)) ?_
             refine KT.step rfl rfl (K.pick rfl (fun _ => rfl) (fun h => by cases h)) ?_
             refine KT.step rfl rfl (K.assign rfl) ?_
             refine KT.nil ?_
             refine thenK_n ?_
             refine KC.ret ?_
             refine thenK_r ?_
             exact ⟨.inl rfl, _, rfl, rfl⟩
            ·skip
             refine KT.step rfl rfl (K.move rfl) ?_
             refine KT.step rfl rfl (K.loadOA ([DI hi, DI hj, DI hb]) rfl y1 (by decide) Try.agg36 Try.size36 rfl) ?_
             refine KT.step rfl rfl (K.call2 rfl rfl plainTry_49 (Clock49 hd hl hr)) ?_
             refine KT.step rfl rfl (K.not rfl) ?_
             refine KT.step rfl rfl (K.pick rfl (fun h => by cases h) (fun _ => rfl)) ?_
             refine KT.step rfl rfl (K.move rfl) ?_
             refine KT.bcase (fun hb154 => ?_) (fun hb154 => ?_)
             ·skip
              refine KT.step rfl rfl (K.call0 plainTry_21 (awake21)) ?_
              refine KT.step rfl rfl (K.pick rfl (fun _ => rfl) (fun h => by cases h)) ?_
              refine KT.step rfl rfl (K.assign rfl) ?_
              refine KT.nil ?_
              refine thenK_n ?_
              refine KC.ret ?_
              refine thenK_r ?_
              exact ⟨.inl rfl, _, rfl, rfl⟩
             ·skip
              rw [Bool.not_eq_false'] at hb148 hb154
              rw [← hzZ] at hb148 hb154
              exact absurd (anE_two hb154 hv) hb142
          ·skip
           replace hb138 := of_decide_eq_false hb138
           refine KT.skip rfl rfl ?_
           refine KT.skip rfl rfl ?_
           refine KT.step rfl rfl (K.pick rfl (fun h => by cases h) (fun _ => rfl)) ?_
           refine KT.step rfl rfl (K.move rfl) ?_
           refine KT.step rfl rfl (K.move rfl) ?_
           refine KT.step rfl rfl (K.loadOA ([DI gi, DI gj, DI gb]) rfl y0 (by decide) Try.agg36 Try.size36 rfl) ?_
           refine KT.step rfl rfl (K.call2 rfl rfl plainTry_49 (Clock49 hd hl hr)) ?_
           refine KT.step rfl rfl (K.not rfl) ?_
           refine KT.step rfl rfl (K.pick rfl (fun h => by cases h) (fun _ => rfl)) ?_
           refine KT.step rfl rfl (K.move rfl) ?_
           refine KT.bcase (fun hb148 => ?_) (fun hb148 => ?_)
           ·skip
            refine KT.skip rfl rfl ?_
            refine KT.skip rfl rfl ?_
            refine KT.skip rfl rfl ?_
            refine KT.skip rfl rfl ?_
            refine KT.step rfl rfl (K.pick rfl (fun _ => rfl) (fun h => by cases h)) ?_
            refine KT.step rfl rfl (K.move rfl) ?_
            refine KT.step rfl rfl (K.call0 plainTry_21 (awake21)) ?_
            refine KT.step rfl rfl (K.pick rfl (fun _ => rfl) (fun h => by cases h)) ?_
            refine KT.step rfl rfl (K.assign rfl) ?_
            refine KT.nil ?_
            refine thenK_n ?_
            refine KC.ret ?_
            refine thenK_r ?_
            exact ⟨.inl rfl, _, rfl, rfl⟩
           ·skip
            refine KT.step rfl rfl (K.move rfl) ?_
            refine KT.step rfl rfl (K.loadOA ([DI hi, DI hj, DI hb]) rfl y1 (by decide) Try.agg36 Try.size36 rfl) ?_
            refine KT.step rfl rfl (K.call2 rfl rfl plainTry_49 (Clock49 hd hl hr)) ?_
            refine KT.step rfl rfl (K.not rfl) ?_
            refine KT.step rfl rfl (K.pick rfl (fun h => by cases h) (fun _ => rfl)) ?_
            refine KT.step rfl rfl (K.move rfl) ?_
            refine KT.bcase (fun hb154 => ?_) (fun hb154 => ?_)
            ·skip
             refine KT.step rfl rfl (K.call0 plainTry_21 (awake21)) ?_
             refine KT.step rfl rfl (K.pick rfl (fun _ => rfl) (fun h => by cases h)) ?_
             refine KT.step rfl rfl (K.assign rfl) ?_
             refine KT.nil ?_
             refine thenK_n ?_
             refine KC.ret ?_
             refine thenK_r ?_
             exact ⟨.inl rfl, _, rfl, rfl⟩
            ·skip
             rw [Bool.not_eq_false'] at hb148 hb154
             rw [← hzZ] at hb148 hb154
             exact absurd (anE_two hb148 hv) hb138
         ·skip
          have a1 := Classical.not_not.1 hb122
          have a2 := Classical.not_not.1 hb126
          rw [Bool.not_eq_false'] at hb131 hc135
          have hx := an_an a1 a2 hb131 hc135
          have hy := an_twice a1 hb131
          refine KC.skip ?_
          refine thenK_n ?_
          refine KC.seq ?_
          refine KC.region ?_
          refine KT.step rfl rfl (K.move rfl) ?_
          refine KT.step rfl rfl (K.loadOA ([DI hi, DI hj, DI hb]) rfl x3 (by decide) Try.agg38 Try.size38 rfl) ?_
          refine KT.step rfl rfl (K.call2 rfl rfl plainTry_23 (And23 (z := anZ Z gi gj gb) (resD_mat (e := anE (Z) gi gj gb) (n := (Z).length) (a := tightM (Z).length (andM (Z) gi.toNat gj.toNat gb))) (resZ_len (kz.1) _).1 (resZ_len (kz.1) _).2)) ?_
          refine KT.step rfl rfl (K.move rfl) ?_
          refine KT.step rfl rfl (K.extract rfl rfl) ?_
          refine KT.step rfl rfl (K.extract rfl rfl) ?_
          refine KT.step rfl rfl (K.assign rfl) ?_
          refine KT.step rfl rfl (K.assign rfl) ?_
          refine KT.nil ?_
          refine thenK_n ?_
          refine KC.seq ?_
          refine KC.region ?_
          refine KT.step rfl rfl (K.move rfl) ?_
          refine KT.step rfl rfl (K.loadOA ([DI gi, DI gj, DI gb]) rfl x2 (by decide) Try.agg38 Try.size38 rfl) ?_
          refine KT.step rfl rfl (K.call2 rfl rfl plainTry_23 (And23 (z := anZ Z hi hj hb) (resD_mat (e := anE (Z) hi hj hb) (n := (Z).length) (a := tightM (Z).length (andM (Z) hi.toNat hj.toNat hb))) (resZ_len (kz.1) _).1 (resZ_len (kz.1) _).2)) ?_
          refine KT.step rfl rfl (K.move rfl) ?_
          refine KT.step rfl rfl (K.extract rfl rfl) ?_
          refine KT.step rfl rfl (K.extract rfl rfl) ?_
          refine KT.step rfl rfl (K.assign rfl) ?_
          refine KT.step rfl rfl (K.assign rfl) ?_
          refine KT.nil ?_
          refine thenK_n ?_
          refine KC.seq ?_
          refine KC.region ?_
          refine KT.step rfl rfl (K.move rfl) ?_
          refine KT.step rfl rfl (K.loadOA ([DI gi, DI gj, DI gb]) rfl x2 (by decide) Try.agg38 Try.size38 rfl) ?_
          refine KT.step rfl rfl (K.call2 rfl rfl plainTry_23 (And23 (z := anZ Z gi gj gb) (resD_mat (e := anE (Z) gi gj gb) (n := (Z).length) (a := tightM (Z).length (andM (Z) gi.toNat gj.toNat gb))) (resZ_len (kz.1) _).1 (resZ_len (kz.1) _).2)) ?_
          refine KT.step rfl rfl (K.move rfl) ?_
          refine KT.step rfl rfl (K.extract rfl rfl) ?_
          refine KT.step rfl rfl (K.extract rfl rfl) ?_
          refine KT.step rfl rfl (K.assign rfl) ?_
          refine KT.step rfl rfl (K.assign rfl) ?_
          refine KT.nil ?_
          refine thenK_n ?_
          refine KC.seq ?_
          refine KC.region ?_
          refine KT.step rfl rfl (K.move rfl) ?_
          refine KT.step rfl rfl (K.move rfl) ?_
          refine KT.step rfl rfl (K.eql rfl rfl) ?_
          refine KT.step rfl rfl (K.move rfl) ?_
          refine KT.bcase (fun hb178 => ?_) (fun hb178 => ?_)
          ·skip
           replace hb178 := of_decide_eq_true hb178
           refine KT.step rfl rfl (K.move rfl) ?_
           refine KT.step rfl rfl (K.move rfl) ?_
           refine KT.step rfl rfl (K.call2 rfl rfl plainTry_20 (same20 (resD_mat (e := anE (anZ Z gi gj gb) hi hj hb) (n := (anZ Z gi gj gb).length) (a := tightM (anZ Z gi gj gb).length (andM (anZ Z gi gj gb) hi.toNat hj.toNat hb))) (resD_mat (e := anE (anZ Z hi hj hb) gi gj gb) (n := (anZ Z hi hj hb).length) (a := tightM (anZ Z hi hj hb).length (andM (anZ Z hi hj hb) gi.toNat gj.toNat gb))) (resZ_len (anZ_le kz.1) _).1 (resZ_len (anZ_le kz.1) _).2)) ?_
           refine KT.step rfl rfl (K.pick rfl (fun _ => rfl) (fun h => by cases h)) ?_
           refine KT.step rfl rfl (K.move rfl) ?_
           refine KT.bcase (fun hb183 => ?_) (fun hb183 => ?_)
           ·skip
            refine KT.step rfl rfl (K.move rfl) ?_
            refine KT.step rfl rfl (K.eql rfl rfl) ?_
            refine KT.step rfl rfl (K.pick rfl (fun _ => rfl) (fun h => by cases h)) ?_
            refine KT.step rfl rfl (K.move rfl) ?_
            refine KT.bcase (fun hb187 => ?_) (fun hb187 => ?_)
            ·skip
             replace hb187 := of_decide_eq_true hb187
             refine KT.step rfl rfl (K.move rfl) ?_
             refine KT.step rfl rfl (K.move rfl) ?_
             refine KT.step rfl rfl (K.call2 rfl rfl plainTry_20 (same20 (resD_mat (e := anE (anZ Z gi gj gb) gi gj gb) (n := (anZ Z gi gj gb).length) (a := tightM (anZ Z gi gj gb).length (andM (anZ Z gi gj gb) gi.toNat gj.toNat gb))) (resD_mat (e := anE (Z) gi gj gb) (n := (Z).length) (a := tightM (Z).length (andM (Z) gi.toNat gj.toNat gb))) (resZ_len (anZ_le kz.1) _).1 (resZ_len (anZ_le kz.1) _).2)) ?_
             refine KT.step rfl rfl (K.pick rfl (fun _ => rfl) (fun h => by cases h)) ?_
             refine KT.step rfl rfl (K.move rfl) ?_
             refine KT.bcase (fun hb192 => ?_) (fun hb192 => ?_)
             ·skip
              refine KT.step rfl rfl (K.call0 plainTry_21 (awake21)) ?_
              refine KT.step rfl rfl (K.pick rfl (fun _ => rfl) (fun h => by cases h)) ?_
              refine KT.step rfl rfl (K.assign rfl) ?_
              refine KT.nil ?_
              refine thenK_n ?_
              refine KC.ret ?_
              exact ⟨.inl rfl, _, rfl, rfl⟩
             ·skip
              exact absurd hy.2 (of_decide_eq_false hb192)
            ·skip
             exact absurd hy.1 (of_decide_eq_false hb187)
           ·skip
            exact absurd hx.2 (of_decide_eq_false hb183)
          ·skip
           exact absurd hx.1 (of_decide_eq_false hb178)
   ·skip
    exact absurd hb47 (of_decide_eq_false hb56)
end Go.Proofs.Ytjfpeiioddfjcaa

