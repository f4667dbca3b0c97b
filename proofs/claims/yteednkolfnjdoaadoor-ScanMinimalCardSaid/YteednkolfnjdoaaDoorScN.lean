import Derived.Test.YteednkolfnjdoaaDoorScL
import Derived.Test.YteednkolfnjdoaaDoorScI
import Derived.Test.YteednkolfnjdoaaDoorBaQ
/-
  Controllers: the law on the minimal machine.
-/
namespace Go.Proofs.YteednkolfnjdoaaDoor
open Go.Vm Go.Sc
theorem mzR_cut {a : Int} {nx ou : List (List Int)} : mzR a (cutM nx) (cutM ou) = mzR a nx ou := by
  by_cases h : VM a nx ou
  · rw [(VM_cut h).1, (VM_cut h).2]
  · rw [mzR_no h, mzR_no fun h2 => h (vm_cut.1 h2)]
theorem Minimize_cut {a : Int} {nd od : DV} {nx ou : List (List Int)} (hn : Mat nd nx) (ho : Mat od ou) (_ : nx.length ≤ 9223372036854775807) (_ : ou.length ≤ 9223372036854775807) (_ : ∀ r ∈ nx, r.length ≤ 9223372036854775807) (_ : ∀ r ∈ ou, r.length ≤ 9223372036854775807) : DeepCall Tryd.prog 40 [.agg [DI a, rows18 nx nd, rows18 ou od]] (.tup [.agg (mzR a nx ou).1, DI (mzR a nx ou).2]) := by
  have h := Minimize40 (a := a) (rows18_mat hn) (rows18_mat ho) cutB.1 cutB.1 cutB.2 cutB.2
  rw [show (nx.take 18).map (List.take 10) = cutM nx from rfl, show (ou.take 18).map (List.take 10) = cutM ou from rfl, mzR_cut] at h
  exact h
theorem mz_form {a : Int} {nx ou : List (List Int)} : ∃ x d e k, mzR a nx ou = ([DI x, d, e], k) ∧ oneX (.d d) = true ∧ oneX (.d e) = true := by
  by_cases h : VM a nx ou
  · exact ⟨_, _, _, _, if_pos h, rfl, rfl⟩
  · exact ⟨_, _, _, _, mzR_no h, rfl, rfl⟩
section
variable {m : Nat} {nx ou : List (List Int)}
theorem vmClo (hv : VM m nx ou) : ∀ s i, s < nx.length → i < m → nxF nx s i < nx.length := fun s i a b => (hv.next a (by omega)).1
theorem vmMin (hv : VM m nx ou) : VM m (minN m nx.length (nxF nx) (ouF ou)) (minO m nx.length (nxF nx) (ouF ou)) := by
  have h8 := hv.a8
  have h1 := hv.a1
  exact min_vm (vmClo hv) (fun s i a b => ⟨(hv.out a (by omega)).1, (hv.out a (by omega)).2.1⟩) hv.n1 hv.n16 (by omega) (by omega)
theorem minN_le (hv : VM m nx ou) : (minN m nx.length (nxF nx) (ouF ou)).length ≤ nx.length := by
  unfold minN; rw [numN_len]; exact minF_len (vmClo hv) hv.n1
theorem minO_len : (minO m nx.length (nxF nx) (ouF ou)).length = (minN m nx.length (nxF nx) (ouF ou)).length := by
  unfold minN minO; rw [numN_len, numO_len]
theorem mz_again (hv : VM m nx ou) : mzR m (minN m nx.length (nxF nx) (ouF ou)) (minO m nx.length (nxF nx) (ouF ou)) = ([DI (m : Nat), matV (minN m nx.length (nxF nx) (ouF ou)), matV (minO m nx.length (nxF nx) (ouF ou))], 0) := by
  rw [mzR_yes (vmMin hv)]
  have h := min_min (m := m) (ou := ouF ou) (vmClo hv) hv.n1
  rw [← numN_len (minF m nx.length (nxF nx) (ouF ou)) (nxR m (nxF nx) (ouF ou)) m, show numN (minF m nx.length (nxF nx) (ouF ou)) (nxR m (nxF nx) (ouF ou)) m = (minN m nx.length (nxF nx) (ouF ou)) from rfl] at h
  rw [h.1, h.2]
theorem rsp_min (hv : VM m nx ou) {l : List Int} : rspR m (minN m nx.length (nxF nx) (ouF ou)) (minO m nx.length (nxF nx) (ouF ou)) l = rspR m nx ou l := by
  cases hw : wordB l 1000 (m : Int) with
  | true => rw [rspR_yes hv hw, rspR_yes (vmMin hv) hw, min_resp (vmClo hv) hv.n1 ((word_nat hw).2 m rfl)]
  | false => rw [rspR_no fun h => absurd h.2 (by rw [hw]; decide), rspR_no fun h => absurd h.2 (by rw [hw]; decide)]
theorem vmRows (hv : VM m nx ou) : (∀ r ∈ nx, r.length ≤ 9223372036854775807) ∧ ∀ r ∈ ou, r.length ≤ 9223372036854775807 := by
  have h := VM_cut hv
  exact ⟨h.1 ▸ cutB.2, h.2 ▸ cutB.2⟩
theorem Respond_min (hv : VM m nx ou) {d : DV} {l : List Int} (hd : Ints d l) (hl : l.length ≤ 9223372036854775807) : DeepCall Tryd.prog 38 [.agg [DI (m : Nat), matV (minN m nx.length (nxF nx) (ouF ou)), matV (minO m nx.length (nxF nx) (ouF ou))], d] (.tup [rspD m nx ou l, DI (rspR m nx ou l).2]) := by
  have n16 := (vmMin hv).n16
  have h := Respond38 (a := (m : Int)) (matV_mat (rows := (minN m nx.length (nxF nx) (ouF ou)))) (matV_mat (rows := (minO m nx.length (nxF nx) (ouF ou)))) (by omega) (by rw [minO_len]; omega) (vmRows (vmMin hv)).1 (vmRows (vmMin hv)).2 hd hl
  unfold rspD at h ⊢
  rw [rsp_min hv] at h
  exact h
end
section
variable {m : Nat} {nx ou nx2 ou2 : List (List Int)}
/-- The minimal machines are one exactly when no word parts the machines. -/
theorem min_part (hv : VM m nx ou) (hv2 : VM m nx2 ou2) : ((minN m nx.length (nxF nx) (ouF ou)) = (minN m nx2.length (nxF nx2) (ouF ou2)) ∧ (minO m nx.length (nxF nx) (ouF ou)) = (minO m nx2.length (nxF nx2) (ouF ou2))) ↔ partW m nx ou nx2 ou2 0 0 = none := by
  refine ⟨fun h => ?_, fun h => ?_⟩
  · cases hp : partW m nx ou nx2 ou2 0 0 with
    | none => rfl
    | some w =>
      obtain ⟨u, i, hwu, hwok, hdif, hsame⟩ := resp_part hp
      have e1 := min_resp (ou := ouF ou) (vmClo hv) hv.n1 hwok
      have e2 := min_resp (ou := ouF ou2) (vmClo hv2) hv2.n1 hwok
      rw [h.1, h.2] at e1
      have e := e1.symm.trans e2
      have hk : u.length < w.length := by rw [hwu]; simp
      have g := congrArg (fun z => z.getD u.length 0) e
      rw [← get_D (by rw [respL_len]; exact hk), ← get_D (by rw [respL_len]; exact hk), respL_get _ _ _ _ hk, respL_get _ _ _ _ hk] at g
      have wu : w.take u.length = u := by rw [hwu]; simp
      have wi : w.getD u.length 0 = i := by rw [hwu]; simp
      rw [wu, wi] at g
      exact absurd g hdif
  · refine min_same (vmClo hv) hv.n1 (vmClo hv2) hv2.n1 fun w i hw hi => ?_
    have hok : OkW m (w ++ [i]) := hw.snoc hi
    have g := congrArg (fun z => z.getD w.length 0) (part_none h hok)
    have hk : w.length < (w ++ [i]).length := by simp
    rw [← get_D (by rw [respL_len]; exact hk), ← get_D (by rw [respL_len]; exact hk), respL_get _ _ _ _ hk, respL_get _ _ _ _ hk] at g
    rw [show (w ++ [i]).take w.length = w by simp, show (w ++ [i]).getD w.length 0 = i by simp] at g
    exact g
end
/-- The two ways that the law goes. -/
theorem mn_cases {a b : Int} {nx ou nx2 ou2 : List (List Int)} : ∃ W E x1 p1 q1 e1 x2 p2 q2 e2, apR a nx ou b nx2 ou2 = (W, E) ∧ mzR a nx ou = ([DI x1, p1, q1], e1) ∧ mzR b nx2 ou2 = ([DI x2, p2, q2], e2) ∧ (oneX (.d p1) = true ∧ oneX (.d q1) = true ∧ oneX (.d p2) = true ∧ oneX (.d q2) = true) ∧
    ((E = 2 ∧ (e1 = 0 ∨ e1 = 2) ∧ (e2 = 0 ∨ e2 = 2) ∧ (e1 = 0 → e2 = 0 → a ≠ b)) ∨
      ∃ m : Nat, a = m ∧ b = m ∧ x1 = m ∧ x2 = m ∧ p1 = matV (minN m nx.length (nxF nx) (ouF ou)) ∧ q1 = matV (minO m nx.length (nxF nx) (ouF ou)) ∧ p2 = matV (minN m nx2.length (nxF nx2) (ouF ou2)) ∧ q2 = matV (minO m nx2.length (nxF nx2) (ouF ou2)) ∧ e1 = 0 ∧ e2 = 0 ∧ VM m nx ou ∧ VM m nx2 ou2 ∧ ((W = none ∧ E = 5 ∧ partW m nx ou nx2 ou2 0 0 = none) ∨ ∃ w, W = some w ∧ E = 0 ∧ partW m nx ou nx2 ou2 0 0 = some w)) := by
  by_cases h : VM a nx ou ∧ VM b nx2 ou2 ∧ a = b
  · obtain ⟨h1, h2, rfl⟩ := h
    obtain ⟨m, rfl⟩ : ∃ m : Nat, a = m := ⟨a.toNat, by have := h1.a1; omega⟩
    cases hp : partW m nx ou nx2 ou2 0 0 with
    | none => exact ⟨_, _, _, _, _, _, _, _, _, _, apR_none h1 h2 hp, mzR_yes h1, mzR_yes h2, ⟨rfl, rfl, rfl, rfl⟩, .inr ⟨m, rfl, rfl, rfl, rfl, rfl, rfl, rfl, rfl, rfl, rfl, h1, h2, .inl ⟨rfl, rfl, hp⟩⟩⟩
    | some w => exact ⟨_, _, _, _, _, _, _, _, _, _, apR_some h1 h2 hp, mzR_yes h1, mzR_yes h2, ⟨rfl, rfl, rfl, rfl⟩, .inr ⟨m, rfl, rfl, rfl, rfl, rfl, rfl, rfl, rfl, rfl, rfl, h1, h2, .inr ⟨w, rfl, rfl, hp⟩⟩⟩
  · obtain ⟨x1, p1, q1, e1, f1, g1, g2⟩ := mz_form (a := a) (nx := nx) (ou := ou)
    obtain ⟨x2, p2, q2, e2, f2, g3, g4⟩ := mz_form (a := b) (nx := nx2) (ou := ou2)
    have hz : ∀ {c : Int} {x y : List (List Int)} {l : List DV} {e : Int}, mzR c x y = (l, e) → (VM c x y → e = 0) ∧ (¬ VM c x y → e = 2) := fun {c x y l e} hh => ⟨fun hv => by unfold mzR at hh; rw [if_pos hv] at hh; exact (congrArg Prod.snd hh).symm, fun hv => by rw [mzR_no hv] at hh; exact (congrArg Prod.snd hh).symm⟩
    refine ⟨_, _, _, _, _, _, _, _, _, _, apR_no h, f1, f2, ⟨g1, g2, g3, g4⟩, .inl ⟨rfl, ?_, ?_, fun k1 k2 hab => ?_⟩⟩
    · exact (Classical.em (VM a nx ou)).imp (hz f1).1 (hz f1).2
    · exact (Classical.em (VM b nx2 ou2)).imp (hz f2).1 (hz f2).2
    · refine h ⟨Classical.byContradiction fun hn => ?_, Classical.byContradiction fun hn => ?_, hab⟩
      · have := (hz f1).2 hn; omega
      · have := (hz f2).2 hn; omega
section
variable {P : Program} {σ : List VObj} {kn : Kn} {dst : Option Tmp} {ty : TypeId} {pos : String} {af : Array Edge} {g : Option (Nat × Bool)}
theorem K.neqB {t u : TypeId} {x y : Operand} {a b : Bool} (ht : P.underlying t = some .bool) (hx : evK kn x = some (.d (DB a))) (hy : evK kn y = some (.d (DB b))) :
    KEv P ⟨dst, .binOp .neq t x y u, ty, pos, af, g⟩ σ kn (.d (DB (a != b))) σ 0 := K.bin hx hy (by
    rw [pureRun_bind]
    show (some ()).bind _ = _
    simp only [Option.bind_some]
    show pureRun P (do pure (Value.bool (!(← Op.equal t (.bool a) (.bool b)))) : Sem Value) = _
    rw [pureRun_bind, equal_bool ht]; rfl)
end
theorem Tryd.boolT : Tryd.prog.underlying 4 = some .bool := by kernel_rfl
set_option maxHeartbeats 3000000 in
set_option maxRecDepth 10000 in
theorem law12 {a : Int} {nd od : DV} {nx ou : List (List Int)} (hn : Mat nd nx) (ho : Mat od ou) (hnl : nx.length ≤ 9223372036854775807) (hol : ou.length ≤ 9223372036854775807) (hnr : ∀ r ∈ nx, r.length ≤ 9223372036854775807) (hor : ∀ r ∈ ou, r.length ≤ 9223372036854775807) {b : Int} {nd2 od2 : DV} {nx2 ou2 : List (List Int)} (hn2 : Mat nd2 nx2) (ho2 : Mat od2 ou2) (hnl2 : nx2.length ≤ 9223372036854775807) (hol2 : ou2.length ≤ 9223372036854775807) (hnr2 : ∀ r ∈ nx2, r.length ≤ 9223372036854775807) (hor2 : ∀ r ∈ ou2, r.length ≤ 9223372036854775807) {d : DV} {l : List Int} (hd : Ints d l) (hl : l.length ≤ 9223372036854775807) : DeepCall Tryd.prog 12 [.agg [DI a, nd, od], .agg [DI b, nd2, od2], d] (DB true) := by
  obtain ⟨W, E, x1, p1, q1, e1, x2, p2, q2, e2, hA, hm1, hm2, ⟨o1, o2, o3, o4⟩, hc⟩ := mn_cases (a := a) (b := b) (nx := nx) (ou := ou) (nx2 := nx2) (ou2 := ou2)
  have cA := Apart_cut hn ho hnl hol hnr hor hn2 ho2 hnl2 hol2 hnr2 hor2 (a := a) (b := b)
  have cM1 := Minimize_cut hn ho hnl hol hnr hor (a := a)
  have cM2 := Minimize_cut hn2 ho2 hnl2 hol2 hnr2 hor2 (a := b)
  rw [hA] at cA
  rw [hm1] at cM1
  rw [hm2] at cM2
  simp only at cA cM1 cM2
  refine deepCall_K 5 Tryd.func12 rfl (Nat.le_of_ble_eq_true rfl) fun M W0 => ?_
  refine KC.seq ?_
  refine KC.region ?_
  refine KT.step rfl rfl (K.box rfl) ?_
  refine KT.step rfl rfl (K.box rfl) ?_
  refine KT.step rfl rfl (K.assign rfl) ?_
  refine KT.nil ?_
  refine thenK_n ?_
  refine KC.seq ?_
  refine KC.region ?_
  refine KT.step rfl rfl (K.loadOA ([DI a, nd, od]) rfl rfl (by decide) Tryd.agg63 Tryd.size63 rfl) ?_
  refine KT.step rfl rfl (K.call1 rfl plainTryd_39 (machine39 hn ho hnl hol hnr hor)) ?_
  refine KT.step rfl rfl (K.call1 rfl plainTryd_40 (cM1)) ?_
  refine KT.step rfl rfl (K.move rfl) ?_
  refine KT.step rfl rfl (K.extract rfl rfl) ?_
  refine KT.step rfl rfl (K.extract rfl rfl) ?_
  refine KT.step rfl rfl (K.alloc Tryd.zero58) ?_
  refine KT.storeL (cs := [.d (DI x1), .d p1, .d q1]) rfl rfl rfl rfl rfl rfl (by simp only [List.all_cons, o1, o2]; rfl) Tryd.size58 ?_
  refine KT.step rfl rfl (K.assign rfl) ?_
  refine KT.nil ?_
  refine thenK_n ?_
  refine KC.seq ?_
  refine KC.region ?_
  refine KT.step rfl rfl (K.loadOA ([DI b, nd2, od2]) rfl rfl (by decide) Tryd.agg63 Tryd.size63 rfl) ?_
  refine KT.step rfl rfl (K.call1 rfl plainTryd_39 (machine39 hn2 ho2 hnl2 hol2 hnr2 hor2)) ?_
  refine KT.step rfl rfl (K.call1 rfl plainTryd_40 (cM2)) ?_
  refine KT.step rfl rfl (K.move rfl) ?_
  refine KT.step rfl rfl (K.extract rfl rfl) ?_
  refine KT.step rfl rfl (K.extract rfl rfl) ?_
  refine KT.step rfl rfl (K.alloc Tryd.zero58) ?_
  refine KT.storeL (cs := [.d (DI x2), .d p2, .d q2]) rfl rfl rfl rfl rfl rfl (by simp only [List.all_cons, o3, o4]; rfl) Tryd.size58 ?_
  refine KT.step rfl rfl (K.assign rfl) ?_
  refine KT.nil ?_
  refine thenK_n ?_
  refine KC.seq ?_
  refine KC.draw Tryd.mixed ?_
  refine KT.step rfl rfl (K.loadOA ([DI a, nd, od]) rfl rfl (by decide) Tryd.agg63 Tryd.size63 rfl) ?_
  refine KT.step rfl rfl (K.call1 rfl plainTryd_39 (machine39 hn ho hnl hol hnr hor)) ?_
  refine KT.step rfl rfl (K.loadOA ([DI b, nd2, od2]) rfl rfl (by decide) Tryd.agg63 Tryd.size63 rfl) ?_
  refine KT.step rfl rfl (K.call1 rfl plainTryd_39 (machine39 hn2 ho2 hnl2 hol2 hnr2 hor2)) ?_
  refine KT.step rfl rfl (K.call2 rfl rfl plainTryd_44 (cA)) ?_
  refine KT.step rfl rfl (K.move rfl) ?_
  refine KT.step rfl rfl (K.extract rfl rfl) ?_
  refine KT.step rfl rfl (K.extract rfl rfl) ?_
  refine KT.step rfl rfl (K.assign rfl) ?_
  refine KT.step rfl rfl (K.assign rfl) ?_
  refine KT.nil ?_
  refine ⟨by kernel_rfl, ?_⟩
  refine thenK_n ?_
  refine KC.seq ?_
  refine KC.seq ?_
  refine KC.region ?_
  refine KT.step rfl rfl (K.move rfl) ?_
  refine KT.step rfl rfl (K.neq rfl rfl) ?_
  refine KT.step rfl rfl (K.move rfl) ?_
  refine KT.bcase (fun hb38 => ?_) (fun hb38 => ?_)
  · skip
    replace hb38 := of_decide_eq_true hb38
    refine KT.skip rfl rfl ?_
    refine KT.skip rfl rfl ?_
    refine KT.step rfl rfl (K.pick rfl (fun _ => rfl) (fun h => by cases h)) ?_
    refine KT.step rfl rfl (K.move rfl) ?_
    refine KT.skip rfl rfl ?_
    refine KT.skip rfl rfl ?_
    refine KT.step rfl rfl (K.pick rfl (fun _ => rfl) (fun h => by cases h)) ?_
    refine KT.nil ?_
    refine thenK_n ?_
    refine KC.cond rfl (fun hc45 => ?_) (fun hc45 => ?_)
    · skip
      refine KC.seq ?_
      refine KC.region ?_
      refine KT.step rfl rfl (K.move rfl) ?_
      refine KT.step rfl rfl (K.eql rfl rfl) ?_
      refine KT.step rfl rfl (K.move rfl) ?_
      refine KT.bcase (fun hb48 => ?_) (fun hb48 => ?_)
      · skip
        replace hb48 := of_decide_eq_true hb48
        refine KT.skip rfl rfl ?_
        refine KT.skip rfl rfl ?_
        refine KT.step rfl rfl (K.pick rfl (fun _ => rfl) (fun h => by cases h)) ?_
        refine KT.step rfl rfl (K.move rfl) ?_
        refine KT.skip rfl rfl ?_
        refine KT.skip rfl rfl ?_
        refine KT.skip rfl rfl ?_
        refine KT.skip rfl rfl ?_
        refine KT.skip rfl rfl ?_
        refine KT.step rfl rfl (K.pick rfl (fun _ => rfl) (fun h => by cases h)) ?_
        refine KT.step rfl rfl (K.move rfl) ?_
        refine KT.step rfl rfl (K.call0 plainTryd_19 (awake19)) ?_
        refine KT.step rfl rfl (K.pick rfl (fun _ => rfl) (fun h => by cases h)) ?_
        refine KT.step rfl rfl (K.assign rfl) ?_
        refine KT.nil ?_
        refine thenK_n ?_
        refine KC.ret ?_
        refine thenK_r ?_
        exact ⟨.inl rfl, _, rfl, fin_d rfl⟩
      · skip
        replace hb48 := of_decide_eq_false hb48
        refine KT.step rfl rfl (K.move rfl) ?_
        refine KT.step rfl rfl (K.eql rfl rfl) ?_
        refine KT.step rfl rfl (K.pick rfl (fun h => by cases h) (fun _ => rfl)) ?_
        refine KT.step rfl rfl (K.move rfl) ?_
        refine KT.bcase (fun hb52 => ?_) (fun hb52 => ?_)
        · skip
          replace hb52 := of_decide_eq_true hb52
          refine KT.skip rfl rfl ?_
          refine KT.skip rfl rfl ?_
          refine KT.skip rfl rfl ?_
          refine KT.skip rfl rfl ?_
          refine KT.skip rfl rfl ?_
          refine KT.step rfl rfl (K.pick rfl (fun _ => rfl) (fun h => by cases h)) ?_
          refine KT.step rfl rfl (K.move rfl) ?_
          refine KT.step rfl rfl (K.call0 plainTryd_19 (awake19)) ?_
          refine KT.step rfl rfl (K.pick rfl (fun _ => rfl) (fun h => by cases h)) ?_
          refine KT.step rfl rfl (K.assign rfl) ?_
          refine KT.nil ?_
          refine thenK_n ?_
          refine KC.ret ?_
          refine thenK_r ?_
          exact ⟨.inl rfl, _, rfl, fin_d rfl⟩
        · skip
          replace hb52 := of_decide_eq_false hb52
          refine KT.step rfl rfl (K.fieldAddrO rfl Tryd.fld63_0 Tryd.size3) ?_
          refine KT.step rfl rfl (K.loadO rfl rfl (by simp) rfl Tryd.agg3) ?_
          refine KT.step rfl rfl (K.fieldAddrO rfl Tryd.fld63_0 Tryd.size3) ?_
          refine KT.step rfl rfl (K.loadO rfl rfl (by simp) rfl Tryd.agg3) ?_
          refine KT.step rfl rfl (K.neq rfl rfl) ?_
          refine KT.step rfl rfl (K.pick rfl (fun h => by cases h) (fun _ => rfl)) ?_
          refine KT.step rfl rfl (K.move rfl) ?_
          refine KT.bcase (fun hb59 => ?_) (fun hb59 => ?_)
          · skip
            replace hb59 := of_decide_eq_true hb59
            refine KT.step rfl rfl (K.call0 plainTryd_19 (awake19)) ?_
            refine KT.step rfl rfl (K.pick rfl (fun _ => rfl) (fun h => by cases h)) ?_
            refine KT.step rfl rfl (K.assign rfl) ?_
            refine KT.nil ?_
            refine thenK_n ?_
            refine KC.ret ?_
            refine thenK_r ?_
            exact ⟨.inl rfl, _, rfl, fin_d rfl⟩
          · skip
            replace hb59 := of_decide_eq_false hb59
            rcases hc with ⟨h1, h2, h3, h4⟩ | ⟨m, h1, h2, h3, h4, h5, h6, h7, h8, h9, h10, h11, h12, ⟨_, h13, _⟩ | ⟨w, _, h13, _⟩⟩ <;> omega
    · cases hc45
  · skip
    replace hb38 := of_decide_eq_false hb38
    refine KT.step rfl rfl (K.move rfl) ?_
    refine KT.step rfl rfl (K.neq rfl rfl) ?_
    refine KT.step rfl rfl (K.pick rfl (fun h => by cases h) (fun _ => rfl)) ?_
    refine KT.step rfl rfl (K.move rfl) ?_
    refine KT.bcase (fun hb42 => ?_) (fun hb42 => ?_)
    · skip
      replace hb42 := of_decide_eq_true hb42
      refine KT.skip rfl rfl ?_
      refine KT.skip rfl rfl ?_
      refine KT.step rfl rfl (K.pick rfl (fun _ => rfl) (fun h => by cases h)) ?_
      refine KT.nil ?_
      refine thenK_n ?_
      refine KC.cond rfl (fun hc45 => ?_) (fun hc45 => ?_)
      · skip
        refine KC.seq ?_
        refine KC.region ?_
        refine KT.step rfl rfl (K.move rfl) ?_
        refine KT.step rfl rfl (K.eql rfl rfl) ?_
        refine KT.step rfl rfl (K.move rfl) ?_
        refine KT.bcase (fun hb48 => ?_) (fun hb48 => ?_)
        · skip
          replace hb48 := of_decide_eq_true hb48
          refine KT.skip rfl rfl ?_
          refine KT.skip rfl rfl ?_
          refine KT.step rfl rfl (K.pick rfl (fun _ => rfl) (fun h => by cases h)) ?_
          refine KT.step rfl rfl (K.move rfl) ?_
          refine KT.skip rfl rfl ?_
          refine KT.skip rfl rfl ?_
          refine KT.skip rfl rfl ?_
          refine KT.skip rfl rfl ?_
          refine KT.skip rfl rfl ?_
          refine KT.step rfl rfl (K.pick rfl (fun _ => rfl) (fun h => by cases h)) ?_
          refine KT.step rfl rfl (K.move rfl) ?_
          refine KT.step rfl rfl (K.call0 plainTryd_19 (awake19)) ?_
          refine KT.step rfl rfl (K.pick rfl (fun _ => rfl) (fun h => by cases h)) ?_
          refine KT.step rfl rfl (K.assign rfl) ?_
          refine KT.nil ?_
          refine thenK_n ?_
          refine KC.ret ?_
          refine thenK_r ?_
          exact ⟨.inl rfl, _, rfl, fin_d rfl⟩
        · skip
          replace hb48 := of_decide_eq_false hb48
          refine KT.step rfl rfl (K.move rfl) ?_
          refine KT.step rfl rfl (K.eql rfl rfl) ?_
          refine KT.step rfl rfl (K.pick rfl (fun h => by cases h) (fun _ => rfl)) ?_
          refine KT.step rfl rfl (K.move rfl) ?_
          refine KT.bcase (fun hb52 => ?_) (fun hb52 => ?_)
          · skip
            replace hb52 := of_decide_eq_true hb52
            refine KT.skip rfl rfl ?_
            refine KT.skip rfl rfl ?_
            refine KT.skip rfl rfl ?_
            refine KT.skip rfl rfl ?_
            refine KT.skip rfl rfl ?_
            refine KT.step rfl rfl (K.pick rfl (fun _ => rfl) (fun h => by cases h)) ?_
            refine KT.step rfl rfl (K.move rfl) ?_
            refine KT.step rfl rfl (K.call0 plainTryd_19 (awake19)) ?_
            refine KT.step rfl rfl (K.pick rfl (fun _ => rfl) (fun h => by cases h)) ?_
            refine KT.step rfl rfl (K.assign rfl) ?_
            refine KT.nil ?_
            refine thenK_n ?_
            refine KC.ret ?_
            refine thenK_r ?_
            exact ⟨.inl rfl, _, rfl, fin_d rfl⟩
          · skip
            replace hb52 := of_decide_eq_false hb52
            refine KT.step rfl rfl (K.fieldAddrO rfl Tryd.fld63_0 Tryd.size3) ?_
            refine KT.step rfl rfl (K.loadO rfl rfl (by simp) rfl Tryd.agg3) ?_
            refine KT.step rfl rfl (K.fieldAddrO rfl Tryd.fld63_0 Tryd.size3) ?_
            refine KT.step rfl rfl (K.loadO rfl rfl (by simp) rfl Tryd.agg3) ?_
            refine KT.step rfl rfl (K.neq rfl rfl) ?_
            refine KT.step rfl rfl (K.pick rfl (fun h => by cases h) (fun _ => rfl)) ?_
            refine KT.step rfl rfl (K.move rfl) ?_
            refine KT.bcase (fun hb59 => ?_) (fun hb59 => ?_)
            · skip
              replace hb59 := of_decide_eq_true hb59
              refine KT.step rfl rfl (K.call0 plainTryd_19 (awake19)) ?_
              refine KT.step rfl rfl (K.pick rfl (fun _ => rfl) (fun h => by cases h)) ?_
              refine KT.step rfl rfl (K.assign rfl) ?_
              refine KT.nil ?_
              refine thenK_n ?_
              refine KC.ret ?_
              refine thenK_r ?_
              exact ⟨.inl rfl, _, rfl, fin_d rfl⟩
            · skip
              replace hb59 := of_decide_eq_false hb59
              rcases hc with ⟨h1, h2, h3, h4⟩ | ⟨m, h1, h2, h3, h4, h5, h6, h7, h8, h9, h10, h11, h12, ⟨_, h13, _⟩ | ⟨w, _, h13, _⟩⟩ <;> omega
      · cases hc45
    · skip
      replace hb42 := of_decide_eq_false hb42
      refine KT.step rfl rfl (K.move rfl) ?_
      refine KT.step rfl rfl (K.eql rfl rfl) ?_
      refine KT.step rfl rfl (K.pick rfl (fun h => by cases h) (fun _ => rfl)) ?_
      refine KT.nil ?_
      refine thenK_n ?_
      refine KC.cond rfl (fun hc45 => ?_) (fun hc45 => ?_)
      · skip
        replace hc45 := of_decide_eq_true hc45
        refine KC.seq ?_
        refine KC.region ?_
        refine KT.step rfl rfl (K.move rfl) ?_
        refine KT.step rfl rfl (K.eql rfl rfl) ?_
        refine KT.step rfl rfl (K.move rfl) ?_
        refine KT.bcase (fun hb48 => ?_) (fun hb48 => ?_)
        · skip
          replace hb48 := of_decide_eq_true hb48
          refine KT.skip rfl rfl ?_
          refine KT.skip rfl rfl ?_
          refine KT.step rfl rfl (K.pick rfl (fun _ => rfl) (fun h => by cases h)) ?_
          refine KT.step rfl rfl (K.move rfl) ?_
          refine KT.skip rfl rfl ?_
          refine KT.skip rfl rfl ?_
          refine KT.skip rfl rfl ?_
          refine KT.skip rfl rfl ?_
          refine KT.skip rfl rfl ?_
          refine KT.step rfl rfl (K.pick rfl (fun _ => rfl) (fun h => by cases h)) ?_
          refine KT.step rfl rfl (K.move rfl) ?_
          refine KT.step rfl rfl (K.call0 plainTryd_19 (awake19)) ?_
          refine KT.step rfl rfl (K.pick rfl (fun _ => rfl) (fun h => by cases h)) ?_
          refine KT.step rfl rfl (K.assign rfl) ?_
          refine KT.nil ?_
          refine thenK_n ?_
          refine KC.ret ?_
          refine thenK_r ?_
          exact ⟨.inl rfl, _, rfl, fin_d rfl⟩
        · skip
          replace hb48 := of_decide_eq_false hb48
          refine KT.step rfl rfl (K.move rfl) ?_
          refine KT.step rfl rfl (K.eql rfl rfl) ?_
          refine KT.step rfl rfl (K.pick rfl (fun h => by cases h) (fun _ => rfl)) ?_
          refine KT.step rfl rfl (K.move rfl) ?_
          refine KT.bcase (fun hb52 => ?_) (fun hb52 => ?_)
          · skip
            replace hb52 := of_decide_eq_true hb52
            refine KT.skip rfl rfl ?_
            refine KT.skip rfl rfl ?_
            refine KT.skip rfl rfl ?_
            refine KT.skip rfl rfl ?_
            refine KT.skip rfl rfl ?_
            refine KT.step rfl rfl (K.pick rfl (fun _ => rfl) (fun h => by cases h)) ?_
            refine KT.step rfl rfl (K.move rfl) ?_
            refine KT.step rfl rfl (K.call0 plainTryd_19 (awake19)) ?_
            refine KT.step rfl rfl (K.pick rfl (fun _ => rfl) (fun h => by cases h)) ?_
            refine KT.step rfl rfl (K.assign rfl) ?_
            refine KT.nil ?_
            refine thenK_n ?_
            refine KC.ret ?_
            refine thenK_r ?_
            exact ⟨.inl rfl, _, rfl, fin_d rfl⟩
          · skip
            replace hb52 := of_decide_eq_false hb52
            refine KT.step rfl rfl (K.fieldAddrO rfl Tryd.fld63_0 Tryd.size3) ?_
            refine KT.step rfl rfl (K.loadO rfl rfl (by simp) rfl Tryd.agg3) ?_
            refine KT.step rfl rfl (K.fieldAddrO rfl Tryd.fld63_0 Tryd.size3) ?_
            refine KT.step rfl rfl (K.loadO rfl rfl (by simp) rfl Tryd.agg3) ?_
            refine KT.step rfl rfl (K.neq rfl rfl) ?_
            refine KT.step rfl rfl (K.pick rfl (fun h => by cases h) (fun _ => rfl)) ?_
            refine KT.step rfl rfl (K.move rfl) ?_
            refine KT.bcase (fun hb59 => ?_) (fun hb59 => ?_)
            · skip
              replace hb59 := of_decide_eq_true hb59
              refine KT.step rfl rfl (K.call0 plainTryd_19 (awake19)) ?_
              refine KT.step rfl rfl (K.pick rfl (fun _ => rfl) (fun h => by cases h)) ?_
              refine KT.step rfl rfl (K.assign rfl) ?_
              refine KT.nil ?_
              refine thenK_n ?_
              refine KC.ret ?_
              refine thenK_r ?_
              exact ⟨.inl rfl, _, rfl, fin_d rfl⟩
            · skip
              replace hb59 := of_decide_eq_false hb59
              rcases hc with ⟨h1, h2, h3, h4⟩ | ⟨m, h1, h2, h3, h4, h5, h6, h7, h8, h9, h10, h11, h12, ⟨_, h13, _⟩ | ⟨w, _, h13, _⟩⟩ <;> omega
      · skip
        replace hc45 := of_decide_eq_false hc45
        obtain ⟨m, rfl, rfl, rfl, rfl, rfl, rfl, rfl, rfl, rfl, rfl, hv, hv2, hp⟩ := hc.resolve_left fun h => hc45 h.1
        have cM3 := Minimize40 (a := (m : Int)) (matV_mat (rows := (minN m nx.length (nxF nx) (ouF ou)))) (matV_mat (rows := (minO m nx.length (nxF nx) (ouF ou)))) (by have := (vmMin hv).n16; omega) (by rw [minO_len]; have := (vmMin hv).n16; omega) (vmRows (vmMin hv)).1 (vmRows (vmMin hv)).2
        rw [mz_again hv] at cM3
        simp only at cM3
        have hML := minN_le hv
        have hn16 := hv.n16
        have hm16 := hv2.n16
        refine KC.skip ?_
        refine thenK_n ?_
        refine KC.seq ?_
        refine KC.region ?_
        refine KT.step rfl rfl (K.loadOA ([DI (m : Nat), matV (minN m nx.length (nxF nx) (ouF ou)), matV (minO m nx.length (nxF nx) (ouF ou))]) rfl rfl (by decide) Tryd.agg58 Tryd.size58 rfl) ?_
        refine KT.step rfl rfl (K.call1 rfl plainTryd_40 (cM3)) ?_
        refine KT.step rfl rfl (K.move rfl) ?_
        refine KT.step rfl rfl (K.extract rfl rfl) ?_
        refine KT.step rfl rfl (K.extract rfl rfl) ?_
        refine KT.step rfl rfl (K.alloc Tryd.zero58) ?_
        refine KT.storeL (cs := ([DI (m : Nat), matV (minN m nx.length (nxF nx) (ouF ou)), matV (minO m nx.length (nxF nx) (ouF ou))]).map .d) rfl rfl rfl rfl rfl rfl rfl Tryd.size58 ?_
        refine KT.step rfl rfl (K.assign rfl) ?_
        refine KT.nil ?_
        refine thenK_n ?_
        refine KC.seq ?_
        refine KC.seq ?_
        refine KC.draw Tryd.mixed ?_
        refine KT.step rfl rfl (K.move rfl) ?_
        refine KT.step rfl rfl (K.neq rfl rfl) ?_
        refine KT.step rfl rfl (K.move rfl) ?_
        refine KT.bcase (fun hb69 => ?_) (fun hb69 => ?_)
        · skip
          exact absurd rfl (of_decide_eq_true hb69)
        · skip
          replace hb69 := of_decide_eq_false hb69
          refine KT.step rfl rfl (K.loadOA ([DI (m : Nat), matV (minN m nx.length (nxF nx) (ouF ou)), matV (minO m nx.length (nxF nx) (ouF ou))]) rfl rfl (by decide) Tryd.agg58 Tryd.size58 rfl) ?_
          refine KT.step rfl rfl (K.call1 rfl plainTryd_36 (own36)) ?_
          refine KT.step rfl rfl (K.loadOA ([DI (m : Nat), matV (minN m nx.length (nxF nx) (ouF ou)), matV (minO m nx.length (nxF nx) (ouF ou))]) rfl rfl (by decide) Tryd.agg58 Tryd.size58 rfl) ?_
          refine KT.step rfl rfl (K.call1 rfl plainTryd_36 (own36)) ?_
          refine KT.step rfl rfl (K.call2 rfl rfl plainTryd_35 (same35 (a := (m : Int)) (b := (m : Int)) minO_len (vmRows (vmMin hv)).1 (vmRows (vmMin hv)).2 (by have := (vmMin hv).n16; omega))) ?_
          refine KT.step rfl rfl (K.not rfl) ?_
          refine KT.step rfl rfl (K.pick rfl (fun h => by cases h) (fun _ => rfl)) ?_
          refine KT.step rfl rfl (K.move rfl) ?_
          refine KT.bcase (fun hb77 => ?_) (fun hb77 => ?_)
          · skip
            simp at hb77
          · skip
            refine KT.step rfl rfl (K.fieldAddrO rfl Tryd.fld58_1 Tryd.size56) ?_
            refine KT.step rfl rfl (K.loadO rfl rfl (by simp) rfl Tryd.agg56) ?_
            refine KT.step rfl rfl (K.len rfl matV_mat Tryd.underlying56) ?_
            refine KT.step rfl rfl (K.fieldAddrO rfl Tryd.fld63_1 Tryd.size56) ?_
            refine KT.step rfl rfl (K.loadO rfl rfl (by simp) rfl Tryd.agg56) ?_
            refine KT.step rfl rfl (K.len rfl hn Tryd.underlying56) ?_
            refine KT.step rfl rfl (K.gtr rfl rfl) ?_
            refine KT.step rfl rfl (K.pick rfl (fun h => by cases h) (fun _ => rfl)) ?_
            refine KT.nil ?_
            refine ⟨by kernel_rfl, ?_⟩
            refine thenK_n ?_
            refine KC.cond rfl (fun hc85 => ?_) (fun hc85 => ?_)
            · skip
              have h85 := of_decide_eq_true hc85
              omega
            · skip
              replace hc85 := of_decide_eq_false hc85
              refine KC.skip ?_
              refine thenK_n ?_
              refine KC.seq ?_
              refine KC.region ?_
              refine KT.step rfl rfl (K.loadOA ([DI (m : Int), nd, od]) rfl rfl (by decide) Tryd.agg63 Tryd.size63 rfl) ?_
              refine KT.step rfl rfl (K.call1 rfl plainTryd_39 (machine39 hn ho hnl hol hnr hor)) ?_
              refine KT.step rfl rfl (K.move rfl) ?_
              refine KT.step rfl rfl (K.call2 rfl rfl plainTryd_38 (Respond_cut hn ho hnl hol hnr hor hd hl)) ?_
              refine KT.step rfl rfl (K.move rfl) ?_
              refine KT.step rfl rfl (K.extract rfl rfl) ?_
              refine KT.step rfl rfl (K.extract rfl rfl) ?_
              refine KT.step rfl rfl (K.assign rfl) ?_
              refine KT.step rfl rfl (K.assign rfl) ?_
              refine KT.nil ?_
              refine thenK_n ?_
              refine KC.seq ?_
              refine KC.region ?_
              refine KT.step rfl rfl (K.loadOA ([DI (m : Nat), matV (minN m nx.length (nxF nx) (ouF ou)), matV (minO m nx.length (nxF nx) (ouF ou))]) rfl rfl (by decide) Tryd.agg58 Tryd.size58 rfl) ?_
              refine KT.step rfl rfl (K.move rfl) ?_
              refine KT.step rfl rfl (K.call2 rfl rfl plainTryd_38 (Respond_min hv hd hl)) ?_
              refine KT.step rfl rfl (K.move rfl) ?_
              refine KT.step rfl rfl (K.extract rfl rfl) ?_
              refine KT.step rfl rfl (K.extract rfl rfl) ?_
              refine KT.step rfl rfl (K.assign rfl) ?_
              refine KT.step rfl rfl (K.assign rfl) ?_
              refine KT.nil ?_
              refine thenK_n ?_
              refine KC.seq ?_
              refine KC.seq ?_
              refine KC.draw Tryd.mixed ?_
              refine KT.step rfl rfl (K.move rfl) ?_
              refine KT.step rfl rfl (K.move rfl) ?_
              refine KT.step rfl rfl (K.neq rfl rfl) ?_
              refine KT.step rfl rfl (K.move rfl) ?_
              refine KT.bcase (fun hb102 => ?_) (fun hb102 => ?_)
              · skip
                exact absurd rfl (of_decide_eq_true hb102)
              · skip
                replace hb102 := of_decide_eq_false hb102
                refine KT.step rfl rfl (K.move rfl) ?_
                refine KT.step rfl rfl (K.move rfl) ?_
                refine KT.step rfl rfl (K.call2 rfl rfl plainTryd_24 (equal24 rspD_ints rspD_ints (by have := rspl_len (a := (m : Int)) (nx := nx) (ou := ou) (l := l); omega))) ?_
                refine KT.step rfl rfl (K.not rfl) ?_
                refine KT.step rfl rfl (K.pick rfl (fun h => by cases h) (fun _ => rfl)) ?_
                refine KT.step rfl rfl (K.move rfl) ?_
                refine KT.bcase (fun hb108 => ?_) (fun hb108 => ?_)
                · skip
                  simp at hb108
                · skip
                  refine KT.step rfl rfl (K.loadOA ([DI (m : Nat), matV (minN m nx.length (nxF nx) (ouF ou)), matV (minO m nx.length (nxF nx) (ouF ou))]) rfl rfl (by decide) Tryd.agg58 Tryd.size58 rfl) ?_
                  refine KT.step rfl rfl (K.call1 rfl plainTryd_36 (own36)) ?_
                  refine KT.step rfl rfl (K.loadOA ([DI (m : Nat), matV (minN m nx2.length (nxF nx2) (ouF ou2)), matV (minO m nx2.length (nxF nx2) (ouF ou2))]) rfl rfl (by decide) Tryd.agg58 Tryd.size58 rfl) ?_
                  refine KT.step rfl rfl (K.call1 rfl plainTryd_36 (own36)) ?_
                  refine KT.step rfl rfl (K.call2 rfl rfl plainTryd_35 (same35 (a := (m : Int)) (b := (m : Int)) minO_len (vmRows (vmMin hv)).1 (vmRows (vmMin hv)).2 (by have := (vmMin hv).n16; omega))) ?_
                  refine KT.step rfl rfl (K.move rfl) ?_
                  refine KT.step rfl rfl (K.eql rfl rfl) ?_
                  refine KT.step rfl rfl (K.neqB Tryd.boolT rfl rfl) ?_
                  refine KT.step rfl rfl (K.pick rfl (fun h => by cases h) (fun _ => rfl)) ?_
                  refine KT.nil ?_
                  refine ⟨by kernel_rfl, ?_⟩
                  refine thenK_n ?_
                  refine KC.cond rfl (fun hc117 => ?_) (fun hc117 => ?_)
                  · skip
                    have hS : decide ((m : Int) = (m : Int) ∧ (minN m nx.length (nxF nx) (ouF ou)) = (minN m nx2.length (nxF nx2) (ouF ou2)) ∧ (minO m nx.length (nxF nx) (ouF ou)) = (minO m nx2.length (nxF nx2) (ouF ou2))) = decide (E = 5) := by
                      rcases hp with ⟨_, h, hp⟩ | ⟨w, _, h, hp⟩
                      · rw [decide_eq_true ⟨rfl, (min_part hv hv2).2 hp⟩, decide_eq_true h]
                      · rw [decide_eq_false (fun h9 => by have := (min_part hv hv2).1 h9.2; rw [hp] at this; cases this), decide_eq_false (by omega)]
                    rw [hS] at hc117
                    simp at hc117
                  · skip
                    refine KC.skip ?_
                    refine thenK_n ?_
                    refine KC.seq ?_
                    refine KC.seq ?_
                    refine KC.region ?_
                    refine KT.step rfl rfl (K.move rfl) ?_
                    refine KT.step rfl rfl (K.neq rfl rfl) ?_
                    refine KT.nil ?_
                    refine thenK_n ?_
                    refine KC.cond rfl (fun hc119 => ?_) (fun hc119 => ?_)
                    · skip
                      replace hc119 := of_decide_eq_true hc119
                      refine KC.seq ?_
                      refine KC.region ?_
                      refine KT.step rfl rfl (K.move rfl) ?_
                      refine KT.step rfl rfl (K.eql rfl rfl) ?_
                      refine KT.step rfl rfl (K.move rfl) ?_
                      refine KT.bcase (fun hb122 => ?_) (fun hb122 => ?_)
                      · skip
                        replace hb122 := of_decide_eq_true hb122
                        refine KT.step rfl rfl (K.call0 plainTryd_19 (awake19)) ?_
                        refine KT.step rfl rfl (K.pick rfl (fun _ => rfl) (fun h => by cases h)) ?_
                        refine KT.step rfl rfl (K.assign rfl) ?_
                        refine KT.nil ?_
                        refine thenK_n ?_
                        refine KC.ret ?_
                        refine thenK_r ?_
                        exact ⟨.inl rfl, _, rfl, fin_d rfl⟩
                      · skip
                        have h22 := of_decide_eq_false hb122
                        rcases hp with ⟨_, h, _⟩ | ⟨w, _, h, _⟩ <;> omega
                    · skip
                      replace hc119 := of_decide_eq_false hc119
                      obtain ⟨w, rfl, rfl, hpw⟩ := hp.resolve_left fun h => hc119 (by omega)
                      have hwb := part_bound hv hv2 hv.n1 hv2.n1 hpw
                      have hwz := wZ_len w
                      obtain ⟨u, i, hwu, hwok, hdif, hsame⟩ := resp_part hpw
                      have hwl : w.length ≤ 1000 := by omega
                      have r1 : rspR (m : Int) nx ou (wZ w) = (respL (nxF nx) (ouF ou) 0 w, 0) := by rw [rspR_yes hv (word_ok hwok hwl), wZ_toNat]
                      have r2 : rspR (m : Int) nx2 ou2 (wZ w) = (respL (nxF nx2) (ouF ou2) 0 w, 0) := by rw [rspR_yes hv2 (word_ok hwok hwl), wZ_toNat]
                      have L1 : (rspR (m : Int) nx ou (wZ w)).1.length = w.length := by rw [r1]; exact respL_len _ _ _ _
                      have hne : (rspR (m : Int) nx ou (wZ w)).1 ≠ (rspR (m : Int) nx2 ou2 (wZ w)).1 := fun h => by
                        rw [r1, r2] at h
                        have hk : u.length < w.length := by rw [hwu]; simp
                        have g := congrArg (fun z => z.getD u.length 0) h
                        rw [← get_D (by rw [respL_len]; exact hk), ← get_D (by rw [respL_len]; exact hk), respL_get _ _ _ _ hk, respL_get _ _ _ _ hk] at g
                        have wu : w.take u.length = u := by rw [hwu]; simp
                        have wi : w.getD u.length 0 = i := by rw [hwu]; simp
                        rw [wu, wi] at g
                        exact hdif g
                      refine KC.skip ?_
                      refine thenK_n ?_
                      refine KC.seq ?_
                      refine KC.region ?_
                      refine KT.step rfl rfl (K.loadOA ([DI (m : Int), nd, od]) rfl rfl (by decide) Tryd.agg63 Tryd.size63 rfl) ?_
                      refine KT.step rfl rfl (K.call1 rfl plainTryd_39 (machine39 hn ho hnl hol hnr hor)) ?_
                      refine KT.step rfl rfl (K.move rfl) ?_
                      refine KT.step rfl rfl (K.call2 rfl rfl plainTryd_38 (Respond_cut hn ho hnl hol hnr hor (wV_ints w) (by omega))) ?_
                      refine KT.step rfl rfl (K.move rfl) ?_
                      refine KT.step rfl rfl (K.extract rfl rfl) ?_
                      refine KT.step rfl rfl (K.extract rfl rfl) ?_
                      refine KT.step rfl rfl (K.assign rfl) ?_
                      refine KT.step rfl rfl (K.assign rfl) ?_
                      refine KT.nil ?_
                      refine thenK_n ?_
                      refine KC.seq ?_
                      refine KC.region ?_
                      refine KT.step rfl rfl (K.loadOA ([DI (m : Int), nd2, od2]) rfl rfl (by decide) Tryd.agg63 Tryd.size63 rfl) ?_
                      refine KT.step rfl rfl (K.call1 rfl plainTryd_39 (machine39 hn2 ho2 hnl2 hol2 hnr2 hor2)) ?_
                      refine KT.step rfl rfl (K.move rfl) ?_
                      refine KT.step rfl rfl (K.call2 rfl rfl plainTryd_38 (Respond_cut hn2 ho2 hnl2 hol2 hnr2 hor2 (wV_ints w) (by omega))) ?_
                      refine KT.step rfl rfl (K.move rfl) ?_
                      refine KT.step rfl rfl (K.extract rfl rfl) ?_
                      refine KT.step rfl rfl (K.extract rfl rfl) ?_
                      refine KT.step rfl rfl (K.assign rfl) ?_
                      refine KT.step rfl rfl (K.assign rfl) ?_
                      refine KT.nil ?_
                      refine thenK_n ?_
                      refine KC.seq ?_
                      refine KC.region ?_
                      refine KT.step rfl rfl (K.move rfl) ?_
                      refine KT.step rfl rfl (K.eql rfl rfl) ?_
                      refine KT.step rfl rfl (K.move rfl) ?_
                      refine KT.bcase (fun hb141 => ?_) (fun hb141 => ?_)
                      · skip
                        replace hb141 := of_decide_eq_true hb141
                        refine KT.step rfl rfl (K.move rfl) ?_
                        refine KT.step rfl rfl (K.eql rfl rfl) ?_
                        refine KT.step rfl rfl (K.pick rfl (fun _ => rfl) (fun h => by cases h)) ?_
                        refine KT.step rfl rfl (K.move rfl) ?_
                        refine KT.bcase (fun hb145 => ?_) (fun hb145 => ?_)
                        · skip
                          replace hb145 := of_decide_eq_true hb145
                          refine KT.step rfl rfl (K.move rfl) ?_
                          refine KT.step rfl rfl (K.move rfl) ?_
                          refine KT.step rfl rfl (K.call2 rfl rfl plainTryd_24 (equal24 rspD_ints rspD_ints (by have := rspl_len (a := (m : Int)) (nx := nx) (ou := ou) (l := wZ w); omega))) ?_
                          refine KT.step rfl rfl (K.not rfl) ?_
                          refine KT.step rfl rfl (K.pick rfl (fun _ => rfl) (fun h => by cases h)) ?_
                          refine KT.step rfl rfl (K.move rfl) ?_
                          refine KT.bcase (fun hb151 => ?_) (fun hb151 => ?_)
                          · skip
                            refine KT.step rfl rfl (K.move rfl) ?_
                            refine KT.step rfl rfl (K.len rfl (wV_ints w) Tryd.underlying38) ?_
                            refine KT.step rfl rfl (K.fieldAddrO rfl Tryd.fld63_1 Tryd.size56) ?_
                            refine KT.step rfl rfl (K.loadO rfl rfl (by simp) rfl Tryd.agg56) ?_
                            refine KT.step rfl rfl (K.len rfl hn Tryd.underlying56) ?_
                            refine KT.step rfl rfl (K.fieldAddrO rfl Tryd.fld63_1 Tryd.size56) ?_
                            refine KT.step rfl rfl (K.loadO rfl rfl (by simp) rfl Tryd.agg56) ?_
                            refine KT.step rfl rfl (K.len rfl hn2 Tryd.underlying56) ?_
                            refine KT.step rfl rfl (K.add rfl rfl (wrap_id (by omega))) ?_
                            refine KT.step rfl rfl (K.lss rfl rfl) ?_
                            refine KT.step rfl rfl (K.pick rfl (fun _ => rfl) (fun h => by cases h)) ?_
                            refine KT.step rfl rfl (K.move rfl) ?_
                            refine KT.bcase (fun hb163 => ?_) (fun hb163 => ?_)
                            · skip
                              replace hb163 := of_decide_eq_true hb163
                              refine KT.step rfl rfl (K.call0 plainTryd_19 (awake19)) ?_
                              refine KT.step rfl rfl (K.pick rfl (fun _ => rfl) (fun h => by cases h)) ?_
                              refine KT.step rfl rfl (K.assign rfl) ?_
                              refine KT.nil ?_
                              refine thenK_n ?_
                              refine KC.ret ?_
                              exact ⟨.inl rfl, _, rfl, fin_d rfl⟩
                            · skip
                              have h63 := of_decide_eq_false hb163
                              omega
                          · skip
                            rw [decide_eq_false hne] at hb151
                            cases hb151
                        · skip
                          exact absurd (by rw [r2]) (of_decide_eq_false hb145)
                      · skip
                        exact absurd (by rw [r1]) (of_decide_eq_false hb141)
end Go.Proofs.YteednkolfnjdoaaDoor

