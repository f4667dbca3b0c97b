import Derived.Test.YtcjcchceeidgkaaLgH
import Derived.Test.YtcjcchceeidgkaaLgX
/-
  Logic: how the statements convert a formula.
-/
namespace Go.Proofs.Ytcjcchceeidgkaa
open Go.Vm Go.Lg
theorem plainTry_32 : plainFn Try.prog 32 = true := by kernel_rfl
theorem plainTry_11 : plainFn Try.prog 11 = true := by kernel_rfl
theorem Try.bytes35 : bytesT Try.prog 35 ≤ 65536 := of_decide_eq_true (by kernel_rfl)
theorem Try.zsz35 : (zeroT Try.prog 35).map (·.cells.size) = some 2 := by kernel_rfl
theorem build35 (op : ByteArray) : pureRun Try.prog (Instr.build 35 #[(0, .string op)]) = some (.agg #[.string op, .slice none 0 0]) := by kernel_rfl
set_option maxRecDepth 10000 in
theorem convS32 {σ : List VObj} {id : Nat} {kd : DV} {op : ByteArray} {ks : List Fo} {left n : Nat} (hk : KidsD kd ks) (ho : σ[id]? = some ⟨[.d (DI (n : Nat))], 0⟩) (hn : 1 ≤ n ∧ n ≤ 1000) (hlf : left ≤ 1000)
    (hrec : ∀ op1 ks1 kd1 σ' left' n', Fo.mk op1 ks1 ∈ ks → KidsD kd1 ks1 → σ'[id]? = some ⟨[.d (DI (n' : Nat))], 0⟩ → left' ≤ 1000 → 1 ≤ n' ∧ n' ≤ 1000 →
      OwnCall Try.prog 32 σ' [.d (.agg [.lit (.string op1), kd1]), .d (DI (left' : Nat)), .optr id 0] (σ'.set id ⟨[.d (DI ((cvF (.mk op1 ks1) left' n').2 : Nat))], 0⟩) (.d (foV (cvF (.mk op1 ks1) left' n').1))) :
    OwnCall Try.prog 32 σ [.d (.agg [.lit (.string op), kd]), .d (DI (left : Nat)), .optr id 0] (σ.set id ⟨[.d (DI ((cvF (.mk op ks) left n).2 : Nat))], 0⟩) (.d (foV (cvF (.mk op ks) left n).1)) := by
  have hid := len_of ho
  have hone := two_one (a := .lit (.string op)) (ks := ks) rfl hk
  refine ownDrop_K 5 Try.func32 rfl (Nat.le_of_ble_eq_true rfl) (Same1.put1) fun M W0 => ?_
  refine KC.seq ?_
  refine KC.region ?_
  refine KT.step rfl rfl (K.box rfl) ?_
  refine KT.step rfl rfl (K.alloc Try.zero35) ?_
  refine KT.nil ?_
  refine thenK_n ?_
  refine KC.seq ?_
  refine KC.region ?_
  refine KT.step rfl rfl (K.move rfl) ?_
  refine KT.step rfl rfl (K.nilCheckO rfl) ?_
  refine KT.step rfl rfl (K.loadO rfl (get_left (get_left ho)) (by simp) rfl Try.agg3) ?_
  refine KT.step rfl rfl (K.sub rfl rfl (wrap_id (by omega))) ?_
  refine KT.step rfl rfl (K.nilCheckO rfl) ?_
  refine KT.storeG rfl rfl rfl rfl (get_left (get_left ho)) (by simp) rfl rfl Try.size3 fun σr lr ur vr => ?_
  refine KT.nil ?_
  refine thenK_n ?_
  refine KC.seq ?_
  refine KC.region ?_
  refine KT.step rfl rfl (K.fieldAddrO rfl Try.fld27_0 Try.size9) ?_
  have hbx : σr[σ.length]? = some ⟨[.d (.lit (.string op)), .d kd], 0⟩ := by
    rw [vr _ (by omega)]
    exact get_left (List.getElem?_concat_length ..)
  refine KT.step rfl rfl (K.loadO rfl hbx (by simp) rfl Try.agg9) ?_
  refine KT.step rfl rfl (K.buildL (us := [(0, .string op)]) rfl (build35 op)) ?_
  refine KT.step rfl rfl (K.alloc Try.zero35) ?_
  refine KT.storeL (A := σr) (cs := [.d (.lit (.string op)), .d Dnil]) rfl rfl rfl rfl rfl rfl rfl Try.size35 ?_
  refine KT.nil ?_
  refine thenK_n ?_
  refine KC.seq ?_
  refine KC.seq ?_
  refine KC.region ?_
  refine KT.step rfl rfl (K.fieldAddrO rfl Try.fld27_1 Try.size25) ?_
  refine KT.step rfl rfl (K.loadO rfl (get_left hbx) (by simp) rfl Try.agg25) ?_
  refine KT.step rfl rfl (K.lenKids rfl hk Try.underlying25) ?_
  refine KT.step rfl rfl (K.move rfl) ?_
  refine KT.nil ?_
  refine thenK_n ?_
  refine KC.block ?_
  have hlm0 : ((n : Nat) : Int) - 1 = ((n - 1 : Nat) : Int) := by omega
  have hlr : σr.length = σ.length + 2 := by rw [lr]; simp
  have hE0 : Ext1 σ id (DI ((n - 1 : Nat) : Nat)) σr := by
    refine ⟨hid, by omega, ?_, fun j h1 h2 => ?_⟩
    · rw [ur, ← hlm0]; rfl
    · rw [vr j h2, List.append_assoc, List.getElem?_append_left h1]
  have h60 : σr[σ.length + 1]? = some ⟨[.d (.lit (.string "".toUTF8)), .d Dnil], 0⟩ := by
    rw [vr _ (by omega)]
    have e : σ.length + 1 = (σ ++ [(⟨cellsX (.d (.agg [.lit (.string op), kd])), 0⟩ : VObj)]).length := by simp
    rw [e]
    exact List.getElem?_concat_length ..
  have h70 : (σr ++ [(⟨[.d (.lit (.string op)), .d Dnil], 0⟩ : VObj)])[σ.length + 2]? = some ⟨[.d (.lit (.string op)), .d Dnil], 0⟩ := by
    rw [← hlr]; exact List.getElem?_concat_length ..
  refine KC.loop (fun p : List VObj × XV × Nat × Nat × List Fo => p.1) (fun p => [(1, .d (DI (left : Nat))), (2, .optr id 0), (6, .optr (σ.length + 1) 0), (7, .optr (σ.length + 2) 0), (19, .d kd), (20, .d (DI (ks.length : Nat))), (21, .d (DI (p.2.2.1 : Nat)))])
    (fun p => Ext1 σ id (DI (p.2.2.2.1 : Nat)) p.1 ∧ p.1[σ.length + 1]? = some ⟨[.d (.lit (.string "".toUTF8)), .d Dnil], 0⟩ ∧ p.1[σ.length + 2]? = some ⟨[.d (.lit (.string op)), p.2.1], 0⟩ ∧ OwnK 2 p.1 p.2.1 ((flatV p.2.2.2.2).map .d) ∧ (p.2.2.2.2 = [] → p.2.1 = .d Dnil) ∧ (∀ j, idX p.2.1 = some j → σ.length + 3 ≤ j) ∧
      p.2.2.1 ≤ ks.length ∧ p.2.2.1 ≤ 4 ∧ p.2.2.2.2.length = p.2.2.1 ∧ p.2.2.2.1 ≤ 1000 ∧ cvL ks left 0 (n - 1) = (p.2.2.2.2 ++ (cvL (ks.drop p.2.2.1) left p.2.2.1 p.2.2.2.1).1, (cvL (ks.drop p.2.2.1) left p.2.2.1 p.2.2.2.1).2))
    (fun p => ks.length - p.2.2.1) (σr ++ [⟨[.d (.lit (.string op)), .d Dnil], 0⟩], .d Dnil, 0, n - 1, [])
    ⟨hE0.app _, get_left h60, h70, (by simp [flatV]; exact .nil), fun _ => rfl, (fun j hj => by cases hj), Nat.zero_le _, (by simp), rfl, (by simp only; omega), (by simp)⟩ rfl (by simp [Go.Vm.look, extK, enterK, hlr]) ?_
  intro p hp
  obtain ⟨hE, h6, h7, hown, h0, hlow, hp2, hp4, hgl, hnn, hcv⟩ := hp
  have hlm : left ≠ 0 → ((left : Nat) : Int) - 1 = ((left - 1 : Nat) : Int) := fun h => by omega
  refine KC.seq ?_
  refine KC.region ?_
  refine KT.step rfl rfl (K.lss rfl rfl) ?_
  refine KT.nil ?_
  refine thenK_n ?_
  refine KC.seq ?_
  refine KC.cond rfl (fun hc22 => ?_) (fun hc22 => ?_)
  · skip
    replace hc22 := of_decide_eq_true hc22
    have hil : p.2.2.1 < ks.length := by omega
    refine KC.skip ?_
    refine thenK_n ?_
    refine KC.seq ?_
    refine KC.block ?_
    refine KC.seq ?_
    refine KC.region ?_
    refine KT.step rfl rfl (K.move rfl) ?_
    refine KT.idxKid rfl rfl rfl hk rfl hil Try.underlying25 Try.size27 fun op1 ks1 kd1 rest hq1 hq2 => ?_
    refine KT.step rfl rfl (K.loadAgg (cs := .lit (.string op1) :: kd1 :: rest) (m := 2) rfl Try.agg27 Try.size27 (by simp)) ?_
    refine KT.step rfl rfl (K.alloc Try.zero27) ?_
    refine KT.step rfl rfl (K.assign rfl) ?_
    refine KT.storeL (cs := [.d (.lit (.string op1)), .d kd1]) rfl rfl rfl rfl rfl rfl (two_one rfl hq2) Try.size27 ?_
    refine KT.nil ?_
    refine thenK_n ?_
    refine KC.seq ?_
    refine KC.seq ?_
    refine KC.region ?_
    refine KT.step rfl rfl (K.move rfl) ?_
    refine KT.step rfl rfl (K.lss rfl rfl) ?_
    refine KT.step rfl rfl (K.move rfl) ?_
    refine KT.bcase (fun hb28 => ?_) (fun hb28 => ?_)
    · skip
      replace hb28 := of_decide_eq_true hb28
      refine KT.skip rfl rfl ?_
      refine KT.skip rfl rfl ?_
      refine KT.step rfl rfl (K.pick rfl (fun _ => rfl) (fun h => by cases h)) ?_
      refine KT.step rfl rfl (K.move rfl) ?_
      refine KT.skip rfl rfl ?_
      refine KT.skip rfl rfl ?_
      refine KT.skip rfl rfl ?_
      refine KT.skip rfl rfl ?_
      refine KT.step rfl rfl (K.pick rfl (fun _ => rfl) (fun h => by cases h)) ?_
      refine KT.nil ?_
      refine thenK_n ?_
      refine KC.cond rfl (fun hc37 => ?_) (fun hc37 => ?_)
      · skip
        refine KC.exit ?_
        refine thenK_x ?_
        refine blockK_x (by decide) ?_
        refine thenK_x ?_
        refine thenK_x ?_
        refine blockK_e ?_
        refine thenK_n ?_
        refine KC.seq ?_
        have hdrop : ks.drop p.2.2.1 = Fo.mk op1 ks1 :: ks.drop (p.2.2.1 + 1) := by
          obtain ⟨q1, q2⟩ := List.getElem?_eq_some_iff.1 hq1
          rw [List.drop_eq_getElem_cons q1, q2]
        have hres : cvL ks left 0 (n - 1) = (p.2.2.2.2, p.2.2.2.1) := by
          rw [hcv]
          rw [hdrop, cvL_cons, if_pos (by first | exact .inl (by omega) | exact .inr (.inl (by omega)) | exact .inr (.inr (by omega)))]
          simp
        have hown := hown.pushed (⟨[.d (.lit (.string op1)), .d kd1], 0⟩ : VObj)
        have h6 := get_left (B := [(⟨[.d (.lit (.string op1)), .d kd1], 0⟩ : VObj)]) h6
        have h7 := get_left (B := [(⟨[.d (.lit (.string op1)), .d kd1], 0⟩ : VObj)]) h7
        have hE := hE.app [(⟨[.d (.lit (.string op1)), .d kd1], 0⟩ : VObj)]
        obtain ⟨ids, hids, hdeep⟩ := own_tell hown h0 hlow
        have hE9 := hE.freeze (ids := ids) (fun i hi => by have := hids i hi; omega)
        have h7f := h7
        rw [← freeze_get _ ids _ (fun hm => by have := hids _ hm; omega)] at h7f
        have h6f := h6
        rw [← freeze_get _ ids _ (fun hm => by have := hids _ hm; omega)] at h6f
        have hlt7 := len_of h7f
        refine KC.ghostC ids 3 (id := σ.length + 2) (i := 1) (ob := ⟨[.d (.lit (.string op)), p.2.1], 0⟩) h7f (by simp) rfl hdeep ?_
        have h6g := h6f
        rw [← List.getElem?_set_ne (l := freezeIds _ ids) (i := σ.length + 2) (a := (⟨[.d (.lit (.string op)), .d (kidsV p.2.2.2.2)], 0⟩ : VObj)) (show σ.length + 2 ≠ σ.length + 1 by omega)] at h6g
        refine KC.region ?_
        refine KT.step rfl rfl (K.loadOA [.lit (.string op), kidsV p.2.2.2.2] rfl (List.getElem?_set_self hlt7) (by simp) Try.agg35 Try.size35 rfl) ?_
        refine KT.storeH (cs := [.d (.lit (.string op)), .d (kidsV p.2.2.2.2)]) rfl rfl rfl rfl h6g rfl (by simp) (two_one rfl (kidsV_ok _)) Try.size35 fun σf lf uf vf => ?_
        refine KT.nil ?_
        refine thenK_n ?_
        refine KC.ret ?_
        rw [cvF_mk, hres]
        obtain ⟨τ, hτ⟩ := ((hE9.setK (k := σ.length + 2) (by omega) (⟨[.d (.lit (.string op)), .d (kidsV p.2.2.2.2)], 0⟩ : VObj)).other (k := σ.length + 1) (by omega) lf vf).fin [] (by simp)
        exact ⟨.inl rfl, _, resK_c [.lit (.string op), kidsV p.2.2.2.2] rfl rfl uf (by simp) Try.agg35 Try.size35 rfl, [], τ, hτ, rfl⟩
      · cases hc37
    · skip
      replace hb28 := of_decide_eq_false hb28
      refine KT.step rfl rfl (K.move rfl) ?_
      refine KT.step rfl rfl (K.gtr rfl rfl) ?_
      refine KT.step rfl rfl (K.pick rfl (fun h => by cases h) (fun _ => rfl)) ?_
      refine KT.step rfl rfl (K.move rfl) ?_
      refine KT.bcase (fun hb32 => ?_) (fun hb32 => ?_)
      · skip
        replace hb32 := of_decide_eq_true hb32
        refine KT.skip rfl rfl ?_
        refine KT.skip rfl rfl ?_
        refine KT.skip rfl rfl ?_
        refine KT.skip rfl rfl ?_
        refine KT.step rfl rfl (K.pick rfl (fun _ => rfl) (fun h => by cases h)) ?_
        refine KT.nil ?_
        refine thenK_n ?_
        refine KC.cond rfl (fun hc37 => ?_) (fun hc37 => ?_)
        · skip
          refine KC.exit ?_
          refine thenK_x ?_
          refine blockK_x (by decide) ?_
          refine thenK_x ?_
          refine thenK_x ?_
          refine blockK_e ?_
          refine thenK_n ?_
          refine KC.seq ?_
          have hdrop : ks.drop p.2.2.1 = Fo.mk op1 ks1 :: ks.drop (p.2.2.1 + 1) := by
            obtain ⟨q1, q2⟩ := List.getElem?_eq_some_iff.1 hq1
            rw [List.drop_eq_getElem_cons q1, q2]
          have hres : cvL ks left 0 (n - 1) = (p.2.2.2.2, p.2.2.2.1) := by
            rw [hcv]
            rw [hdrop, cvL_cons, if_pos (by first | exact .inl (by omega) | exact .inr (.inl (by omega)) | exact .inr (.inr (by omega)))]
            simp
          have hown := hown.pushed (⟨[.d (.lit (.string op1)), .d kd1], 0⟩ : VObj)
          have h6 := get_left (B := [(⟨[.d (.lit (.string op1)), .d kd1], 0⟩ : VObj)]) h6
          have h7 := get_left (B := [(⟨[.d (.lit (.string op1)), .d kd1], 0⟩ : VObj)]) h7
          have hE := hE.app [(⟨[.d (.lit (.string op1)), .d kd1], 0⟩ : VObj)]
          obtain ⟨ids, hids, hdeep⟩ := own_tell hown h0 hlow
          have hE9 := hE.freeze (ids := ids) (fun i hi => by have := hids i hi; omega)
          have h7f := h7
          rw [← freeze_get _ ids _ (fun hm => by have := hids _ hm; omega)] at h7f
          have h6f := h6
          rw [← freeze_get _ ids _ (fun hm => by have := hids _ hm; omega)] at h6f
          have hlt7 := len_of h7f
          refine KC.ghostC ids 3 (id := σ.length + 2) (i := 1) (ob := ⟨[.d (.lit (.string op)), p.2.1], 0⟩) h7f (by simp) rfl hdeep ?_
          have h6g := h6f
          rw [← List.getElem?_set_ne (l := freezeIds _ ids) (i := σ.length + 2) (a := (⟨[.d (.lit (.string op)), .d (kidsV p.2.2.2.2)], 0⟩ : VObj)) (show σ.length + 2 ≠ σ.length + 1 by omega)] at h6g
          refine KC.region ?_
          refine KT.step rfl rfl (K.loadOA [.lit (.string op), kidsV p.2.2.2.2] rfl (List.getElem?_set_self hlt7) (by simp) Try.agg35 Try.size35 rfl) ?_
          refine KT.storeH (cs := [.d (.lit (.string op)), .d (kidsV p.2.2.2.2)]) rfl rfl rfl rfl h6g rfl (by simp) (two_one rfl (kidsV_ok _)) Try.size35 fun σf lf uf vf => ?_
          refine KT.nil ?_
          refine thenK_n ?_
          refine KC.ret ?_
          rw [cvF_mk, hres]
          obtain ⟨τ, hτ⟩ := ((hE9.setK (k := σ.length + 2) (by omega) (⟨[.d (.lit (.string op)), .d (kidsV p.2.2.2.2)], 0⟩ : VObj)).other (k := σ.length + 1) (by omega) lf vf).fin [] (by simp)
          exact ⟨.inl rfl, _, resK_c [.lit (.string op), kidsV p.2.2.2.2] rfl rfl uf (by simp) Try.agg35 Try.size35 rfl, [], τ, hτ, rfl⟩
        · cases hc37
      · skip
        replace hb32 := of_decide_eq_false hb32
        refine KT.step rfl rfl (K.move rfl) ?_
        refine KT.step rfl rfl (K.nilCheckO rfl) ?_
        refine KT.step rfl rfl (K.loadO rfl (get_left hE.here) (by simp) rfl Try.agg3) ?_
        refine KT.step rfl rfl (K.lss rfl rfl) ?_
        refine KT.step rfl rfl (K.pick rfl (fun h => by cases h) (fun _ => rfl)) ?_
        refine KT.nil ?_
        refine thenK_n ?_
        refine KC.cond rfl (fun hc37 => ?_) (fun hc37 => ?_)
        · skip
          replace hc37 := of_decide_eq_true hc37
          refine KC.exit ?_
          refine thenK_x ?_
          refine blockK_x (by decide) ?_
          refine thenK_x ?_
          refine thenK_x ?_
          refine blockK_e ?_
          refine thenK_n ?_
          refine KC.seq ?_
          have hdrop : ks.drop p.2.2.1 = Fo.mk op1 ks1 :: ks.drop (p.2.2.1 + 1) := by
            obtain ⟨q1, q2⟩ := List.getElem?_eq_some_iff.1 hq1
            rw [List.drop_eq_getElem_cons q1, q2]
          have hres : cvL ks left 0 (n - 1) = (p.2.2.2.2, p.2.2.2.1) := by
            rw [hcv]
            rw [hdrop, cvL_cons, if_pos (by first | exact .inl (by omega) | exact .inr (.inl (by omega)) | exact .inr (.inr (by omega)))]
            simp
          have hown := hown.pushed (⟨[.d (.lit (.string op1)), .d kd1], 0⟩ : VObj)
          have h6 := get_left (B := [(⟨[.d (.lit (.string op1)), .d kd1], 0⟩ : VObj)]) h6
          have h7 := get_left (B := [(⟨[.d (.lit (.string op1)), .d kd1], 0⟩ : VObj)]) h7
          have hE := hE.app [(⟨[.d (.lit (.string op1)), .d kd1], 0⟩ : VObj)]
          obtain ⟨ids, hids, hdeep⟩ := own_tell hown h0 hlow
          have hE9 := hE.freeze (ids := ids) (fun i hi => by have := hids i hi; omega)
          have h7f := h7
          rw [← freeze_get _ ids _ (fun hm => by have := hids _ hm; omega)] at h7f
          have h6f := h6
          rw [← freeze_get _ ids _ (fun hm => by have := hids _ hm; omega)] at h6f
          have hlt7 := len_of h7f
          refine KC.ghostC ids 3 (id := σ.length + 2) (i := 1) (ob := ⟨[.d (.lit (.string op)), p.2.1], 0⟩) h7f (by simp) rfl hdeep ?_
          have h6g := h6f
          rw [← List.getElem?_set_ne (l := freezeIds _ ids) (i := σ.length + 2) (a := (⟨[.d (.lit (.string op)), .d (kidsV p.2.2.2.2)], 0⟩ : VObj)) (show σ.length + 2 ≠ σ.length + 1 by omega)] at h6g
          refine KC.region ?_
          refine KT.step rfl rfl (K.loadOA [.lit (.string op), kidsV p.2.2.2.2] rfl (List.getElem?_set_self hlt7) (by simp) Try.agg35 Try.size35 rfl) ?_
          refine KT.storeH (cs := [.d (.lit (.string op)), .d (kidsV p.2.2.2.2)]) rfl rfl rfl rfl h6g rfl (by simp) (two_one rfl (kidsV_ok _)) Try.size35 fun σf lf uf vf => ?_
          refine KT.nil ?_
          refine thenK_n ?_
          refine KC.ret ?_
          rw [cvF_mk, hres]
          obtain ⟨τ, hτ⟩ := ((hE9.setK (k := σ.length + 2) (by omega) (⟨[.d (.lit (.string op)), .d (kidsV p.2.2.2.2)], 0⟩ : VObj)).other (k := σ.length + 1) (by omega) lf vf).fin [] (by simp)
          exact ⟨.inl rfl, _, resK_c [.lit (.string op), kidsV p.2.2.2.2] rfl rfl uf (by simp) Try.agg35 Try.size35 rfl, [], τ, hτ, rfl⟩
        · skip
          replace hc37 := of_decide_eq_false hc37
          have hn1 : 1 ≤ p.2.2.2.1 ∧ p.2.2.2.1 ≤ 1000 := ⟨by omega, hnn⟩
          refine KC.skip ?_
          refine thenK_n ?_
          refine KC.drawZ (fun j => j = id) Try.mixed ?_
          refine KTZ.step rfl rfl (K.fieldAddrO rfl Try.fld35_1 Try.size33) ?_
          refine KTZ.load rfl rfl rfl (by omega) (K.loadO rfl (get_left h7) (by simp) rfl Try.agg33) ?_
          refine KTZ.step rfl rfl (K.loadOA [.lit (.string op1), kd1] rfl (List.getElem?_concat_length ..) (by decide) Try.agg27 Try.size27 rfl) ?_
          refine KTZ.step rfl rfl (K.move rfl) ?_
          refine KTZ.step rfl rfl (K.sub rfl rfl (wrap_id (by omega))) ?_
          refine KTZ.step rfl rfl (K.move rfl) ?_
          refine KTZ.write rfl rfl (keepsZ_set) (K.callO (xs := [.d (.agg [.lit (.string op1), kd1]), .d (DI ((left - 1 : Nat) : Nat)), .optr id 0]) (by simp [evK, Go.Vm.look, extK, hlm (by omega)]) plainTry_32 (hrec op1 ks1 kd1 _ _ _ (List.mem_of_getElem? hq1) hq2 (get_left hE.here) (by omega) hn1)) ?_
          refine KTZ.step rfl rfl (K.buildK (k := 2) (ds := [.lit (.string (cvF (.mk op1 ks1) (left - 1) p.2.2.2.1).1.op), kidsV (cvF (.mk op1 ks1) (left - 1) p.2.2.2.1).1.ks]) rfl rfl Try.underlying33 Try.size35 Try.zero35 (by decide)) ?_
          have howc := (((hown.pushed (⟨[.d (.lit (.string op1)), .d kd1], 0⟩ : VObj)).set (i := id) (o := ⟨[.d (DI ((cvF (.mk op1 ks1) (left - 1) p.2.2.2.1).2 : Nat))], 0⟩) (fun j hj => by have := hlow j hj; omega)).pushed (⟨[DV.lit (.string (cvF (.mk op1 ks1) (left - 1) p.2.2.2.1).1.op), kidsV (cvF (.mk op1 ks1) (left - 1) p.2.2.2.1).1.ks].map .d, 0⟩ : VObj))
          refine KTZ.appK rfl rfl rfl rfl howc (List.getElem?_concat_length ..) rfl (two_one rfl (kidsV_ok _)) (by simp [flatV_len]; omega) Try.underlying33 Try.size35 Try.bytes35 Try.zsz35 (by decide) fun σa xa hwa hva hna => ?_
          have h7a : σa[σ.length + 2]? = some ⟨[.d (.lit (.string op)), p.2.1], 0⟩ := by
            rw [hva _ (fun e => by have := hlow _ e; omega) (by have := len_of h7; simp; omega)]
            refine get_left ?_
            rw [List.getElem?_set_ne (by omega)]
            exact get_left h7
          refine KTZ.step rfl rfl (K.fieldAddrO rfl Try.fld35_1 Try.size33) ?_
          refine KTZ.step rfl rfl (K.storeO rfl rfl h7a (by simp) hwa.cells.1 hwa.cells.2 Try.size33) ?_
          refine KTZ.nil ?_
          refine ⟨by kernel_rfl, ?_⟩
          refine blockK_n ?_
          refine thenK_n ?_
          refine KC.region ?_
          refine KT.step rfl rfl (K.add rfl rfl (wrap_id (by omega))) ?_
          refine KT.step rfl rfl (K.move rfl) ?_
          refine KT.nil ?_
          refine thenK_n ?_
          have hdrop : ks.drop p.2.2.1 = Fo.mk op1 ks1 :: ks.drop (p.2.2.1 + 1) := by
            obtain ⟨q1, q2⟩ := List.getElem?_eq_some_iff.1 hq1
            rw [List.drop_eq_getElem_cons q1, q2]
          obtain ⟨ja, hja, hjl⟩ := hna
          have hlen7 := len_of h7
          have hlowa : ∀ j, idX xa = some j → σ.length + 3 ≤ j := fun j hj => by
            rw [hja] at hj; cases hj
            simp at hjl; omega
          have hkeep : ∀ j, j < σ.length + 3 → σa[j]? = ((p.1 ++ [(⟨[.d (.lit (.string op1)), .d kd1], 0⟩ : VObj)]).set id ⟨[.d (DI ((cvF (.mk op1 ks1) (left - 1) p.2.2.2.1).2 : Nat))], 0⟩)[j]? := fun j hj => by
            rw [hva j (fun e => by have := hlow _ e; omega) (by simp; omega)]
            rw [List.getElem?_append_left (by simp; omega)]
          refine ⟨(_, xa, p.2.2.1 + 1, (cvF (.mk op1 ks1) (left - 1) p.2.2.2.1).2, p.2.2.2.2 ++ [(cvF (.mk op1 ks1) (left - 1) p.2.2.2.1).1]), ⟨?_, ?_, ?_, ?_, fun e => absurd e (by simp), hlowa, by simp only; omega, by simp only; omega, by simp [hgl], ?_, ?_⟩, by simp only; omega, rfl, by simp [Go.Vm.look, extK]⟩
          · refine Ext1.setK ?_ (by omega) _
            refine ((hE.app _).put _).keep ?_ (fun j hj => hkeep j (by omega))
            have := len_of h7a; omega
          · simp only
            rw [List.getElem?_set_ne (by omega), hkeep _ (by omega), List.getElem?_set_ne (by omega)]
            exact get_left h6
          · simp only
            rw [List.getElem?_set_self (len_of h7a)]
            rfl
          · simp only
            have e : (flatV (p.2.2.2.2 ++ [(cvF (.mk op1 ks1) (left - 1) p.2.2.2.1).1])).map XV.d = (flatV p.2.2.2.2).map .d ++ [DV.lit (.string (cvF (.mk op1 ks1) (left - 1) p.2.2.2.1).1.op), kidsV (cvF (.mk op1 ks1) (left - 1) p.2.2.2.1).1.ks].map .d := by
              rw [flatV_append, List.map_append]
              congr 1
              cases (cvF (.mk op1 ks1) (left - 1) p.2.2.2.1).1 with
              | mk a b => simp [flatV, Fo.op, Fo.ks]
            rw [e]
            exact hwa.set fun j hj => by have := hlowa j hj; omega
          · simp only; exact Nat.le_trans (cvF_le _ _ _) hnn
          · simp only
            rw [hcv, hdrop, cvL_cons, if_neg (by omega)]
            simp
  · skip
    replace hc22 := of_decide_eq_false hc22
    refine KC.exit ?_
    refine thenK_x ?_
    refine thenK_x ?_
    refine blockK_e ?_
    refine thenK_n ?_
    refine KC.seq ?_
    have hres : cvL ks left 0 (n - 1) = (p.2.2.2.2, p.2.2.2.1) := by
      rw [hcv]
      rw [List.drop_eq_nil_of_le (by omega), cvL_nil]
      simp
    obtain ⟨ids, hids, hdeep⟩ := own_tell hown h0 hlow
    have hE9 := hE.freeze (ids := ids) (fun i hi => by have := hids i hi; omega)
    have h7f := h7
    rw [← freeze_get _ ids _ (fun hm => by have := hids _ hm; omega)] at h7f
    have h6f := h6
    rw [← freeze_get _ ids _ (fun hm => by have := hids _ hm; omega)] at h6f
    have hlt7 := len_of h7f
    refine KC.ghostC ids 3 (id := σ.length + 2) (i := 1) (ob := ⟨[.d (.lit (.string op)), p.2.1], 0⟩) h7f (by simp) rfl hdeep ?_
    have h6g := h6f
    rw [← List.getElem?_set_ne (l := freezeIds _ ids) (i := σ.length + 2) (a := (⟨[.d (.lit (.string op)), .d (kidsV p.2.2.2.2)], 0⟩ : VObj)) (show σ.length + 2 ≠ σ.length + 1 by omega)] at h6g
    refine KC.region ?_
    refine KT.step rfl rfl (K.loadOA [.lit (.string op), kidsV p.2.2.2.2] rfl (List.getElem?_set_self hlt7) (by simp) Try.agg35 Try.size35 rfl) ?_
    refine KT.storeH (cs := [.d (.lit (.string op)), .d (kidsV p.2.2.2.2)]) rfl rfl rfl rfl h6g rfl (by simp) (two_one rfl (kidsV_ok _)) Try.size35 fun σf lf uf vf => ?_
    refine KT.nil ?_
    refine thenK_n ?_
    refine KC.ret ?_
    rw [cvF_mk, hres]
    obtain ⟨τ, hτ⟩ := ((hE9.setK (k := σ.length + 2) (by omega) (⟨[.d (.lit (.string op)), .d (kidsV p.2.2.2.2)], 0⟩ : VObj)).other (k := σ.length + 1) (by omega) lf vf).fin [] (by simp)
    exact ⟨.inl rfl, _, resK_c [.lit (.string op), kidsV p.2.2.2.2] rfl rfl uf (by simp) Try.agg35 Try.size35 rfl, [], τ, hτ, rfl⟩
end Go.Proofs.Ytcjcchceeidgkaa

