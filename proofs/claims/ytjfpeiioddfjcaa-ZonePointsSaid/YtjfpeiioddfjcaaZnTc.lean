import Derived.Test.YtjfpeiioddfjcaaZnTb
/-
  Zones: the reference: And, Reset.
-/
namespace Go.Proofs.Ytjfpeiioddfjcaa
open Go.Vm Go.Zn

theorem freeze_len {σ : List VObj} {m : Nat} (h : m = σ.length) : freezeIds σ (List.range m) = freezeAll σ := h ▸ freeze_range σ
theorem copied_ex {σ : List VObj} {d : DV} {z : List (List Int)} (L : Nat) (hL : σ.length = L) (hd : Mat d z) (hs : Sq z) : ∃ S o, OwnCall Try.prog 64 σ [.d d] S (.osl o 0 z.length 1 z.length false) ∧ CpM S L z.length (zf z) o ∧ ∀ j, j < σ.length → S[j]? = σ[j]? := by
  subst hL
  have h := copied64_own (σ := σ) hd hs
  have e : cpx σ z z.length = .osl ((cpo σ z z.length).length - 1) 0 z.length 1 z.length false := if_neg (by have := hs.lo; omega)
  rw [e] at h
  exact ⟨_, _, h, cpo_cpm hs, fun j hj => cpo_base hj _⟩
theorem set2_out {n i j : Nat} {M : Nat → Nat → Int} {v : Int} (hi : i < n) (hj : j < n) (h : ∀ x y, n ≤ x ∨ n ≤ y → M x y = 0) : ∀ x y, n ≤ x ∨ n ≤ y → set2 M i j v x y = 0 := fun x y hc => by
  unfold set2
  rw [if_neg (by omega)]; exact h x y hc
theorem zf_out {z : List (List Int)} (hs : Sq z) : ∀ x y, z.length ≤ x ∨ z.length ≤ y → zf z x y = 0 := fun x y h => by
  unfold zf
  by_cases hx : x < z.length
  · rw [getD_over (by rw [(sq_row hs hx).2]; omega)]
  · rw [getD_over (l := z) (by omega)]; rfl
def raZ (z : List (List Int)) (i j : Nat) (b : Int) : List (List Int) := genM z.length z.length (andM z i j b)
theorem raZ_zf {z : List (List Int)} {i j : Nat} {b : Int} (hs : Sq z) (hi : i < z.length) (hj : j < z.length) : zf (raZ z i j b) = andM z i j b := zf_gen (set2_out hi hj (zf_out hs))
theorem raZ_sq {z : List (List Int)} {i j : Nat} {b : Int} (hv : validZ z = true) (hb : bndB 1000 b = true) (hi : i < z.length) (hj : j < z.length) : Sq (raZ z i j b) :=
  sq_gen (by have := (validZ_rows hv).1; omega) (validZ_rows hv).2.1 (by rw [show genM z.length z.length (andM z i j b) = raZ z i j b from rfl, raZ_zf (sq_of hv) hi hj]; exact fun x y => Lim.mono (andM_lim hv hb x y) (by decide) (by decide))
set_option maxRecDepth 10000 in
theorem rAnd24_ok {d : DV} {z : List (List Int)} (hd : Mat d z) (hl : z.length ≤ 9223372036854775807) (hr : ∀ r ∈ z, r.length ≤ 9223372036854775807) {i j : Nat} {b : Int} (hv : validZ z = true) (hg : guardB ((z.length : Int) - 1) 1000 (i : Nat) (j : Nat) b = true) : DeepCall Try.prog 24 [d, .agg [DI (i : Nat), DI (j : Nat), DI b]] (.tup [rtD (raZ z i j b), DI (rtE (raZ z i j b))]) := by
  have hn := (validZ_rows hv).2.1
  have hs := sq_of hv
  have hi : i < z.length := (guard_lt hg).1
  have hj : j < z.length := (guard_lt hg).2.1
  obtain ⟨S, o, hS, hc, hbs⟩ := copied_ex (σ := [⟨[.d (DI (i : Nat)), .d (DI (j : Nat)), .d (DI b)], 0⟩]) 1 rfl hd hs
  have y0 : S[0]? = some ⟨[.d (DI (i : Nat)), .d (DI (j : Nat)), .d (DI b)], 0⟩ := hbs 0 (by simp)
  refine deepCall_K 6 Try.func24 rfl (Nat.le_of_ble_eq_true rfl) fun M W0 => ?_
  refine KC.seq ?_
  refine KC.region ?_
  refine KT.step rfl rfl (K.box rfl) ?_
  refine KT.step rfl rfl (K.assign rfl) ?_
  refine KT.step rfl rfl (K.assign rfl) ?_
  refine KT.nil ?_
  refine thenK_n ?_
  refine KC.seq ?_
  refine KC.seq ?_
  refine KC.region ?_
  refine KT.step rfl rfl (K.move rfl) ?_
  refine KT.step rfl rfl (K.call1 rfl plainTry_36 (Valid36 hd hl hr)) ?_
  refine KT.step rfl rfl (K.not rfl) ?_
  refine KT.step rfl rfl (K.move rfl) ?_
  refine KT.bcase (fun hb9 => ?_) (fun hb9 => ?_)
  · skip
    refine KT.skip rfl rfl ?_
    refine KT.skip rfl rfl ?_
    refine KT.skip rfl rfl ?_
    refine KT.skip rfl rfl ?_
    refine KT.step rfl rfl (K.pick rfl (fun _ => rfl) (fun h => by cases h)) ?_
    refine KT.nil ?_
    refine thenK_n ?_
    refine KC.cond rfl (fun hc14 => ?_) (fun hc14 => ?_)
    · skip
      refine KC.seq ?_
      refine KC.region ?_
      refine KT.step rfl rfl (K.assign rfl) ?_
      refine KT.step rfl rfl (K.assign rfl) ?_
      refine KT.nil ?_
      refine thenK_n ?_
      refine KC.ret ?_
      refine thenK_r ?_
      rw [hv] at hb9; cases hb9
    · cases hc14
  · skip
    refine KT.step rfl rfl (K.move rfl) ?_
    refine KT.step rfl rfl (K.loadOA ([DI (i : Nat), DI (j : Nat), DI b]) rfl rfl (by decide) Try.agg36 Try.size36 rfl) ?_
    refine KT.step rfl rfl (K.call2 rfl rfl plainTry_49 (Clock49 hd hl hr)) ?_
    refine KT.step rfl rfl (K.not rfl) ?_
    refine KT.step rfl rfl (K.pick rfl (fun h => by cases h) (fun _ => rfl)) ?_
    refine KT.nil ?_
    refine thenK_n ?_
    refine KC.cond rfl (fun hc14 => ?_) (fun hc14 => ?_)
    · skip
      rw [hg] at hc14; cases hc14
    · skip
      refine KC.skip ?_
      refine thenK_n ?_
      refine KC.seq ?_
      refine KC.region ?_
      refine KT.step rfl rfl (K.move rfl) ?_
      refine KT.step rfl rfl (K.callO rfl plainTry_64 hS) ?_
      refine KT.step rfl rfl (K.assign rfl) ?_
      refine KT.nil ?_
      refine thenK_n ?_
      refine KC.seq ?_
      refine KC.draw Try.mixed ?_
      refine KT.step rfl rfl (K.move rfl) ?_
      refine KT.step rfl rfl (K.fieldAddrO rfl Try.fld36_0 Try.size3) ?_
      refine KT.step rfl rfl (K.loadO rfl y0 (by simp) rfl Try.agg3) ?_
      refine KT.step rfl rfl (K.idxO (m := i) rfl rfl hi Try.underlying22 Try.size23) ?_
      refine KT.step rfl rfl (K.loadO rfl hc.out (by simp) (CpM.get hi) Try.agg23) ?_
      refine KT.step rfl rfl (K.fieldAddrO rfl Try.fld36_1 Try.size3) ?_
      refine KT.step rfl rfl (K.loadO rfl y0 (by simp) rfl Try.agg3) ?_
      refine KT.step rfl rfl (K.move rfl) ?_
      refine KT.step rfl rfl (K.fieldAddrO rfl Try.fld36_0 Try.size3) ?_
      refine KT.step rfl rfl (K.loadO rfl y0 (by simp) rfl Try.agg3) ?_
      refine KT.step rfl rfl (K.idxO (m := i) rfl rfl hi Try.underlying22 Try.size23) ?_
      refine KT.step rfl rfl (K.loadO rfl hc.out (by simp) (CpM.get hi) Try.agg23) ?_
      refine KT.step rfl rfl (K.fieldAddrO rfl Try.fld36_1 Try.size3) ?_
      refine KT.step rfl rfl (K.loadO rfl y0 (by simp) rfl Try.agg3) ?_
      refine KT.step rfl rfl (K.idxO (m := j) rfl rfl hj Try.underlying23 Try.size3) ?_
      refine KT.step rfl rfl (K.loadO rfl (hc.rows i hi) (by simp) (row_get hj) Try.agg3) ?_
      refine KT.step rfl rfl (K.fieldAddrO rfl Try.fld36_2 Try.size3) ?_
      refine KT.step rfl rfl (K.loadO rfl y0 (by simp) rfl Try.agg3) ?_
      refine KT.step rfl rfl (K.min2 rfl rfl) ?_
      refine KT.step rfl rfl (K.idxO (m := j) rfl rfl hj Try.underlying23 Try.size3) ?_
      refine KT.step rfl rfl (K.storeO rfl rfl (hc.rows i hi) (by rw [row_clen]; omega) rfl rfl Try.size3) ?_
      refine KT.nil ?_
      refine ⟨by kernel_rfl, ?_⟩
      refine thenK_n ?_
      refine KC.seq ?_
      refine KC.region ?_
      refine KT.step rfl rfl (K.move rfl) ?_
      have hc2 : CpM _ 1 z.length (andM z i j b) o := hc.put hi hj
      refine KT.step rfl rfl (K.callZ (ds := [cpD z.length (andM z i j b)]) (List.range S.length) 5 rfl plainTry_52 (by rw [freeze_len (by simp)]; exact map1_deep hc2.deep) (rtight52 cpD_mat (raZ_sq hv (guard_lt hg).2.2 hi hj))) ?_
      refine KT.step rfl rfl (K.extract rfl rfl) ?_
      refine KT.step rfl rfl (K.extract rfl rfl) ?_
      refine KT.step rfl rfl (K.assign rfl) ?_
      refine KT.step rfl rfl (K.assign rfl) ?_
      refine KT.nil ?_
      refine thenK_n ?_
      refine KC.ret ?_
      exact ⟨.inl rfl, _, rfl, rfl⟩
set_option maxRecDepth 10000 in
theorem rAnd24_err {d : DV} {z : List (List Int)} (hd : Mat d z) (hl : z.length ≤ 9223372036854775807) (hr : ∀ r ∈ z, r.length ≤ 9223372036854775807) {i j b : Int} (h : (validZ z && guardB ((z.length : Int) - 1) 1000 i j b) = false) : DeepCall Try.prog 24 [d, .agg [DI i, DI j, DI b]] (.tup [Dnil, DI 2]) := by
  refine deepCall_K 6 Try.func24 rfl (Nat.le_of_ble_eq_true rfl) fun M W0 => ?_
  refine KC.seq ?_
  refine KC.region ?_
  refine KT.step rfl rfl (K.box rfl) ?_
  refine KT.step rfl rfl (K.assign rfl) ?_
  refine KT.step rfl rfl (K.assign rfl) ?_
  refine KT.nil ?_
  refine thenK_n ?_
  refine KC.seq ?_
  refine KC.seq ?_
  refine KC.region ?_
  refine KT.step rfl rfl (K.move rfl) ?_
  refine KT.step rfl rfl (K.call1 rfl plainTry_36 (Valid36 hd hl hr)) ?_
  refine KT.step rfl rfl (K.not rfl) ?_
  refine KT.step rfl rfl (K.move rfl) ?_
  refine KT.bcase (fun hb9 => ?_) (fun hb9 => ?_)
  · skip
    refine KT.skip rfl rfl ?_
    refine KT.skip rfl rfl ?_
    refine KT.skip rfl rfl ?_
    refine KT.skip rfl rfl ?_
    refine KT.step rfl rfl (K.pick rfl (fun _ => rfl) (fun h => by cases h)) ?_
    refine KT.nil ?_
    refine thenK_n ?_
    refine KC.cond rfl (fun hc14 => ?_) (fun hc14 => ?_)
    · skip
      refine KC.seq ?_
      refine KC.region ?_
      refine KT.step rfl rfl (K.assign rfl) ?_
      refine KT.step rfl rfl (K.assign rfl) ?_
      refine KT.nil ?_
      refine thenK_n ?_
      refine KC.ret ?_
      refine thenK_r ?_
      exact ⟨.inl rfl, _, rfl, rfl⟩
    · cases hc14
  · skip
    refine KT.step rfl rfl (K.move rfl) ?_
    refine KT.step rfl rfl (K.loadOA ([DI i, DI j, DI b]) rfl rfl (by decide) Try.agg36 Try.size36 rfl) ?_
    refine KT.step rfl rfl (K.call2 rfl rfl plainTry_49 (Clock49 hd hl hr)) ?_
    refine KT.step rfl rfl (K.not rfl) ?_
    refine KT.step rfl rfl (K.pick rfl (fun h => by cases h) (fun _ => rfl)) ?_
    refine KT.nil ?_
    refine thenK_n ?_
    refine KC.cond rfl (fun hc14 => ?_) (fun hc14 => ?_)
    · skip
      refine KC.seq ?_
      refine KC.region ?_
      refine KT.step rfl rfl (K.assign rfl) ?_
      refine KT.step rfl rfl (K.assign rfl) ?_
      refine KT.nil ?_
      refine thenK_n ?_
      refine KC.ret ?_
      refine thenK_r ?_
      exact ⟨.inl rfl, _, rfl, rfl⟩
    · skip
      rw [Bool.and_eq_false_iff] at h
      simp_all
end Go.Proofs.Ytjfpeiioddfjcaa

