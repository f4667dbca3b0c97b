import Derived.Test.YtjfpeiioddfjcaaZnRg
/-
  Zones: the reference: Tight.
-/
namespace Go.Proofs.Ytjfpeiioddfjcaa
open Go.Vm Go.Zn

def rTE (z : List (List Int)) : Int := if validZ z then rtE z else 2
def rTD (z : List (List Int)) : DV := if validZ z then rtD z else Dnil
def rtZ (z : List (List Int)) : List (List Int) := if anyR z.length (zf z) then [] else genM z.length z.length (rtM z.length (atm (zf z)))
def rTZ (z : List (List Int)) : List (List Int) := if validZ z then rtZ z else []
theorem rtD_mat (z : List (List Int)) : Mat (rtD z) (rtZ z) := by unfold rtD rtZ; split; exact .nil; exact genD_mat
theorem rTD_mat (z : List (List Int)) : Mat (rTD z) (rTZ z) := by unfold rTD rTZ; split; exact rtD_mat z; exact .nil
theorem zf5 {z : List (List Int)} (hv : validZ z = true) : ZgM 5000 (zf z) := fun i j => Lim.mono (zf_lim hv i j) (by decide) (by decide)
/-- The reference tightens as the program does. -/
theorem rT_tg {z : List (List Int)} : rTE z = tgE z ∧ rTZ z = tgZ z := by
  cases hv : validZ z with
  | false =>
    have h2 := tgE_bad (z := z) (by rw [hv]; decide)
    refine ⟨by unfold rTE; rw [hv, h2]; rfl, ?_⟩
    unfold rTZ tgZ resZ
    rw [hv, h2]; rfl
  | true =>
    obtain ⟨k1, k2⟩ := rt_tight (validZ_rows hv).2.1 (zf5 hv)
    have h2 := tgE_ok hv
    refine ⟨?_, ?_⟩
    · unfold rTE rtE
      rw [if_pos hv, h2, k1]
    · unfold rTZ tgZ rtZ resZ
      rw [if_pos hv, h2]
      cases he : emptyB z.length (tightM z.length (zf z)) with
      | true => rw [k1, he]; rfl
      | false =>
        rw [he] at k1
        rw [k1]
        show genM _ _ _ = genM _ _ _
        exact genM_eq' fun i hi j hj => k2 k1 i j hi hj
set_option maxRecDepth 10000 in
theorem rTight17 {d : DV} {z : List (List Int)} (hd : Mat d z) (hl : z.length ≤ 9223372036854775807) (hr : ∀ r ∈ z, r.length ≤ 9223372036854775807) : DeepCall Try.prog 17 [d] (.tup [rTD z, DI (rTE z)]) := by
  refine deepCall_K 5 Try.func17 rfl (Nat.le_of_ble_eq_true rfl) fun M W0 => ?_
  refine KC.seq ?_
  refine KC.region ?_
  refine KT.step rfl rfl (K.assign rfl) ?_
  refine KT.step rfl rfl (K.assign rfl) ?_
  refine KT.nil ?_
  refine thenK_n ?_
  refine KC.seq ?_
  refine KC.seq ?_
  refine KC.region ?_
  refine KT.step rfl rfl (K.move rfl) ?_
  refine KT.step rfl rfl (K.call1 rfl plainTry_36 (Valid36 hd hl hr)) ?_
  refine KT.step rfl rfl (K.not rfl) ?_
  refine KT.nil ?_
  refine thenK_n ?_
  refine KC.cond rfl (fun hc6 => ?_) (fun hc6 => ?_)
  · skip
    rw [Bool.not_eq_true'] at hc6
    refine KC.seq ?_
    refine KC.region ?_
    refine KT.step rfl rfl (K.assign rfl) ?_
    refine KT.step rfl rfl (K.assign rfl) ?_
    refine KT.nil ?_
    refine thenK_n ?_
    refine KC.ret ?_
    refine thenK_r ?_
    exact ⟨.inl rfl, _, rfl, fin_op (by unfold rTD; rw [hc6]; rfl) (by unfold rTE; rw [hc6]; rfl)⟩
  · skip
    rw [Bool.not_eq_false'] at hc6
    refine KC.skip ?_
    refine thenK_n ?_
    refine KC.seq ?_
    refine KC.region ?_
    refine KT.step rfl rfl (K.move rfl) ?_
    refine KT.step rfl rfl (K.call1 rfl plainTry_52 (rtight52 hd (sq_of hc6))) ?_
    refine KT.step rfl rfl (K.extract rfl rfl) ?_
    refine KT.step rfl rfl (K.extract rfl rfl) ?_
    refine KT.step rfl rfl (K.assign rfl) ?_
    refine KT.step rfl rfl (K.assign rfl) ?_
    refine KT.nil ?_
    refine thenK_n ?_
    refine KC.ret ?_
    exact ⟨.inl rfl, _, rfl, fin_op (by unfold rTD; rw [hc6]; rfl) (by unfold rTE; rw [hc6]; rfl)⟩
end Go.Proofs.Ytjfpeiioddfjcaa

