import Derived.Test.YtjfpeiioddfjcaaZnTd
/-
  Zones: the reference: And, Delay, Reset make what the program makes.
-/
namespace Go.Proofs.Ytjfpeiioddfjcaa
open Go.Vm Go.Zn

def raE (z : List (List Int)) (i j b : Int) : Int := if (validZ z && guardB ((z.length : Int) - 1) 1000 i j b) then rtE (raZ z i.toNat j.toNat b) else 2
def raD (z : List (List Int)) (i j b : Int) : DV := if (validZ z && guardB ((z.length : Int) - 1) 1000 i j b) then rtD (raZ z i.toNat j.toNat b) else Dnil
def raL (z : List (List Int)) (i j b : Int) : List (List Int) := if (validZ z && guardB ((z.length : Int) - 1) 1000 i j b) then rtZ (raZ z i.toNat j.toNat b) else []
theorem raD_mat (z : List (List Int)) (i j b : Int) : Mat (raD z i j b) (raL z i j b) := by unfold raD raL; split; exact rtD_mat _; exact .nil
theorem rAnd24 {d : DV} {z : List (List Int)} (hd : Mat d z) (hl : z.length ≤ 9223372036854775807) (hr : ∀ r ∈ z, r.length ≤ 9223372036854775807) {i j b : Int} : DeepCall Try.prog 24 [d, .agg [DI i, DI j, DI b]] (.tup [raD z i j b, DI (raE z i j b)]) := by
  cases h : (validZ z && guardB ((z.length : Int) - 1) 1000 i j b) with
  | false =>
    unfold raD raE
    rw [h]
    exact rAnd24_err hd hl hr h
  | true =>
    unfold raD raE
    rw [h]
    rw [Bool.and_eq_true] at h
    obtain ⟨hv, hg⟩ := h
    obtain ⟨⟨⟨h1, _⟩, h2, _⟩, _⟩ := guardB_iff.1 hg
    obtain ⟨i, rfl⟩ := Int.eq_ofNat_of_zero_le h1
    obtain ⟨j, rfl⟩ := Int.eq_ofNat_of_zero_le h2
    exact rAnd24_ok hd hl hr hv hg
theorem bad_of {z : List (List Int)} (hv : validZ z = false) : ¬ validZ z = true := fun h => Bool.noConfusion (hv.symm.trans h)
theorem anE_bad {z : List (List Int)} {i j b : Int} (hv : validZ z = false) : anE z i j b = 2 := by
  unfold anE opE
  split
  · rw [if_neg (bad_of hv)]
  · rfl
theorem an_ra {z : List (List Int)} {i j b : Int} : anE z i j b = raE z i j b ∧ anZ z i j b = raL z i j b := by
  cases hv : validZ z with
  | false =>
    have h2 := anE_bad (i := i) (j := j) (b := b) hv
    unfold raE raL anZ resZ
    rw [hv, h2]; exact ⟨rfl, rfl⟩
  | true =>
    cases hg : guardB ((z.length : Int) - 1) 1000 i j b with
    | false =>
      have h2 : anE z i j b = 2 := by unfold anE; rw [hg]; rfl
      unfold raE raL anZ resZ
      rw [hv, hg, h2]; exact ⟨rfl, rfl⟩
    | true =>
      obtain ⟨hi, hj, hb⟩ := guard_lt hg
      have hn := (validZ_rows hv).2.1
      obtain ⟨k1, k2⟩ := rt_tight (a := andM z i.toNat j.toNat b) hn (fun x y => Lim.mono (andM_lim hv hb x y) (by decide) (by decide))
      have e1 := raZ_zf (b := b) (sq_of hv) hi hj
      have e2 : (raZ z i.toNat j.toNat b).length = z.length := genM_length ..
      have h2 := anE_ok hg hv
      unfold raE raL
      rw [hv, hg]
      show _ = rtE (raZ z i.toNat j.toNat b) ∧ _ = rtZ (raZ z i.toNat j.toNat b)
      unfold rtE rtZ
      rw [e1, e2, k1]
      refine ⟨h2, ?_⟩
      unfold anZ resZ
      rw [h2]
      cases he : emptyB z.length (tightM z.length (andM z i.toNat j.toNat b)) with
      | true => rfl
      | false =>
        rw [he] at k1
        exact genM_eq' fun x hx y hy => (k2 k1 x y hx hy).symm
/-- What is closed is what the reference tightens it to. -/
theorem rt_self {n : Nat} {F : Nat → Nat → Int} (hn : n ≤ 4) (h : TightOk n F) (ho : ∀ x y, n ≤ x ∨ n ≤ y → F x y = 0) : rtE (genM n n F) = 0 ∧ rtZ (genM n n F) = genM n n F := by
  obtain ⟨k1, k2⟩ := rt_closed hn h
  unfold rtE rtZ
  rw [zf_gen ho, genM_length, k1]
  exact ⟨rfl, genM_eq' fun x hx y hy => k2 x y hx hy⟩
def rdL (z : List (List Int)) : List (List Int) := if rTE z = 0 then rtZ (rdZ z) else []
theorem rdD_mat (z : List (List Int)) : Mat (rdD z) (rdL z) := by unfold rdD rdL; split; exact rtD_mat _; exact .nil
theorem dl_rd {z : List (List Int)} : dlE z = rdE z ∧ dlZ z = rdL z := by
  have e0 : dlE z = rTE z := (dlE_eq z).trans rT_tg.1.symm
  unfold rdE rdL dlZ resZ
  by_cases h : rTE z = 0
  · obtain ⟨hv, _⟩ := rTE_zero h
    have hn := (validZ_rows hv).2.1
    have h2 := (validZ_rows hv).1
    obtain ⟨h0, _⟩ := rTE_ok h
    have e : rdZ z = genM z.length z.length (delM z.length (tightM z.length (zf z))) := genM_delM (rt_eq h)
    obtain ⟨k1, k2⟩ := rt_self hn (del_ok (tg_ok h0)) (fun x y hc => (del_out hc (by omega)).trans (tg_out hv x y hc))
    rw [if_pos h, if_pos h, e0, if_pos h, h, e, k1, k2]
    exact ⟨rfl, rfl⟩
  · rw [if_neg h, if_neg h, e0, if_neg h]
    exact ⟨rfl, rfl⟩
def rrE (z : List (List Int)) (s : Int) : Int := if (validZ z && setB z.length s) then (if rTE z = 0 then rtE (rrZ z s.toNat) else rTE z) else 2
def rrD (z : List (List Int)) (s : Int) : DV := if (validZ z && setB z.length s) then (if rTE z = 0 then rtD (rrZ z s.toNat) else Dnil) else Dnil
def rrL (z : List (List Int)) (s : Int) : List (List Int) := if (validZ z && setB z.length s) then (if rTE z = 0 then rtZ (rrZ z s.toNat) else []) else []
theorem rrD_mat (z : List (List Int)) (s : Int) : Mat (rrD z s) (rrL z s) := by
  unfold rrD rrL
  split
  · split; exact rtD_mat _; exact .nil
  · exact .nil
theorem rReset28 {d : DV} {z : List (List Int)} (hd : Mat d z) (hl : z.length ≤ 9223372036854775807) (hr : ∀ r ∈ z, r.length ≤ 9223372036854775807) {s : Int} : DeepCall Try.prog 28 [d, DI s] (.tup [rrD z s, DI (rrE z s)]) := by
  cases h : (validZ z && setB z.length s) with
  | false =>
    unfold rrD rrE
    rw [h]
    exact rReset28_bad hd hl hr h
  | true =>
    unfold rrD rrE
    rw [h]
    rw [Bool.and_eq_true] at h
    obtain ⟨hv, hs⟩ := h
    by_cases h0 : rTE z = 0
    · have h3 := hs
      unfold setB at h3
      simp only [Bool.and_eq_true, decide_eq_true_eq] at h3
      obtain ⟨s, rfl⟩ := Int.eq_ofNat_of_zero_le h3.1.1
      rw [if_pos h0, if_pos h0]
      exact rReset28_ok hd hl hr h0 hs
    · rw [if_neg h0, if_neg h0]
      exact rReset28_err hd hl hr hv hs h0
theorem rs_rr {z : List (List Int)} {s : Int} : rsE z s = rrE z s ∧ rsZ z s = rrL z s := by
  have e0 := rsE_eq z s
  rw [← rT_tg.1] at e0
  unfold rrE rrL rsZ resZ
  cases hv : validZ z with
  | false =>
    have h2 : rTE z = 2 := by unfold rTE; rw [hv]; rfl
    have h3 : rsE z s = 2 := by rw [e0, h2]; split <;> rfl
    rw [h3]; exact ⟨rfl, rfl⟩
  | true =>
    cases hs : setB z.length s with
    | false =>
      rw [hs] at e0
      have h3 : rsE z s = 2 := e0
      rw [h3]; exact ⟨rfl, rfl⟩
    | true =>
      rw [hs] at e0
      have e0 : rsE z s = rTE z := e0
      rw [e0]
      show _ = (if rTE z = 0 then rtE (rrZ z s.toNat) else rTE z) ∧ _ = (if rTE z = 0 then rtZ (rrZ z s.toNat) else [])
      by_cases h : rTE z = 0
      · have hn := (validZ_rows hv).2.1
        have h2 := (validZ_rows hv).1
        obtain ⟨h0, _⟩ := rTE_ok h
        obtain ⟨k1, k2⟩ := rt_self hn (res_ok (s := s.toNat) (tg_ok h0)) (fun x y hc => res_out (tg_out hv) hc (by omega))
        unfold rrZ
        rw [if_pos h, if_pos h, if_pos h, h, k1, k2]
        exact ⟨rfl, rfl⟩
      · rw [if_neg h, if_neg h, if_neg h]
        exact ⟨rfl, rfl⟩
theorem few_bad {z : List (List Int)} (hv : validZ z = false) : validZ (fewZ z) = false := few_valid.trans hv
theorem few_an {z : List (List Int)} {i j b : Int} : anE (fewZ z) i j b = anE z i j b ∧ anZ (fewZ z) i j b = anZ z i j b := by
  cases hv : validZ z with
  | true => rw [few_id hv]; exact ⟨rfl, rfl⟩
  | false =>
    have h1 := anE_bad (i := i) (j := j) (b := b) hv
    have h2 := anE_bad (i := i) (j := j) (b := b) (few_bad hv)
    unfold anZ resZ
    rw [h1, h2]; exact ⟨rfl, rfl⟩
theorem few_dl {z : List (List Int)} : dlE (fewZ z) = dlE z ∧ dlZ (fewZ z) = dlZ z := by
  cases hv : validZ z with
  | true => rw [few_id hv]; exact ⟨rfl, rfl⟩
  | false =>
    have h1 : dlE z = 2 := (dlE_eq z).trans (tgE_bad (bad_of hv))
    have h2 : dlE (fewZ z) = 2 := (dlE_eq _).trans (tgE_bad (bad_of (few_bad hv)))
    unfold dlZ resZ
    rw [h1, h2]; exact ⟨rfl, rfl⟩
theorem few_rs {z : List (List Int)} {s : Int} : rsE (fewZ z) s = rsE z s ∧ rsZ (fewZ z) s = rsZ z s := by
  cases hv : validZ z with
  | true => rw [few_id hv]; exact ⟨rfl, rfl⟩
  | false =>
    have h1 : rsE z s = 2 := by rw [rsE_eq, tgE_bad (bad_of hv)]; split <;> rfl
    have h2 : rsE (fewZ z) s = 2 := by rw [rsE_eq, tgE_bad (bad_of (few_bad hv))]; split <;> rfl
    unfold rsZ resZ
    rw [h1, h2]; exact ⟨rfl, rfl⟩
end Go.Proofs.Ytjfpeiioddfjcaa

