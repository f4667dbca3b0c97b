import Derived.Test.YtjfpeiioddfjcaaZnP1
/-
  Zones: what is refuted.
-/
namespace Go.Proofs.Ytjfpeiioddfjcaa
open Go.Vm Go.Zn

theorem rf_nil {z : List (List Int)} (hv : validZ z = true) : isNilD (rfD z) = !emptyB z.length (tightM z.length (zf z)) := by
  have hn := (validZ_rows hv).2.1
  have ha := Go.Zn.lim5 (n := z.length) (zf_lim hv)
  cases he : emptyB z.length (tightM z.length (zf z)) with
  | true =>
    obtain ⟨q, hq⟩ := (empty_iff hn ha).1 he
    exact dfs_complete (z.length + 1) [] q (by simp) (by rw [List.nil_append]; exact hq)
  | false =>
    cases hr : isNilD (rfD z) with
    | true => rfl
    | false =>
      obtain ⟨r, _, h2⟩ := dfs_sound _ _ hr
      rw [(empty_iff hn ha).2 ⟨r, h2⟩] at he; cases he
theorem rfE_eq {z : List (List Int)} (hv : validZ z = true) : (tgE z = 0 ∧ rfE z = 5) ∨ (tgE z = 5 ∧ rfE z = 0) := by
  have h1 := tgE_ok hv
  have h2 : rfE z = if isNilD (rfD z) then 5 else 0 := by unfold rfE; rw [if_pos hv]
  rw [rf_nil hv] at h2
  cases he : emptyB z.length (tightM z.length (zf z)) with
  | true => rw [he] at h1 h2; exact .inr ⟨h1, h2⟩
  | false => rw [he] at h1 h2; exact .inl ⟨h1, h2⟩
theorem rf_bad {z : List (List Int)} (hv : validZ z = false) : tgE z = 2 ∧ rfE z = 2 ∧ crE z = 2 := ⟨tgE_bad (by rw [hv]; decide), by unfold rfE; rw [hv]; rfl, by unfold crE; rw [hv]; rfl⟩
theorem tgE_v {z : List (List Int)} : tgE z ≠ 2 → validZ z = true := fun h => by
  cases hv : validZ z with
  | true => rfl
  | false => exact absurd (rf_bad hv).1 h
theorem rf_ok {z : List (List Int)} (hv : validZ z = true) (h : rfE z = 0) : ∃ r : List Nat, rfR z = wd0 r ∧ crB z (zl r) = true := by
  have h2 : rfE z = if isNilD (rfD z) then 5 else 0 := by unfold rfE; rw [if_pos hv]
  rw [h2] at h
  split at h
  · cases h
  · rename_i hn
    obtain ⟨r, h3, h4⟩ := dfs_sound _ _ (Bool.eq_false_iff.2 hn)
    exact ⟨r, (if_pos hv).trans h3, by unfold crB; rw [hv, h4]; rfl⟩
theorem crB_empty {z : List (List Int)} {l : List Int} (hv : validZ z = true) (h : crB z l = true) : tgE z = 5 := by
  unfold crB at h
  rw [hv, Bool.true_and] at h
  obtain ⟨q, rfl⟩ := nat_of (difB_iff.1 (rfB_dif h)).1
  rw [tgE_ok hv, (empty_iff (validZ_rows hv).2.1 (Go.Zn.lim5 (zf_lim hv))).2 ⟨q, h⟩]; rfl
theorem crE_ok {z : List (List Int)} (hv : validZ z = true) : crE z = 0 := if_pos hv
end Go.Proofs.Ytjfpeiioddfjcaa

