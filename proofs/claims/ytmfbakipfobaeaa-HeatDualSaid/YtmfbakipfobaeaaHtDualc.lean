import Derived.Test.YtmfbakipfobaeaaRows
import Derived.WalkKit
import Derived.ProofKit
import Derived.OpenShut
import Derived.ChangeOld
import Derived.Below
import Derived.Test.YtmfbakipfobaeaaVmW
import Derived.Test.YtmfbakipfobaeaaHtEp
import Derived.Test.YtmfbakipfobaeaaHtO
/-
  THE STATEMENT of law HeatDual, from its contract on deep values.
-/
namespace Go.Proofs.Ytmfbakipfobaeaa.heatDual
open Go.ChangeShapes Go.WideShapes Go.ChangeAt Go.RowKit Go.Vm Go.Ht
set_option linter.unusedVariables false

theorem own : ownKnob Try.prog.godebug = none := by kernel_rfl
theorem laidOut : laidOutB Try.prog = true := by kernel_rfl

set_option maxRecDepth 100000 in
theorem lifted (os : Os) (started : os.Started) (H : Type) (enc : TypeId × Value → H) :
    ReturnsInHanded {} Try.checked os 9 .any (Rows.heatDualSpec.pre6 enc Try.prog Try.f9 Rows.heatDualRow.domain false) (Rows.heatDualSpec.post enc Try.prog Try.f9 false true false false) := by
  refine returnsInHanded_of_change (C := Try.checked) own started (by kernel_rfl) Try.func9
    (ChangeSpec.witness6 (enc := enc) (C := Try.checked) false ⟨#[], #[.slice none 0 0, .int .i64 0, .int .i64 0, .slice none 0 0], []⟩ 8 (by kernel_rfl) (by kernel_rfl) (by kernel_rfl) (by kernel_rfl)) ?_
  intro W base args ds gs before hval0 hW hcnd _
  have hval : ∀ (j : Nat) t v, Try.f9.params[j]? = some t → args[j]? = some v → Value.okWide Try.prog W .any base t v := hval0
  have hW' := hW
  obtain ⟨p, q, hA0, hV, rfl, hfz, hnd⟩ := hW
  have hA : DataW.TrodAll enc Try.prog W 0 (fun _ => true) true Try.f9.params.toList args.toList ds p := hA0
  rw [Try.params9] at hA hval
  obtain ⟨v0, vs0, d0, ds0, p0, q0, hargs, rfl, rfl, h0, r0⟩ := trodAll_cons hA
  obtain ⟨v1, vs1, d1, ds1, p1, q1, rfl, rfl, rfl, h1, r1⟩ := trodAll_cons r0
  obtain ⟨v2, vs2, d2, ds2, p2, q2, rfl, rfl, rfl, h2, r2⟩ := trodAll_cons r1
  obtain ⟨v3, vs3, d3, ds3, p3, q3, rfl, rfl, rfl, h3, r3⟩ := trodAll_cons r2
  obtain ⟨rfl, rfl, rfl⟩ := trodAll_nil r3
  obtain rfl : args = #[v0, v1, v2, v3] := by cases args; simp_all
  obtain ⟨rfl, rfl⟩ := trodVars_none hV
  obtain ⟨a0, len0, cap0, rfl⟩ := okWide_slice Try.underlying22 (hval 0 22 v0 rfl rfl)
  have lt0 : ∀ x ∈ p0, x.block < W.heap.size := by obtain ⟨m, hm⟩ := h0; exact DataW.trod_lt m _ _ _ hm
  have h0' := h0
  obtain ⟨m0, hm0⟩ := h0'
  obtain ⟨_, reps0, e0, rfl, is0⟩ := open_l H enc W true m0 [.slice a0 len0 cap0] _ hm0
  have rep0 : DRep W Noone (.slice a0 len0 cap0) e0 := reps0.2 0 _ _ rfl rfl
  obtain ⟨a1, rfl, rfl, rfl, w1⟩ := open_int Try.underlying3 (hval 1 3 v1 rfl rfl) h1
  have rep1 : DRep W Noone (.int .i64 a1) (DI a1) := .lit _
  obtain ⟨a2, rfl, rfl, rfl, w2⟩ := open_int Try.underlying3 (hval 2 3 v2 rfl rfl) h2
  have rep2 : DRep W Noone (.int .i64 a2) (DI a2) := .lit _
  obtain ⟨a3, len3, cap3, rfl⟩ := okWide_slice Try.underlying49 (hval 3 49 v3 rfl rfl)
  have lt3 : ∀ x ∈ p3, x.block < W.heap.size := by obtain ⟨m, hm⟩ := h3; exact DataW.trod_lt m _ _ _ hm
  have h3' := h3
  obtain ⟨m3, hm3⟩ := h3'
  obtain ⟨_, reps3, e3, rfl, is3⟩ := open_p H enc W true m3 [.slice a3 len3 cap3] _ hm3
  have rep3 : DRep W Noone (.slice a3 len3 cap3) e3 := reps3.2 0 _ _ rfl rfl
  clear hA0 hval0
  have call : DeepCall Try.prog 9 [e0, DI a1, DI a2, e3] (DB true) := by
    obtain ⟨l, hd, hl⟩ := is0
    obtain ⟨p, he, hpl⟩ := is3
    by_cases hok : okH l a1 = true
    · by_cases ht : -20 ≤ a2 ∧ a2 ≤ 200
      · exact dual_ok hd hl hok he hpl ht
      · exact dual_far hd hl hok he hpl ht
    · exact dual_no hd hl (by simpa using hok) he hpl
  have reps : ∀ (i : Nat) (v : Value) (x : DV), [.slice a0 len0 cap0, .int .i64 a1, .int .i64 a2, .slice a3 len3 cap3][i]? = some v → [e0, DI a1, DI a2, e3][i]? = some x → DRep W Noone v x := by
    intro i v x hv hx
    match i with
    | 0 => simp at hv hx; subst hv hx; exact rep0
    | 1 => simp at hv hx; subst hv hx; exact rep1
    | 2 => simp at hv hx; subst hv hx; exact rep2
    | 3 => simp at hv hx; subst hv hx; exact rep3
    | i + 4 => simp at hv
  refine (call Noone W [.slice a0 len0 cap0, .int .i64 a1, .int .i64 a2, .slice a3 len3 cap3] (fun _ h => h.elim) rfl reps).mono fun e W' ⟨v, he, hr, bel⟩ => ?_
  subst he
  obtain rfl := hr.bool
  exact ⟨_, rfl, _, _, _, [], _, [], hW', trodAll_mk1 (shut_bool Try.underlying4 _), (trodAll_cons_mk (Below.trod laidOut (by kernel_rfl) (of_decide_eq_true (by kernel_rfl)) h0 bel lt0) (trodAll_cons_mk (shut_int Try.underlying3 w1) (trodAll_cons_mk (shut_int Try.underlying3 w2) (trodAll_cons_mk (Below.trod laidOut (by kernel_rfl) (of_decide_eq_true (by kernel_rfl)) h3 bel lt3) trodAll_mk0)))), rfl, bel.frame _, fun h => by cases h⟩

theorem over : Rows.heatDualRow.holds Try.pinned (OpenSpec.ofChange Rows.heatDualSpec) :=
  OpenClaim.holds_of_wide 9 Try.f9 rfl rfl rfl rfl rfl rfl rfl ⟨rfl, rfl, rfl, rfl, rfl⟩ rfl rfl rfl rfl rfl (by kernel_rfl) Try.func9 (by kernel_rfl)
    (of_decide_eq_true (by kernel_rfl)) (by unfold Func.isWrapper; first | (rw [if_pos (by decide +kernel)]; kernel_rfl) | (rw [if_neg (by decide +kernel)]; exact ⟨rfl, rfl⟩))
    (fun os started H enc _ => lifted os started H enc)

/-- The statement. -/
theorem proved : Rows.HeatDualSaid := over
end Go.Proofs.Ytmfbakipfobaeaa.heatDual

