import Derived.Test.YtocgjopmlhpjdaaRows
import Derived.WalkKit
import Derived.ProofKit
import Derived.OpenShut
import Derived.ChangeOld
import Derived.Below
import Derived.Test.YtocgjopmlhpjdaaVmY
import Derived.Test.YtocgjopmlhpjdaaNtOp
import Derived.Test.YtocgjopmlhpjdaaNtZn
/-
  THE STATEMENT of law NetCovers, from its contract on deep values.
-/
namespace Go.Proofs.Ytocgjopmlhpjdaa.netCovers
open Go.ChangeShapes Go.WideShapes Go.ChangeAt Go.RowKit Go.Vm
set_option linter.unusedVariables false

theorem own : ownKnob Try.prog.godebug = none := by kernel_rfl
theorem laidOut : laidOutB Try.prog = true := by kernel_rfl

set_option maxRecDepth 100000 in
theorem lifted (os : Os) (started : os.Started) (H : Type) (enc : TypeId × Value → H) :
    ReturnsInHanded {} Try.checked os 5 .any (Rows.netCoversSpec.pre6 enc Try.prog Try.f5 Rows.netCoversRow.domain false) (Rows.netCoversSpec.post enc Try.prog Try.f5 false true false false) := by
  refine returnsInHanded_of_change (C := Try.checked) own started (by kernel_rfl) Try.func5
    (ChangeSpec.witness6 (enc := enc) (C := Try.checked) false ⟨#[], #[.agg #[.slice none 0 0, .slice none 0 0, .slice none 0 0], .slice none 0 0], []⟩ 8 (by kernel_rfl) (by kernel_rfl) (by kernel_rfl) (by kernel_rfl)) ?_
  intro W base args ds gs before hval0 hW hcnd _
  have hval : ∀ (j : Nat) t v, Try.f5.params[j]? = some t → args[j]? = some v → Value.okWide Try.prog W .any base t v := hval0
  have hW' := hW
  obtain ⟨p, q, hA0, hV, rfl, hfz, hnd⟩ := hW
  have hA : DataW.TrodAll enc Try.prog W 0 (fun _ => true) true Try.f5.params.toList args.toList ds p := hA0
  rw [Try.params5] at hA hval
  obtain ⟨v0, vs0, d0, ds0, p0, q0, hargs, rfl, rfl, h0, r0⟩ := trodAll_cons hA
  obtain ⟨v1, vs1, d1, ds1, p1, q1, rfl, rfl, rfl, h1, r1⟩ := trodAll_cons r0
  obtain ⟨rfl, rfl, rfl⟩ := trodAll_nil r1
  obtain rfl : args = #[v0, v1] := by cases args; simp_all
  obtain ⟨rfl, rfl⟩ := trodVars_none hV
  obtain ⟨cs0, rfl, _⟩ := okWide_struct Try.underlying25 (hval 0 25 v0 rfl rfl)
  have lt0 : ∀ x ∈ p0, x.block < W.heap.size := by obtain ⟨m, hm⟩ := h0; exact DataW.trod_lt m _ _ _ hm
  have h0' := h0
  obtain ⟨m0, hm0⟩ := h0'
  obtain ⟨e0, reps0, is0⟩ := open_net H enc W true m0 cs0.toList _ hm0
  have rep0 : DRep W Noone (.agg cs0) (.agg e0) := .agg (by simpa using reps0.1) (fun j v x hv hx => reps0.2 j v x (by simpa using hv) hx)
  obtain ⟨a1, len1, cap1, rfl⟩ := okWide_slice Try.underlying23 (hval 1 23 v1 rfl rfl)
  have lt1 : ∀ x ∈ p1, x.block < W.heap.size := by obtain ⟨m, hm⟩ := h1; exact DataW.trod_lt m _ _ _ hm
  obtain ⟨e1, l1, rep1, is1, len_1⟩ := open_deep_ints Try.underlying23 Try.underlying3 (by kernel_rfl) h1
  clear hA0 hval0
  have call : DeepCall Try.prog 5 [.agg e0, e1] (DB true) := by obtain ⟨a, b, c, pre, post, start, rfl, hN⟩ := is0; exact law5 hN is1 len_1
  have reps : ∀ (i : Nat) (v : Value) (x : DV), [.agg cs0, .slice a1 len1 cap1][i]? = some v → [.agg e0, e1][i]? = some x → DRep W Noone v x := by
    intro i v x hv hx
    match i with
    | 0 => simp at hv hx; subst hv hx; exact rep0
    | 1 => simp at hv hx; subst hv hx; exact rep1
    | i + 2 => simp at hv
  refine (call Noone W [.agg cs0, .slice a1 len1 cap1] (fun _ h => h.elim) rfl reps).mono fun e W' ⟨v, he, hr, bel⟩ => ?_
  subst he
  obtain rfl := hr.bool
  exact ⟨_, rfl, _, _, _, [], _, [], hW', trodAll_mk1 (shut_bool Try.underlying4 _), (trodAll_cons_mk (Below.trod laidOut (by kernel_rfl) (of_decide_eq_true (by kernel_rfl)) h0 bel lt0) (trodAll_cons_mk (Below.trod laidOut (by kernel_rfl) (of_decide_eq_true (by kernel_rfl)) h1 bel lt1) trodAll_mk0)), rfl, bel.frame _, fun h => by cases h⟩

theorem over : Rows.netCoversRow.holds Try.pinned (OpenSpec.ofChange Rows.netCoversSpec) :=
  OpenClaim.holds_of_wide 5 Try.f5 rfl rfl rfl rfl rfl rfl rfl ⟨rfl, rfl, rfl, rfl, rfl⟩ rfl rfl rfl rfl rfl (by kernel_rfl) Try.func5 (by kernel_rfl)
    (of_decide_eq_true (by kernel_rfl)) (by unfold Func.isWrapper; first | (rw [if_pos (by decide +kernel)]; kernel_rfl) | (rw [if_neg (by decide +kernel)]; exact ⟨rfl, rfl⟩))
    (fun os started H enc _ => lifted os started H enc)

/-- The statement. -/
theorem proved : Rows.NetCoversSaid := over
end Go.Proofs.Ytocgjopmlhpjdaa.netCovers

