import Derived.Test.YthbnnffmhnjpjaaRows
import Derived.WalkKit
import Derived.ProofKit
import Derived.OpenShut
import Derived.ChangeOld
import Derived.Below
import Derived.Test.YthbnnffmhnjpjaaCyP
import Derived.Test.YthbnnffmhnjpjaaCyEj
/-
  THE STATEMENT of law CycleEigens, from its contract on deep values.
-/
namespace Go.Proofs.Ythbnnffmhnjpjaa.cycleEigens
open Go.ChangeShapes Go.WideShapes Go.ChangeAt Go.RowKit Go.Vm
set_option linter.unusedVariables false

theorem own : ownKnob Try.prog.godebug = none := by kernel_rfl
theorem laidOut : laidOutB Try.prog = true := by kernel_rfl

set_option maxRecDepth 100000 in
theorem lifted (os : Os) (started : os.Started) (H : Type) (enc : TypeId × Value → H) :
    ReturnsInHanded {} Try.checked os 9 .any (Rows.cycleEigensSpec.pre6 enc Try.prog Try.f9 Rows.cycleEigensRow.domain false) (Rows.cycleEigensSpec.post enc Try.prog Try.f9 false true false false) := by
  refine returnsInHanded_of_change (C := Try.checked) own started (by kernel_rfl) Try.func9
    (ChangeSpec.witness6 (enc := enc) (C := Try.checked) false ⟨#[], #[.slice none 0 0], []⟩ 8 (by kernel_rfl) (by kernel_rfl) (by kernel_rfl) (by kernel_rfl)) ?_
  intro W base args ds gs before hval0 hW hcnd _
  have hval : ∀ (j : Nat) t v, Try.f9.params[j]? = some t → args[j]? = some v → Value.okWide Try.prog W .any base t v := hval0
  have hW' := hW
  obtain ⟨p, q, hA0, hV, rfl, hfz, hnd⟩ := hW
  have hA : DataW.TrodAll enc Try.prog W 0 (fun _ => true) true Try.f9.params.toList args.toList ds p := hA0
  rw [Try.params9] at hA hval
  obtain ⟨v0, vs0, d0, ds0, p0, q0, hargs, rfl, rfl, h0, r0⟩ := trodAll_cons hA
  obtain ⟨rfl, rfl, rfl⟩ := trodAll_nil r0
  obtain rfl : args = #[v0] := by cases args; simp_all
  obtain ⟨rfl, rfl⟩ := trodVars_none hV
  obtain ⟨a0, len0, cap0, rfl⟩ := okWide_slice Try.underlying22 (hval 0 22 v0 rfl rfl)
  have lt0 : ∀ x ∈ p0, x.block < W.heap.size := by obtain ⟨m, hm⟩ := h0; exact DataW.trod_lt m _ _ _ hm
  obtain ⟨e0, l0, rep0, is0, len_0, rows0⟩ := open_deep_mat Try.underlying22 Try.underlying33 Try.underlying3 (by kernel_rfl) (by kernel_rfl) h0
  clear hA0 hval0
  have call : DeepCall Try.prog 9 [e0] (DB true) := law9 is0 len_0 rows0
  have reps : ∀ (i : Nat) (v : Value) (x : DV), [.slice a0 len0 cap0][i]? = some v → [e0][i]? = some x → DRep W Noone v x := by
    intro i v x hv hx
    match i with
    | 0 => simp at hv hx; subst hv hx; exact rep0
    | i + 1 => simp at hv
  refine (call Noone W [.slice a0 len0 cap0] (fun _ h => h.elim) rfl reps).mono fun e W' ⟨v, he, hr, bel⟩ => ?_
  subst he
  obtain rfl := hr.bool
  exact ⟨_, rfl, _, _, _, [], _, [], hW', trodAll_mk1 (shut_bool Try.underlying4 _), (trodAll_cons_mk (Below.trod laidOut (by kernel_rfl) (of_decide_eq_true (by kernel_rfl)) h0 bel lt0) trodAll_mk0), rfl, bel.frame _, fun h => by cases h⟩

theorem over : Rows.cycleEigensRow.holds Try.pinned (OpenSpec.ofChange Rows.cycleEigensSpec) :=
  OpenClaim.holds_of_wide 9 Try.f9 rfl rfl rfl rfl rfl rfl rfl ⟨rfl, rfl, rfl, rfl, rfl⟩ rfl rfl rfl rfl rfl (by kernel_rfl) Try.func9 (by kernel_rfl)
    (of_decide_eq_true (by kernel_rfl)) (by unfold Func.isWrapper; first | (rw [if_pos (by decide +kernel)]; kernel_rfl) | (rw [if_neg (by decide +kernel)]; exact ⟨rfl, rfl⟩))
    (fun os started H enc _ => lifted os started H enc)

/-- The statement. -/
theorem proved : Rows.CycleEigensSaid := over
end Go.Proofs.Ythbnnffmhnjpjaa.cycleEigens

