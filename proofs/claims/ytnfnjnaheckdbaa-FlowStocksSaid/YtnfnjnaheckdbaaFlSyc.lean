import Derived.Test.YtnfnjnaheckdbaaRows
import Derived.WalkKit
import Derived.ProofKit
import Derived.OpenShut
import Derived.ChangeOld
import Derived.Below
import Derived.Test.YtnfnjnaheckdbaaFlX
import Derived.Test.YtnfnjnaheckdbaaFlSy
import Derived.Test.YtnfnjnaheckdbaaFlN0
/-
  THE STATEMENT of law FlowStocks, from its contract on deep values.
-/
namespace Go.Proofs.Ytnfnjnaheckdbaa.flowStocks
open Go.ChangeShapes Go.WideShapes Go.ChangeAt Go.RowKit Go.Vm
set_option linter.unusedVariables false

theorem own : ownKnob Try.prog.godebug = none := by kernel_rfl
theorem laidOut : laidOutB Try.prog = true := by kernel_rfl

set_option maxRecDepth 100000 in
theorem lifted (os : Os) (started : os.Started) (H : Type) (enc : TypeId × Value → H) :
    ReturnsInHanded {} Try.checked os 14 .any (Rows.flowStocksSpec.pre6 enc Try.prog Try.f14 Rows.flowStocksRow.domain false) (Rows.flowStocksSpec.post enc Try.prog Try.f14 false true false false) := by
  refine returnsInHanded_of_change (C := Try.checked) own started (by kernel_rfl) Try.func14
    (ChangeSpec.witness6 (enc := enc) (C := Try.checked) false ⟨#[], #[.agg #[.int .i64 0, .slice none 0 0], .slice none 0 0, .int .i64 0, .int .i64 0], []⟩ 8 (by kernel_rfl) (by kernel_rfl) (by kernel_rfl) (by kernel_rfl)) ?_
  intro W base args ds gs before hval0 hW hcnd _
  have hval : ∀ (j : Nat) t v, Try.f14.params[j]? = some t → args[j]? = some v → Value.okWide Try.prog W .any base t v := hval0
  have hW' := hW
  obtain ⟨p, q, hA0, hV, rfl, hfz, hnd⟩ := hW
  have hA : DataW.TrodAll enc Try.prog W 0 (fun _ => true) true Try.f14.params.toList args.toList ds p := hA0
  rw [Try.params14] at hA hval
  obtain ⟨v0, vs0, d0, ds0, p0, q0, hargs, rfl, rfl, h0, r0⟩ := trodAll_cons hA
  obtain ⟨v1, vs1, d1, ds1, p1, q1, rfl, rfl, rfl, h1, r1⟩ := trodAll_cons r0
  obtain ⟨v2, vs2, d2, ds2, p2, q2, rfl, rfl, rfl, h2, r2⟩ := trodAll_cons r1
  obtain ⟨v3, vs3, d3, ds3, p3, q3, rfl, rfl, rfl, h3, r3⟩ := trodAll_cons r2
  obtain ⟨rfl, rfl, rfl⟩ := trodAll_nil r3
  obtain rfl : args = #[v0, v1, v2, v3] := by cases args; simp_all
  obtain ⟨rfl, rfl⟩ := trodVars_none hV
  obtain ⟨cs0, rfl, _⟩ := okWide_struct Try.underlying24 (hval 0 24 v0 rfl rfl)
  have lt0 : ∀ x ∈ p0, x.block < W.heap.size := by obtain ⟨m, hm⟩ := h0; exact DataW.trod_lt m _ _ _ hm
  have h0' := h0
  obtain ⟨m0, hm0⟩ := h0'
  obtain ⟨e0, reps0, is0⟩ := open_graph H enc W true m0 cs0.toList _ hm0
  have rep0 : DRep W Noone (.agg cs0) (.agg e0) := .agg (by simpa using reps0.1) (fun j v x hv hx => reps0.2 j v x (by simpa using hv) hx)
  obtain ⟨a1, len1, cap1, rfl⟩ := okWide_slice Try.underlying25 (hval 1 25 v1 rfl rfl)
  have lt1 : ∀ x ∈ p1, x.block < W.heap.size := by obtain ⟨m, hm⟩ := h1; exact DataW.trod_lt m _ _ _ hm
  obtain ⟨e1, l1, rep1, is1, len_1⟩ := open_deep_ints Try.underlying25 Try.underlying3 (by kernel_rfl) h1
  obtain ⟨a2, rfl, rfl, rfl, w2⟩ := open_int Try.underlying3 (hval 2 3 v2 rfl rfl) h2
  have rep2 : DRep W Noone (.int .i64 a2) (DI a2) := .lit _
  obtain ⟨a3, rfl, rfl, rfl, w3⟩ := open_int Try.underlying3 (hval 3 3 v3 rfl rfl) h3
  have rep3 : DRep W Noone (.int .i64 a3) (DI a3) := .lit _
  clear hA0 hval0
  have call : DeepCall Try.prog 14 [.agg e0, e1, DI a2, DI a3] (DB true) := by obtain ⟨n, d, L, rfl, hL, hl⟩ := is0; exact law14 hL hl is1 len_1
  have reps : ∀ (i : Nat) (v : Value) (x : DV), [.agg cs0, .slice a1 len1 cap1, .int .i64 a2, .int .i64 a3][i]? = some v → [.agg e0, e1, DI a2, DI a3][i]? = some x → DRep W Noone v x := by
    intro i v x hv hx
    match i with
    | 0 => simp at hv hx; subst hv hx; exact rep0
    | 1 => simp at hv hx; subst hv hx; exact rep1
    | 2 => simp at hv hx; subst hv hx; exact rep2
    | 3 => simp at hv hx; subst hv hx; exact rep3
    | i + 4 => simp at hv
  refine (call Noone W [.agg cs0, .slice a1 len1 cap1, .int .i64 a2, .int .i64 a3] (fun _ h => h.elim) rfl reps).mono fun e W' ⟨v, he, hr, bel⟩ => ?_
  subst he
  obtain rfl := hr.bool
  exact ⟨_, rfl, _, _, _, [], _, [], hW', trodAll_mk1 (shut_bool Try.underlying4 _), (trodAll_cons_mk (Below.trod laidOut (by kernel_rfl) (of_decide_eq_true (by kernel_rfl)) h0 bel lt0) (trodAll_cons_mk (Below.trod laidOut (by kernel_rfl) (of_decide_eq_true (by kernel_rfl)) h1 bel lt1) (trodAll_cons_mk (shut_int Try.underlying3 w2) (trodAll_cons_mk (shut_int Try.underlying3 w3) trodAll_mk0)))), rfl, bel.frame _, fun h => by cases h⟩

theorem over : Rows.flowStocksRow.holds Try.pinned (OpenSpec.ofChange Rows.flowStocksSpec) :=
  OpenClaim.holds_of_wide 14 Try.f14 rfl rfl rfl rfl rfl rfl rfl ⟨rfl, rfl, rfl, rfl, rfl⟩ rfl rfl rfl rfl rfl (by kernel_rfl) Try.func14 (by kernel_rfl)
    (of_decide_eq_true (by kernel_rfl)) (by unfold Func.isWrapper; first | (rw [if_pos (by decide +kernel)]; kernel_rfl) | (rw [if_neg (by decide +kernel)]; exact ⟨rfl, rfl⟩))
    (fun os started H enc _ => lifted os started H enc)

/-- The statement. -/
theorem proved : Rows.FlowStocksSaid := over
end Go.Proofs.Ytnfnjnaheckdbaa.flowStocks

