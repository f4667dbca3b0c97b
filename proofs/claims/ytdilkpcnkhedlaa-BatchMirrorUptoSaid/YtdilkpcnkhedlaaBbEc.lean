import Derived.Test.YtdilkpcnkhedlaaRows
import Derived.WalkKit
import Derived.ProofKit
import Derived.OpenShut
import Derived.ChangeOld
import Derived.JoinedCond
import Derived.Test.YtdilkpcnkhedlaaVmZn
import Derived.Below
import Derived.Test.YtdilkpcnkhedlaaVmW
import Derived.Test.YtdilkpcnkhedlaaBbE
import Derived.Test.YtdilkpcnkhedlaaBaOp
/-
  THE STATEMENT of law BatchMirror, where what it reads is of bulk at most 1048576, from its contract on deep values.
-/
namespace Go.Proofs.Ytdilkpcnkhedlaa.batchMirrorUpto
open Go.ChangeShapes Go.WideShapes Go.ChangeAt Go.RowKit Go.Vm Go.Ht Go.Ba
set_option linter.unusedVariables false

theorem own : ownKnob Try.prog.godebug = none := by kernel_rfl
theorem laidOut : laidOutB Try.prog = true := by kernel_rfl

theorem bulk_le {H : Type} {d : DataW H} {l : List (DataW H)} (h : d ∈ l) : Rows.uptoBulk d ≤ Rows.uptoBulkAll l := by
  induction l with
  | nil => cases h
  | cons x r ih =>
    rcases List.mem_cons.1 h with rfl | e
    · simp only [Rows.uptoBulkAll]; omega
    · have := ih e
      simp only [Rows.uptoBulkAll]; omega
theorem bulk_pos {H : Type} (d : DataW H) : 1 ≤ Rows.uptoBulk d := by
  cases d with
  | lit l => cases l <;> simp [Rows.uptoBulk]
  | _ => simp [Rows.uptoBulk]
theorem bulk_len {H : Type} : ∀ (l : List (DataW H)), l.length ≤ Rows.uptoBulkAll l
  | [] => Nat.zero_le _
  | x :: r => by
    have h1 := bulk_pos x
    have h2 := bulk_len r
    simp only [Rows.uptoBulkAll, List.length_cons]; omega
theorem bulk_slice {H : Type} (elems spare : List (DataW H)) : elems.length ≤ Rows.uptoBulk (.slice elems spare) := by
  have := bulk_len elems
  simp only [Rows.uptoBulk]; omega
theorem bulk_elem {H : Type} (elems spare : List (DataW H)) (y : DataW H) (h : y ∈ elems) : Rows.uptoBulk y ≤ Rows.uptoBulk (.slice elems spare) := by
  have := bulk_le h
  simp only [Rows.uptoBulk]; omega
theorem bulk_part {H : Type} (parts : List (DataW H)) (y : DataW H) (h : y ∈ parts) : Rows.uptoBulk y ≤ Rows.uptoBulk (.agg parts) := by
  have := bulk_le h
  simp only [Rows.uptoBulk]; omega

set_option maxRecDepth 100000 in
theorem lifted (os : Os) (started : os.Started) (H : Type) (enc : TypeId × Value → H) (F : Stop.Interp) :
    ReturnsInHanded {} Try.checked os 12 .any ((Rows.OpenSpec.upto Rows.batchMirrorSpec).pre6 enc Try.prog Try.f12 Rows.batchMirrorUptoRow.domain false) (((Rows.OpenSpec.upto Rows.batchMirrorSpec).at F).post enc Try.prog Try.f12 false true false false) := by
  refine returnsInHanded_of_cond (C := Try.checked) (s := Rows.OpenSpec.upto Rows.batchMirrorSpec) (k := Rows.uptoSmall) rfl own started (by kernel_rfl) Try.func12
    (OpenSpec.witness (enc := enc) (C := Try.checked) (s := Rows.OpenSpec.upto Rows.batchMirrorSpec) (k := Rows.uptoSmall) rfl false ⟨#[], #[.agg #[.int .i64 0, .slice none 0 0]], []⟩ 8 (by kernel_rfl) (by kernel_rfl) (by kernel_rfl)
      (x := ([.agg [.lit (.int .i64 0), .nil]], [], [])) (by kernel_rfl) rfl (by kernel_rfl)) ?_
  intro W base args ds gs before hval0 hW hcnd hk _
  have hval : ∀ (j : Nat) t v, Try.f12.params[j]? = some t → args[j]? = some v → Value.okWide Try.prog W .any base t v := hval0
  have hW' := hW
  obtain ⟨p, q, hA0, hV, rfl, hfz, hnd⟩ := hW
  have hA : DataW.TrodAll enc Try.prog W 0 (fun _ => true) true Try.f12.params.toList args.toList ds p := hA0
  rw [Try.params12] at hA hval
  obtain ⟨v0, vs0, d0, ds0, p0, q0, hargs, rfl, rfl, h0, r0⟩ := trodAll_cons hA
  obtain ⟨rfl, rfl, rfl⟩ := trodAll_nil r0
  obtain rfl : args = #[v0] := by cases args; simp_all
  obtain ⟨rfl, rfl⟩ := trodVars_none hV
  obtain ⟨cs0, rfl, _⟩ := okWide_struct Try.underlying24 (hval 0 24 v0 rfl rfl)
  have lt0 : ∀ x ∈ p0, x.block < W.heap.size := by obtain ⟨m, hm⟩ := h0; exact DataW.trod_lt m _ _ _ hm
  have h0' := h0
  obtain ⟨m0, hm0⟩ := h0'
  obtain ⟨e0, reps0, is0⟩ := open_shop H enc W true m0 cs0.toList _ hm0
  have rep0 : DRep W Noone (.agg cs0) (.agg e0) := .agg (by simpa using reps0.1) (fun j v x hv hx => reps0.2 j v x (by simpa using hv) hx)
  clear hA0 hval0
  have call : DeepCall Try.prog 12 [.agg e0] (DB true) := by
    obtain ⟨N, jd, J, rfl, hd, hl, hr⟩ := is0
    have hM : ∀ j ∈ J, j.length ≤ 1048576 := fun j hj => Nat.le_trans (shop_small (bulk := Rows.uptoBulk) bulk_slice bulk_elem bulk_part Try.underlying24 (by rfl) rfl rfl (by kernel_rfl) Try.underlying22 Try.underlying70 (by kernel_rfl) hm0 reps0 hd j hj) (by
      have h := of_decide_eq_true hk
      simp only [List.append_nil, Rows.uptoBulkAll] at h
      omega)
    exact law12 hd hl hr hM
  have reps : ∀ (i : Nat) (v : Value) (x : DV), [.agg cs0][i]? = some v → [.agg e0][i]? = some x → DRep W Noone v x := by
    intro i v x hv hx
    match i with
    | 0 => simp at hv hx; subst hv hx; exact rep0
    | i + 1 => simp at hv
  refine (call Noone W [.agg cs0] (fun _ h => h.elim) rfl reps).mono fun e W' ⟨v, he, hr, bel⟩ => ?_
  subst he
  obtain rfl := hr.bool
  exact ⟨_, rfl, _, _, _, [], _, [], hW', trodAll_mk1 (shut_bool Try.underlying4 _), (trodAll_cons_mk (Below.trod laidOut (by kernel_rfl) (of_decide_eq_true (by kernel_rfl)) h0 bel lt0) trodAll_mk0), rfl, bel.frame _, fun h => by cases h⟩

theorem over : Rows.batchMirrorUptoRow.holds Try.pinned (Rows.OpenSpec.upto Rows.batchMirrorSpec) :=
  OpenClaim.holds_of_cond 12 Try.f12 rfl rfl rfl rfl rfl rfl rfl ⟨rfl, rfl, rfl, rfl, rfl⟩ rfl rfl rfl rfl rfl (by kernel_rfl) Try.func12 (by kernel_rfl)
    (of_decide_eq_true (by kernel_rfl)) (by unfold Func.isWrapper; first | (rw [if_pos (by decide +kernel)]; kernel_rfl) | (rw [if_neg (by decide +kernel)]; exact ⟨rfl, rfl⟩))
    (fun os started H enc _ F => lifted os started H enc F)

/-- The statement. -/
theorem proved : Rows.BatchMirrorUptoSaid := over
end Go.Proofs.Ytdilkpcnkhedlaa.batchMirrorUpto

