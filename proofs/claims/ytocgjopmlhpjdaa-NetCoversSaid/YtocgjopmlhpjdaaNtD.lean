import Derived.Test.YtocgjopmlhpjdaaNtC
/-
  Nets: explore, the walk.
-/
namespace Go.Proofs.Ytocgjopmlhpjdaa
open Go.Vm Go.RowKit Go.Nt
theorem GrM.word {σ : List VObj} {gid mid t a : Nat} {xn xf xr : XV} {R : List XV} {s : List Int} {w w' : List Nat} {N : List (List (Nat × Nat))} (h : GrM σ gid mid xn xf xr R [(s, t, a, w)] N) : GrM σ gid mid xn xf xr R [(s, t, a, w')] N :=
  ⟨h.g, h.m, h.f, h.og, h.lR, h.lN⟩
theorem FamP.arc {σ σ1 σ2 : List VObj} {xn xf x' : XV} {R : List XV} {fs : List Ent} {N : List (List (Nat × Nat))} {a rid q : Nat} {r : List (Nat × Nat)} (h : FamP σ (grF xn xf (.osl rid 0 q 1 q false) R fs N)) (hR : a < R.length) (hl : R.length = N.length)
    (hk : ∀ j, idX R[a] ≠ some j → j < σ.length → σ1[j]? = σ[j]?) (ho : OwnK 2 σ1 x' ((r.flatMap arE).map .d)) (hne : r ≠ []) (hx : ∃ j, idX x' = some j ∧ σ.length ≤ j)
    (hv : ∀ j, j ≠ rid → σ2[j]? = σ1[j]?) (hu : σ2[rid]? = some ⟨R.set a x', 0⟩) (hq : R.length = q) :
    FamP σ2 (grF xn xf (.osl rid 0 q 1 q false) (R.set a x') fs (N.set a r)) ∧ ∀ e, e < σ.length → Off (grF xn xf (.osl rid 0 q 1 q false) R fs N) e → σ2[e]? = σ[e]? ∧ Off (grF xn xf (.osl rid 0 q 1 q false) (R.set a x') fs (N.set a r)) e := by
  obtain ⟨hi, hrow⟩ := grF_row (xn := xn) (xf := xf) (xr := .osl rid 0 q 1 q false) (fs := fs) hR (by omega : a < N.length)
  have hne2 : ((r.flatMap arE).map XV.d) ≠ [] := by
    cases r with
    | nil => exact absurd rfl hne
    | cons p r => simp [arE]
  have P := h.put hi (x' := x') (c' := (r.flatMap arE).map .d) (by rw [hrow]; exact hk) (by rw [hrow]; exact ho) hne2 hx
  rw [hrow] at P
  have hRs : R.set a x' ≠ [] := by
    intro e
    have := congrArg List.length e
    rw [List.length_set, List.length_nil] at this; omega
  have Q := P.1.cell (σ' := σ2) (i := 2) (id := rid) (by simp [grF]) (c' := R.set a x') rfl hv (.sl hu (by rw [List.length_set, hq]; exact (Nat.mul_one q).symm)) hRs
  have e := grF_set (xn := xn) (xf := xf) (xr := .osl rid 0 q 1 q false) (x' := x') (fs := fs) (r := r) (a := a) hl
  have e2 : ((((grF xn xf (.osl rid 0 q 1 q false) R fs N).set (a + 3) (2, x', (r.flatMap arE).map .d))[2]'(by simp [grF])).1, (((grF xn xf (.osl rid 0 q 1 q false) R fs N).set (a + 3) (2, x', (r.flatMap arE).map .d))[2]'(by simp [grF])).2.1, R.set a x') = (1, XV.osl rid 0 q 1 q false, R.set a x') := rfl
  rw [e2, e] at Q
  exact ⟨Q.1, fun z hz hof => by
    have p := P.2 z hz hof
    have q := Q.2 z p.2
    exact ⟨q.1.trans p.1, q.2⟩⟩
end Go.Proofs.Ytocgjopmlhpjdaa

