import Derived.Test.YtocgjopmlhpjdaaNtB
import Derived.Test.YtocgjopmlhpjdaaVmKi
/-
  Nets: explore.
-/
namespace Go.Proofs.Ytocgjopmlhpjdaa
open Go.Vm Go.RowKit Go.Nt

theorem obj_setm {σ : List VObj} {i j : Nat} {o p b : VObj} (h : σ[i]? = some o) (hj : σ[j]? = some p) (hm : o.mode ≠ p.mode) : (σ.set j b)[i]? = some o := by
  rw [List.getElem?_set_ne (obj_ne hj h (fun e => hm e.symm))]; exact h
theorem FamP.set {σ : List VObj} {F : List (Nat × XV × List XV)} (h : FamP σ F) {j : Nat} {o : VObj} (hj : σ[j]? = some o) (hm : o.mode ≠ 0) (b : VObj) : FamP (σ.set j b) F := h.keep fun p hp i hi => by
  have ho := h.own p hp
  generalize p.2.2 = c at ho
  generalize p.2.1 = x at ho hi
  cases ho with
  | nil => cases hi
  | sl h1 _ => cases hi; rw [List.getElem?_set_ne (obj_ne hj h1 (by simpa using hm))]
theorem GrM.push {σ : List VObj} {gid mid : Nat} {xn xf xr : XV} {R : List XV} {fs : List Ent} {N : List (List (Nat × Nat))} (h : GrM σ gid mid xn xf xr R fs N) (τ : List VObj) : GrM (σ ++ τ) gid mid xn xf xr R fs N :=
  ⟨obj_left h.g, obj_left h.m, h.f.push τ, h.og, h.lR, h.lN⟩
theorem GrM.set {σ : List VObj} {gid mid : Nat} {xn xf xr : XV} {R : List XV} {fs : List Ent} {N : List (List (Nat × Nat))} (h : GrM σ gid mid xn xf xr R fs N) {j : Nat} {o : VObj} (hj : σ[j]? = some o) (hm : o.mode ≠ 0) (hm3 : o.mode ≠ 3) (b : VObj) : GrM (σ.set j b) gid mid xn xf xr R fs N :=
  ⟨obj_setm h.g hj (fun e => hm e.symm), obj_setm h.m hj (fun e => hm3 e.symm), h.f.set hj hm b, h.og, h.lR, h.lN⟩
theorem FamP.cell {σ σ' : List VObj} {F : List (Nat × XV × List XV)} (h : FamP σ F) {i id : Nat} (hi : i < F.length) {c' : List XV} (hx : idX F[i].2.1 = some id) (hk : ∀ j, j ≠ id → σ'[j]? = σ[j]?)
    (ho : OwnK F[i].1 σ' F[i].2.1 c') (hne : c' ≠ []) : FamP σ' (F.set i (F[i].1, F[i].2.1, c')) ∧ ∀ e, Off F e → σ'[e]? = σ[e]? ∧ Off (F.set i (F[i].1, F[i].2.1, c')) e := by
  have hap := List.pairwise_iff_getElem.1 h.ap
  have apart : ∀ (a b : Nat) (ha : a < F.length) (hb : b < F.length), a ≠ b → ∀ id, idX F[a].2.1 = some id → idX F[b].2.1 ≠ some id := fun a b ha hb hab id hid e => by
    rcases Nat.lt_or_gt_of_ne hab with hlt | hlt
    · exact hap a b ha hb hlt id hid e
    · exact hap b a hb ha hlt id e hid
  have hget : ∀ (k : Nat) (hk : k < F.length), ((F.set i (F[i].1, F[i].2.1, c'))[k]'(by simpa using hk)).2.1 = F[k].2.1 := fun k hk => by
    rw [List.getElem_set]; split
    · rename_i e; subst e; rfl
    · rfl
  have hmem : ∀ p ∈ F.set i (F[i].1, F[i].2.1, c'), p = (F[i].1, F[i].2.1, c') ∨ ∃ k, ∃ hk : k < F.length, k ≠ i ∧ p = F[k] := fun p hp => by
    obtain ⟨k, hk1, rfl⟩ := List.getElem_of_mem hp
    rw [List.length_set] at hk1
    rw [List.getElem_set]
    split
    · exact .inl rfl
    · rename_i hne; exact .inr ⟨k, hk1, fun e => hne e.symm, rfl⟩
  refine ⟨⟨fun p hp => ?_, fun p hp => ?_, List.pairwise_iff_getElem.2 fun a b ha hb hab id hid => ?_⟩, fun e hof => ⟨hk e (fun h2 => hof _ (List.getElem_mem hi) (h2 ▸ hx)), fun p hp => ?_⟩⟩
  · rcases hmem p hp with rfl | ⟨k, hk1, hk2, rfl⟩
    · exact ho
    · exact (h.own _ (List.getElem_mem hk1)).keep fun j hj => hk j (fun e => apart i k hi hk1 (fun e => hk2 e.symm) id hx (e ▸ hj))
  · rcases hmem p hp with rfl | ⟨k, hk1, hk2, rfl⟩
    · exact fun e => absurd e hne
    · exact h.nl _ (List.getElem_mem hk1)
  · rw [List.length_set] at ha hb
    rw [hget a ha] at hid
    rw [hget b hb]
    exact apart a b ha hb (by omega) id hid
  · rcases hmem p hp with rfl | ⟨k, hk1, hk2, rfl⟩
    · show idX F[i].2.1 ≠ some e
      exact hof _ (List.getElem_mem hi)
    · exact hof _ (List.getElem_mem hk1)
theorem grF_row {xn xf xr : XV} {R : List XV} {fs : List Ent} {N : List (List (Nat × Nat))} {a : Nat} (h1 : a < R.length) (h2 : a < N.length) : ∃ h : a + 3 < (grF xn xf xr R fs N).length, (grF xn xf xr R fs N)[a + 3] = (2, R[a], (N[a].flatMap arE).map .d) := by
  refine ⟨by simp [grF, rowsF]; omega, ?_⟩
  simp [grF, rowsF]
theorem grF_set {xn xf xr x' : XV} {R : List XV} {fs : List Ent} {N : List (List (Nat × Nat))} {r : List (Nat × Nat)} {a : Nat} (_ : R.length = N.length) :
    ((grF xn xf xr R fs N).set (a + 3) (2, x', (r.flatMap arE).map .d)).set 2 (1, xr, R.set a x') = grF xn xf xr (R.set a x') fs (N.set a r) := by
  unfold grF
  simp only [List.set_cons_succ, List.set_cons_zero]
  congr 3
  unfold rowsF
  apply List.ext_getElem
  · simp
  · intro i h1 h2
    simp only [List.getElem_set, List.getElem_map, List.getElem_zip]
    split <;> rfl
/-- The cells of a graph that is none. -/
def zg : List XV := [.d Dnil, .d (.lit (.map none)), .d Dnil, .d Dnil]
def sysC (n : Nat) (pre post : List (List Int)) (s : List Int) : List DV := DI n :: toksD pre :: toksD post :: w6 (tk s)
/-- explore's memory. -/
structure ExM (pre post : List (List Int)) (n : Nat) (s : List Int) (σ : List VObj) (xn xf xr : XV) (R : List XV) (fs : List Ent) (a k aid : Nat) : Prop where
  o0 : σ[0]? = some ⟨(sysC n pre post s).map .d, 0⟩
  o1 : σ[1]? = some ⟨zg, 0⟩
  o2 : σ[2]? = some ⟨[.d (DB false)], 0⟩
  gm : GrM σ 4 3 xn xf xr R fs (nextN (nxN pre post) pre.length fs a k)
  oa : σ[aid]? = some ⟨[.d (DI (a : Nat))], 0⟩
  f0 : Off (grF xn xf xr R fs (nextN (nxN pre post) pre.length fs a k)) 0
  f1 : Off (grF xn xf xr R fs (nextN (nxN pre post) pre.length fs a k)) 1
  f2 : Off (grF xn xf xr R fs (nextN (nxN pre post) pre.length fs a k)) 2
  fa : Off (grF xn xf xr R fs (nextN (nxN pre post) pre.length fs a k)) aid
  a5 : 5 ≤ aid
section
variable {pre post : List (List Int)} {n : Nat} {s : List Int} {σ : List VObj} {xn xf xr : XV} {R : List XV} {fs : List Ent} {a k aid : Nat}
theorem ExM.push (h : ExM pre post n s σ xn xf xr R fs a k aid) (τ : List VObj) : ExM pre post n s (σ ++ τ) xn xf xr R fs a k aid :=
  ⟨obj_left h.o0, obj_left h.o1, obj_left h.o2, h.gm.push τ, obj_left h.oa, h.f0, h.f1, h.f2, h.fa, h.a5⟩
theorem ExM.set (h : ExM pre post n s σ xn xf xr R fs a k aid) {j : Nat} {o : VObj} (hj : σ[j]? = some o) (hm : o.mode ≠ 0) (hm3 : o.mode ≠ 3) (b : VObj) : ExM pre post n s (σ.set j b) xn xf xr R fs a k aid :=
  ⟨obj_setm h.o0 hj (fun e => hm e.symm), obj_setm h.o1 hj (fun e => hm e.symm), obj_setm h.o2 hj (fun e => hm e.symm), h.gm.set hj hm hm3 b, obj_setm h.oa hj (fun e => hm e.symm), h.f0, h.f1, h.f2, h.fa, h.a5⟩
end
theorem fz_get {σ : List VObj} {i : Nat} {c : List XV} (h : σ[i]? = some ⟨c, 0⟩) : (freezeAll σ)[i]? = some ⟨c, 1⟩ := by simp [freezeAll, h]
end Go.Proofs.Ytocgjopmlhpjdaa

