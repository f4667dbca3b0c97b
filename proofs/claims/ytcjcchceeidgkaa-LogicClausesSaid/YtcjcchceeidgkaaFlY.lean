import Derived.Test.YtcjcchceeidgkaaCyP
/-
  A STATEMENT WHOSE ORDER IS OPEN, WALKED THROUGH EVERY ORDER: for statements that make two objects.
-/
namespace Go.Vm
open Go.RowKit

/-- The operations that are left, in every order. -/
def KA (P : Program) (M : Nat → Prop) (W0 : World) (n : Nat) (ops : Array Oper) (T : List VObj → Kn → Prop) (fuel : Nat) (listed : Array Bool) (σ : List VObj) (kn : Kn) : Prop :=
  ∀ env, Agree kn env → ∀ (ι : List Nat) (a : Act) (w : World), Fr M W0 n ι ⟨σ, env⟩ a w → ∀ Q : Exit → Act → World → Prop,
    (∀ (ι' : List Nat) (s' : St) (kn' : Kn) (a' : Act) (w' : World), T s'.σ kn' → Agree kn' s'.env → Fr M W0 n ι' s' a' w' → Ext M ι σ w ι' s'.σ w' → Q .normal a' w') → wpAny P .any ops Q fuel listed a w

/-- One of them next. -/
def KO (P : Program) (M : Nat → Prop) (W0 : World) (n : Nat) (ops : Array Oper) (T : List VObj → Kn → Prop) (fuel : Nat) (listed : Array Bool) (σ : List VObj) (kn : Kn) (i : Nat) : Prop :=
  ∃ (o : Oper) (x : XV) (σ' : List VObj) (fl : Nat), ops[i]? = some o ∧ guardK ops kn o = some true ∧ dstOk n o.dst = true ∧ KEv P o σ kn x σ' fl ∧
    KA P M W0 n ops T fuel (listed.setIfInBounds i true) σ' (extK o.dst x kn)

def KAll (p : Nat → Prop) : List Nat → Prop
  | [] => True
  | i :: l => p i ∧ KAll p l
theorem KAll.mem {p : Nat → Prop} : ∀ {l : List Nat}, KAll p l → ∀ i ∈ l, p i
  | [], _, _, h => by simp at h
  | j :: l, h, i, hi => by
    rcases List.mem_cons.1 hi with e | e
    · subst e; exact h.1
    · exact h.2.mem i e

section
variable {P : Program} {M : Nat → Prop} {W0 : World} {n : Nat} {ops : Array Oper} {T : List VObj → Kn → Prop} {fuel : Nat} {listed : Array Bool} {σ : List VObj} {kn : Kn}
theorem KA.done (hr : Region.ready .any ops listed = []) (h : T σ kn) : KA P M W0 n ops T fuel listed σ kn := by
  intro env ha ι a w hf Q hq
  have := hq ι ⟨σ, env⟩ kn a w h ha hf (.refl _ _ _ _)
  cases fuel with
  | zero => exact ⟨hr, this⟩
  | succ f => exact ⟨fun _ => this, fun i hi => by rw [hr] at hi; simp at hi⟩
theorem KA.next {i0 : Nat} {r : List Nat} (hr : Region.ready .any ops listed = i0 :: r) (h : KAll (KO P M W0 n ops T fuel listed σ kn) (i0 :: r)) : KA P M W0 n ops T (fuel + 1) listed σ kn := by
  intro env ha ι a w hf Q hq
  refine ⟨fun h0 => by rw [hr] at h0; simp at h0, fun i hi => ?_⟩
  rw [hr] at hi
  obtain ⟨o, x, σ', fl, ho, hg, hd, he, hk⟩ := h.mem i hi
  unfold wpOp
  rw [ho]
  simp only
  rw [if_pos (by rw [guardX_sound hf.env (guardK_X ha hg)])]
  left
  refine (he env ha).wp hf.mem hf.env fun ι' v w' h1 h2 h3 => ?_
  exact hk (putE env o.dst x) (ha.ext o.dst x) ι' _ w' (hf.put hd h1 h2 h3) Q fun ι'' s' kn' a' w'' k0 k1 k2 k3 => hq ι'' s' kn' a' w'' k0 k1 k2 (h2.trans k3)
theorem KO.op {i : Nat} {o : Oper} {x : XV} {σ' : List VObj} {fl : Nat} (ho : ops[i]? = some o) (hg : guardK ops kn o = some true) (hd : dstOk n o.dst = true) (he : KEv P o σ kn x σ' fl)
    (h : KA P M W0 n ops T fuel (listed.setIfInBounds i true) σ' (extK o.dst x kn)) : KO P M W0 n ops T fuel listed σ kn i := ⟨o, x, σ', fl, ho, hg, hd, he, h⟩
theorem KC.orders (hm : P.follows .mixedOrders = true) {rid : Nat} {T : Exit → List VObj → Kn → Prop} (h : KA P M W0 n ops (T .normal) ops.size (Array.replicate ops.size false) σ kn) : KC P M W0 n (.region rid ops true) σ kn T := by
  intro env ha ι a w hf Q hq
  have hmem : Mem M W0 ι σ { w with drawn := w.drawn + 1 } ∧ Ext M ι σ w ι σ { w with drawn := w.drawn + 1 } := hf.mem.grown (Below.drew (Below.refl _ _))
  exact wp_region_any hm (h env ha ι a _ ⟨hmem.1, fun t => (hf.env t).ext hmem.2, hf.size, hf.defers⟩ Q fun ι' s' kn' a' w' k0 k1 k2 k3 => hq .normal ι' s' a' w' ⟨kn', k1, k0⟩ k2 (hmem.2.trans k3))
theorem KC.ordersS (hm : P.follows .mixedOrders = true) {rid : Nat} {y : Code} {T : Exit → List VObj → Kn → Prop} (h : KA P M W0 n ops (fun τ k => KC P M W0 n y τ k T) ops.size (Array.replicate ops.size false) σ kn) : KC P M W0 n (.seq (.region rid ops true) y) σ kn T :=
  .seq (.orders hm h)
end
end Go.Vm

