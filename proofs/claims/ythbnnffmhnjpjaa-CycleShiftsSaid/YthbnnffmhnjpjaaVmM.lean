import Derived.Test.YthbnnffmhnjpjaaVmL
/-
  VALUES WITHOUT ADDRESSES, 13: the rule for a statement whose order is open; the machine as a program, and that it is right.
-/
namespace Go.Vm
open Go.RowKit

theorem countP_set (f g : Nat → Bool) (i : Nat) (hf : f i = false) (hg : g i = true) (h : ∀ j, j ≠ i → g j = f j) : ∀ (l : List Nat), l.Nodup → i ∈ l → l.countP g = l.countP f + 1
  | [], _, hm => by cases hm
  | x :: l, hnd, hm => by
    rw [List.nodup_cons] at hnd
    by_cases e : x = i
    · subst e
      have hrest : l.countP g = l.countP f := List.countP_congr fun j hj => by rw [h j (fun e => hnd.1 (e ▸ hj))]
      simp [List.countP_cons, hf, hg, hrest]
    · have hm' : i ∈ l := by rcases List.mem_cons.1 hm with e' | h'; exact absurd e'.symm e; exact h'
      have ih := countP_set f g i hf hg h l hnd.2 hm'
      simp only [List.countP_cons, ih, h x e]
      omega

section
variable {P : Program} {M : Nat → Prop} {W0 : World} {n : Nat} {ops : Array Oper}

theorem getElem?_range_all {N : Nat} {f : Nat → Bool} (h : N ≤ (List.range N).countP f) : ∀ i, i < N → f i = true := by
  intro i hi
  have h1 : (List.range N).countP f = (List.range N).length := by
    have := List.countP_le_length (p := f) (l := List.range N)
    simp at this ⊢; omega
  exact List.countP_eq_length.1 h1 i (by simpa using hi)

theorem InvL.done {S : Nat → St} {X : Nat → XV} {F : Nat → Nat} (hst : ∀ (i : Nat) (o : Oper), ops[i]? = some o → Steps' P n ops S X F i o) (hok : okDraw ops F = true)
    {ι0 : List Nat} {w0 : World} {listed : Array Bool} {ι : List Nat} {p : Nat} {a : Act} {w : World} (hI : InvL P M W0 n ops S X F ι0 w0 listed ι p a w) (hall : ∀ i, i < ops.size → listed.getD i false = true) :
    Fr M W0 n ι (S ops.size) a w ∧ Ext M ι0 (S 0).σ w0 ι (S ops.size).σ w := by
  have hσ : (S p).σ = (S ops.size).σ := σ_eq hst hI.le (Nat.le_refl _) (fun j hj hjl => by
    have := (hI.mods j hj hjl).1 (hall j hjl)
    exact ⟨fun _ => hjl, fun _ => this⟩)
  refine ⟨⟨hσ ▸ hI.mem, fun t => ?_, hI.tsize, hI.defers⟩, hσ ▸ hI.ext⟩
  rw [← hσ]
  have e : envL ops (S 0).env X (fun j => listed.getD j false) t = (S ops.size).env t := by
    by_cases hex : ∃ (j : Nat) (q : Oper), ops[j]? = some q ∧ q.dst = some t
    · obtain ⟨j, q, hq, hd⟩ := hex
      have hj := (Array.getElem?_eq_some_iff.1 hq).1
      rw [envL_some hok hq hd (hall j hj), env_some hst hok hq hd _ (Nat.le_refl _) hj]
    · rw [envL_none (fun k r hr hl hrd => hex ⟨k, r, hr, hrd⟩), env_none hst _ (Nat.le_refl _) (fun k r hk hr hrd => hex ⟨k, r, hr, hrd⟩)]
  rw [← e]; exact hI.env t

theorem mem_ready {listed : Array Bool} {i : Nat} (h : i ∈ Region.ready .any ops listed) (hs : listed.size = ops.size) : ∃ o, ops[i]? = some o ∧ listed.getD i false = false ∧ ∀ e ∈ o.after, bindsA e = true → listed.getD e.on false = true := by
  unfold Region.ready at h
  rw [List.mem_filter] at h
  obtain ⟨h1, h2⟩ := h
  simp only [Bool.and_eq_true, Bool.not_eq_true'] at h2
  obtain ⟨h2, h3⟩ := h2
  cases ho : ops[i]? with
  | none => rw [ho] at h3; simp at h3
  | some o =>
    rw [ho] at h3
    have hi := (Array.getElem?_eq_some_iff.1 ho).1
    refine ⟨o, rfl, by rw [getD_bool listed i (by omega) false true]; exact h2, fun e he hb => ?_⟩
    simp only [Option.map_some, Option.getD_some] at h3
    have := Array.all_eq_true_iff_forall_mem.1 h3 e he
    simpa [show Region.binds .any e = true from hb] using this

theorem ready_nil {F : Nat → Nat} (hok : okDraw ops F = true) {listed : Array Bool} (hs : listed.size = ops.size) (h : Region.ready .any ops listed = []) : ∀ i, i < ops.size → listed.getD i false = true := by
  intro i
  induction i using Nat.strongRecOn with
  | _ i ih =>
    intro hi
    cases hl : listed.getD i false with
    | true => rfl
    | false =>
      exfalso
      have ho := Array.getElem?_eq_getElem hi
      have : i ∈ Region.ready .any ops listed := by
        unfold Region.ready
        rw [List.mem_filter]
        refine ⟨by simpa using hi, ?_⟩
        simp only [Bool.and_eq_true, Bool.not_eq_true']
        refine ⟨by rw [getD_bool listed i (by omega) true false]; exact hl, ?_⟩
        rw [ho]
        simp only [Option.map_some, Option.getD_some]
        refine Array.all_eq_true_iff_forall_mem.2 fun e he => ?_
        by_cases hb : bindsA e = true
        · have hlt := okDraw_edges hok ho e he hb
          simp [ih e.on hlt (by omega)]
        · have hb' : Region.binds .any e = false := by simpa [bindsA] using hb
          simp [hb']
      rw [h] at this; cases this

theorem wpAny_of {S : Nat → St} {X : Nat → XV} {F : Nat → Nat} (hst : ∀ (i : Nat) (o : Oper), ops[i]? = some o → Steps' P n ops S X F i o) (hok : okDraw ops F = true)
    {ι0 : List Nat} {w0 : World} {Q : Exit → Act → World → Prop}
    (hq : ∀ (ι : List Nat) (a : Act) (w : World), Fr M W0 n ι (S ops.size) a w → Ext M ι0 (S 0).σ w0 ι (S ops.size).σ w → Q .normal a w) :
    ∀ (fuel : Nat) (listed : Array Bool) (ι : List Nat) (p : Nat) (a : Act) (w : World), InvL P M W0 n ops S X F ι0 w0 listed ι p a w → ops.size ≤ fuel + (List.range ops.size).countP (fun j => listed.getD j false) →
      wpAny P .any ops Q fuel listed a w
  | 0, listed, ι, p, a, w, hI, hc => by
    have hall := getElem?_range_all (N := ops.size) (f := fun j => listed.getD j false) (by omega)
    obtain ⟨h1, h2⟩ := hI.done hst hok hall
    refine ⟨?_, hq ι a w h1 h2⟩
    cases hr : Region.ready .any ops listed with
    | nil => rfl
    | cons x xs =>
      obtain ⟨o, ho, hu, _⟩ := mem_ready (i := x) (by rw [hr]; simp) hI.size
      have := hall x (Array.getElem?_eq_some_iff.1 ho).1
      rw [this] at hu; cases hu
  | fuel + 1, listed, ι, p, a, w, hI, hc => by
    refine ⟨fun hr => ?_, fun i hi => ?_⟩
    · obtain ⟨h1, h2⟩ := hI.done hst hok (ready_nil hok hI.size hr)
      exact hq ι a w h1 h2
    · obtain ⟨o, ho, hu, hre⟩ := mem_ready hi hI.size
      have hil := (Array.getElem?_eq_some_iff.1 ho).1
      refine hI.next hst hok ho hu hre fun ι' p' a' w' hI' => ?_
      refine wpAny_of hst hok hq fuel _ ι' p' a' w' hI' ?_
      have := countP_set (fun j => listed.getD j false) (fun j => (listed.setIfInBounds i true).getD j false) i hu (by
        have : i < listed.size := by rw [hI.size]; exact hil
        simp [this]) (fun j hj => by
        simp only [Array.getD_eq_getD_getElem?]
        rw [Array.getElem?_setIfInBounds_ne (by omega)]) (List.range ops.size) List.nodup_range (by simpa using hil)
      omega

/-- A list of operations, one after the other; what each did with the objects. -/
inductive Tr (P : Program) (n : Nat) (ops : Array Oper) : List Oper → St → List Nat → St → Prop
  | nil {s : St} : Tr P n ops [] s [] s
  | step {o : Oper} {l : List Oper} {s s' : St} {x : XV} {σ' : List VObj} {fl : Nat} {fls : List Nat} (hg : guardX ops s.env o = some true) (he : Ev P o s x σ' fl) (hd : dstOk n o.dst = true)
      (h : Tr P n ops l ⟨σ', putE s.env o.dst x⟩ fls s') : Tr P n ops (o :: l) s (fl :: fls) s'
  | skip {o : Oper} {l : List Oper} {s s' : St} {fls : List Nat} (hg : guardX ops s.env o = some false) (hd : dstOk n o.dst = true)
      (h : Tr P n ops l ⟨s.σ, putE s.env o.dst undefX⟩ fls s') : Tr P n ops (o :: l) s (0 :: fls) s'

def consF {α : Type} (x : α) (f : Nat → α) : Nat → α
  | 0 => x
  | i + 1 => f i

theorem Tr.fns {l : List Oper} {s s' : St} {fls : List Nat} (h : Tr P n ops l s fls s') : ∃ (S : Nat → St) (X : Nat → XV), S 0 = s ∧ S l.length = s' ∧ ∀ (i : Nat) (o : Oper), l[i]? = some o → Steps' P n ops S X (fun i => fls.getD i 0) i o := by
  induction h with
  | @nil s => exact ⟨fun _ => s, fun _ => undefX, rfl, rfl, fun i o h => by simp at h⟩
  | @step o l s s' x σ' fl fls hg he hd h ih =>
    obtain ⟨S, X, h0, h1, h2⟩ := ih
    refine ⟨consF s S, consF x X, rfl, h1, fun i o' hi => ?_⟩
    cases i with
    | zero =>
      simp at hi; subst hi
      exact ⟨hd, by show (S 0).env = _; rw [h0]; rfl, .inl ⟨hg, by show Ev P o s x (S 0).σ fl; rw [h0]; exact he⟩⟩
    | succ i =>
      have := h2 i o' (by simpa using hi)
      exact ⟨this.dst, this.env, this.ev⟩
  | @skip o l s s' fls hg hd h ih =>
    obtain ⟨S, X, h0, h1, h2⟩ := ih
    refine ⟨consF s S, consF undefX X, rfl, h1, fun i o' hi => ?_⟩
    cases i with
    | zero =>
      simp at hi; subst hi
      exact ⟨hd, by show (S 0).env = _; rw [h0]; rfl, .inr ⟨hg, rfl, rfl, by show (S 0).σ = s.σ; rw [h0]⟩⟩
    | succ i =>
      have := h2 i o' (by simpa using hi)
      exact ⟨this.dst, this.env, this.ev⟩

theorem Tr.wpL {l : List Oper} {s s' : St} {fls : List Nat} (h : Tr P n ops l s fls s') : WpL P M W0 n ops l s (fun s2 => s2 = s') := by
  induction h with
  | nil => exact .nil rfl
  | step hg he hd _ ih => exact .step hg he hd ih
  | skip hg hd _ ih => exact .skip hg hd ih

/-- A STATEMENT WHOSE ORDER IS OPEN. -/
theorem Wp.draw {id : Nat} {s s' : St} {fls : List Nat} {T : Exit → St → Prop} (hm : P.follows .mixedOrders = true) (h : Tr P n ops ops.toList s fls s') (hok : okDraw ops (fun i => fls.getD i 0) = true) (hT : T .normal s') :
    Wp P M W0 n (.region id ops true) s T := by
  obtain ⟨S, X, h0, h1, h2⟩ := h.fns
  have hst : ∀ (i : Nat) (o : Oper), ops[i]? = some o → Steps' P n ops S X (fun i => fls.getD i 0) i o := fun i o ho => h2 i o (by simpa using ho)
  intro ι a w hf Q hq
  have hlen : S ops.size = s' := by rw [← h1]; simp
  have hmem : Mem M W0 ι s.σ { w with drawn := w.drawn + 1 } ∧ Ext M ι s.σ w ι s.σ { w with drawn := w.drawn + 1 } := hf.mem.grown (Below.drew (Below.refl _ _))
  refine wp_region_any hm (wpAny_of (M := M) (W0 := W0) (ι0 := ι) (w0 := { w with drawn := w.drawn + 1 }) hst hok (fun ι' a' w' k1 k2 => hq .normal ι' s' a' w' hT (hlen ▸ k1) (hmem.2.trans (by rw [← h0, ← hlen]; exact k2))) ops.size _ ι 0 a _ ?_ (by omega))
  refine ⟨by simp, fun i o hi ho e he hb => ?_, Nat.zero_le _, fun j hj hjl => by simp [hjl], by rw [h0]; exact hmem.1, by rw [h0]; exact .refl _ _ _ _, fun t => ?_, hf.size, hf.defers⟩
  · have hil := (Array.getElem?_eq_some_iff.1 ho).1
    simp [hil] at hi
  · rw [envL_none (fun j p hp hl _ => by have := (Array.getElem?_eq_some_iff.1 hp).1; simp [this] at hl), h0]
    exact (hf.env t).ext hmem.2

theorem Wp.plain {id : Nat} {s s' : St} {fls : List Nat} {T : Exit → St → Prop} (h : Tr P n ops ops.toList s fls s') (hT : T .normal s') : Wp P M W0 n (.region id ops false) s T :=
  .region (h.wpL.mono fun s2 e => by rw [e]; exact hT)

end

theorem allD_some : ∀ {l : List XV} {r : List DV}, allD l = some r → l = r.map .d
  | [], r, h => by simp [allD] at h; subst h; rfl
  | .d x :: l, r, h => by
    simp only [allD, Option.map_eq_some_iff] at h
    obtain ⟨r', h1, rfl⟩ := h
    rw [allD_some h1]; rfl
  | .osl .. :: _, _, h | .optr .. :: _, _, h | .tup _ :: _, _, h | .agg _ :: _, _, h | .fn .. :: _, _, h | .ifc .. :: _, _, h => by simp [allD] at h

/-- The objects that a value comes to. -/
def idsOf (σ : List VObj) : Nat → XV → List Nat
  | 0, _ => []
  | n + 1, x => match x with
    | .d _ => []
    | .osl id _ _ _ _ _ => id :: ((σ[id]?).elim [] fun ob => ob.cells.flatMap (idsOf σ n))
    | .optr id _ => id :: ((σ[id]?).elim [] fun ob => ob.cells.flatMap (idsOf σ n))
    | .tup xs => xs.flatMap (idsOf σ n)
    | .agg xs => xs.flatMap (idsOf σ n)
    | .fn _ a b => a.flatMap (idsOf σ n) ++ b.flatMap (idsOf σ n)
    | .ifc _ x => idsOf σ n x

/-- A call on deep values, by a run that shares objects. -/
def deepOf (callI : FuncId → List VObj → List XV → Option (XV × List VObj)) (f : FuncId) (args : List DV) : Option DV :=
  (callI f [] (args.map .d)).bind fun r => deepen (freezeAll r.2) 20 r.1

def evX (P : Program) (inl : FuncId → Bool) (callI : FuncId → List VObj → List XV → Option (XV × List VObj)) (o : Oper) (s : St) : Option (XV × List VObj × Nat) :=
  match evalOp P o s with
  | some r => some r
  | none => match o.op with
    | .call ⟨.value callee, args, _⟩ => match asFn (evalX s.env callee) with
      | some (f, first, caps) => if plainFn P f then
          if inl f then (callI f s.σ (first ++ args.toList.map (evalX s.env) ++ caps)).map fun r => (r.1, r.2, 2)
          else match allD (first ++ args.toList.map (evalX s.env) ++ caps) with
          | some dargs => (deepOf callI f dargs).map fun r => (.d r, s.σ, 0)
          | none => match (first ++ args.toList.map (evalX s.env) ++ caps).mapM (deepen (freezeIds s.σ ((first ++ args.toList.map (evalX s.env) ++ caps).flatMap (idsOf s.σ 20))) 20) with
            | some dargs => (deepOf callI f dargs).map fun r => (.d r, freezeIds s.σ ((first ++ args.toList.map (evalX s.env) ++ caps).flatMap (idsOf s.σ 20)), 3)
            | none => none
        else none
      | none => none
    | _ => none

/-- A run that shares objects tells what the call does. -/
def Right (P : Program) (callI : FuncId → List VObj → List XV → Option (XV × List VObj)) : Prop :=
  ∀ (f : FuncId) (σ : List VObj) (args : List XV) (x : XV) (σ' : List VObj), callI f σ args = some (x, σ') → ∀ (M : Nat → Prop) (W0 : World), InCall P M W0 f σ args (fun σ2 x2 => σ2 = σ' ∧ x2 = x)

theorem InCall.mono {P : Program} {M : Nat → Prop} {W0 : World} {f : FuncId} {σ : List VObj} {args : List XV} {Q R : List VObj → XV → Prop} (h : InCall P M W0 f σ args Q) (hq : ∀ σ x, Q σ x → R σ x) : InCall P M W0 f σ args R :=
  fun ι w vs h1 h2 h3 => (h ι w vs h1 h2 h3).mono fun e w' ⟨ι', σ', x, v, k1, k2, k3, k4, k5⟩ => ⟨ι', σ', x, v, k1, k2, k3, k4, hq _ _ k5⟩

theorem deepOf_sound {P : Program} {callI : FuncId → List VObj → List XV → Option (XV × List VObj)} (hc : Right P callI) {f : FuncId} {args : List DV} {res : DV} (h : deepOf callI f args = some res) : DeepCall P f args res := by
  unfold deepOf at h
  rw [Option.bind_eq_some_iff] at h
  obtain ⟨⟨x, σ'⟩, h1, h2⟩ := h
  exact deepCall_of_inCall 20 fun M W0 => (hc f [] _ x σ' h1 M W0).mono fun σ2 x2 ⟨e1, e2⟩ => by rw [e1, e2]; exact h2

theorem evX_sound {P : Program} {inl : FuncId → Bool} {callI : FuncId → List VObj → List XV → Option (XV × List VObj)} (hc : Right P callI) {o : Oper} {s : St} {x : XV} {σ' : List VObj} {fl : Nat}
    (h : evX P inl callI o s = some (x, σ', fl)) : Ev P o s x σ' fl := by
  unfold evX at h
  split at h
  · rename_i r hr; cases h; exact .op hr
  · split at h
    · rename_i callee args ts ho
      split at h
      · rename_i f first caps hf
        split at h
        · rename_i hp
          split at h
          · simp only [Option.map_eq_some_iff, Prod.mk.injEq] at h
            obtain ⟨⟨y, τ⟩, hr, rfl, rfl, rfl⟩ := h
            exact .inl ho hf hp (fun M W0 => hc f _ _ y τ hr M W0)
          · split at h
            · rename_i dargs hd
              simp only [Option.map_eq_some_iff, Prod.mk.injEq] at h
              obtain ⟨r, hr, rfl, rfl, rfl⟩ := h
              exact .call ho hf hp (allD_some hd) (deepOf_sound hc hr)
            · split at h
              · rename_i dargs hd
                simp only [Option.map_eq_some_iff, Prod.mk.injEq] at h
                obtain ⟨r, hr, rfl, rfl, rfl⟩ := h
                exact .callF _ 20 ho hf hp hd (deepOf_sound hc hr)
              · cases h
        · cases h
      · cases h
    · cases h

def runOps (P : Program) (inl : FuncId → Bool) (callI : FuncId → List VObj → List XV → Option (XV × List VObj)) (n : Nat) (ops : Array Oper) : List Oper → St → Option (List Nat × St)
  | [], s => some ([], s)
  | o :: l, s => if dstOk n o.dst then match guardX ops s.env o with
    | some true => match evX P inl callI o s with
      | some (x, σ', fl) => (runOps P inl callI n ops l ⟨σ', putE s.env o.dst x⟩).map fun r => (fl :: r.1, r.2)
      | none => none
    | some false => (runOps P inl callI n ops l ⟨s.σ, putE s.env o.dst undefX⟩).map fun r => (0 :: r.1, r.2)
    | none => none else none

theorem runOps_sound {P : Program} {inl : FuncId → Bool} {callI : FuncId → List VObj → List XV → Option (XV × List VObj)} (hc : Right P callI) {n : Nat} {ops : Array Oper} : ∀ (l : List Oper) (s : St) (fls : List Nat) (s' : St),
    runOps P inl callI n ops l s = some (fls, s') → Tr P n ops l s fls s'
  | [], s, fls, s', h => by simp [runOps] at h; obtain ⟨rfl, rfl⟩ := h; exact .nil
  | o :: l, s, fls, s', h => by
    simp only [runOps] at h
    split at h
    · rename_i hd
      split at h
      · rename_i hg
        split at h
        · rename_i x σ' fl he
          simp only [Option.map_eq_some_iff, Prod.mk.injEq] at h
          obtain ⟨⟨f, q⟩, hr, rfl, rfl⟩ := h
          exact .step hg (evX_sound hc he) hd (runOps_sound hc l _ _ _ hr)
        · cases h
      · rename_i hg
        simp only [Option.map_eq_some_iff, Prod.mk.injEq] at h
        obtain ⟨⟨f, q⟩, hr, rfl, rfl⟩ := h
        exact .skip hg hd (runOps_sound hc l _ _ _ hr)
      · cases h
    · cases h

def runCode (P : Program) (inl : FuncId → Bool) (callI : FuncId → List VObj → List XV → Option (XV × List VObj)) (n : Nat) : Nat → Code → St → Option (Exit × St)
  | 0, _, _ => none
  | k + 1, c, s => match c with
    | .skip => some (.normal, s)
    | .label _ => some (.normal, s)
    | .ret => some (.ret, s)
    | .exit id => some (.exit id, s)
    | .region _ ops draw => match runOps P inl callI n ops ops.toList s with
      | some (fls, s') => if !draw || okDraw ops (fun i => fls.getD i 0) then some (.normal, s') else none
      | none => none
    | .seq x y => match runCode P inl callI n k x s with
      | some (.normal, s') => runCode P inl callI n k y s'
      | r => r
    | .cond c x y => match litOf (evalX s.env c) with
      | some (.bool t) => runCode P inl callI n k (if t then x else y) s
      | _ => none
    | .block id x => match runCode P inl callI n k x s with
      | some (.exit id', s') => if id' = id then some (.normal, s') else some (.exit id', s')
      | r => r
    | .loop x => match runCode P inl callI n k x s with
      | some (.normal, s') => runCode P inl callI n k (.loop x) s'
      | r => r
    | _ => none

theorem runCode_both {P : Program} {M : Nat → Prop} {W0 : World} (hmix : P.follows .mixedOrders = true) {inl : FuncId → Bool} {callI : FuncId → List VObj → List XV → Option (XV × List VObj)} (hc : Right P callI) {n : Nat} :
    ∀ (k : Nat), (∀ (c : Code) (s : St) (e : Exit) (s' : St), runCode P inl callI n k c s = some (e, s') → Wp P M W0 n c s (fun e2 s2 => e2 = e ∧ s2 = s')) ∧
      (∀ (x : Code) (s : St) (e : Exit) (s' : St), runCode P inl callI n k (.loop x) s = some (e, s') → ∀ (ι : List Nat) (a : Act) (w : World), Fr M W0 n ι s a w → ∀ Q : Exit → Act → World → Prop,
        (∀ (ι' : List Nat) (a' : Act) (w' : World), Fr M W0 n ι' s' a' w' → Ext M ι s.σ w ι' s'.σ w' → Q e a' w') → Code.rounds P x Q k a w)
  | 0 => ⟨fun c s e s' h => by simp [runCode] at h, fun x s e s' h => by simp [runCode] at h⟩
  | k + 1 => by
    obtain ⟨ih, ihl⟩ := runCode_both (M := M) (W0 := W0) hmix hc (n := n) k
    have hloop : ∀ (x : Code) (s : St) (e : Exit) (s' : St), runCode P inl callI n (k + 1) (.loop x) s = some (e, s') → ∀ (ι : List Nat) (a : Act) (w : World), Fr M W0 n ι s a w → ∀ Q : Exit → Act → World → Prop,
        (∀ (ι' : List Nat) (a' : Act) (w' : World), Fr M W0 n ι' s' a' w' → Ext M ι s.σ w ι' s'.σ w' → Q e a' w') → Code.rounds P x Q (k + 1) a w := by
      intro x s e s' h ι a w hf Q hq
      simp only [runCode] at h
      rw [rounds_succ]
      cases hx : runCode P inl callI n k x s with
      | none => rw [hx] at h; cases h
      | some r =>
        obtain ⟨e1, s1⟩ := r
        rw [hx] at h
        refine ih x s e1 s1 hx ι a w hf _ fun e2 ι' s2 a' w' h1 h2 h3 => ?_
        obtain ⟨rfl, rfl⟩ := h1
        cases e2 <;> simp only [Exit.then] <;> first
          | exact ihl x s2 e s' h ι' a' w' h2 Q fun ι'' a'' w'' q1 q2 => hq ι'' a'' w'' q1 (h3.trans q2)
          | (cases h; exact hq ι' a' w' h2 h3)
    refine ⟨fun c s e s' h => ?_, hloop⟩
    cases c with
    | skip => simp [runCode] at h; obtain ⟨rfl, rfl⟩ := h; exact .skip ⟨rfl, rfl⟩
    | label l => simp [runCode] at h; obtain ⟨rfl, rfl⟩ := h; exact .label ⟨rfl, rfl⟩
    | ret => simp [runCode] at h; obtain ⟨rfl, rfl⟩ := h; exact .ret ⟨rfl, rfl⟩
    | exit id => simp [runCode] at h; obtain ⟨rfl, rfl⟩ := h; exact .exit ⟨rfl, rfl⟩
    | region id ops draw =>
      simp only [runCode] at h
      split at h
      · rename_i fls s2 hr
        split at h
        · rename_i hd
          cases h
          have htr := runOps_sound hc _ _ _ _ hr
          cases draw with
          | false => exact .plain htr ⟨rfl, rfl⟩
          | true => exact .draw hmix htr (by simpa using hd) ⟨rfl, rfl⟩
        · cases h
      · cases h
    | seq x y =>
      simp only [runCode] at h
      refine .seq ?_
      cases hx : runCode P inl callI n k x s with
      | none => rw [hx] at h; cases h
      | some r =>
        obtain ⟨e1, s1⟩ := r
        rw [hx] at h
        refine (ih x s e1 s1 hx).mono fun e2 s2 he => ?_
        obtain ⟨rfl, rfl⟩ := he
        cases e2 <;> simp only [thenT] <;> first | exact ih y s2 e s' h | (cases h; exact ⟨rfl, rfl⟩)
    | cond c x y =>
      simp only [runCode] at h
      split at h
      · rename_i t ht; exact .cond ht (ih _ s e s' h)
      · cases h
    | block id x =>
      simp only [runCode] at h
      refine .block ?_
      cases hx : runCode P inl callI n k x s with
      | none => rw [hx] at h; cases h
      | some r =>
        obtain ⟨e1, s1⟩ := r
        rw [hx] at h
        refine (ih x s e1 s1 hx).mono fun e2 s2 he => ?_
        obtain ⟨rfl, rfl⟩ := he
        cases e2 with
        | exit id' =>
          simp only [blockT]
          simp only at h
          split at h
          · rename_i hid; rw [if_pos hid]; cases h; exact ⟨rfl, rfl⟩
          · rename_i hid; rw [if_neg hid]; cases h; exact ⟨rfl, rfl⟩
        | _ => cases h; exact ⟨rfl, rfl⟩
    | loop x =>
      exact fun ι a w hf Q hq => wp_loop_rounds (k + 1) (hloop x s e s' h ι a w hf Q fun ι' a' w' q1 q2 => hq e ι' s' a' w' ⟨rfl, rfl⟩ q1 q2)
    | _ => simp [runCode] at h

/-- A function, run among objects: k bounds how deep calls lie in each other, len how long each runs. -/
def runX (P : Program) (inl : FuncId → Bool) (len : Nat) : Nat → FuncId → List VObj → List XV → Option (XV × List VObj)
  | 0, _, _, _ => none
  | k + 1, f, σ, args => match P.funcs[f]? with
    | some fn => match fn.body with
      | some c => if args.length ≤ fn.ntmps then
          match runCode P inl (runX P inl len k) fn.ntmps len c (enter σ args) with
          | some (.ret, s) | some (.normal, s) => (resX P fn s).map fun x => (x, s.σ)
          | _ => none
        else none
      | none => none
    | none => none

theorem runX_sound {P : Program} (hmix : P.follows .mixedOrders = true) {inl : FuncId → Bool} {len : Nat} : ∀ (k : Nat), Right P (runX P inl len k)
  | 0 => fun f σ args x σ' h => by simp [runX] at h
  | k + 1 => fun f σ args x σ' h => by
    simp only [runX] at h
    split at h
    · rename_i fn hf
      split at h
      · rename_i c hb
        split at h
        · rename_i hn
          have key : ∀ (e : Exit) (s : St), (e = .ret ∨ e = .normal) → runCode P inl (runX P inl len k) fn.ntmps len c (enter σ args) = some (e, s) → ((resX P fn s).map fun x => (x, s.σ)) = some (x, σ') →
              ∀ (M : Nat → Prop) (W0 : World), InCall P M W0 f σ args (fun σ2 x2 => σ2 = σ' ∧ x2 = x) := by
            intro e s he hr hres M W0
            simp only [Option.map_eq_some_iff, Prod.mk.injEq] at hres
            obtain ⟨y, hy, rfl, rfl⟩ := hres
            refine inCall_of hf hb hn (((runCode_both hmix (runX_sound hmix k) len).1 c _ e s hr).mono fun e2 s2 h2 => ?_)
            obtain ⟨rfl, rfl⟩ := h2
            exact ⟨he, y, hy, rfl, rfl⟩
          split at h
          · rename_i s hr; exact key .ret s (.inl rfl) hr h
          · rename_i s hr; exact key .normal s (.inr rfl) hr h
          · cases h
        · cases h
      · cases h
    · cases h

/-- A function, run on deep values. -/
def runFn (P : Program) (inl : FuncId → Bool) (len k : Nat) (f : FuncId) (args : List DV) : Option DV := deepOf (runX P inl len k) f args

theorem runFn_sound {P : Program} (hmix : P.follows .mixedOrders = true) {inl : FuncId → Bool} {len k : Nat} {f : FuncId} {args : List DV} {res : DV} (h : runFn P inl len k f args = some res) : DeepCall P f args res :=
  deepOf_sound (runX_sound hmix k) h

end Go.Vm

