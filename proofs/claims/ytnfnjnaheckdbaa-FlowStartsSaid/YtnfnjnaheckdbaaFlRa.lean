import Derived.Test.YtnfnjnaheckdbaaFlX
section
/-
  A STATEMENT WHOSE ORDER IS OPEN THAT MAKES TWO VARIABLES: x, y := a, b, where both are variables in memory.
-/
namespace Go.Vm
open Go.RowKit

/-- The operations one after another, the two new variables left aside. -/
inductive TrV (P : Program) (n : Nat) (ops : Array Oper) (σ : List VObj) (C : Nat → List XV) : Nat → List Oper → (Nat → XV) → List Nat → (Nat → XV) → Prop
  | nil {k : Nat} {e : Nat → XV} : TrV P n ops σ C k [] e [] e
  | read {k : Nat} {o : Oper} {l : List Oper} {e e' : Nat → XV} {x : XV} {fl : Nat} {fls : List Nat} (hg : guardX ops e o = some true) (he : Ev P o ⟨σ, e⟩ x σ fl) (hf : fl < 2) (hd : dstOk n o.dst = true)
      (h : TrV P n ops σ C (k + 1) l (putE e o.dst x) fls e') : TrV P n ops σ C k (o :: l) e (fl :: fls) e'
  | make {k : Nat} {o : Oper} {l : List Oper} {e e' : Nat → XV} {fls : List Nat} (hd : dstOk n o.dst = true)
      (h : TrV P n ops σ C (k + 1) l (putE e o.dst undefX) fls e') : TrV P n ops σ C k (o :: l) e (3 :: fls) e'
  | put {k : Nat} {o : Oper} {l : List Oper} {e e' : Nat → XV} {fls : List Nat} {T : TypeId} {t s : Tmp} {xv : XV} (ho : o.op = .store T (.tmp t) (.tmp s)) (hx : e s = xv) (hc : cellsX xv = C k) (hd : o.dst = none)
      (h : TrV P n ops σ C (k + 1) l e fls e') : TrV P n ops σ C k (o :: l) e (2 :: fls) e'

structure StepsV (P : Program) (n : Nat) (ops : Array Oper) (σ : List VObj) (C : Nat → List XV) (E : Nat → Nat → XV) (X : Nat → XV) (F : Nat → Nat) (k i : Nat) (o : Oper) : Prop where
  dst : dstOk n o.dst = true
  env : E (i + 1) = putE (E i) o.dst (X i)
  kind : (guardX ops (E i) o = some true ∧ Ev P o ⟨σ, E i⟩ (X i) σ (F i) ∧ F i < 2) ∨ F i = 3 ∨ (F i = 2 ∧ ∃ T t s, o.op = .store T (.tmp t) (.tmp s) ∧ cellsX (E i s) = C (k + i))

section
variable {P : Program} {ops : Array Oper} {n : Nat} {σ0 : List VObj} {C : Nat → List XV}

theorem TrV.fns {k : Nat} {l : List Oper} {e e' : Nat → XV} {fls : List Nat} (h : TrV P n ops σ0 C k l e fls e') :
    ∃ (E : Nat → Nat → XV) (X : Nat → XV), E 0 = e ∧ E l.length = e' ∧ ∀ (i : Nat) (o : Oper), l[i]? = some o → StepsV P n ops σ0 C E X (fun i => fls.getD i 0) k i o := by
  induction h with
  | @nil k e => exact ⟨fun _ => e, fun _ => undefX, rfl, rfl, fun i o h => by simp at h⟩
  | @read k o l e e' x fl fls hg he hf hd h ih =>
    obtain ⟨E, X, h0, h1, h2⟩ := ih
    refine ⟨consF e E, consF x X, rfl, h1, fun i o' hi => ?_⟩
    cases i with
    | zero =>
      simp at hi; subst hi
      exact ⟨hd, by show E 0 = _; rw [h0]; rfl, .inl ⟨hg, he, hf⟩⟩
    | succ i =>
      have := h2 i o' (by simpa using hi)
      exact ⟨this.dst, this.env, by have hk := this.kind; rwa [show k + 1 + i = k + (i + 1) by omega] at hk⟩
  | @make k o l e e' fls hd h ih =>
    obtain ⟨E, X, h0, h1, h2⟩ := ih
    refine ⟨consF e E, consF undefX X, rfl, h1, fun i o' hi => ?_⟩
    cases i with
    | zero =>
      simp at hi; subst hi
      exact ⟨hd, by show E 0 = _; rw [h0]; rfl, .inr (.inl rfl)⟩
    | succ i =>
      have := h2 i o' (by simpa using hi)
      exact ⟨this.dst, this.env, by have hk := this.kind; rwa [show k + 1 + i = k + (i + 1) by omega] at hk⟩
  | @put k o l e e' fls T t s xv ho hx hc hd h ih =>
    obtain ⟨E, X, h0, h1, h2⟩ := ih
    refine ⟨consF e E, consF undefX X, rfl, h1, fun i o' hi => ?_⟩
    cases i with
    | zero =>
      simp at hi; subst hi
      exact ⟨by rw [hd]; rfl, by show E 0 = _; rw [h0, hd]; rfl, .inr (.inr ⟨rfl, T, t, s, ho, by show cellsX (e s) = _; rw [hx, hc]; rfl⟩)⟩
    | succ i =>
      have := h2 i o' (by simpa using hi)
      exact ⟨this.dst, this.env, by have hk := this.kind; rwa [show k + 1 + i = k + (i + 1) by omega] at hk⟩

/-- The orders that do not matter. -/
def okV (ops : Array Oper) (i1 j1 i2 j2 : Nat) (t1 t2 : Tmp) : Bool :=
  okDraw ops (fun _ => 0) && (List.range ops.size).all (fun i => match ops[i]? with
    | none => true
    | some o => (i == j1 || !(o.looksAt ops).contains t1) && (i == j2 || !(o.looksAt ops).contains t2)) &&
  (reachB ops 8 j1 i1 && reachB ops 8 j2 i2)
theorem okV_look {i1 j1 i2 j2 : Nat} {t1 t2 : Tmp} (h : okV ops i1 j1 i2 j2 t1 t2 = true) {i : Nat} {o : Oper} (ho : ops[i]? = some o) : (i = j1 ∨ t1 ∉ o.looksAt ops) ∧ (i = j2 ∨ t2 ∉ o.looksAt ops) := by
  unfold okV at h
  simp only [Bool.and_eq_true] at h
  have h2 := List.all_eq_true.1 h.1.2 i (by simpa using (Array.getElem?_eq_some_iff.1 ho).1)
  rw [ho] at h2
  simpa using h2

section
variable {E : Nat → Nat → XV} {X : Nat → XV} {F : Nat → Nat} (hst : ∀ (i : Nat) (o : Oper), ops[i]? = some o → StepsV P n ops σ0 C E X F 0 i o)
include hst

theorem envV_none {t : Nat} : ∀ i, i ≤ ops.size → (∀ (j : Nat) (p : Oper), j < i → ops[j]? = some p → p.dst ≠ some t) → E i t = E 0 t
  | 0, _, _ => rfl
  | i + 1, hi, h => by
    have ho := Array.getElem?_eq_getElem (show i < ops.size by omega)
    rw [(hst i _ ho).env]
    have hne := h i _ (Nat.lt_succ_self i) ho
    have ih := envV_none i (by omega) (fun j p hj hp => h j p (by omega) hp)
    cases hd : ops[i].dst with
    | none => simpa [putE] using ih
    | some d =>
      simp only [putE, upd]
      rw [if_neg (fun e => hne (by rw [hd, e]))]
      exact ih

theorem envV_some (hok : okDraw ops (fun _ => 0) = true) {t j : Nat} {p : Oper} (hp : ops[j]? = some p) (hd : p.dst = some t) : ∀ i, i ≤ ops.size → j < i → E i t = X j
  | 0, _, h => by omega
  | i + 1, hi, h => by
    have ho := Array.getElem?_eq_getElem (show i < ops.size by omega)
    rw [(hst i _ ho).env]
    by_cases e : j = i
    · subst e
      have : ops[j] = p := by rw [ho] at hp; simpa using hp
      rw [this, hd]
      simp [putE, upd]
    · have ih := envV_some hok hp hd i (by omega) (by omega)
      cases hd' : ops[i].dst with
      | none => simpa [putE] using ih
      | some d =>
        simp only [putE, upd]
        rw [if_neg (fun e' => e (okDraw_dst hok hp ho hd (by rw [hd', e'])))]
        exact ih
end

def zeroC (z : Value) : List XV := z.cells.toList.map fun v => .d (.lit v)

/-- One new variable: its two operations. -/
def NewV (P : Program) (ops : Array Oper) (i j : Nat) (t s : Tmp) (c : List XV) : Prop :=
  ∃ (T : TypeId) (z : Value) (o p : Oper), ops[i]? = some o ∧ o.op = .alloc T ∧ o.dst = some t ∧ o.guard = none ∧ zeroT P T = some z ∧ z.cells.size = c.length ∧
    ops[j]? = some p ∧ p.op = .store T (.tmp t) (.tmp s) ∧ p.dst = none ∧ p.guard = none ∧ sizeT P T = some c.length ∧ c.all oneX = true

/-- What holds when some operations have been done. -/
structure InvV (P : Program) (M : Nat → Prop) (W0 : World) (Cx : Ctx) (n : Nat) (ops : Array Oper) (σ0 : List VObj) (e0 : Nat → XV) (X : Nat → XV) (i1 j1 i2 j2 : Nat) (t1 t2 : Tmp) (c1 c2 : List XV)
    (ι0 : List Nat) (w0 : World) (listed : Array Bool) (ι : List Nat) (σ : List VObj) (p1 p2 : Nat) (a : Act) (w : World) : Prop where
  size : listed.size = ops.size
  closed : ∀ (i : Nat) (o : Oper), listed.getD i true = true → ops[i]? = some o → ∀ e ∈ o.after, bindsA e = true → listed.getD e.on false = true
  mem : Mem M W0 ι σ w
  ext : Ext M ι0 σ0 w0 ι σ w
  env : ∀ t, t ≠ t1 → t ≠ t2 → XRep w ι (Forb M ι σ) (a.tmps.getD t undef) (envL ops e0 X (fun j => listed.getD j false) t)
  old : ∀ j, j < σ0.length → σ[j]? = σ0[j]?
  long : σ0.length ≤ σ.length
  n1 : listed.getD i1 false = true → σ0.length ≤ p1 ∧ (∃ b, a.tmps.getD t1 undef = .pointer (some ⟨b, 0, none⟩) ∧ ι[p1]? = some b) ∧
    ∃ cs, σ[p1]? = some ⟨cs, 0⟩ ∧ cs.length = c1.length ∧ (listed.getD j1 false = true → cs = c1)
  n2 : listed.getD i2 false = true → σ0.length ≤ p2 ∧ (∃ b, a.tmps.getD t2 undef = .pointer (some ⟨b, 0, none⟩) ∧ ι[p2]? = some b) ∧
    ∃ cs, σ[p2]? = some ⟨cs, 0⟩ ∧ cs.length = c2.length ∧ (listed.getD j2 false = true → cs = c2)
  ne : listed.getD i1 false = true → listed.getD i2 false = true → p1 ≠ p2
  tsize : a.tmps.size = n
  defers : Marks M Cx.B ι σ w a.defers
  round : ∀ l, Cx.ro = some l → ∃ r : Loop, w.heap[l]? = some (Obj.loop r)

theorem getD_put {a : Act} {t : Nat} {o : Option Tmp} {v : Value} (h : o ≠ some t) : (a.put o v).tmps.getD t undef = a.tmps.getD t undef := by
  cases o with
  | none => rfl
  | some d =>
    have hne : d ≠ t := fun e => h (by rw [e])
    simp only [Act.put, Array.getD_eq_getD_getElem?]
    rw [Array.getElem?_setIfInBounds_ne hne]

variable {M : Nat → Prop} {W0 : World} {Cx : Ctx} {e0 : Nat → XV} {X : Nat → XV} {i1 j1 i2 j2 : Nat} {t1 t2 s1 s2 : Tmp} {c1 c2 : List XV} {ι0 : List Nat} {w0 : World}

theorem lt_of_some {α : Type} {l : List α} {i : Nat} {x : α} (h : l[i]? = some x) : i < l.length := (List.getElem?_eq_some_iff.1 h).1

theorem InvV.next {E : Nat → Nat → XV} {F : Nat → Nat} (hst : ∀ (i : Nat) (o : Oper), ops[i]? = some o → StepsV P n ops σ0 C E X F 0 i o) (hE : E 0 = e0) (hok : okV ops i1 j1 i2 j2 t1 t2 = true)
    (h1 : NewV P ops i1 j1 t1 s1 c1) (h2 : NewV P ops i2 j2 t2 s2 c2) (hc1 : C j1 = c1) (hc2 : C j2 = c2) (hij : i1 ≠ i2 ∧ j1 ≠ j2 ∧ t1 ≠ t2 ∧ s1 ≠ t1 ∧ s1 ≠ t2 ∧ s2 ≠ t1 ∧ s2 ≠ t2)
    (hF : ∀ (i : Nat) (o : Oper), ops[i]? = some o → (F i = 3 → i = i1 ∨ i = i2) ∧ (F i = 2 → i = j1 ∨ i = j2) ∧ (F i < 2 → i ≠ i1 ∧ i ≠ i2 ∧ i ≠ j1 ∧ i ≠ j2))
    {listed : Array Bool} {ι : List Nat} {σ : List VObj} {p1 p2 : Nat} {a : Act} {w : World} (hI : InvV P M W0 Cx n ops σ0 e0 X i1 j1 i2 j2 t1 t2 c1 c2 ι0 w0 listed ι σ p1 p2 a w)
    {i : Nat} {o : Oper} (ho : ops[i]? = some o) (hun : listed.getD i false = false) (hready : ∀ e ∈ o.after, bindsA e = true → listed.getD e.on false = true) {Q : Exit → Act → World → Prop} {KK : Act → World → Prop}
    (hK : ∀ (ι' : List Nat) (σ' : List VObj) (p1' p2' : Nat) (a' : Act) (w' : World), InvV P M W0 Cx n ops σ0 e0 X i1 j1 i2 j2 t1 t2 c1 c2 ι0 w0 (listed.setIfInBounds i true) ι' σ' p1' p2' a' w' → KK a' w') : wpOpIn (FR Cx.ro) 0 P ops Q i KK a w := by
  have hokd : okDraw ops (fun _ => 0) = true := by unfold okV at hok; simp only [Bool.and_eq_true] at hok; exact hok.1.1
  have hi := (Array.getElem?_eq_some_iff.1 ho).1
  have hil : i < listed.size := by rw [hI.size]; exact hi
  have hcl : ∀ (j : Nat) (q : Oper), listed.getD j false = true → ops[j]? = some q → ∀ e ∈ q.after, bindsA e = true → listed.getD e.on false = true := fun j q hj hq => hI.closed j q (by
    rw [getD_bool listed j (by rw [hI.size]; exact (Array.getElem?_eq_some_iff.1 hq).1) true false]; exact hj) hq
  have before : ∀ j, reachB ops 8 i j = true → listed.getD j false = true := fun j h => reach_closed (ops := ops) (C := fun k => listed.getD k false = true) hcl 8 i j o ho hready h
  have behind : ∀ (j : Nat) (q : Oper), ops[j]? = some q → reachB ops 8 j i = true → listed.getD j false = false := fun j q hq h => by
    cases hl : listed.getD j false with
    | false => rfl
    | true =>
      have := reach_closed (ops := ops) (C := fun k => listed.getD k false = true) hcl 8 j i q hq (hcl j q hl hq) h
      rw [hun] at this; cases this
  have hlook : ∀ t ∈ o.looksAt ops, envL ops e0 X (fun j => listed.getD j false) t = E i t := by
    intro t ht
    by_cases hex : ∃ (j : Nat) (q : Oper), ops[j]? = some q ∧ q.dst = some t
    · obtain ⟨j, q, hq, hd⟩ := hex
      have uniq : ∀ (k : Nat) (r : Oper), ops[k]? = some r → r.dst = some t → k = j := fun k r hr hrd => okDraw_dst hokd hr hq hrd hd
      by_cases e : j = i
      · rw [envL_none (fun k r hr hl hrd => by have := uniq k r hr hrd; subst this; subst e; simp [hun] at hl)]
        rw [envV_none hst i (by omega) (fun k r hk hr hrd => by have := uniq k r hr hrd; omega), hE]
      · have hpr := okDraw_pair hokd ho hq e
        simp only [okPair, hd, Bool.and_eq_true, Bool.or_eq_true, Bool.not_eq_true'] at hpr
        have hord : ordB ops i j = true := by
          rcases hpr.1.2 with h | h
          · rw [List.contains_iff_mem.2 ht] at h; cases h
          · exact h
        unfold ordB at hord
        split at hord
        · rename_i hlt
          rw [envL_some hokd hq hd (by exact before j hord), envV_some hst hokd hq hd i (by omega) hlt]
        · rename_i hge
          have hnl := behind j q hq hord
          rw [envL_none (fun k r hr hl hrd => by have := uniq k r hr hrd; subst this; simp [hnl] at hl)]
          rw [envV_none hst i (by omega) (fun k r hk hr hrd => by have := uniq k r hr hrd; omega), hE]
    · rw [envL_none (fun k r hr hl hrd => hex ⟨k, r, hr, hrd⟩), envV_none hst i (by omega) (fun k r hk hr hrd => hex ⟨k, r, hr, hrd⟩), hE]
  have hs := hst i o ho
  have hlist : ∀ j, (listed.setIfInBounds i true).getD j false = if j = i then true else listed.getD j false := by
    intro j
    simp only [Array.getD_eq_getD_getElem?]
    by_cases e : j = i
    · subst e; simp [hil]
    · rw [Array.getElem?_setIfInBounds_ne (by omega), if_neg e]
  have hcl' : ∀ (j : Nat) (q : Oper), (listed.setIfInBounds i true).getD j true = true → ops[j]? = some q → ∀ e ∈ q.after, bindsA e = true → (listed.setIfInBounds i true).getD e.on false = true := by
    intro j q hj hq e he hb
    rw [hlist]
    split
    · rfl
    · by_cases e' : j = i
      · subst e'; rw [ho] at hq; cases hq; exact hready e he hb
      · refine hcl j q ?_ hq e he hb
        have hjl : j < listed.size := by rw [hI.size]; exact (Array.getElem?_eq_some_iff.1 hq).1
        rw [getD_bool _ j (by simpa using hjl) true false, hlist, if_neg e'] at hj
        exact hj
  -- the frame behind an operation that gives x: of the slots that are not the new variables'
  have henv : ∀ (ι' : List Nat) (σ' : List VObj) (w' : World) (v : Value), Ext M ι σ w ι' σ' w' → (∀ t, o.dst = some t → t ≠ t1 → t ≠ t2 → XRep w' ι' (Forb M ι' σ') v (X i)) →
      ∀ t, t ≠ t1 → t ≠ t2 → XRep w' ι' (Forb M ι' σ') ((a.put o.dst v).tmps.getD t undef) (envL ops e0 X (fun j => (listed.setIfInBounds i true).getD j false) t) := by
    intro ι' σ' w' v h4 h5 t ht1 ht2
    by_cases hd : o.dst = some t
    · have e1 : envL ops e0 X (fun j => (listed.setIfInBounds i true).getD j false) t = X i := envL_some hokd ho hd (by simp only [hlist, if_pos])
      rw [e1]
      have hdo := hs.dst
      rw [hd] at hdo
      simp only [dstOk, decide_eq_true_eq] at hdo
      have e2 : (a.put o.dst v).tmps.getD t undef = v := by rw [hd]; simp [Act.put, hI.tsize, hdo]
      rw [e2]; exact h5 t hd ht1 ht2
    · have e1 : envL ops e0 X (fun j => (listed.setIfInBounds i true).getD j false) t = envL ops e0 X (fun j => listed.getD j false) t := by
        by_cases hex : ∃ (j : Nat) (q : Oper), ops[j]? = some q ∧ q.dst = some t ∧ listed.getD j false = true
        · obtain ⟨j, q, hq, hqd, hl⟩ := hex
          rw [envL_some hokd hq hqd (by simp only [hlist]; split <;> first | rfl | exact hl), envL_some hokd hq hqd hl]
        · rw [envL_none (fun k r hr hl hrd => ?_), envL_none (fun k r hr hl hrd => hex ⟨k, r, hr, hrd, hl⟩)]
          simp only [hlist] at hl
          split at hl
          · rename_i e; subst e; rw [ho] at hr; cases hr; exact hd hrd
          · exact hex ⟨k, r, hr, hrd, hl⟩
      rw [e1, getD_put hd]
      exact (hI.env t ht1 ht2).ext h4
  have hps : ∀ v, (a.put o.dst v).tmps.size = n := fun v => by cases o.dst <;> simp [Act.put, hI.tsize]
  have hpd : ∀ (v : Value) {ι' : List Nat} {σ' : List VObj} {w' : World}, Ext M ι σ w ι' σ' w' → Marks M Cx.B ι' σ' w' (a.put o.dst v).defers := fun v _ _ _ e => by cases o.dst <;> exact hI.defers.ext e
  have hrd : ∀ {ι' : List Nat} {σ' : List VObj} {w' : World}, Ext M ι σ w ι' σ' w' → ∀ l, Cx.ro = some l → ∃ r : Loop, w'.heap[l]? = some (Obj.loop r) := fun e l hl => let ⟨r, hr⟩ := hI.round l hl; e.loops l r hr
  have hdst : ∀ t, (∃ k q, ops[k]? = some q ∧ q.dst = some t ∧ k ≠ i) → o.dst ≠ some t := fun t ⟨k, q, hq, hqd, hne⟩ hd => hne (okDraw_dst hokd hq ho hqd hd)
  have allR : ∀ (Y1 Y2 : XV), XRep w ι (Forb M ι σ) (a.tmps.getD t1 undef) Y1 → XRep w ι (Forb M ι σ) (a.tmps.getD t2 undef) Y2 →
      ∀ t, XRep w ι (Forb M ι σ) (a.tmps.getD t undef) (if t = t1 then Y1 else if t = t2 then Y2 else envL ops e0 X (fun j => listed.getD j false) t) := by
    intro Y1 Y2 r1 r2 t
    split
    · rename_i e; subst e; exact r1
    · split
      · rename_i e; subst e; exact r2
      · exact hI.env t ‹_› ‹_›
  obtain ⟨T1, z1, oa1, os1, ha1, ha1o, ha1d, ha1g, hz1, hz1l, hs1, hs1o, hs1d, hs1g, hsz1, hone1⟩ := h1
  obtain ⟨T2, z2, oa2, os2, ha2, ha2o, ha2d, ha2g, hz2, hz2l, hs2, hs2o, hs2d, hs2g, hsz2, hone2⟩ := h2
  have kind : ∀ (i j : Nat) (p q : Oper) (T T' : TypeId) (x y : Operand), ops[i]? = some p → ops[j]? = some q → p.op = .alloc T → q.op = .store T' x y → i ≠ j := fun i j p q T T' x y k1 k2 k3 k4 e => by
    subst e; rw [k1] at k2; cases k2; rw [k3] at k4; cases k4
  have ne_ij11 := kind i1 j1 _ _ _ _ _ _ ha1 hs1 ha1o hs1o
  have ne_ij12 := kind i1 j2 _ _ _ _ _ _ ha1 hs2 ha1o hs2o
  have ne_ij21 := kind i2 j1 _ _ _ _ _ _ ha2 hs1 ha2o hs1o
  have ne_ij22 := kind i2 j2 _ _ _ _ _ _ ha2 hs2 ha2o hs2o
  have hrr : reachB ops 8 j1 i1 = true ∧ reachB ops 8 j2 i2 = true := by unfold okV at hok; simp only [Bool.and_eq_true] at hok; exact hok.2
  obtain ⟨hr1, hr2⟩ := hrr
  have hR0' := allR (.d (.lit (a.tmps.getD t1 undef))) (.d (.lit (a.tmps.getD t2 undef))) (.d (.lit _)) (.d (.lit _))
  obtain ⟨env0, hR0⟩ : ∃ env0 : Nat → XV, ∀ t, XRep w ι (Forb M ι σ) (a.tmps.getD t undef) (env0 t) := ⟨_, hR0'⟩
  unfold wpOpIn
  rw [ho]
  simp only
  rcases hs.kind with ⟨hg, hev, hf⟩ | hf | ⟨hf, Ts, ts, ss, hso, hsc⟩
  · -- a reading operation
    obtain ⟨hn1, hn2, hn3, hn4⟩ := (hF i o ho).2.2 hf
    obtain ⟨hl1, hl2⟩ := okV_look hok ho
    have hl1 := hl1.resolve_left hn3
    have hl2 := hl2.resolve_left hn4
    have hR := allR (.d (.lit (a.tmps.getD t1 undef))) (.d (.lit (a.tmps.getD t2 undef))) (.d (.lit _)) (.d (.lit _))
    generalize hev' : (fun t => if t = t1 then XV.d (.lit (a.tmps.getD t1 undef)) else if t = t2 then XV.d (.lit (a.tmps.getD t2 undef)) else envL ops e0 X (fun j => listed.getD j false) t) = env' at hR
    have hR' : ∀ t, XRep w ι (Forb M ι σ) (a.tmps.getD t undef) (env' t) := fun t => by rw [← hev']; exact allR _ _ (.d (.lit _)) (.d (.lit _)) t
    have hlk : ∀ t ∈ o.looksAt ops, env' t = E i t := fun t ht => by
      rw [← hev']
      simp only
      rw [if_neg (fun e : t = t1 => hl1 (e ▸ ht)), if_neg (fun e : t = t2 => hl2 (e ▸ ht))]
      exact hlook t ht
    rw [← guardX_congr hlk] at hg
    rw [if_pos (by rw [guardX_sound hR' hg])]
    have hops : ∀ y ∈ o.op.operands, evalX env' y = evalX (E i) y := by
      intro y hy
      cases y with
      | tmp t => exact hlk t (mem_looks hy)
      | _ => rfl
    have hev2 := hev.congr hops
    have hev3 : Ev P o ⟨σ, env'⟩ (X i) σ (F i) := by
      by_cases hf0 : F i = 0
      · rw [hf0] at hev2 ⊢; exact hev2.pure σ
      · have hf1 : F i = 1 := by omega
        rw [hf1] at hev2 ⊢
        refine hev2.one (σ2 := σ) fun y hy id off he ob hob => ⟨ob, ?_, rfl, Iff.rfl⟩
        rw [hI.old id (lt_of_some hob)]; exact hob
    refine hev3.wp hI.mem hR' fun ι' v w' k1 k2 k3 => hK ι' σ p1 p2 _ w' ?_
    have hfix : ∀ (j b : Nat), ι[j]? = some b → ι'[j]? = some b := k2.pre
    refine ⟨by simp [hI.size], hcl', k1, hI.ext.trans k2, henv ι' σ w' v k2 (fun t _ _ _ => k3), hI.old, hI.long, fun hl => ?_, fun hl => ?_, fun q1 q2 => ?_, hps v, hpd v k2, hrd k2⟩
    · rw [hlist, if_neg (Ne.symm hn1)] at hl
      obtain ⟨m1, ⟨b, m2, m3⟩, m4⟩ := hI.n1 hl
      refine ⟨m1, ⟨b, ?_, hfix _ _ m3⟩, ?_⟩
      · rw [getD_put (hdst t1 ⟨i1, oa1, ha1, ha1d, Ne.symm hn1⟩)]; exact m2
      · rw [hlist, if_neg (Ne.symm hn3)]; exact m4
    · rw [hlist, if_neg (Ne.symm hn2)] at hl
      obtain ⟨m1, ⟨b, m2, m3⟩, m4⟩ := hI.n2 hl
      refine ⟨m1, ⟨b, ?_, hfix _ _ m3⟩, ?_⟩
      · rw [getD_put (hdst t2 ⟨i2, oa2, ha2, ha2d, Ne.symm hn2⟩)]; exact m2
      · rw [hlist, if_neg (Ne.symm hn4)]; exact m4
    · rw [hlist, if_neg (Ne.symm hn1)] at q1
      rw [hlist, if_neg (Ne.symm hn2)] at q2
      exact hI.ne q1 q2
  · -- a new variable
    rcases (hF i o ho).1 hf with e | e
    · subst e
      have eo : o = oa1 := by rw [ho] at ha1; exact Option.some.inj ha1
      subst eo
      obtain ⟨d0, op0, ty0, po0, af0, g0⟩ := o
      simp only at ha1o ha1d ha1g
      subst ha1o ha1d ha1g
      have hg : guardX ops env0 (⟨some t1, .alloc T1, ty0, po0, af0, none⟩ : Oper) = some true := rfl
      rw [if_pos (by rw [guardX_sound hR0 hg])]
      have hev : Ev P ⟨some t1, .alloc T1, ty0, po0, af0, none⟩ ⟨σ, env0⟩ (.optr σ.length 0) (σ ++ [⟨zeroC z1, 0⟩]) 3 := K.alloc (kn := []) hz1 env0 (fun t x h => by simp [look] at h)
      have hnj : listed.getD j1 false = false := behind j1 os1 hs1 hr1
      refine hev.wp hI.mem hR0 fun ι' v w' k1 k2 k3 => hK ι' (σ ++ [⟨zeroC z1, 0⟩]) σ.length p2 _ w' ?_
      obtain ⟨b, rfl, hb⟩ : ∃ b, v = .pointer (some ⟨b, 0, none⟩) ∧ ι'[σ.length]? = some b := by cases k3 with | optr hb => exact ⟨_, rfl, hb⟩
      have hfix : ∀ (j b : Nat), ι[j]? = some b → ι'[j]? = some b := k2.pre
      have hdo := hs.dst
      simp only [dstOk, decide_eq_true_eq] at hdo
      have hlg := hI.long
      refine ⟨by simp [hI.size], hcl', k1, hI.ext.trans k2, henv ι' _ w' _ k2 (fun t hd q1 q2 => absurd (Option.some.inj hd).symm q1), fun j hj => ?_, by simp; omega, fun _ => ⟨hlg, ⟨b, by simp [Act.put, hI.tsize, hdo], hb⟩, zeroC z1, List.getElem?_concat_length .., by simp [zeroC, hz1l], fun hl => by
        rw [hlist, if_neg (fun e => ne_ij11 e.symm), hnj] at hl; cases hl⟩, fun hl => by
        rw [hlist, if_neg (fun e => hij.1 e.symm)] at hl
        obtain ⟨m1, ⟨b', m2, m3⟩, cs, m5, m6, m7⟩ := hI.n2 hl
        refine ⟨m1, ⟨b', ?_, hfix _ _ m3⟩, cs, ?_, m6, fun hj => ?_⟩
        · rw [getD_put (fun e => hij.2.2.1 (Option.some.inj e))]; exact m2
        · rw [List.getElem?_append_left (lt_of_some m5)]; exact m5
        · rw [hlist, if_neg (fun e => ne_ij12 e.symm)] at hj; exact m7 hj, fun q1 q2 => ?_, hps _, hpd _ k2, hrd k2⟩
      · rw [List.getElem?_append_left (by omega)]; exact hI.old j hj
      · rw [hlist, if_neg (fun e => hij.1 e.symm)] at q2
        obtain ⟨_, _, cs, m5, _⟩ := hI.n2 q2
        have := lt_of_some m5
        omega
    · subst e
      have eo : o = oa2 := by rw [ho] at ha2; exact Option.some.inj ha2
      subst eo
      obtain ⟨d0, op0, ty0, po0, af0, g0⟩ := o
      simp only at ha2o ha2d ha2g
      subst ha2o ha2d ha2g
      have hg : guardX ops env0 (⟨some t2, .alloc T2, ty0, po0, af0, none⟩ : Oper) = some true := rfl
      rw [if_pos (by rw [guardX_sound hR0 hg])]
      have hev : Ev P ⟨some t2, .alloc T2, ty0, po0, af0, none⟩ ⟨σ, env0⟩ (.optr σ.length 0) (σ ++ [⟨zeroC z2, 0⟩]) 3 := K.alloc (kn := []) hz2 env0 (fun t x h => by simp [look] at h)
      have hnj : listed.getD j2 false = false := behind j2 os2 hs2 hr2
      refine hev.wp hI.mem hR0 fun ι' v w' k1 k2 k3 => hK ι' (σ ++ [⟨zeroC z2, 0⟩]) p1 σ.length _ w' ?_
      obtain ⟨b, rfl, hb⟩ : ∃ b, v = .pointer (some ⟨b, 0, none⟩) ∧ ι'[σ.length]? = some b := by cases k3 with | optr hb => exact ⟨_, rfl, hb⟩
      have hfix : ∀ (j b : Nat), ι[j]? = some b → ι'[j]? = some b := k2.pre
      have hdo := hs.dst
      simp only [dstOk, decide_eq_true_eq] at hdo
      have hlg := hI.long
      refine ⟨by simp [hI.size], hcl', k1, hI.ext.trans k2, henv ι' _ w' _ k2 (fun t hd q1 q2 => absurd (Option.some.inj hd).symm q2), fun j hj => ?_, by simp; omega, fun hl => by
        rw [hlist, if_neg (fun e => hij.1 e)] at hl
        obtain ⟨m1, ⟨b', m2, m3⟩, cs, m5, m6, m7⟩ := hI.n1 hl
        refine ⟨m1, ⟨b', ?_, hfix _ _ m3⟩, cs, ?_, m6, fun hj => ?_⟩
        · rw [getD_put (fun e => (Ne.symm hij.2.2.1) (Option.some.inj e))]; exact m2
        · rw [List.getElem?_append_left (lt_of_some m5)]; exact m5
        · rw [hlist, if_neg (fun e => ne_ij21 e.symm)] at hj; exact m7 hj, fun _ => ⟨hlg, ⟨b, by simp [Act.put, hI.tsize, hdo], hb⟩, zeroC z2, List.getElem?_concat_length .., by simp [zeroC, hz2l], fun hl => by
        rw [hlist, if_neg (fun e => ne_ij22 e.symm), hnj] at hl; cases hl⟩, fun q1 q2 => ?_, hps _, hpd _ k2, hrd k2⟩
      · rw [List.getElem?_append_left (by omega)]; exact hI.old j hj
      · rw [hlist, if_neg (fun e => hij.1 e)] at q1
        obtain ⟨_, _, cs, m5, _⟩ := hI.n1 q1
        have := lt_of_some m5
        omega
  · -- its value
    rcases (hF i o ho).2.1 hf with e | e
    · subst i
      have eo : o = os1 := by rw [ho] at hs1; exact Option.some.inj hs1
      subst eo
      obtain ⟨d0, op0, ty0, po0, af0, g0⟩ := o
      simp only at hs1o hs1d hs1g hso
      subst hs1o hs1d hs1g
      injection hso with e1 e2 e3
      injection e2 with e2
      injection e3 with e3
      subst e1 e2 e3
      have hl1 : listed.getD i1 false = true := before i1 hr1
      obtain ⟨m1, ⟨b, m2, m3⟩, cs, m5, m6, m7⟩ := hI.n1 hl1
      have hR := allR (.optr p1 0) (.d (.lit (a.tmps.getD t2 undef))) (by rw [m2]; exact .optr m3) (.d (.lit _))
      have hlks := hlook s1 (mem_looks (by simp [Op.operands]))
      have hg : guardX ops env0 (⟨none, .store T1 (.tmp t1) (.tmp s1), ty0, po0, af0, none⟩ : Oper) = some true := rfl
      rw [if_pos (by rw [guardX_sound hR0 hg])]
      have hcl2 : cellsX (E j1 s1) = c1 := by rw [hsc, Nat.zero_add]; exact hc1
      generalize hev' : (fun t => if t = t1 then XV.optr p1 0 else if t = t2 then XV.d (.lit (a.tmps.getD t2 undef)) else envL ops e0 X (fun j => listed.getD j false) t) = env' at hR
      have hRR : ∀ t, XRep w ι (Forb M ι σ) (a.tmps.getD t undef) (env' t) := fun t => by rw [← hev']; exact hR t
      have ea : env' t1 = .optr p1 0 := by rw [← hev']; simp
      have es : env' s1 = E j1 s1 := by rw [← hev']; simp only; rw [if_neg hij.2.2.2.1, if_neg hij.2.2.2.2.1]; exact hlks
      have hev : Ev P ⟨none, .store T1 (.tmp t1) (.tmp s1), ty0, po0, af0, none⟩ ⟨σ, env'⟩ undefX (σ.set p1 ⟨splice cs 0 (cellsX (E j1 s1)), 0⟩) 2 :=
        K.storeN (kn := [(t1, .optr p1 0), (s1, E j1 s1)]) (by simp [evK, look]) (by simp [evK, look, hij.2.2.2.1]) m5 (by rw [hcl2]; omega) (by rw [hcl2]; exact hone1) (by rw [hcl2]; exact hsz1) env' (fun t x h => by
          simp only [look] at h
          split at h
          · rename_i e; subst e; cases h; exact ea
          · split at h
            · rename_i e; subst e; cases h; exact es
            · cases h)
      rw [hcl2, splice_all m6] at hev
      refine hev.wp hI.mem hRR fun ι' v w' k1 k2 k3 => hK ι' (σ.set p1 ⟨c1, 0⟩) p1 p2 _ w' ?_
      have hfix : ∀ (j b : Nat), ι[j]? = some b → ι'[j]? = some b := k2.pre
      have hlg := hI.long
      have hpl := lt_of_some m5
      refine ⟨by simp [hI.size], hcl', k1, hI.ext.trans k2, henv ι' _ w' _ k2 (fun t hd q1 q2 => by cases hd), fun j hj => ?_, by simp; omega, fun _ => ⟨m1, ⟨b, m2, hfix _ _ m3⟩, c1, by rw [List.getElem?_set_self hpl], rfl, fun _ => rfl⟩, fun hl => by
        rw [hlist, if_neg (fun e => ne_ij21 e)] at hl
        obtain ⟨r1, ⟨b', r2, r3⟩, cs', r5, r6, r7⟩ := hI.n2 hl
        refine ⟨r1, ⟨b', r2, hfix _ _ r3⟩, cs', ?_, r6, fun hj => ?_⟩
        · rw [List.getElem?_set_ne (hI.ne hl1 hl)]; exact r5
        · rw [hlist, if_neg (fun e => hij.2.1 e.symm)] at hj; exact r7 hj, fun q1 q2 => ?_, hps _, hpd _ k2, hrd k2⟩
      · rw [List.getElem?_set_ne (by omega)]; exact hI.old j hj
      · rw [hlist, if_neg (fun e => ne_ij11 e)] at q1
        rw [hlist, if_neg (fun e => ne_ij21 e)] at q2
        exact hI.ne q1 q2
    · subst i
      have eo : o = os2 := by rw [ho] at hs2; exact Option.some.inj hs2
      subst eo
      obtain ⟨d0, op0, ty0, po0, af0, g0⟩ := o
      simp only at hs2o hs2d hs2g hso
      subst hs2o hs2d hs2g
      injection hso with e1 e2 e3
      injection e2 with e2
      injection e3 with e3
      subst e1 e2 e3
      have hl2 : listed.getD i2 false = true := before i2 hr2
      obtain ⟨m1, ⟨b, m2, m3⟩, cs, m5, m6, m7⟩ := hI.n2 hl2
      have hR := allR (.d (.lit (a.tmps.getD t1 undef))) (.optr p2 0) (.d (.lit _)) (by rw [m2]; exact .optr m3)
      have hlks := hlook s2 (mem_looks (by simp [Op.operands]))
      have hg : guardX ops env0 (⟨none, .store T2 (.tmp t2) (.tmp s2), ty0, po0, af0, none⟩ : Oper) = some true := rfl
      rw [if_pos (by rw [guardX_sound hR0 hg])]
      have hcl2 : cellsX (E j2 s2) = c2 := by rw [hsc, Nat.zero_add]; exact hc2
      generalize hev' : (fun t => if t = t1 then XV.d (.lit (a.tmps.getD t1 undef)) else if t = t2 then XV.optr p2 0 else envL ops e0 X (fun j => listed.getD j false) t) = env' at hR
      have hRR : ∀ t, XRep w ι (Forb M ι σ) (a.tmps.getD t undef) (env' t) := fun t => by rw [← hev']; exact hR t
      have ea : env' t2 = .optr p2 0 := by rw [← hev']; simp [Ne.symm hij.2.2.1]
      have es : env' s2 = E j2 s2 := by rw [← hev']; simp only; rw [if_neg hij.2.2.2.2.2.1, if_neg hij.2.2.2.2.2.2]; exact hlks
      have hev : Ev P ⟨none, .store T2 (.tmp t2) (.tmp s2), ty0, po0, af0, none⟩ ⟨σ, env'⟩ undefX (σ.set p2 ⟨splice cs 0 (cellsX (E j2 s2)), 0⟩) 2 :=
        K.storeN (kn := [(t2, .optr p2 0), (s2, E j2 s2)]) (by simp [evK, look]) (by simp [evK, look, hij.2.2.2.2.2.2]) m5 (by rw [hcl2]; omega) (by rw [hcl2]; exact hone2) (by rw [hcl2]; exact hsz2) env' (fun t x h => by
          simp only [look] at h
          split at h
          · rename_i e; subst e; cases h; exact ea
          · split at h
            · rename_i e; subst e; cases h; exact es
            · cases h)
      rw [hcl2, splice_all m6] at hev
      refine hev.wp hI.mem hRR fun ι' v w' k1 k2 k3 => hK ι' (σ.set p2 ⟨c2, 0⟩) p1 p2 _ w' ?_
      have hfix : ∀ (j b : Nat), ι[j]? = some b → ι'[j]? = some b := k2.pre
      have hlg := hI.long
      have hpl := lt_of_some m5
      refine ⟨by simp [hI.size], hcl', k1, hI.ext.trans k2, henv ι' _ w' _ k2 (fun t hd q1 q2 => by cases hd), fun j hj => ?_, by simp; omega, fun hl => by
        rw [hlist, if_neg (fun e => ne_ij12 e)] at hl
        obtain ⟨r1, ⟨b', r2, r3⟩, cs', r5, r6, r7⟩ := hI.n1 hl
        refine ⟨r1, ⟨b', r2, hfix _ _ r3⟩, cs', ?_, r6, fun hj => ?_⟩
        · rw [List.getElem?_set_ne (Ne.symm (hI.ne hl hl2))]; exact r5
        · rw [hlist, if_neg (fun e => hij.2.1 e)] at hj; exact r7 hj, fun _ => ⟨m1, ⟨b, m2, hfix _ _ m3⟩, c2, by rw [List.getElem?_set_self hpl], rfl, fun _ => rfl⟩, fun q1 q2 => ?_, hps _, hpd _ k2, hrd k2⟩
      · rw [List.getElem?_set_ne (by omega)]; exact hI.old j hj
      · rw [hlist, if_neg (fun e => ne_ij12 e)] at q1
        rw [hlist, if_neg (fun e => ne_ij22 e)] at q2
        exact hI.ne q1 q2

theorem wpV_of {E : Nat → Nat → XV} {F : Nat → Nat} (hst : ∀ (i : Nat) (o : Oper), ops[i]? = some o → StepsV P n ops σ0 C E X F 0 i o) (hE : E 0 = e0) (hok : okV ops i1 j1 i2 j2 t1 t2 = true)
    (h1 : NewV P ops i1 j1 t1 s1 c1) (h2 : NewV P ops i2 j2 t2 s2 c2) (hc1 : C j1 = c1) (hc2 : C j2 = c2) (hij : i1 ≠ i2 ∧ j1 ≠ j2 ∧ t1 ≠ t2 ∧ s1 ≠ t1 ∧ s1 ≠ t2 ∧ s2 ≠ t1 ∧ s2 ≠ t2)
    (hF : ∀ (i : Nat) (o : Oper), ops[i]? = some o → (F i = 3 → i = i1 ∨ i = i2) ∧ (F i = 2 → i = j1 ∨ i = j2) ∧ (F i < 2 → i ≠ i1 ∧ i ≠ i2 ∧ i ≠ j1 ∧ i ≠ j2)) {Q : Exit → Act → World → Prop}
    (hq : ∀ (ι : List Nat) (σ : List VObj) (p1 p2 : Nat) (a : Act) (w : World), InvV P M W0 Cx n ops σ0 e0 X i1 j1 i2 j2 t1 t2 c1 c2 ι0 w0 (Array.replicate ops.size true) ι σ p1 p2 a w → Q .normal a w) :
    ∀ (fuel : Nat) (listed : Array Bool) (ι : List Nat) (σ : List VObj) (p1 p2 : Nat) (a : Act) (w : World), InvV P M W0 Cx n ops σ0 e0 X i1 j1 i2 j2 t1 t2 c1 c2 ι0 w0 listed ι σ p1 p2 a w →
      ops.size ≤ fuel + (List.range ops.size).countP (fun j => listed.getD j false) → wpAnyIn (FR Cx.ro) 0 P .any ops Q fuel listed a w := by
  have hokd : okDraw ops (fun _ => 0) = true := by unfold okV at hok; simp only [Bool.and_eq_true] at hok; exact hok.1.1
  have full : ∀ (listed : Array Bool), listed.size = ops.size → (∀ i, i < ops.size → listed.getD i false = true) → listed = Array.replicate ops.size true := by
    intro listed hs hall
    refine Array.ext (by simp [hs]) fun i h1 h2 => ?_
    have := hall i (by omega)
    simp [Array.getD_eq_getD_getElem?, h1] at this
    simp [this]
  intro fuel
  induction fuel with
  | zero =>
    intro listed ι σ p1 p2 a w hI hc
    have hall := getElem?_range_all (N := ops.size) (f := fun j => listed.getD j false) (by omega)
    refine ⟨?_, hq ι σ p1 p2 a w (full listed hI.size hall ▸ hI)⟩
    cases hr : Region.ready .any ops listed with
    | nil => rfl
    | cons x xs =>
      obtain ⟨o, ho, hu, _⟩ := mem_ready (i := x) (by rw [hr]; simp) hI.size
      have := hall x (Array.getElem?_eq_some_iff.1 ho).1
      rw [this] at hu; cases hu
  | succ fuel ih =>
    intro listed ι σ p1 p2 a w hI hc
    refine ⟨fun hr => ?_, fun i hi => ?_⟩
    · exact hq ι σ p1 p2 a w (full listed hI.size (ready_nil hokd hI.size hr) ▸ hI)
    · obtain ⟨o, ho, hu, hre⟩ := mem_ready hi hI.size
      have hil := (Array.getElem?_eq_some_iff.1 ho).1
      refine hI.next hst hE hok h1 h2 hc1 hc2 hij hF ho hu hre fun ι' σ' p1' p2' a' w' hI' => ?_
      refine ih _ ι' σ' p1' p2' a' w' hI' ?_
      have := countP_set (fun j => listed.getD j false) (fun j => (listed.setIfInBounds i true).getD j false) i hu (by
        have : i < listed.size := by rw [hI.size]; exact hil
        simp [this]) (fun j hj => by
        simp only [Array.getD_eq_getD_getElem?]
        rw [Array.getElem?_setIfInBounds_ne (by omega)]) (List.range ops.size) List.nodup_range (by simpa using hil)
      omega
end

def KTV (P : Program) (n : Nat) (ops : Array Oper) (σ : List VObj) (C : Nat → List XV) (k : Nat) (l : List Oper) (kn : Kn) (R : List Nat → Kn → Prop) : Prop :=
  ∀ env, Agree kn env → ∃ (fls : List Nat) (e' : Nat → XV) (kn' : Kn), TrV P n ops σ C k l env fls e' ∧ Agree kn' e' ∧ R fls kn'

section
variable {P : Program} {M : Nat → Prop} {W0 : World} {n : Nat} {ops : Array Oper} {σ : List VObj} {C : Nat → List XV} {k : Nat} {l : List Oper} {o : Oper} {kn : Kn}
theorem KTV.nil {R : List Nat → Kn → Prop} (h : R [] kn) : KTV P n ops σ C k [] kn R := fun env he => ⟨[], env, kn, .nil, he, h⟩
theorem KTV.read {R : List Nat → Kn → Prop} {x : XV} {fl : Nat} (hg : guardK ops kn o = some true) (hd : dstOk n o.dst = true) (he : KEv P o σ kn x σ fl) (hf : fl < 2) (h : KTV P n ops σ C (k + 1) l (extK o.dst x kn) (fun fls kn' => R (fl :: fls) kn')) : KTV P n ops σ C k (o :: l) kn R := fun env ha => by
  obtain ⟨fls, e', kn', h1, h2, h3⟩ := h _ (ha.ext o.dst x)
  exact ⟨_, e', kn', .read (guardK_X ha hg) (he env ha) hf hd h1, h2, h3⟩
theorem KTV.make {R : List Nat → Kn → Prop} (hd : dstOk n o.dst = true) (h : KTV P n ops σ C (k + 1) l (extK o.dst undefX kn) (fun fls kn' => R (3 :: fls) kn')) : KTV P n ops σ C k (o :: l) kn R := fun env ha => by
  obtain ⟨fls, e', kn', h1, h2, h3⟩ := h _ (ha.ext o.dst undefX)
  exact ⟨_, e', kn', .make hd h1, h2, h3⟩
theorem KTV.put {R : List Nat → Kn → Prop} {T : TypeId} {t s : Tmp} {xv : XV} (ho : o.op = .store T (.tmp t) (.tmp s)) (hx : look kn s = some xv) (hc : cellsX xv = C k) (hd : o.dst = none) (h : KTV P n ops σ C (k + 1) l kn (fun fls kn' => R (2 :: fls) kn')) : KTV P n ops σ C k (o :: l) kn R := fun env ha => by
  obtain ⟨fls, e', kn', h1, h2, h3⟩ := h _ ha
  exact ⟨_, e', kn', .put ho (ha s xv hx) hc hd h1, h2, h3⟩

def okF (size i1 j1 i2 j2 : Nat) (fls : List Nat) : Bool := (List.range size).all fun i =>
  (!(fls.getD i 0 == 3) || i == i1 || i == i2) && (!(fls.getD i 0 == 2) || i == j1 || i == j2) && (!(decide (fls.getD i 0 < 2)) || (i != i1 && i != i2 && i != j1 && i != j2))

/-- x, y := a, b, where x and y are variables in memory. -/
theorem KC.drawV (hm : P.follows .mixedOrders = true) {rid i1 j1 i2 j2 : Nat} {t1 t2 s1 s2 : Tmp} {c1 c2 : List XV} (h1 : NewV P ops i1 j1 t1 s1 c1) (h2 : NewV P ops i2 j2 t2 s2 c2) (hc1 : C j1 = c1) (hc2 : C j2 = c2)
    (hij : i1 ≠ i2 ∧ j1 ≠ j2 ∧ t1 ≠ t2 ∧ s1 ≠ t1 ∧ s1 ≠ t2 ∧ s2 ≠ t1 ∧ s2 ≠ t2) (hok : okV ops i1 j1 i2 j2 t1 t2 = true) {T : Exit → List VObj → Kn → Prop}
    (h : KTV P n ops σ C 0 ops.toList kn (fun fls kn' => okF ops.size i1 j1 i2 j2 fls = true ∧ ∀ (σ' : List VObj) (p q : Nat), σ.length ≤ p → σ.length ≤ q → p ≠ q → σ'[p]? = some ⟨c1, 0⟩ → σ'[q]? = some ⟨c2, 0⟩ → (∀ j, j < σ.length → σ'[j]? = σ[j]?) → σ.length ≤ σ'.length →
      T .normal σ' ((t1, .optr p 0) :: (t2, .optr q 0) :: kn'))) : KC P M W0 n (.region rid ops true) σ kn T := fun env ha => by
  obtain ⟨fls, e', kn', htr, ha', hfl, hT⟩ := h env ha
  obtain ⟨E, X, hE0, hE1, hst⟩ := htr.fns
  have hst' : ∀ (i : Nat) (o : Oper), ops[i]? = some o → StepsV P n ops σ C E X (fun i => fls.getD i 0) 0 i o := fun i o ho => hst i o (by simpa using ho)
  have hokd : okDraw ops (fun _ => 0) = true := by unfold okV at hok; simp only [Bool.and_eq_true] at hok; exact hok.1.1
  intro Cx ι a w hf Q hq
  have hmem : Mem M W0 ι σ { w with drawn := w.drawn + 1 } ∧ Ext M ι σ w ι σ { w with drawn := w.drawn + 1 } := hf.mem.grown (Below.drew (Below.refl _ _))
  obtain ⟨T1, z1, oa1, os1, ha1, ha1o, ha1d, ha1g, hz1, hz1l, hs1, hs1o, hs1d, hs1g, hsz1, hone1⟩ := (show NewV P ops i1 j1 t1 s1 c1 from h1)
  obtain ⟨T2, z2, oa2, os2, ha2, ha2o, ha2d, ha2g, hz2, hz2l, hs2, hs2o, hs2d, hs2g, hsz2, hone2⟩ := (show NewV P ops i2 j2 t2 s2 c2 from h2)
  have li1 := (Array.getElem?_eq_some_iff.1 ha1).1
  have li2 := (Array.getElem?_eq_some_iff.1 ha2).1
  have lj1 := (Array.getElem?_eq_some_iff.1 hs1).1
  have lj2 := (Array.getElem?_eq_some_iff.1 hs2).1
  refine wpIn_region_any hm (wpV_of (M := M) (W0 := W0) (ι0 := ι) (w0 := { w with drawn := w.drawn + 1 }) hst' hE0 hok h1 h2 hc1 hc2 hij (fun i o ho => ?_) (fun ι' σ' p1 p2 a' w' hI => ?_) ops.size _ ι σ 0 0 a _ ?_ (by omega))
  · have hi := (Array.getElem?_eq_some_iff.1 ho).1
    have hh := List.all_eq_true.1 hfl i (by simpa using hi)
    show (fls.getD i 0 = 3 → i = i1 ∨ i = i2) ∧ (fls.getD i 0 = 2 → i = j1 ∨ i = j2) ∧ (fls.getD i 0 < 2 → i ≠ i1 ∧ i ≠ i2 ∧ i ≠ j1 ∧ i ≠ j2)
    generalize fls.getD i 0 = v at hh ⊢
    simp at hh
    exact ⟨fun h => by omega, fun h => by omega, fun h => by omega⟩
  · obtain ⟨m1, ⟨b1, m2, m3⟩, cs1, m4, _, m5⟩ := hI.n1 (by simp [li1])
    obtain ⟨r1, ⟨b2, r2, r3⟩, cs2, r4, _, r5⟩ := hI.n2 (by simp [li2])
    have m5 := m5 (by simp [lj1])
    have r5 := r5 (by simp [lj2])
    subst m5 r5
    have hne := hI.ne (by simp [li1]) (by simp [li2])
    refine hq .normal ι' ⟨σ', fun t => if t = t1 then .optr p1 0 else if t = t2 then .optr p2 0 else e' t⟩ a' w' ⟨_, ?_, hT σ' p1 p2 m1 r1 hne m4 r4 hI.old hI.long⟩ ⟨hI.mem, fun t => ?_, hI.tsize, hI.defers, hI.round⟩ (hmem.2.trans hI.ext)
    · intro t x hx
      simp only [look] at hx
      simp only
      split at hx
      · rename_i e; rw [if_pos e]; exact Option.some.inj hx
      · rename_i e1
        rw [if_neg e1]
        split at hx
        · rename_i e; rw [if_pos e]; exact Option.some.inj hx
        · rename_i e2
          rw [if_neg e2]
          exact ha' t x hx
    · simp only
      split
      · rename_i e; subst e; rw [m2]; exact .optr m3
      · rename_i e1
        split
        · rename_i e; subst e; rw [r2]; exact .optr r3
        · rename_i e2
          have e : envL ops env X (fun j => (Array.replicate ops.size true).getD j false) t = e' t := by
            rw [← hE1]
            by_cases hex : ∃ (j : Nat) (q : Oper), ops[j]? = some q ∧ q.dst = some t
            · obtain ⟨j, q, hq, hd⟩ := hex
              have hj := (Array.getElem?_eq_some_iff.1 hq).1
              rw [envL_some hokd hq hd (by simp [hj]), envV_some hst' hokd hq hd _ (by simp) (by simpa using hj)]
            · rw [envL_none (fun k r hr hl hrd => hex ⟨k, r, hr, hrd⟩), envV_none hst' _ (by simp) (fun k r hk hr hrd => hex ⟨k, r, hr, hrd⟩), hE0]
          rw [← e]; exact hI.env t e1 e2
  · refine ⟨by simp, fun i o hi ho e he hb => ?_, hmem.1, .refl _ _ _ _, fun t _ _ => ?_, fun _ _ => rfl, Nat.le_refl _, fun hl => by simp [li1] at hl, fun hl => by simp [li2] at hl, fun hl => by simp [li1] at hl, hf.size, hf.defers.ext hmem.2, hf.round⟩
    · have hil := (Array.getElem?_eq_some_iff.1 ho).1
      simp [hil] at hi
    · rw [envL_none (fun j p hp hl _ => by have := (Array.getElem?_eq_some_iff.1 hp).1; simp [this] at hl)]
      exact (hf.env t).ext hmem.2
end
end Go.Vm

end
section
/-
  DATAFLOW GRAPHS: with twice as many loads everywhere all is as before.
-/
namespace Go.Fl
def dbl (l : LN) : LN := ⟨l.f, l.t, 2 * l.g, 2 * l.k, 2 * l.s⟩
theorem dbl_step (p : Rat6 × Bool) (l : LN) : stepR p (dbl l) = stepR p l := by
  unfold stepR
  simp only [dbl, timesF_twice]
theorem dbl_pass (L : List LN) (R : Rat6) : passR (L.map dbl) R = passR L R := by
  unfold passR
  rw [List.foldl_map]
  congr 1
  funext p l
  exact dbl_step p l
theorem dbl_rates (L : List LN) : ∀ (n : Nat) (R : Rat6), ratesF (L.map dbl) n R = ratesF L n R
  | 0, _ => rfl
  | n + 1, R => by simp only [ratesF, dbl_pass, dbl_rates L n]
theorem dbl_bal (L : List LN) (R : Rat6) : balB (L.map dbl) R = balB L R := by
  unfold balB
  rw [List.all_map]
  congr 1
  funext l
  simp only [Function.comp, dbl, timesF_twice]
theorem dbl_fold (L : List LN) (N : Nat) : ∀ i, repFold (L.map dbl) N i = repFold L N i
  | 0 => rfl
  | i + 1 => by
    simp only [repFold, dbl_fold L N i]
    congr 1
    funext q
    simp only [repStep, dbl_rates, dbl_bal]
theorem dbl_load (l : LN) (X : Nat → Nat) : loadZ (dbl l) X = 2 * loadZ l X := by
  unfold loadZ
  simp only [dbl, Int.natCast_mul, Int.mul_assoc, Int.mul_add, Int.mul_sub]
  rfl
theorem dbl_wait (X : Nat → Nat) (a : Nat) (l : LN) : waitB X a (dbl l) = waitB X a l := by
  unfold waitB
  rw [dbl_load]
  have e1 : (dbl l).t = l.t := rfl
  have e2 : ((dbl l).k : Int) = 2 * (l.k : Int) := by simp [dbl]
  rw [e1, e2]
  congr 1
  exact decide_eq_decide.2 (by omega)
theorem dbl_can (L : List LN) (X : Nat → Nat) (a : Nat) : canB (L.map dbl) X a = canB L X a := by
  unfold canB
  rw [List.all_map]
  congr 1
  funext l
  simp only [Function.comp, dbl_wait]
theorem dbl_fire (L : List LN) (q X : Nat → Nat) (a : Nat) : fireB (L.map dbl) q X a = fireB L q X a := by unfold fireB; rw [dbl_can]
theorem dbl_nxt (L : List LN) (N : Nat) (q X : Nat → Nat) : nxt (L.map dbl) N q X = nxt L N q X := by
  unfold nxt
  congr 1
  funext a
  exact dbl_fire L q X a
theorem dbl_greedy (L : List LN) (N : Nat) (q : Nat → Nat) : ∀ (n : Nat) (X : Nat → Nat), greedy (L.map dbl) N q n X = greedy L N q n X
  | 0, X => rfl
  | n + 1, X => by
    simp only [greedy, dbl_nxt]
    split
    · rfl
    · congr 1
      funext a
      rw [dbl_greedy L N q n]
/-- Schedules are compared from the front: the first one comes before every other. -/
theorem greedy_first {L : List LN} {N : Nat} {q : Nat → Nat} (hN : N ≤ 6) : ∀ (n : Nat) (X : Nat → Nat) (s : List Nat) (o : List Int) (Y : Nat → Nat), greedy L N q n X = some s → runL L N q o X = some Y → eqB Y q = true → (∀ i, i < 6 → X i ≤ q i) →
    zs s = o ∨ ∃ p a b r r', zs s = p ++ a :: r ∧ o = p ++ b :: r' ∧ a < b := by
  intro n
  induction n with
  | zero =>
    intro X s o Y hg hr he hX
    simp only [greedy] at hg
    split at hg
    · rename_i hxe
      cases hg
      cases o with
      | nil => exact .inl rfl
      | cons b o =>
        exfalso
        have h1 := (runL_tot hN hr).1
        have h2 := eqB_iff.1 hxe
        have h3 := eqB_iff.1 he
        unfold tot at h1
        rw [h2 0 (by omega), h2 1 (by omega), h2 2 (by omega), h2 3 (by omega), h2 4 (by omega), h2 5 (by omega), h3 0 (by omega), h3 1 (by omega), h3 2 (by omega), h3 3 (by omega), h3 4 (by omega), h3 5 (by omega)] at h1
        simp at h1
    · cases hg
  | succ n ih =>
    intro X s o Y hg hr he hX
    simp only [greedy] at hg
    split at hg
    · rename_i hxe
      cases hg
      cases o with
      | nil => exact .inl rfl
      | cons b o =>
        exfalso
        have h1 := (runL_tot hN hr).1
        have h2 := eqB_iff.1 hxe
        have h3 := eqB_iff.1 he
        unfold tot at h1
        rw [h2 0 (by omega), h2 1 (by omega), h2 2 (by omega), h2 3 (by omega), h2 4 (by omega), h2 5 (by omega), h3 0 (by omega), h3 1 (by omega), h3 2 (by omega), h3 3 (by omega), h3 4 (by omega), h3 5 (by omega)] at h1
        simp at h1
    · rename_i hxe
      cases hn : nxt L N q X with
      | none => rw [hn] at hg; cases hg
      | some a =>
        rw [hn] at hg
        simp only [Option.bind_some] at hg
        cases hgr : greedy L N q n (bump X a) with
        | none => rw [hgr] at hg; cases hg
        | some r =>
          rw [hgr] at hg
          simp only [Option.map_some, Option.some.injEq] at hg
          subst hg
          obtain ⟨ha, hfa⟩ := nxt_some hn
          cases o with
          | nil => simp only [runL, Option.some.injEq] at hr; subst hr; exact absurd he hxe
          | cons b o =>
            simp only [runL] at hr
            split at hr
            · rename_i hb
              by_cases hab : (a : Int) = b
              · subst hab
                rw [Int.toNat_natCast] at hr
                have hfb := fireB_iff.1 hfa
                rcases ih (bump X a) r o Y hgr hr he (fun i hi => by
                  unfold bump; split
                  · rename_i e; subst e; omega
                  · exact hX i hi) with h | ⟨p, a', b', r1, r2, h1, h2, h3⟩
                · left; simp only [zs, List.map_cons] at h ⊢; rw [h]
                · right; exact ⟨(a : Int) :: p, a', b', r1, r2, by simp only [zs, List.map_cons] at h1 ⊢; rw [h1]; rfl, by rw [h2]; rfl, h3⟩
              · right
                refine ⟨[], (a : Int), b, zs r, o, rfl, rfl, ?_⟩
                unfold nxt at hn
                rw [List.find?_eq_some_iff_getElem] at hn
                obtain ⟨_, i, hi, he1, hlt⟩ := hn
                simp at he1
                subst he1
                rcases Int.lt_or_le i b with h | h
                · exact h
                · have := hlt b.toNat (by omega)
                  simp only [List.getElem_range] at this
                  rw [hb.2.2] at this; cases this
            · cases hr
end Go.Fl

end
section
/-
  A STATEMENT WHOSE ORDER IS OPEN, WALKED THROUGH EVERY ORDER: for statements that make two objects.
-/
namespace Go.Vm
open Go.RowKit

/-- The operations that are left, in every order. -/
def KA (P : Program) (M : Nat → Prop) (W0 : World) (n : Nat) (ops : Array Oper) (T : List VObj → Kn → Prop) (fuel : Nat) (listed : Array Bool) (σ : List VObj) (kn : Kn) : Prop :=
  ∀ env, Agree kn env → ∀ (C : Ctx) (ι : List Nat) (a : Act) (w : World), Fr M W0 C n ι ⟨σ, env⟩ a w → ∀ Q : Exit → Act → World → Prop,
    (∀ (ι' : List Nat) (s' : St) (kn' : Kn) (a' : Act) (w' : World), T s'.σ kn' → Agree kn' s'.env → Fr M W0 C n ι' s' a' w' → Ext M ι σ w ι' s'.σ w' → Q .normal a' w') → wpAnyIn (FR C.ro) 0 P .any ops Q fuel listed a w

/-- One of them next. -/
def KO (P : Program) (M : Nat → Prop) (W0 : World) (n : Nat) (ops : Array Oper) (T : List VObj → Kn → Prop) (fuel : Nat) (listed : Array Bool) (σ : List VObj) (kn : Kn) (i : Nat) : Prop :=
  ∃ (o : Oper) (x : XV) (σ' : List VObj) (fl : Nat), ops[i]? = some o ∧ guardK ops kn o = some true ∧ dstOk n o.dst = true ∧ KEv P o σ kn x σ' fl ∧
    KA P M W0 n ops T fuel (listed.setIfInBounds i true) σ' (extK o.dst x kn)

def KAll (p : Nat → Prop) : List Nat → Prop
  | [] => True
  | i :: l => p i ∧ KAll p l
theorem KAll.mem {p : Nat → Prop} : ∀ {l : List Nat}, KAll p l → ∀ i ∈ l, p i
  | [], _, _, h => by simp at h
  | j :: l, h, i, hi => by
    rcases List.mem_cons.1 hi with e | e
    · subst e; exact h.1
    · exact h.2.mem i e

section
variable {P : Program} {M : Nat → Prop} {W0 : World} {n : Nat} {ops : Array Oper} {T : List VObj → Kn → Prop} {fuel : Nat} {listed : Array Bool} {σ : List VObj} {kn : Kn}
theorem KA.done (hr : Region.ready .any ops listed = []) (h : T σ kn) : KA P M W0 n ops T fuel listed σ kn := by
  intro env ha C ι a w hf Q hq
  have := hq ι ⟨σ, env⟩ kn a w h ha hf (.refl _ _ _ _)
  cases fuel with
  | zero => exact ⟨hr, this⟩
  | succ f => exact ⟨fun _ => this, fun i hi => by rw [hr] at hi; simp at hi⟩
theorem KA.next {i0 : Nat} {r : List Nat} (hr : Region.ready .any ops listed = i0 :: r) (h : KAll (KO P M W0 n ops T fuel listed σ kn) (i0 :: r)) : KA P M W0 n ops T (fuel + 1) listed σ kn := by
  intro env ha C ι a w hf Q hq
  refine ⟨fun h0 => by rw [hr] at h0; simp at h0, fun i hi => ?_⟩
  rw [hr] at hi
  obtain ⟨o, x, σ', fl, ho, hg, hd, he, hk⟩ := h.mem i hi
  unfold wpOpIn
  rw [ho]
  simp only
  rw [if_pos (by rw [guardX_sound hf.env (guardK_X ha hg)])]
  refine (he env ha).wp hf.mem hf.env fun ι' v w' h1 h2 h3 => ?_
  exact hk (putE env o.dst x) (ha.ext o.dst x) C ι' _ w' (hf.put hd h1 h2 h3) Q fun ι'' s' kn' a' w'' k0 k1 k2 k3 => hq ι'' s' kn' a' w'' k0 k1 k2 (h2.trans k3)
theorem KO.op {i : Nat} {o : Oper} {x : XV} {σ' : List VObj} {fl : Nat} (ho : ops[i]? = some o) (hg : guardK ops kn o = some true) (hd : dstOk n o.dst = true) (he : KEv P o σ kn x σ' fl)
    (h : KA P M W0 n ops T fuel (listed.setIfInBounds i true) σ' (extK o.dst x kn)) : KO P M W0 n ops T fuel listed σ kn i := ⟨o, x, σ', fl, ho, hg, hd, he, h⟩
theorem KC.orders (hm : P.follows .mixedOrders = true) {rid : Nat} {T : Exit → List VObj → Kn → Prop} (h : KA P M W0 n ops (T .normal) ops.size (Array.replicate ops.size false) σ kn) : KC P M W0 n (.region rid ops true) σ kn T := by
  intro env ha C ι a w hf Q hq
  have hmem : Mem M W0 ι σ { w with drawn := w.drawn + 1 } ∧ Ext M ι σ w ι σ { w with drawn := w.drawn + 1 } := hf.mem.grown (Below.drew (Below.refl _ _))
  exact wpIn_region_any hm (h env ha C ι a _ ⟨hmem.1, fun t => (hf.env t).ext hmem.2, hf.size, hf.defers.ext hmem.2, hf.round⟩ Q fun ι' s' kn' a' w' k0 k1 k2 k3 => hq .normal ι' s' a' w' ⟨kn', k1, k0⟩ k2 (hmem.2.trans k3))
theorem KC.ordersS (hm : P.follows .mixedOrders = true) {rid : Nat} {y : Code} {T : Exit → List VObj → Kn → Prop} (h : KA P M W0 n ops (fun τ k => KC P M W0 n y τ k T) ops.size (Array.replicate ops.size false) σ kn) : KC P M W0 n (.seq (.region rid ops true) y) σ kn T :=
  .seq (.orders hm h)
end
end Go.Vm

end
section
/-
  DATAFLOW GRAPHS: the repetition vector as another program computes it (every round without a stop, the balance at the end), and that it is the same.
-/
namespace Go.Fl

def roundsR (L : List LN) : Nat → Rat6 → Rat6
  | 0, R => R
  | n + 1, R => roundsR L n (passR L R).1
theorem roundsR_snoc (L : List LN) : ∀ (n : Nat) (R : Rat6), roundsR L (n + 1) R = (passR L (roundsR L n R)).1
  | 0, _ => rfl
  | n + 1, R => by
    show roundsR L (n + 1) (passR L R).1 = _
    rw [roundsR_snoc L n]; rfl
theorem knum_leN {N : Nat} {R : Rat6} (hN : N ≤ 6) (hG : GoodR N R) : knum R ≤ N := by
  have h1 : knum R ≤ tot fun i => if i < N then 1 else 0 := tot_le fun i _ => by
    show (if knB (R i) = true then 1 else 0) ≤ if i < N then 1 else 0
    by_cases h : i < N
    · rw [if_pos h]; split <;> omega
    · rw [hG.out i (by omega)]; simp [knB]
  have h2 : (tot fun i => if i < N then 1 else 0) = N := by
    rcases (show N = 0 ∨ N = 1 ∨ N = 2 ∨ N = 3 ∨ N = 4 ∨ N = 5 ∨ N = 6 by omega) with rfl | rfl | rfl | rfl | rfl | rfl | rfl <;> decide
  omega
theorem rounds_fix {L : List LN} {R : Rat6} (h : (passR L R).1 = R) : ∀ m, roundsR L m R = R
  | 0 => rfl
  | m + 1 => by show roundsR L m (passR L R).1 = R; rw [h]; exact rounds_fix h m
theorem rounds_good {N : Nat} {L : List LN} (hN : N ≤ 6) (hL : ∀ l ∈ L, OkL N l) : ∀ (m : Nat) {R : Rat6}, GoodR N R → GoodR N (roundsR L m R)
  | 0, _, hG => hG
  | m + 1, _, hG => rounds_good hN hL m (pass_good hN hG hL).1
theorem rounds_rates {N : Nat} {L : List LN} (hN : N ≤ 6) (hL : ∀ l ∈ L, OkL N l) : ∀ (n m : Nat) {R : Rat6}, GoodR N R → 7 ≤ knum R + n → N ≤ knum R + m → ratesF L n R = roundsR L m R
  | 0, m, R, hG, h, _ => by have := knum_le R; omega
  | n + 1, m, R, hG, h, hm => by
    obtain ⟨h1, h2⟩ := pass_good hN hG hL
    simp only [ratesF]
    rcases h2 with ⟨h2, h3, _⟩ | ⟨h2, h3⟩
    · rw [if_neg (by rw [h2]; simp), rounds_fix h3, h3]
    · rw [if_pos h2]
      cases m with
      | zero => have := knum_leN hN h1; omega
      | succ m => exact rounds_rates hN hL n m h1 (by omega) (by omega)
theorem rounds_start {N i : Nat} {L : List LN} (hN : N ≤ 6) (hi : i < N) (hL : ∀ l ∈ L, OkL N l) : roundsR L N (startR i) = ratesF L 6 (startR i) := by
  obtain ⟨s1, s2⟩ := start_good hN hi
  exact (rounds_rates hN hL 6 N s1 (by omega) (by omega)).symm

/-- The common factor of the numbers, so far. -/
def commG (R : Rat6) (C : Nat) : Nat → Nat
  | 0 => 0
  | j + 1 => if knB (R j) = true then Nat.gcd (commG R C j) ((R j).1 * (C / (R j).2)) else commG R C j
theorem commG_dvd {R : Rat6} {C : Nat} : ∀ (n j : Nat), j < n → knB (R j) = true → commG R C n ∣ (R j).1 * (C / (R j).2)
  | 0, j, h, _ => by omega
  | n + 1, j, h, hk => by
    simp only [commG]
    by_cases e : j = n
    · subst e; rw [if_pos hk]; exact Nat.gcd_dvd_right _ _
    · have ih := commG_dvd (C := C) n j (by omega) hk
      split
      · exact Nat.dvd_trans (Nat.gcd_dvd_left _ _) ih
      · exact ih
theorem commF_dvd {R : Rat6} {D : Nat} (h : ∀ j, knB (R j) = true → (R j).2 ∣ D) : ∀ n, commF R n ∣ D
  | 0 => by simp [commF]
  | n + 1 => by
    simp only [commF]
    split
    · rename_i hk
      have e : commF R n * ((R n).2 / Nat.gcd (commF R n) (R n).2) = Nat.lcm (commF R n) (R n).2 := by
        unfold Nat.lcm; rw [Nat.mul_div_assoc _ (Nat.gcd_dvd_right _ _)]
      rw [e]; exact Nat.lcm_dvd (commF_dvd h n) (h n hk)
    · exact commF_dvd h n
theorem commG_one {N i : Nat} {R : Rat6} (hG : GoodR N R) (hi : i < N) (h1 : R i = (1, 1)) : commG R (commF R N) N = 1 := by
  obtain ⟨c1, _, c3⟩ := comm_good hG N
  have hin : ∀ j, knB (R j) = true → j < N := fun j hj => by
    rcases Nat.lt_or_ge j N with h | h
    · exact h
    · rw [hG.out j h] at hj; cases hj
  generalize hC : commF R N = C at c1 c3
  generalize hg : commG R C N = G
  have hki : knB (R i) = true := by rw [h1]; rfl
  have hGC : G ∣ C := by
    have := commG_dvd (C := C) N i hi hki
    rw [hg, h1] at this
    simpa using this
  obtain ⟨m, hm⟩ := hGC
  have hGp : 0 < G := by
    rcases Nat.eq_zero_or_pos G with h | h
    · subst h; omega
    · exact h
  have hmp : 0 < m := by
    rcases Nat.eq_zero_or_pos m with h | h
    · subst h; omega
    · exact h
  have hall : ∀ j, knB (R j) = true → (R j).2 ∣ m := fun j hj => by
    have hv := hG.val j hj
    obtain ⟨b, hb⟩ := c3 j (hin j hj) hj
    have hd := commG_dvd (C := C) N j (hin j hj) hj
    have eb : C / (R j).2 = b := by rw [hb]; exact Nat.mul_div_cancel_left _ hv.d0
    rw [hg, eb] at hd
    obtain ⟨x, hx⟩ := hd
    -- num·b = G·x and den·b = G·m, so den·x·G = num·m·G, so den divides num·m
    have h2 : (R j).2 * x = (R j).1 * m := by
      refine Nat.eq_of_mul_eq_mul_left hGp ?_
      calc G * ((R j).2 * x) = (R j).2 * (G * x) := by simp only [Nat.mul_comm, Nat.mul_left_comm]
        _ = (R j).2 * ((R j).1 * b) := by rw [hx]
        _ = (R j).1 * ((R j).2 * b) := by simp only [Nat.mul_comm, Nat.mul_left_comm]
        _ = (R j).1 * (G * m) := by rw [← hb, hm]
        _ = G * ((R j).1 * m) := by simp only [Nat.mul_comm, Nat.mul_left_comm]
    have hco : Nat.Coprime (R j).2 (R j).1 := by rw [Nat.coprime_comm]; exact hv.co
    exact hco.dvd_of_dvd_mul_left ⟨x, h2.symm⟩
  have hCm : C ∣ m := by rw [← hC]; exact commF_dvd hall N
  have h3 := Nat.le_of_dvd hmp hCm
  rw [hm] at h3
  have h4 : G * m ≤ 1 * m := by omega
  have := Nat.le_of_mul_le_mul_right h4 hmp
  omega
theorem commG_le {N : Nat} {R : Rat6} (hG : GoodR N R) : ∀ j, commG R (commF R N) j ≤ 604661760000000000
  | 0 => by simp [commG]
  | j + 1 => by
    simp only [commG]
    split
    · rename_i hk
      have hle := (addR_le hG j hk).2.2
      have hj : j < N := by
        rcases Nat.lt_or_ge j N with h | h
        · exact h
        · rw [hG.out j h] at hk; cases hk
      obtain ⟨c1, _, c3⟩ := comm_good hG N
      have hpos : 0 < (R j).1 * (commF R N / (R j).2) := Nat.mul_pos (hG.val j hk).n0 (Nat.div_pos (Nat.le_of_dvd c1 (c3 j hj hk)) (hG.val j hk).d0)
      exact Nat.le_trans (Nat.gcd_le_right _ hpos) hle
    · exact commG_le hG j

/-- The other program's vector, node by node, whether the graph is balanced or not. -/
def refStep (L : List LN) (N i : Nat) (q : Nat → Nat) : Nat → Nat :=
  if 0 < q i then q else addR (roundsR L N (startR i)) (commF (roundsR L N (startR i)) N) q
def refFold (L : List LN) (N : Nat) : Nat → Nat → Nat
  | 0 => fun _ => 0
  | i + 1 => refStep L N i (refFold L N i)
def balQ (L : List LN) (q : Nat → Nat) : Bool := L.all fun l => decide (l.g * q l.f = l.k * q l.t)
def refO (N : Nat) (L : List LN) : (Nat → Nat) × Int :=
  if balQ L (refFold L N N) = true then if 60 < tot (refFold L N N) then (fun _ => 0, 3) else (refFold L N N, 0) else (fun _ => 0, 5)

/-- A vector of whole pieces: the links join nothing that is counted to what is not. -/
structure RefOk (L : List LN) (N i : Nat) (q : Nat → Nat) : Prop where
  pos : ∀ j, j < i → 0 < q j
  out : ∀ j, N ≤ j → q j = 0
  cl : ∀ l ∈ L, 0 < q l.f ↔ 0 < q l.t
  le : ∀ j, q j ≤ 604661760000000000

theorem step_free {q : Nat → Nat} {p : Rat6 × Bool} {l : LN} (hl : 0 < q l.f ↔ 0 < q l.t) (h : ∀ a, knB (p.1 a) = true → q a = 0) : ∀ a, knB ((stepR p l).1 a) = true → q a = 0 := by
  intro a ha
  unfold stepR at ha
  split at ha
  · exact h a ha
  · rename_i h1
    split at ha
    · rename_i h2
      simp only [setF] at ha
      split at ha
      · rename_i e; subst e
        have h3 : knB (p.1 l.t) = true := by rw [h2] at h1; simpa using h1
        have := h _ h3; omega
      · exact h a ha
    · rename_i h2
      simp only [setF] at ha
      split at ha
      · rename_i e; subst e
        have h3 : knB (p.1 l.f) = true := by simpa using h2
        have := h _ h3; omega
      · exact h a ha
theorem fold_free {q : Nat → Nat} : ∀ {L : List LN} {p : Rat6 × Bool}, (∀ l ∈ L, 0 < q l.f ↔ 0 < q l.t) → (∀ a, knB (p.1 a) = true → q a = 0) → ∀ a, knB ((L.foldl stepR p).1 a) = true → q a = 0
  | [], _, _, h => h
  | l :: L, p, hL, h => by
    rw [List.foldl_cons]
    exact fold_free (fun l' hl' => hL l' (List.mem_cons_of_mem _ hl')) (step_free (hL l (by simp)) h)
theorem rounds_free {q : Nat → Nat} {L : List LN} (hL : ∀ l ∈ L, 0 < q l.f ↔ 0 < q l.t) : ∀ (m : Nat) {R : Rat6}, (∀ a, knB (R a) = true → q a = 0) → ∀ a, knB (roundsR L m R a) = true → q a = 0
  | 0, _, h => h
  | m + 1, _, h => rounds_free hL m (fold_free hL h)
theorem start_free {q : Nat → Nat} {i : Nat} (h : q i = 0) : ∀ a, knB (startR i a) = true → q a = 0 := by
  intro a ha
  unfold startR at ha
  split at ha
  · rename_i e; subst e; exact h
  · cases ha

/-- What is counted stays. -/
theorem refStep_keep {L : List LN} {N i : Nat} {q : Nat → Nat} (hq : RefOk L N i q) {a : Nat} (ha : 0 < q a) : refStep L N i q a = q a := by
  unfold refStep
  split
  · rfl
  · rename_i h
    have hf := rounds_free hq.cl N (start_free (q := q) (i := i) (by omega)) a
    unfold addR
    rw [if_neg (fun hk => by have := hf hk; omega)]

theorem refStep_ok {N : Nat} {L : List LN} {q : Nat → Nat} {i : Nat} (hN : N ≤ 6) (hL : ∀ l ∈ L, OkL N l) (hi : i < N) (hq : RefOk L N i q) : RefOk L N (i + 1) (refStep L N i q) := by
  unfold refStep
  split
  · rename_i hp
    refine ⟨fun j hj => ?_, hq.out, hq.cl, hq.le⟩
    by_cases e : j = i
    · subst e; exact hp
    · exact hq.pos j (by omega)
  · rw [rounds_start hN hi hL]
    obtain ⟨s1, s2⟩ := start_good hN hi
    obtain ⟨h1, h2, h3⟩ := rates_good hN hL 6 s1 (by omega)
    have hki : knB (startR i i) = true := by unfold startR; rw [if_pos rfl]; rfl
    have hi1 := h3 i hki
    generalize ratesF L 6 (startR i) = R at h1 h2 h3 hi1
    obtain ⟨c1, c2, c3⟩ := comm_good h1 N
    have hin : ∀ j, knB (R j) = true → j < N := fun j hj => by
      rcases Nat.lt_or_ge j N with h | h
      · exact h
      · rw [h1.out j h] at hj; cases hj
    have hpos : ∀ j, knB (R j) = true → 0 < (R j).1 * (commF R N / (R j).2) := fun j hj =>
      Nat.mul_pos (h1.val j hj).n0 (Nat.div_pos (Nat.le_of_dvd c1 (c3 j (hin j hj) hj)) (h1.val j hj).d0)
    refine ⟨fun j hj => ?_, fun j hj => ?_, fun l hl => ?_, fun j => ?_⟩
    · unfold addR
      split
      · exact hpos j ‹_›
      · rename_i hk
        refine hq.pos j ?_
        rcases Nat.lt_or_ge j i with h | h
        · exact h
        · have : j = i := by omega
          subst this
          rw [hi1] at hk; exact absurd hki hk
    · unfold addR
      rw [h1.out j hj]
      exact hq.out j hj
    · have hkk := h2 l hl
      unfold addR
      by_cases hk : knB (R l.f) = true
      · rw [if_pos hk, if_pos (hkk ▸ hk)]
        exact ⟨fun _ => hpos _ (hkk ▸ hk), fun _ => hpos _ hk⟩
      · rw [if_neg hk, if_neg (hkk ▸ hk)]
        exact hq.cl l hl
    · unfold addR
      split
      · exact (addR_le h1 j ‹_›).2.2
      · exact hq.le j
theorem refFold_ok {N : Nat} {L : List LN} (hN : N ≤ 6) (hL : ∀ l ∈ L, OkL N l) : ∀ i, i ≤ N → RefOk L N i (refFold L N i)
  | 0, _ => ⟨fun j hj => by omega, fun _ _ => rfl, fun l _ => Iff.rfl, fun _ => by simp [refFold]⟩
  | i + 1, hi => refStep_ok hN hL (by omega) (refFold_ok hN hL i (by omega))
theorem refFold_keep {N : Nat} {L : List LN} (hN : N ≤ 6) (hL : ∀ l ∈ L, OkL N l) {i a : Nat} (ha : 0 < refFold L N i a) : ∀ m, i + m ≤ N → refFold L N (i + m) a = refFold L N i a
  | 0, _ => rfl
  | m + 1, hm => by
    have ih := refFold_keep hN hL ha m (by omega)
    show refStep L N (i + m) (refFold L N (i + m)) a = _
    rw [refStep_keep (refFold_ok hN hL (i + m) (by omega)) (by rw [ih]; exact ha), ih]

/-- Where the numbers are in balance, so are the fractions. -/
theorem timesF_of {x y : Fra} {g k a b : Nat} (hx : 0 < x.2) (hk0 : 0 < k) (hy1 : 0 < y.1) (hy : 0 < y.2) (hco : Nat.gcd y.1 y.2 = 1) (ha : 0 < a) (hab : x.2 * a = y.2 * b) (h : g * (x.1 * a) = k * (y.1 * b)) : timesF x g k = y := by
  have h1 : x.1 * g * y.2 = x.2 * k * y.1 := by
    refine Nat.eq_of_mul_eq_mul_right (Nat.mul_pos hx ha) ?_
    calc x.1 * g * y.2 * (x.2 * a) = (g * (x.1 * a)) * (y.2 * x.2) := by simp only [Nat.mul_comm, Nat.mul_left_comm]
      _ = (k * (y.1 * b)) * (y.2 * x.2) := by rw [h]
      _ = x.2 * k * y.1 * (y.2 * b) := by simp only [Nat.mul_comm, Nat.mul_left_comm]
      _ = x.2 * k * y.1 * (x.2 * a) := by rw [hab]
  have hc : Nat.Coprime y.1 y.2 := hco
  obtain ⟨m, hm⟩ : y.1 ∣ x.1 * g := hc.dvd_of_dvd_mul_right ⟨x.2 * k, by rw [h1, Nat.mul_comm]⟩
  have hm2 : x.2 * k = y.2 * m := by
    refine Nat.eq_of_mul_eq_mul_right hy1 ?_
    rw [← h1, hm]
    simp only [Nat.mul_comm, Nat.mul_left_comm]
  unfold timesF
  rw [hm, hm2, Nat.gcd_mul_right, hco, Nat.one_mul]
  obtain ⟨y1, y2⟩ := y
  rcases Nat.eq_zero_or_pos m with e | e
  · subst e
    have := Nat.mul_pos hx hk0
    omega
  · simp only at *
    rw [Nat.mul_div_cancel _ e, Nat.mul_div_cancel _ e]

theorem refFold_eq {N : Nat} {L : List LN} (hN : N ≤ 6) (hL : ∀ l ∈ L, OkL N l) : ∀ (i : Nat), i ≤ N → ∀ q, repFold L N i = some q → refFold L N i = q
  | 0, _, q, h => by simp only [repFold, Option.some.injEq] at h; exact h
  | i + 1, hi, q, h => by
    simp only [repFold] at h
    cases h0 : repFold L N i with
    | none => rw [h0] at h; cases h
    | some q0 =>
      rw [h0] at h
      simp only [Option.bind_some] at h
      have ih := refFold_eq hN hL i (by omega) q0 h0
      show refStep L N i (refFold L N i) = q
      rw [ih]
      unfold repStep at h
      unfold refStep
      split at h
      · rename_i hp
        rw [if_pos hp]; exact Option.some.inj h
      · rename_i hp
        rw [if_neg hp, rounds_start hN (by omega) hL]
        split at h
        · exact Option.some.inj h
        · cases h
theorem balQ_none {N : Nat} {L : List LN} (hN : N ≤ 6) (hL : ∀ l ∈ L, OkL N l) : ∀ (i : Nat), i ≤ N → repFold L N i = none → balQ L (refFold L N N) = false
  | 0, _, h => by simp [repFold] at h
  | i + 1, hi, h => by
    simp only [repFold] at h
    cases h0 : repFold L N i with
    | none => exact balQ_none hN hL i (by omega) h0
    | some q =>
      rw [h0] at h
      simp only [Option.bind_some] at h
      have hq := refFold_eq hN hL i (by omega) q h0
      unfold repStep at h
      split at h
      · cases h
      · rename_i hp
        split at h
        · cases h
        · rename_i hb
          have hS : refFold L N (i + 1) = addR (ratesF L 6 (startR i)) (commF (ratesF L 6 (startR i)) N) q := by
            show refStep L N i (refFold L N i) = _
            rw [hq]; unfold refStep; rw [if_neg hp, rounds_start hN (by omega) hL]
          have hok := refFold_ok hN hL (i + 1) hi
          have hkeep := fun (a : Nat) (ha : 0 < refFold L N (i + 1) a) => refFold_keep hN hL ha (N - (i + 1)) (by omega)
          rw [show i + 1 + (N - (i + 1)) = N by omega] at hkeep
          obtain ⟨s1, s2⟩ := start_good hN (show i < N by omega)
          obtain ⟨h1, h2, h3⟩ := rates_good hN hL 6 s1 (by omega)
          generalize ratesF L 6 (startR i) = R at hb hS h1 h2 h3
          obtain ⟨c1, c2, c3⟩ := comm_good h1 N
          have hin : ∀ j, knB (R j) = true → j < N := fun j hj => by
            rcases Nat.lt_or_ge j N with h | h
            · exact h
            · rw [h1.out j h] at hj; cases hj
          have hb : balB L R = false := by simpa using hb
          obtain ⟨l, hl, hbl⟩ := List.all_eq_false.1 hb
          have hkf : knB (R l.f) = true ∧ timesF (R l.f) l.g l.k ≠ R l.t := by simpa using hbl
          obtain ⟨hk, hne⟩ := hkf
          have hkt : knB (R l.t) = true := (h2 l hl) ▸ hk
          obtain ⟨a, ha⟩ := c3 _ (hin _ hk) hk
          obtain ⟨b, hb'⟩ := c3 _ (hin _ hkt) hkt
          have ea : commF R N / (R l.f).2 = a := by rw [ha]; exact Nat.mul_div_cancel_left _ (h1.val _ hk).d0
          have eb : commF R N / (R l.t).2 = b := by rw [hb']; exact Nat.mul_div_cancel_left _ (h1.val _ hkt).d0
          have hap : 0 < a := by
            rcases Nat.eq_zero_or_pos a with e | e
            · subst e; omega
            · exact e
          have hbp : 0 < b := by
            rcases Nat.eq_zero_or_pos b with e | e
            · subst e; omega
            · exact e
          have vf : refFold L N (i + 1) l.f = (R l.f).1 * a := by rw [hS]; unfold addR; rw [if_pos hk, ea]
          have vt : refFold L N (i + 1) l.t = (R l.t).1 * b := by rw [hS]; unfold addR; rw [if_pos hkt, eb]
          have kf := hkeep l.f (by rw [vf]; exact Nat.mul_pos (h1.val _ hk).n0 hap)
          have kt := hkeep l.t (by rw [vt]; exact Nat.mul_pos (h1.val _ hkt).n0 hbp)
          refine List.all_eq_false.2 ⟨l, hl, ?_⟩
          simp only [decide_eq_true_eq]
          intro hbal
          rw [kf, kt, vf, vt] at hbal
          exact hne (timesF_of (h1.val _ hk).d0 (hL l hl).k1 (h1.val _ hkt).n0 (h1.val _ hkt).d0 (h1.val _ hkt).co hap (by rw [← ha, ← hb']) hbal)
theorem balQ_some {N : Nat} {L : List LN} (hN : N ≤ 6) (hL : ∀ l ∈ L, OkL N l) {q : Nat → Nat} (h : repFold L N N = some q) : refFold L N N = q ∧ balQ L (refFold L N N) = true := by
  have e := refFold_eq hN hL N (Nat.le_refl _) q h
  refine ⟨e, ?_⟩
  rw [e]
  exact List.all_eq_true.2 fun l hl => by simpa using (repFold_ok hN hL N (Nat.le_refl _) q h).bal l hl
end Go.Fl

end
