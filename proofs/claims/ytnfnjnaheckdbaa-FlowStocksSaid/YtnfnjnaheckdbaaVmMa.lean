import Derived.Test.YtnfnjnaheckdbaaFlX
import Derived.MapKept
import Derived.Laws.RangeString
section
/-
  A STATEMENT WHOSE ORDER IS OPEN THAT MAKES TWO VARIABLES: x, y := a, b, where both are variables in memory.
-/
namespace Go.Vm
open Go.RowKit

/-- The operations one after another, the two new variables left aside. -/
inductive TrV (P : Program) (n : Nat) (ops : Array Oper) (σ : List VObj) (C : Nat → List XV) : Nat → List Oper → (Nat → XV) → List Nat → (Nat → XV) → Prop
  | nil {k : Nat} {e : Nat → XV} : TrV P n ops σ C k [] e [] e
  | read {k : Nat} {o : Oper} {l : List Oper} {e e' : Nat → XV} {x : XV} {fl : Nat} {fls : List Nat} (hg : guardX ops e o = some true) (he : Ev P o ⟨σ, e⟩ x σ fl) (hf : fl < 2) (hd : dstOk n o.dst = true)
      (h : TrV P n ops σ C (k + 1) l (putE e o.dst x) fls e') : TrV P n ops σ C k (o :: l) e (fl :: fls) e'
  | make {k : Nat} {o : Oper} {l : List Oper} {e e' : Nat → XV} {fls : List Nat} (hd : dstOk n o.dst = true)
      (h : TrV P n ops σ C (k + 1) l (putE e o.dst undefX) fls e') : TrV P n ops σ C k (o :: l) e (3 :: fls) e'
  | put {k : Nat} {o : Oper} {l : List Oper} {e e' : Nat → XV} {fls : List Nat} {T : TypeId} {t s : Tmp} {xv : XV} (ho : o.op = .store T (.tmp t) (.tmp s)) (hx : e s = xv) (hc : cellsX xv = C k) (hd : o.dst = none)
      (h : TrV P n ops σ C (k + 1) l e fls e') : TrV P n ops σ C k (o :: l) e (2 :: fls) e'

structure StepsV (P : Program) (n : Nat) (ops : Array Oper) (σ : List VObj) (C : Nat → List XV) (E : Nat → Nat → XV) (X : Nat → XV) (F : Nat → Nat) (k i : Nat) (o : Oper) : Prop where
  dst : dstOk n o.dst = true
  env : E (i + 1) = putE (E i) o.dst (X i)
  kind : (guardX ops (E i) o = some true ∧ Ev P o ⟨σ, E i⟩ (X i) σ (F i) ∧ F i < 2) ∨ F i = 3 ∨ (F i = 2 ∧ ∃ T t s, o.op = .store T (.tmp t) (.tmp s) ∧ cellsX (E i s) = C (k + i))

section
variable {P : Program} {ops : Array Oper} {n : Nat} {σ0 : List VObj} {C : Nat → List XV}

theorem TrV.fns {k : Nat} {l : List Oper} {e e' : Nat → XV} {fls : List Nat} (h : TrV P n ops σ0 C k l e fls e') :
    ∃ (E : Nat → Nat → XV) (X : Nat → XV), E 0 = e ∧ E l.length = e' ∧ ∀ (i : Nat) (o : Oper), l[i]? = some o → StepsV P n ops σ0 C E X (fun i => fls.getD i 0) k i o := by
  induction h with
  | @nil k e => exact ⟨fun _ => e, fun _ => undefX, rfl, rfl, fun i o h => by simp at h⟩
  | @read k o l e e' x fl fls hg he hf hd h ih =>
    obtain ⟨E, X, h0, h1, h2⟩ := ih
    refine ⟨consF e E, consF x X, rfl, h1, fun i o' hi => ?_⟩
    cases i with
    | zero =>
      simp at hi; subst hi
      exact ⟨hd, by show E 0 = _; rw [h0]; rfl, .inl ⟨hg, he, hf⟩⟩
    | succ i =>
      have := h2 i o' (by simpa using hi)
      exact ⟨this.dst, this.env, by have hk := this.kind; rwa [show k + 1 + i = k + (i + 1) by omega] at hk⟩
  | @make k o l e e' fls hd h ih =>
    obtain ⟨E, X, h0, h1, h2⟩ := ih
    refine ⟨consF e E, consF undefX X, rfl, h1, fun i o' hi => ?_⟩
    cases i with
    | zero =>
      simp at hi; subst hi
      exact ⟨hd, by show E 0 = _; rw [h0]; rfl, .inr (.inl rfl)⟩
    | succ i =>
      have := h2 i o' (by simpa using hi)
      exact ⟨this.dst, this.env, by have hk := this.kind; rwa [show k + 1 + i = k + (i + 1) by omega] at hk⟩
  | @put k o l e e' fls T t s xv ho hx hc hd h ih =>
    obtain ⟨E, X, h0, h1, h2⟩ := ih
    refine ⟨consF e E, consF undefX X, rfl, h1, fun i o' hi => ?_⟩
    cases i with
    | zero =>
      simp at hi; subst hi
      exact ⟨by rw [hd]; rfl, by show E 0 = _; rw [h0, hd]; rfl, .inr (.inr ⟨rfl, T, t, s, ho, by show cellsX (e s) = _; rw [hx, hc]; rfl⟩)⟩
    | succ i =>
      have := h2 i o' (by simpa using hi)
      exact ⟨this.dst, this.env, by have hk := this.kind; rwa [show k + 1 + i = k + (i + 1) by omega] at hk⟩

/-- The orders that do not matter. -/
def okV (ops : Array Oper) (i1 j1 i2 j2 : Nat) (t1 t2 : Tmp) : Bool :=
  okDraw ops (fun _ => 0) && (List.range ops.size).all (fun i => match ops[i]? with
    | none => true
    | some o => (i == j1 || !(o.looksAt ops).contains t1) && (i == j2 || !(o.looksAt ops).contains t2)) &&
  (reachB ops 8 j1 i1 && reachB ops 8 j2 i2)
theorem okV_look {i1 j1 i2 j2 : Nat} {t1 t2 : Tmp} (h : okV ops i1 j1 i2 j2 t1 t2 = true) {i : Nat} {o : Oper} (ho : ops[i]? = some o) : (i = j1 ∨ t1 ∉ o.looksAt ops) ∧ (i = j2 ∨ t2 ∉ o.looksAt ops) := by
  unfold okV at h
  simp only [Bool.and_eq_true] at h
  have h2 := List.all_eq_true.1 h.1.2 i (by simpa using (Array.getElem?_eq_some_iff.1 ho).1)
  rw [ho] at h2
  simpa using h2

section
variable {E : Nat → Nat → XV} {X : Nat → XV} {F : Nat → Nat} (hst : ∀ (i : Nat) (o : Oper), ops[i]? = some o → StepsV P n ops σ0 C E X F 0 i o)
include hst

theorem envV_none {t : Nat} : ∀ i, i ≤ ops.size → (∀ (j : Nat) (p : Oper), j < i → ops[j]? = some p → p.dst ≠ some t) → E i t = E 0 t
  | 0, _, _ => rfl
  | i + 1, hi, h => by
    have ho := Array.getElem?_eq_getElem (show i < ops.size by omega)
    rw [(hst i _ ho).env]
    have hne := h i _ (Nat.lt_succ_self i) ho
    have ih := envV_none i (by omega) (fun j p hj hp => h j p (by omega) hp)
    cases hd : ops[i].dst with
    | none => simpa [putE] using ih
    | some d =>
      simp only [putE, upd]
      rw [if_neg (fun e => hne (by rw [hd, e]))]
      exact ih

theorem envV_some (hok : okDraw ops (fun _ => 0) = true) {t j : Nat} {p : Oper} (hp : ops[j]? = some p) (hd : p.dst = some t) : ∀ i, i ≤ ops.size → j < i → E i t = X j
  | 0, _, h => by omega
  | i + 1, hi, h => by
    have ho := Array.getElem?_eq_getElem (show i < ops.size by omega)
    rw [(hst i _ ho).env]
    by_cases e : j = i
    · subst e
      have : ops[j] = p := by rw [ho] at hp; simpa using hp
      rw [this, hd]
      simp [putE, upd]
    · have ih := envV_some hok hp hd i (by omega) (by omega)
      cases hd' : ops[i].dst with
      | none => simpa [putE] using ih
      | some d =>
        simp only [putE, upd]
        rw [if_neg (fun e' => e (okDraw_dst hok hp ho hd (by rw [hd', e'])))]
        exact ih
end

def zeroC (z : Value) : List XV := z.cells.toList.map fun v => .d (.lit v)

/-- One new variable: its two operations. -/
def NewV (P : Program) (ops : Array Oper) (i j : Nat) (t s : Tmp) (c : List XV) : Prop :=
  ∃ (T : TypeId) (z : Value) (o p : Oper), ops[i]? = some o ∧ o.op = .alloc T ∧ o.dst = some t ∧ o.guard = none ∧ zeroT P T = some z ∧ z.cells.size = c.length ∧
    ops[j]? = some p ∧ p.op = .store T (.tmp t) (.tmp s) ∧ p.dst = none ∧ p.guard = none ∧ sizeT P T = some c.length ∧ c.all oneX = true

/-- What holds when some operations have been done. -/
structure InvV (P : Program) (M : Nat → Prop) (W0 : World) (Cx : Ctx) (n : Nat) (ops : Array Oper) (σ0 : List VObj) (e0 : Nat → XV) (X : Nat → XV) (i1 j1 i2 j2 : Nat) (t1 t2 : Tmp) (c1 c2 : List XV)
    (ι0 : List Nat) (w0 : World) (listed : Array Bool) (ι : List Nat) (σ : List VObj) (p1 p2 : Nat) (a : Act) (w : World) : Prop where
  size : listed.size = ops.size
  closed : ∀ (i : Nat) (o : Oper), listed.getD i true = true → ops[i]? = some o → ∀ e ∈ o.after, bindsA e = true → listed.getD e.on false = true
  mem : Mem M W0 ι σ w
  ext : Ext M ι0 σ0 w0 ι σ w
  env : ∀ t, t ≠ t1 → t ≠ t2 → XRep w ι (Forb M ι σ) (a.tmps.getD t undef) (envL ops e0 X (fun j => listed.getD j false) t)
  old : ∀ j, j < σ0.length → σ[j]? = σ0[j]?
  long : σ0.length ≤ σ.length
  n1 : listed.getD i1 false = true → σ0.length ≤ p1 ∧ (∃ b, a.tmps.getD t1 undef = .pointer (some ⟨b, 0, none⟩) ∧ ι[p1]? = some b) ∧
    ∃ cs, σ[p1]? = some ⟨cs, 0⟩ ∧ cs.length = c1.length ∧ (listed.getD j1 false = true → cs = c1)
  n2 : listed.getD i2 false = true → σ0.length ≤ p2 ∧ (∃ b, a.tmps.getD t2 undef = .pointer (some ⟨b, 0, none⟩) ∧ ι[p2]? = some b) ∧
    ∃ cs, σ[p2]? = some ⟨cs, 0⟩ ∧ cs.length = c2.length ∧ (listed.getD j2 false = true → cs = c2)
  ne : listed.getD i1 false = true → listed.getD i2 false = true → p1 ≠ p2
  tsize : a.tmps.size = n
  defers : Marks M Cx.B ι σ w a.defers
  round : ∀ l, Cx.ro = some l → ∃ r : Loop, w.heap[l]? = some (Obj.loop r)

theorem getD_put {a : Act} {t : Nat} {o : Option Tmp} {v : Value} (h : o ≠ some t) : (a.put o v).tmps.getD t undef = a.tmps.getD t undef := by
  cases o with
  | none => rfl
  | some d =>
    have hne : d ≠ t := fun e => h (by rw [e])
    simp only [Act.put, Array.getD_eq_getD_getElem?]
    rw [Array.getElem?_setIfInBounds_ne hne]

variable {M : Nat → Prop} {W0 : World} {Cx : Ctx} {e0 : Nat → XV} {X : Nat → XV} {i1 j1 i2 j2 : Nat} {t1 t2 s1 s2 : Tmp} {c1 c2 : List XV} {ι0 : List Nat} {w0 : World}

theorem lt_of_some {α : Type} {l : List α} {i : Nat} {x : α} (h : l[i]? = some x) : i < l.length := (List.getElem?_eq_some_iff.1 h).1

theorem InvV.next {E : Nat → Nat → XV} {F : Nat → Nat} (hst : ∀ (i : Nat) (o : Oper), ops[i]? = some o → StepsV P n ops σ0 C E X F 0 i o) (hE : E 0 = e0) (hok : okV ops i1 j1 i2 j2 t1 t2 = true)
    (h1 : NewV P ops i1 j1 t1 s1 c1) (h2 : NewV P ops i2 j2 t2 s2 c2) (hc1 : C j1 = c1) (hc2 : C j2 = c2) (hij : i1 ≠ i2 ∧ j1 ≠ j2 ∧ t1 ≠ t2 ∧ s1 ≠ t1 ∧ s1 ≠ t2 ∧ s2 ≠ t1 ∧ s2 ≠ t2)
    (hF : ∀ (i : Nat) (o : Oper), ops[i]? = some o → (F i = 3 → i = i1 ∨ i = i2) ∧ (F i = 2 → i = j1 ∨ i = j2) ∧ (F i < 2 → i ≠ i1 ∧ i ≠ i2 ∧ i ≠ j1 ∧ i ≠ j2))
    {listed : Array Bool} {ι : List Nat} {σ : List VObj} {p1 p2 : Nat} {a : Act} {w : World} (hI : InvV P M W0 Cx n ops σ0 e0 X i1 j1 i2 j2 t1 t2 c1 c2 ι0 w0 listed ι σ p1 p2 a w)
    {i : Nat} {o : Oper} (ho : ops[i]? = some o) (hun : listed.getD i false = false) (hready : ∀ e ∈ o.after, bindsA e = true → listed.getD e.on false = true) {Q : Exit → Act → World → Prop} {KK : Act → World → Prop}
    (hK : ∀ (ι' : List Nat) (σ' : List VObj) (p1' p2' : Nat) (a' : Act) (w' : World), InvV P M W0 Cx n ops σ0 e0 X i1 j1 i2 j2 t1 t2 c1 c2 ι0 w0 (listed.setIfInBounds i true) ι' σ' p1' p2' a' w' → KK a' w') : wpOpIn (FR Cx.ro) 0 P ops Q i KK a w := by
  have hokd : okDraw ops (fun _ => 0) = true := by unfold okV at hok; simp only [Bool.and_eq_true] at hok; exact hok.1.1
  have hi := (Array.getElem?_eq_some_iff.1 ho).1
  have hil : i < listed.size := by rw [hI.size]; exact hi
  have hcl : ∀ (j : Nat) (q : Oper), listed.getD j false = true → ops[j]? = some q → ∀ e ∈ q.after, bindsA e = true → listed.getD e.on false = true := fun j q hj hq => hI.closed j q (by
    rw [getD_bool listed j (by rw [hI.size]; exact (Array.getElem?_eq_some_iff.1 hq).1) true false]; exact hj) hq
  have before : ∀ j, reachB ops 8 i j = true → listed.getD j false = true := fun j h => reach_closed (ops := ops) (C := fun k => listed.getD k false = true) hcl 8 i j o ho hready h
  have behind : ∀ (j : Nat) (q : Oper), ops[j]? = some q → reachB ops 8 j i = true → listed.getD j false = false := fun j q hq h => by
    cases hl : listed.getD j false with
    | false => rfl
    | true =>
      have := reach_closed (ops := ops) (C := fun k => listed.getD k false = true) hcl 8 j i q hq (hcl j q hl hq) h
      rw [hun] at this; cases this
  have hlook : ∀ t ∈ o.looksAt ops, envL ops e0 X (fun j => listed.getD j false) t = E i t := by
    intro t ht
    by_cases hex : ∃ (j : Nat) (q : Oper), ops[j]? = some q ∧ q.dst = some t
    · obtain ⟨j, q, hq, hd⟩ := hex
      have uniq : ∀ (k : Nat) (r : Oper), ops[k]? = some r → r.dst = some t → k = j := fun k r hr hrd => okDraw_dst hokd hr hq hrd hd
      by_cases e : j = i
      · rw [envL_none (fun k r hr hl hrd => by have := uniq k r hr hrd; subst this; subst e; simp [hun] at hl)]
        rw [envV_none hst i (by omega) (fun k r hk hr hrd => by have := uniq k r hr hrd; omega), hE]
      · have hpr := okDraw_pair hokd ho hq e
        simp only [okPair, hd, Bool.and_eq_true, Bool.or_eq_true, Bool.not_eq_true'] at hpr
        have hord : ordB ops i j = true := by
          rcases hpr.1.2 with h | h
          · rw [List.contains_iff_mem.2 ht] at h; cases h
          · exact h
        unfold ordB at hord
        split at hord
        · rename_i hlt
          rw [envL_some hokd hq hd (by exact before j hord), envV_some hst hokd hq hd i (by omega) hlt]
        · rename_i hge
          have hnl := behind j q hq hord
          rw [envL_none (fun k r hr hl hrd => by have := uniq k r hr hrd; subst this; simp [hnl] at hl)]
          rw [envV_none hst i (by omega) (fun k r hk hr hrd => by have := uniq k r hr hrd; omega), hE]
    · rw [envL_none (fun k r hr hl hrd => hex ⟨k, r, hr, hrd⟩), envV_none hst i (by omega) (fun k r hk hr hrd => hex ⟨k, r, hr, hrd⟩), hE]
  have hs := hst i o ho
  have hlist : ∀ j, (listed.setIfInBounds i true).getD j false = if j = i then true else listed.getD j false := by
    intro j
    simp only [Array.getD_eq_getD_getElem?]
    by_cases e : j = i
    · subst e; simp [hil]
    · rw [Array.getElem?_setIfInBounds_ne (by omega), if_neg e]
  have hcl' : ∀ (j : Nat) (q : Oper), (listed.setIfInBounds i true).getD j true = true → ops[j]? = some q → ∀ e ∈ q.after, bindsA e = true → (listed.setIfInBounds i true).getD e.on false = true := by
    intro j q hj hq e he hb
    rw [hlist]
    split
    · rfl
    · by_cases e' : j = i
      · subst e'; rw [ho] at hq; cases hq; exact hready e he hb
      · refine hcl j q ?_ hq e he hb
        have hjl : j < listed.size := by rw [hI.size]; exact (Array.getElem?_eq_some_iff.1 hq).1
        rw [getD_bool _ j (by simpa using hjl) true false, hlist, if_neg e'] at hj
        exact hj
  -- the frame behind an operation that gives x: of the slots that are not the new variables'
  have henv : ∀ (ι' : List Nat) (σ' : List VObj) (w' : World) (v : Value), Ext M ι σ w ι' σ' w' → (∀ t, o.dst = some t → t ≠ t1 → t ≠ t2 → XRep w' ι' (Forb M ι' σ') v (X i)) →
      ∀ t, t ≠ t1 → t ≠ t2 → XRep w' ι' (Forb M ι' σ') ((a.put o.dst v).tmps.getD t undef) (envL ops e0 X (fun j => (listed.setIfInBounds i true).getD j false) t) := by
    intro ι' σ' w' v h4 h5 t ht1 ht2
    by_cases hd : o.dst = some t
    · have e1 : envL ops e0 X (fun j => (listed.setIfInBounds i true).getD j false) t = X i := envL_some hokd ho hd (by simp only [hlist, if_pos])
      rw [e1]
      have hdo := hs.dst
      rw [hd] at hdo
      simp only [dstOk, decide_eq_true_eq] at hdo
      have e2 : (a.put o.dst v).tmps.getD t undef = v := by rw [hd]; simp [Act.put, hI.tsize, hdo]
      rw [e2]; exact h5 t hd ht1 ht2
    · have e1 : envL ops e0 X (fun j => (listed.setIfInBounds i true).getD j false) t = envL ops e0 X (fun j => listed.getD j false) t := by
        by_cases hex : ∃ (j : Nat) (q : Oper), ops[j]? = some q ∧ q.dst = some t ∧ listed.getD j false = true
        · obtain ⟨j, q, hq, hqd, hl⟩ := hex
          rw [envL_some hokd hq hqd (by simp only [hlist]; split <;> first | rfl | exact hl), envL_some hokd hq hqd hl]
        · rw [envL_none (fun k r hr hl hrd => ?_), envL_none (fun k r hr hl hrd => hex ⟨k, r, hr, hrd, hl⟩)]
          simp only [hlist] at hl
          split at hl
          · rename_i e; subst e; rw [ho] at hr; cases hr; exact hd hrd
          · exact hex ⟨k, r, hr, hrd, hl⟩
      rw [e1, getD_put hd]
      exact (hI.env t ht1 ht2).ext h4
  have hps : ∀ v, (a.put o.dst v).tmps.size = n := fun v => by cases o.dst <;> simp [Act.put, hI.tsize]
  have hpd : ∀ (v : Value) {ι' : List Nat} {σ' : List VObj} {w' : World}, Ext M ι σ w ι' σ' w' → Marks M Cx.B ι' σ' w' (a.put o.dst v).defers := fun v _ _ _ e => by cases o.dst <;> exact hI.defers.ext e
  have hrd : ∀ {ι' : List Nat} {σ' : List VObj} {w' : World}, Ext M ι σ w ι' σ' w' → ∀ l, Cx.ro = some l → ∃ r : Loop, w'.heap[l]? = some (Obj.loop r) := fun e l hl => let ⟨r, hr⟩ := hI.round l hl; e.loops l r hr
  have hdst : ∀ t, (∃ k q, ops[k]? = some q ∧ q.dst = some t ∧ k ≠ i) → o.dst ≠ some t := fun t ⟨k, q, hq, hqd, hne⟩ hd => hne (okDraw_dst hokd hq ho hqd hd)
  have allR : ∀ (Y1 Y2 : XV), XRep w ι (Forb M ι σ) (a.tmps.getD t1 undef) Y1 → XRep w ι (Forb M ι σ) (a.tmps.getD t2 undef) Y2 →
      ∀ t, XRep w ι (Forb M ι σ) (a.tmps.getD t undef) (if t = t1 then Y1 else if t = t2 then Y2 else envL ops e0 X (fun j => listed.getD j false) t) := by
    intro Y1 Y2 r1 r2 t
    split
    · rename_i e; subst e; exact r1
    · split
      · rename_i e; subst e; exact r2
      · exact hI.env t ‹_› ‹_›
  obtain ⟨T1, z1, oa1, os1, ha1, ha1o, ha1d, ha1g, hz1, hz1l, hs1, hs1o, hs1d, hs1g, hsz1, hone1⟩ := h1
  obtain ⟨T2, z2, oa2, os2, ha2, ha2o, ha2d, ha2g, hz2, hz2l, hs2, hs2o, hs2d, hs2g, hsz2, hone2⟩ := h2
  have kind : ∀ (i j : Nat) (p q : Oper) (T T' : TypeId) (x y : Operand), ops[i]? = some p → ops[j]? = some q → p.op = .alloc T → q.op = .store T' x y → i ≠ j := fun i j p q T T' x y k1 k2 k3 k4 e => by
    subst e; rw [k1] at k2; cases k2; rw [k3] at k4; cases k4
  have ne_ij11 := kind i1 j1 _ _ _ _ _ _ ha1 hs1 ha1o hs1o
  have ne_ij12 := kind i1 j2 _ _ _ _ _ _ ha1 hs2 ha1o hs2o
  have ne_ij21 := kind i2 j1 _ _ _ _ _ _ ha2 hs1 ha2o hs1o
  have ne_ij22 := kind i2 j2 _ _ _ _ _ _ ha2 hs2 ha2o hs2o
  have hrr : reachB ops 8 j1 i1 = true ∧ reachB ops 8 j2 i2 = true := by unfold okV at hok; simp only [Bool.and_eq_true] at hok; exact hok.2
  obtain ⟨hr1, hr2⟩ := hrr
  have hR0' := allR (.d (.lit (a.tmps.getD t1 undef))) (.d (.lit (a.tmps.getD t2 undef))) (.d (.lit _)) (.d (.lit _))
  obtain ⟨env0, hR0⟩ : ∃ env0 : Nat → XV, ∀ t, XRep w ι (Forb M ι σ) (a.tmps.getD t undef) (env0 t) := ⟨_, hR0'⟩
  unfold wpOpIn
  rw [ho]
  simp only
  rcases hs.kind with ⟨hg, hev, hf⟩ | hf | ⟨hf, Ts, ts, ss, hso, hsc⟩
  · -- a reading operation
    obtain ⟨hn1, hn2, hn3, hn4⟩ := (hF i o ho).2.2 hf
    obtain ⟨hl1, hl2⟩ := okV_look hok ho
    have hl1 := hl1.resolve_left hn3
    have hl2 := hl2.resolve_left hn4
    have hR := allR (.d (.lit (a.tmps.getD t1 undef))) (.d (.lit (a.tmps.getD t2 undef))) (.d (.lit _)) (.d (.lit _))
    generalize hev' : (fun t => if t = t1 then XV.d (.lit (a.tmps.getD t1 undef)) else if t = t2 then XV.d (.lit (a.tmps.getD t2 undef)) else envL ops e0 X (fun j => listed.getD j false) t) = env' at hR
    have hR' : ∀ t, XRep w ι (Forb M ι σ) (a.tmps.getD t undef) (env' t) := fun t => by rw [← hev']; exact allR _ _ (.d (.lit _)) (.d (.lit _)) t
    have hlk : ∀ t ∈ o.looksAt ops, env' t = E i t := fun t ht => by
      rw [← hev']
      simp only
      rw [if_neg (fun e : t = t1 => hl1 (e ▸ ht)), if_neg (fun e : t = t2 => hl2 (e ▸ ht))]
      exact hlook t ht
    rw [← guardX_congr hlk] at hg
    rw [if_pos (by rw [guardX_sound hR' hg])]
    have hops : ∀ y ∈ o.op.operands, evalX env' y = evalX (E i) y := by
      intro y hy
      cases y with
      | tmp t => exact hlk t (mem_looks hy)
      | _ => rfl
    have hev2 := hev.congr hops
    have hev3 : Ev P o ⟨σ, env'⟩ (X i) σ (F i) := by
      by_cases hf0 : F i = 0
      · rw [hf0] at hev2 ⊢; exact hev2.pure σ
      · have hf1 : F i = 1 := by omega
        rw [hf1] at hev2 ⊢
        refine hev2.one (σ2 := σ) fun y hy id off he ob hob => ⟨ob, ?_, rfl, Iff.rfl⟩
        rw [hI.old id (lt_of_some hob)]; exact hob
    refine hev3.wp hI.mem hR' fun ι' v w' k1 k2 k3 => hK ι' σ p1 p2 _ w' ?_
    have hfix : ∀ (j b : Nat), ι[j]? = some b → ι'[j]? = some b := k2.pre
    refine ⟨by simp [hI.size], hcl', k1, hI.ext.trans k2, henv ι' σ w' v k2 (fun t _ _ _ => k3), hI.old, hI.long, fun hl => ?_, fun hl => ?_, fun q1 q2 => ?_, hps v, hpd v k2, hrd k2⟩
    · rw [hlist, if_neg (Ne.symm hn1)] at hl
      obtain ⟨m1, ⟨b, m2, m3⟩, m4⟩ := hI.n1 hl
      refine ⟨m1, ⟨b, ?_, hfix _ _ m3⟩, ?_⟩
      · rw [getD_put (hdst t1 ⟨i1, oa1, ha1, ha1d, Ne.symm hn1⟩)]; exact m2
      · rw [hlist, if_neg (Ne.symm hn3)]; exact m4
    · rw [hlist, if_neg (Ne.symm hn2)] at hl
      obtain ⟨m1, ⟨b, m2, m3⟩, m4⟩ := hI.n2 hl
      refine ⟨m1, ⟨b, ?_, hfix _ _ m3⟩, ?_⟩
      · rw [getD_put (hdst t2 ⟨i2, oa2, ha2, ha2d, Ne.symm hn2⟩)]; exact m2
      · rw [hlist, if_neg (Ne.symm hn4)]; exact m4
    · rw [hlist, if_neg (Ne.symm hn1)] at q1
      rw [hlist, if_neg (Ne.symm hn2)] at q2
      exact hI.ne q1 q2
  · -- a new variable
    rcases (hF i o ho).1 hf with e | e
    · subst e
      have eo : o = oa1 := by rw [ho] at ha1; exact Option.some.inj ha1
      subst eo
      obtain ⟨d0, op0, ty0, po0, af0, g0⟩ := o
      simp only at ha1o ha1d ha1g
      subst ha1o ha1d ha1g
      have hg : guardX ops env0 (⟨some t1, .alloc T1, ty0, po0, af0, none⟩ : Oper) = some true := rfl
      rw [if_pos (by rw [guardX_sound hR0 hg])]
      have hev : Ev P ⟨some t1, .alloc T1, ty0, po0, af0, none⟩ ⟨σ, env0⟩ (.optr σ.length 0) (σ ++ [⟨zeroC z1, 0⟩]) 3 := K.alloc (kn := []) hz1 env0 (fun t x h => by simp [look] at h)
      have hnj : listed.getD j1 false = false := behind j1 os1 hs1 hr1
      refine hev.wp hI.mem hR0 fun ι' v w' k1 k2 k3 => hK ι' (σ ++ [⟨zeroC z1, 0⟩]) σ.length p2 _ w' ?_
      obtain ⟨b, rfl, hb⟩ : ∃ b, v = .pointer (some ⟨b, 0, none⟩) ∧ ι'[σ.length]? = some b := by cases k3 with | optr hb => exact ⟨_, rfl, hb⟩
      have hfix : ∀ (j b : Nat), ι[j]? = some b → ι'[j]? = some b := k2.pre
      have hdo := hs.dst
      simp only [dstOk, decide_eq_true_eq] at hdo
      have hlg := hI.long
      refine ⟨by simp [hI.size], hcl', k1, hI.ext.trans k2, henv ι' _ w' _ k2 (fun t hd q1 q2 => absurd (Option.some.inj hd).symm q1), fun j hj => ?_, by simp; omega, fun _ => ⟨hlg, ⟨b, by simp [Act.put, hI.tsize, hdo], hb⟩, zeroC z1, List.getElem?_concat_length .., by simp [zeroC, hz1l], fun hl => by
        rw [hlist, if_neg (fun e => ne_ij11 e.symm), hnj] at hl; cases hl⟩, fun hl => by
        rw [hlist, if_neg (fun e => hij.1 e.symm)] at hl
        obtain ⟨m1, ⟨b', m2, m3⟩, cs, m5, m6, m7⟩ := hI.n2 hl
        refine ⟨m1, ⟨b', ?_, hfix _ _ m3⟩, cs, ?_, m6, fun hj => ?_⟩
        · rw [getD_put (fun e => hij.2.2.1 (Option.some.inj e))]; exact m2
        · rw [List.getElem?_append_left (lt_of_some m5)]; exact m5
        · rw [hlist, if_neg (fun e => ne_ij12 e.symm)] at hj; exact m7 hj, fun q1 q2 => ?_, hps _, hpd _ k2, hrd k2⟩
      · rw [List.getElem?_append_left (by omega)]; exact hI.old j hj
      · rw [hlist, if_neg (fun e => hij.1 e.symm)] at q2
        obtain ⟨_, _, cs, m5, _⟩ := hI.n2 q2
        have := lt_of_some m5
        omega
    · subst e
      have eo : o = oa2 := by rw [ho] at ha2; exact Option.some.inj ha2
      subst eo
      obtain ⟨d0, op0, ty0, po0, af0, g0⟩ := o
      simp only at ha2o ha2d ha2g
      subst ha2o ha2d ha2g
      have hg : guardX ops env0 (⟨some t2, .alloc T2, ty0, po0, af0, none⟩ : Oper) = some true := rfl
      rw [if_pos (by rw [guardX_sound hR0 hg])]
      have hev : Ev P ⟨some t2, .alloc T2, ty0, po0, af0, none⟩ ⟨σ, env0⟩ (.optr σ.length 0) (σ ++ [⟨zeroC z2, 0⟩]) 3 := K.alloc (kn := []) hz2 env0 (fun t x h => by simp [look] at h)
      have hnj : listed.getD j2 false = false := behind j2 os2 hs2 hr2
      refine hev.wp hI.mem hR0 fun ι' v w' k1 k2 k3 => hK ι' (σ ++ [⟨zeroC z2, 0⟩]) p1 σ.length _ w' ?_
      obtain ⟨b, rfl, hb⟩ : ∃ b, v = .pointer (some ⟨b, 0, none⟩) ∧ ι'[σ.length]? = some b := by cases k3 with | optr hb => exact ⟨_, rfl, hb⟩
      have hfix : ∀ (j b : Nat), ι[j]? = some b → ι'[j]? = some b := k2.pre
      have hdo := hs.dst
      simp only [dstOk, decide_eq_true_eq] at hdo
      have hlg := hI.long
      refine ⟨by simp [hI.size], hcl', k1, hI.ext.trans k2, henv ι' _ w' _ k2 (fun t hd q1 q2 => absurd (Option.some.inj hd).symm q2), fun j hj => ?_, by simp; omega, fun hl => by
        rw [hlist, if_neg (fun e => hij.1 e)] at hl
        obtain ⟨m1, ⟨b', m2, m3⟩, cs, m5, m6, m7⟩ := hI.n1 hl
        refine ⟨m1, ⟨b', ?_, hfix _ _ m3⟩, cs, ?_, m6, fun hj => ?_⟩
        · rw [getD_put (fun e => (Ne.symm hij.2.2.1) (Option.some.inj e))]; exact m2
        · rw [List.getElem?_append_left (lt_of_some m5)]; exact m5
        · rw [hlist, if_neg (fun e => ne_ij21 e.symm)] at hj; exact m7 hj, fun _ => ⟨hlg, ⟨b, by simp [Act.put, hI.tsize, hdo], hb⟩, zeroC z2, List.getElem?_concat_length .., by simp [zeroC, hz2l], fun hl => by
        rw [hlist, if_neg (fun e => ne_ij22 e.symm), hnj] at hl; cases hl⟩, fun q1 q2 => ?_, hps _, hpd _ k2, hrd k2⟩
      · rw [List.getElem?_append_left (by omega)]; exact hI.old j hj
      · rw [hlist, if_neg (fun e => hij.1 e)] at q1
        obtain ⟨_, _, cs, m5, _⟩ := hI.n1 q1
        have := lt_of_some m5
        omega
  · -- its value
    rcases (hF i o ho).2.1 hf with e | e
    · subst i
      have eo : o = os1 := by rw [ho] at hs1; exact Option.some.inj hs1
      subst eo
      obtain ⟨d0, op0, ty0, po0, af0, g0⟩ := o
      simp only at hs1o hs1d hs1g hso
      subst hs1o hs1d hs1g
      injection hso with e1 e2 e3
      injection e2 with e2
      injection e3 with e3
      subst e1 e2 e3
      have hl1 : listed.getD i1 false = true := before i1 hr1
      obtain ⟨m1, ⟨b, m2, m3⟩, cs, m5, m6, m7⟩ := hI.n1 hl1
      have hR := allR (.optr p1 0) (.d (.lit (a.tmps.getD t2 undef))) (by rw [m2]; exact .optr m3) (.d (.lit _))
      have hlks := hlook s1 (mem_looks (by simp [Op.operands]))
      have hg : guardX ops env0 (⟨none, .store T1 (.tmp t1) (.tmp s1), ty0, po0, af0, none⟩ : Oper) = some true := rfl
      rw [if_pos (by rw [guardX_sound hR0 hg])]
      have hcl2 : cellsX (E j1 s1) = c1 := by rw [hsc, Nat.zero_add]; exact hc1
      generalize hev' : (fun t => if t = t1 then XV.optr p1 0 else if t = t2 then XV.d (.lit (a.tmps.getD t2 undef)) else envL ops e0 X (fun j => listed.getD j false) t) = env' at hR
      have hRR : ∀ t, XRep w ι (Forb M ι σ) (a.tmps.getD t undef) (env' t) := fun t => by rw [← hev']; exact hR t
      have ea : env' t1 = .optr p1 0 := by rw [← hev']; simp
      have es : env' s1 = E j1 s1 := by rw [← hev']; simp only; rw [if_neg hij.2.2.2.1, if_neg hij.2.2.2.2.1]; exact hlks
      have hev : Ev P ⟨none, .store T1 (.tmp t1) (.tmp s1), ty0, po0, af0, none⟩ ⟨σ, env'⟩ undefX (σ.set p1 ⟨splice cs 0 (cellsX (E j1 s1)), 0⟩) 2 :=
        K.storeN (kn := [(t1, .optr p1 0), (s1, E j1 s1)]) (by simp [evK, look]) (by simp [evK, look, hij.2.2.2.1]) m5 (by rw [hcl2]; omega) (by rw [hcl2]; exact hone1) (by rw [hcl2]; exact hsz1) env' (fun t x h => by
          simp only [look] at h
          split at h
          · rename_i e; subst e; cases h; exact ea
          · split at h
            · rename_i e; subst e; cases h; exact es
            · cases h)
      rw [hcl2, splice_all m6] at hev
      refine hev.wp hI.mem hRR fun ι' v w' k1 k2 k3 => hK ι' (σ.set p1 ⟨c1, 0⟩) p1 p2 _ w' ?_
      have hfix : ∀ (j b : Nat), ι[j]? = some b → ι'[j]? = some b := k2.pre
      have hlg := hI.long
      have hpl := lt_of_some m5
      refine ⟨by simp [hI.size], hcl', k1, hI.ext.trans k2, henv ι' _ w' _ k2 (fun t hd q1 q2 => by cases hd), fun j hj => ?_, by simp; omega, fun _ => ⟨m1, ⟨b, m2, hfix _ _ m3⟩, c1, by rw [List.getElem?_set_self hpl], rfl, fun _ => rfl⟩, fun hl => by
        rw [hlist, if_neg (fun e => ne_ij21 e)] at hl
        obtain ⟨r1, ⟨b', r2, r3⟩, cs', r5, r6, r7⟩ := hI.n2 hl
        refine ⟨r1, ⟨b', r2, hfix _ _ r3⟩, cs', ?_, r6, fun hj => ?_⟩
        · rw [List.getElem?_set_ne (hI.ne hl1 hl)]; exact r5
        · rw [hlist, if_neg (fun e => hij.2.1 e.symm)] at hj; exact r7 hj, fun q1 q2 => ?_, hps _, hpd _ k2, hrd k2⟩
      · rw [List.getElem?_set_ne (by omega)]; exact hI.old j hj
      · rw [hlist, if_neg (fun e => ne_ij11 e)] at q1
        rw [hlist, if_neg (fun e => ne_ij21 e)] at q2
        exact hI.ne q1 q2
    · subst i
      have eo : o = os2 := by rw [ho] at hs2; exact Option.some.inj hs2
      subst eo
      obtain ⟨d0, op0, ty0, po0, af0, g0⟩ := o
      simp only at hs2o hs2d hs2g hso
      subst hs2o hs2d hs2g
      injection hso with e1 e2 e3
      injection e2 with e2
      injection e3 with e3
      subst e1 e2 e3
      have hl2 : listed.getD i2 false = true := before i2 hr2
      obtain ⟨m1, ⟨b, m2, m3⟩, cs, m5, m6, m7⟩ := hI.n2 hl2
      have hR := allR (.d (.lit (a.tmps.getD t1 undef))) (.optr p2 0) (.d (.lit _)) (by rw [m2]; exact .optr m3)
      have hlks := hlook s2 (mem_looks (by simp [Op.operands]))
      have hg : guardX ops env0 (⟨none, .store T2 (.tmp t2) (.tmp s2), ty0, po0, af0, none⟩ : Oper) = some true := rfl
      rw [if_pos (by rw [guardX_sound hR0 hg])]
      have hcl2 : cellsX (E j2 s2) = c2 := by rw [hsc, Nat.zero_add]; exact hc2
      generalize hev' : (fun t => if t = t1 then XV.d (.lit (a.tmps.getD t1 undef)) else if t = t2 then XV.optr p2 0 else envL ops e0 X (fun j => listed.getD j false) t) = env' at hR
      have hRR : ∀ t, XRep w ι (Forb M ι σ) (a.tmps.getD t undef) (env' t) := fun t => by rw [← hev']; exact hR t
      have ea : env' t2 = .optr p2 0 := by rw [← hev']; simp [Ne.symm hij.2.2.1]
      have es : env' s2 = E j2 s2 := by rw [← hev']; simp only; rw [if_neg hij.2.2.2.2.2.1, if_neg hij.2.2.2.2.2.2]; exact hlks
      have hev : Ev P ⟨none, .store T2 (.tmp t2) (.tmp s2), ty0, po0, af0, none⟩ ⟨σ, env'⟩ undefX (σ.set p2 ⟨splice cs 0 (cellsX (E j2 s2)), 0⟩) 2 :=
        K.storeN (kn := [(t2, .optr p2 0), (s2, E j2 s2)]) (by simp [evK, look]) (by simp [evK, look, hij.2.2.2.2.2.2]) m5 (by rw [hcl2]; omega) (by rw [hcl2]; exact hone2) (by rw [hcl2]; exact hsz2) env' (fun t x h => by
          simp only [look] at h
          split at h
          · rename_i e; subst e; cases h; exact ea
          · split at h
            · rename_i e; subst e; cases h; exact es
            · cases h)
      rw [hcl2, splice_all m6] at hev
      refine hev.wp hI.mem hRR fun ι' v w' k1 k2 k3 => hK ι' (σ.set p2 ⟨c2, 0⟩) p1 p2 _ w' ?_
      have hfix : ∀ (j b : Nat), ι[j]? = some b → ι'[j]? = some b := k2.pre
      have hlg := hI.long
      have hpl := lt_of_some m5
      refine ⟨by simp [hI.size], hcl', k1, hI.ext.trans k2, henv ι' _ w' _ k2 (fun t hd q1 q2 => by cases hd), fun j hj => ?_, by simp; omega, fun hl => by
        rw [hlist, if_neg (fun e => ne_ij12 e)] at hl
        obtain ⟨r1, ⟨b', r2, r3⟩, cs', r5, r6, r7⟩ := hI.n1 hl
        refine ⟨r1, ⟨b', r2, hfix _ _ r3⟩, cs', ?_, r6, fun hj => ?_⟩
        · rw [List.getElem?_set_ne (Ne.symm (hI.ne hl hl2))]; exact r5
        · rw [hlist, if_neg (fun e => hij.2.1 e)] at hj; exact r7 hj, fun _ => ⟨m1, ⟨b, m2, hfix _ _ m3⟩, c2, by rw [List.getElem?_set_self hpl], rfl, fun _ => rfl⟩, fun q1 q2 => ?_, hps _, hpd _ k2, hrd k2⟩
      · rw [List.getElem?_set_ne (by omega)]; exact hI.old j hj
      · rw [hlist, if_neg (fun e => ne_ij12 e)] at q1
        rw [hlist, if_neg (fun e => ne_ij22 e)] at q2
        exact hI.ne q1 q2

theorem wpV_of {E : Nat → Nat → XV} {F : Nat → Nat} (hst : ∀ (i : Nat) (o : Oper), ops[i]? = some o → StepsV P n ops σ0 C E X F 0 i o) (hE : E 0 = e0) (hok : okV ops i1 j1 i2 j2 t1 t2 = true)
    (h1 : NewV P ops i1 j1 t1 s1 c1) (h2 : NewV P ops i2 j2 t2 s2 c2) (hc1 : C j1 = c1) (hc2 : C j2 = c2) (hij : i1 ≠ i2 ∧ j1 ≠ j2 ∧ t1 ≠ t2 ∧ s1 ≠ t1 ∧ s1 ≠ t2 ∧ s2 ≠ t1 ∧ s2 ≠ t2)
    (hF : ∀ (i : Nat) (o : Oper), ops[i]? = some o → (F i = 3 → i = i1 ∨ i = i2) ∧ (F i = 2 → i = j1 ∨ i = j2) ∧ (F i < 2 → i ≠ i1 ∧ i ≠ i2 ∧ i ≠ j1 ∧ i ≠ j2)) {Q : Exit → Act → World → Prop}
    (hq : ∀ (ι : List Nat) (σ : List VObj) (p1 p2 : Nat) (a : Act) (w : World), InvV P M W0 Cx n ops σ0 e0 X i1 j1 i2 j2 t1 t2 c1 c2 ι0 w0 (Array.replicate ops.size true) ι σ p1 p2 a w → Q .normal a w) :
    ∀ (fuel : Nat) (listed : Array Bool) (ι : List Nat) (σ : List VObj) (p1 p2 : Nat) (a : Act) (w : World), InvV P M W0 Cx n ops σ0 e0 X i1 j1 i2 j2 t1 t2 c1 c2 ι0 w0 listed ι σ p1 p2 a w →
      ops.size ≤ fuel + (List.range ops.size).countP (fun j => listed.getD j false) → wpAnyIn (FR Cx.ro) 0 P .any ops Q fuel listed a w := by
  have hokd : okDraw ops (fun _ => 0) = true := by unfold okV at hok; simp only [Bool.and_eq_true] at hok; exact hok.1.1
  have full : ∀ (listed : Array Bool), listed.size = ops.size → (∀ i, i < ops.size → listed.getD i false = true) → listed = Array.replicate ops.size true := by
    intro listed hs hall
    refine Array.ext (by simp [hs]) fun i h1 h2 => ?_
    have := hall i (by omega)
    simp [Array.getD_eq_getD_getElem?, h1] at this
    simp [this]
  intro fuel
  induction fuel with
  | zero =>
    intro listed ι σ p1 p2 a w hI hc
    have hall := getElem?_range_all (N := ops.size) (f := fun j => listed.getD j false) (by omega)
    refine ⟨?_, hq ι σ p1 p2 a w (full listed hI.size hall ▸ hI)⟩
    cases hr : Region.ready .any ops listed with
    | nil => rfl
    | cons x xs =>
      obtain ⟨o, ho, hu, _⟩ := mem_ready (i := x) (by rw [hr]; simp) hI.size
      have := hall x (Array.getElem?_eq_some_iff.1 ho).1
      rw [this] at hu; cases hu
  | succ fuel ih =>
    intro listed ι σ p1 p2 a w hI hc
    refine ⟨fun hr => ?_, fun i hi => ?_⟩
    · exact hq ι σ p1 p2 a w (full listed hI.size (ready_nil hokd hI.size hr) ▸ hI)
    · obtain ⟨o, ho, hu, hre⟩ := mem_ready hi hI.size
      have hil := (Array.getElem?_eq_some_iff.1 ho).1
      refine hI.next hst hE hok h1 h2 hc1 hc2 hij hF ho hu hre fun ι' σ' p1' p2' a' w' hI' => ?_
      refine ih _ ι' σ' p1' p2' a' w' hI' ?_
      have := countP_set (fun j => listed.getD j false) (fun j => (listed.setIfInBounds i true).getD j false) i hu (by
        have : i < listed.size := by rw [hI.size]; exact hil
        simp [this]) (fun j hj => by
        simp only [Array.getD_eq_getD_getElem?]
        rw [Array.getElem?_setIfInBounds_ne (by omega)]) (List.range ops.size) List.nodup_range (by simpa using hil)
      omega
end

def KTV (P : Program) (n : Nat) (ops : Array Oper) (σ : List VObj) (C : Nat → List XV) (k : Nat) (l : List Oper) (kn : Kn) (R : List Nat → Kn → Prop) : Prop :=
  ∀ env, Agree kn env → ∃ (fls : List Nat) (e' : Nat → XV) (kn' : Kn), TrV P n ops σ C k l env fls e' ∧ Agree kn' e' ∧ R fls kn'

section
variable {P : Program} {M : Nat → Prop} {W0 : World} {n : Nat} {ops : Array Oper} {σ : List VObj} {C : Nat → List XV} {k : Nat} {l : List Oper} {o : Oper} {kn : Kn}
theorem KTV.nil {R : List Nat → Kn → Prop} (h : R [] kn) : KTV P n ops σ C k [] kn R := fun env he => ⟨[], env, kn, .nil, he, h⟩
theorem KTV.read {R : List Nat → Kn → Prop} {x : XV} {fl : Nat} (hg : guardK ops kn o = some true) (hd : dstOk n o.dst = true) (he : KEv P o σ kn x σ fl) (hf : fl < 2) (h : KTV P n ops σ C (k + 1) l (extK o.dst x kn) (fun fls kn' => R (fl :: fls) kn')) : KTV P n ops σ C k (o :: l) kn R := fun env ha => by
  obtain ⟨fls, e', kn', h1, h2, h3⟩ := h _ (ha.ext o.dst x)
  exact ⟨_, e', kn', .read (guardK_X ha hg) (he env ha) hf hd h1, h2, h3⟩
theorem KTV.make {R : List Nat → Kn → Prop} (hd : dstOk n o.dst = true) (h : KTV P n ops σ C (k + 1) l (extK o.dst undefX kn) (fun fls kn' => R (3 :: fls) kn')) : KTV P n ops σ C k (o :: l) kn R := fun env ha => by
  obtain ⟨fls, e', kn', h1, h2, h3⟩ := h _ (ha.ext o.dst undefX)
  exact ⟨_, e', kn', .make hd h1, h2, h3⟩
theorem KTV.put {R : List Nat → Kn → Prop} {T : TypeId} {t s : Tmp} {xv : XV} (ho : o.op = .store T (.tmp t) (.tmp s)) (hx : look kn s = some xv) (hc : cellsX xv = C k) (hd : o.dst = none) (h : KTV P n ops σ C (k + 1) l kn (fun fls kn' => R (2 :: fls) kn')) : KTV P n ops σ C k (o :: l) kn R := fun env ha => by
  obtain ⟨fls, e', kn', h1, h2, h3⟩ := h _ ha
  exact ⟨_, e', kn', .put ho (ha s xv hx) hc hd h1, h2, h3⟩

def okF (size i1 j1 i2 j2 : Nat) (fls : List Nat) : Bool := (List.range size).all fun i =>
  (!(fls.getD i 0 == 3) || i == i1 || i == i2) && (!(fls.getD i 0 == 2) || i == j1 || i == j2) && (!(decide (fls.getD i 0 < 2)) || (i != i1 && i != i2 && i != j1 && i != j2))

/-- x, y := a, b, where x and y are variables in memory. -/
theorem KC.drawV (hm : P.follows .mixedOrders = true) {rid i1 j1 i2 j2 : Nat} {t1 t2 s1 s2 : Tmp} {c1 c2 : List XV} (h1 : NewV P ops i1 j1 t1 s1 c1) (h2 : NewV P ops i2 j2 t2 s2 c2) (hc1 : C j1 = c1) (hc2 : C j2 = c2)
    (hij : i1 ≠ i2 ∧ j1 ≠ j2 ∧ t1 ≠ t2 ∧ s1 ≠ t1 ∧ s1 ≠ t2 ∧ s2 ≠ t1 ∧ s2 ≠ t2) (hok : okV ops i1 j1 i2 j2 t1 t2 = true) {T : Exit → List VObj → Kn → Prop}
    (h : KTV P n ops σ C 0 ops.toList kn (fun fls kn' => okF ops.size i1 j1 i2 j2 fls = true ∧ ∀ (σ' : List VObj) (p q : Nat), σ.length ≤ p → σ.length ≤ q → p ≠ q → σ'[p]? = some ⟨c1, 0⟩ → σ'[q]? = some ⟨c2, 0⟩ → (∀ j, j < σ.length → σ'[j]? = σ[j]?) → σ.length ≤ σ'.length →
      T .normal σ' ((t1, .optr p 0) :: (t2, .optr q 0) :: kn'))) : KC P M W0 n (.region rid ops true) σ kn T := fun env ha => by
  obtain ⟨fls, e', kn', htr, ha', hfl, hT⟩ := h env ha
  obtain ⟨E, X, hE0, hE1, hst⟩ := htr.fns
  have hst' : ∀ (i : Nat) (o : Oper), ops[i]? = some o → StepsV P n ops σ C E X (fun i => fls.getD i 0) 0 i o := fun i o ho => hst i o (by simpa using ho)
  have hokd : okDraw ops (fun _ => 0) = true := by unfold okV at hok; simp only [Bool.and_eq_true] at hok; exact hok.1.1
  intro Cx ι a w hf Q hq
  have hmem : Mem M W0 ι σ { w with drawn := w.drawn + 1 } ∧ Ext M ι σ w ι σ { w with drawn := w.drawn + 1 } := hf.mem.grown (Below.drew (Below.refl _ _))
  obtain ⟨T1, z1, oa1, os1, ha1, ha1o, ha1d, ha1g, hz1, hz1l, hs1, hs1o, hs1d, hs1g, hsz1, hone1⟩ := (show NewV P ops i1 j1 t1 s1 c1 from h1)
  obtain ⟨T2, z2, oa2, os2, ha2, ha2o, ha2d, ha2g, hz2, hz2l, hs2, hs2o, hs2d, hs2g, hsz2, hone2⟩ := (show NewV P ops i2 j2 t2 s2 c2 from h2)
  have li1 := (Array.getElem?_eq_some_iff.1 ha1).1
  have li2 := (Array.getElem?_eq_some_iff.1 ha2).1
  have lj1 := (Array.getElem?_eq_some_iff.1 hs1).1
  have lj2 := (Array.getElem?_eq_some_iff.1 hs2).1
  refine wpIn_region_any hm (wpV_of (M := M) (W0 := W0) (ι0 := ι) (w0 := { w with drawn := w.drawn + 1 }) hst' hE0 hok h1 h2 hc1 hc2 hij (fun i o ho => ?_) (fun ι' σ' p1 p2 a' w' hI => ?_) ops.size _ ι σ 0 0 a _ ?_ (by omega))
  · have hi := (Array.getElem?_eq_some_iff.1 ho).1
    have hh := List.all_eq_true.1 hfl i (by simpa using hi)
    show (fls.getD i 0 = 3 → i = i1 ∨ i = i2) ∧ (fls.getD i 0 = 2 → i = j1 ∨ i = j2) ∧ (fls.getD i 0 < 2 → i ≠ i1 ∧ i ≠ i2 ∧ i ≠ j1 ∧ i ≠ j2)
    generalize fls.getD i 0 = v at hh ⊢
    simp at hh
    exact ⟨fun h => by omega, fun h => by omega, fun h => by omega⟩
  · obtain ⟨m1, ⟨b1, m2, m3⟩, cs1, m4, _, m5⟩ := hI.n1 (by simp [li1])
    obtain ⟨r1, ⟨b2, r2, r3⟩, cs2, r4, _, r5⟩ := hI.n2 (by simp [li2])
    have m5 := m5 (by simp [lj1])
    have r5 := r5 (by simp [lj2])
    subst m5 r5
    have hne := hI.ne (by simp [li1]) (by simp [li2])
    refine hq .normal ι' ⟨σ', fun t => if t = t1 then .optr p1 0 else if t = t2 then .optr p2 0 else e' t⟩ a' w' ⟨_, ?_, hT σ' p1 p2 m1 r1 hne m4 r4 hI.old hI.long⟩ ⟨hI.mem, fun t => ?_, hI.tsize, hI.defers, hI.round⟩ (hmem.2.trans hI.ext)
    · intro t x hx
      simp only [look] at hx
      simp only
      split at hx
      · rename_i e; rw [if_pos e]; exact Option.some.inj hx
      · rename_i e1
        rw [if_neg e1]
        split at hx
        · rename_i e; rw [if_pos e]; exact Option.some.inj hx
        · rename_i e2
          rw [if_neg e2]
          exact ha' t x hx
    · simp only
      split
      · rename_i e; subst e; rw [m2]; exact .optr m3
      · rename_i e1
        split
        · rename_i e; subst e; rw [r2]; exact .optr r3
        · rename_i e2
          have e : envL ops env X (fun j => (Array.replicate ops.size true).getD j false) t = e' t := by
            rw [← hE1]
            by_cases hex : ∃ (j : Nat) (q : Oper), ops[j]? = some q ∧ q.dst = some t
            · obtain ⟨j, q, hq, hd⟩ := hex
              have hj := (Array.getElem?_eq_some_iff.1 hq).1
              rw [envL_some hokd hq hd (by simp [hj]), envV_some hst' hokd hq hd _ (by simp) (by simpa using hj)]
            · rw [envL_none (fun k r hr hl hrd => hex ⟨k, r, hr, hrd⟩), envV_none hst' _ (by simp) (fun k r hk hr hrd => hex ⟨k, r, hr, hrd⟩), hE0]
          rw [← e]; exact hI.env t e1 e2
  · refine ⟨by simp, fun i o hi ho e he hb => ?_, hmem.1, .refl _ _ _ _, fun t _ _ => ?_, fun _ _ => rfl, Nat.le_refl _, fun hl => by simp [li1] at hl, fun hl => by simp [li2] at hl, fun hl => by simp [li1] at hl, hf.size, hf.defers.ext hmem.2, hf.round⟩
    · have hil := (Array.getElem?_eq_some_iff.1 ho).1
      simp [hil] at hi
    · rw [envL_none (fun j p hp hl _ => by have := (Array.getElem?_eq_some_iff.1 hp).1; simp [this] at hl)]
      exact (hf.env t).ext hmem.2
end
end Go.Vm

end
section
/-
  DATAFLOW GRAPHS: with twice as many loads everywhere all is as before.
-/
namespace Go.Fl
def dbl (l : LN) : LN := ⟨l.f, l.t, 2 * l.g, 2 * l.k, 2 * l.s⟩
theorem dbl_step (p : Rat6 × Bool) (l : LN) : stepR p (dbl l) = stepR p l := by
  unfold stepR
  simp only [dbl, timesF_twice]
theorem dbl_pass (L : List LN) (R : Rat6) : passR (L.map dbl) R = passR L R := by
  unfold passR
  rw [List.foldl_map]
  congr 1
  funext p l
  exact dbl_step p l
theorem dbl_rates (L : List LN) : ∀ (n : Nat) (R : Rat6), ratesF (L.map dbl) n R = ratesF L n R
  | 0, _ => rfl
  | n + 1, R => by simp only [ratesF, dbl_pass, dbl_rates L n]
theorem dbl_bal (L : List LN) (R : Rat6) : balB (L.map dbl) R = balB L R := by
  unfold balB
  rw [List.all_map]
  congr 1
  funext l
  simp only [Function.comp, dbl, timesF_twice]
theorem dbl_fold (L : List LN) (N : Nat) : ∀ i, repFold (L.map dbl) N i = repFold L N i
  | 0 => rfl
  | i + 1 => by
    simp only [repFold, dbl_fold L N i]
    congr 1
    funext q
    simp only [repStep, dbl_rates, dbl_bal]
theorem dbl_load (l : LN) (X : Nat → Nat) : loadZ (dbl l) X = 2 * loadZ l X := by
  unfold loadZ
  simp only [dbl, Int.natCast_mul, Int.mul_assoc, Int.mul_add, Int.mul_sub]
  rfl
theorem dbl_wait (X : Nat → Nat) (a : Nat) (l : LN) : waitB X a (dbl l) = waitB X a l := by
  unfold waitB
  rw [dbl_load]
  have e1 : (dbl l).t = l.t := rfl
  have e2 : ((dbl l).k : Int) = 2 * (l.k : Int) := by simp [dbl]
  rw [e1, e2]
  congr 1
  exact decide_eq_decide.2 (by omega)
theorem dbl_can (L : List LN) (X : Nat → Nat) (a : Nat) : canB (L.map dbl) X a = canB L X a := by
  unfold canB
  rw [List.all_map]
  congr 1
  funext l
  simp only [Function.comp, dbl_wait]
theorem dbl_fire (L : List LN) (q X : Nat → Nat) (a : Nat) : fireB (L.map dbl) q X a = fireB L q X a := by unfold fireB; rw [dbl_can]
theorem dbl_nxt (L : List LN) (N : Nat) (q X : Nat → Nat) : nxt (L.map dbl) N q X = nxt L N q X := by
  unfold nxt
  congr 1
  funext a
  exact dbl_fire L q X a
theorem dbl_greedy (L : List LN) (N : Nat) (q : Nat → Nat) : ∀ (n : Nat) (X : Nat → Nat), greedy (L.map dbl) N q n X = greedy L N q n X
  | 0, X => rfl
  | n + 1, X => by
    simp only [greedy, dbl_nxt]
    split
    · rfl
    · congr 1
      funext a
      rw [dbl_greedy L N q n]
/-- Schedules are compared from the front: the first one comes before every other. -/
theorem greedy_first {L : List LN} {N : Nat} {q : Nat → Nat} (hN : N ≤ 6) : ∀ (n : Nat) (X : Nat → Nat) (s : List Nat) (o : List Int) (Y : Nat → Nat), greedy L N q n X = some s → runL L N q o X = some Y → eqB Y q = true → (∀ i, i < 6 → X i ≤ q i) →
    zs s = o ∨ ∃ p a b r r', zs s = p ++ a :: r ∧ o = p ++ b :: r' ∧ a < b := by
  intro n
  induction n with
  | zero =>
    intro X s o Y hg hr he hX
    simp only [greedy] at hg
    split at hg
    · rename_i hxe
      cases hg
      cases o with
      | nil => exact .inl rfl
      | cons b o =>
        exfalso
        have h1 := (runL_tot hN hr).1
        have h2 := eqB_iff.1 hxe
        have h3 := eqB_iff.1 he
        unfold tot at h1
        rw [h2 0 (by omega), h2 1 (by omega), h2 2 (by omega), h2 3 (by omega), h2 4 (by omega), h2 5 (by omega), h3 0 (by omega), h3 1 (by omega), h3 2 (by omega), h3 3 (by omega), h3 4 (by omega), h3 5 (by omega)] at h1
        simp at h1
    · cases hg
  | succ n ih =>
    intro X s o Y hg hr he hX
    simp only [greedy] at hg
    split at hg
    · rename_i hxe
      cases hg
      cases o with
      | nil => exact .inl rfl
      | cons b o =>
        exfalso
        have h1 := (runL_tot hN hr).1
        have h2 := eqB_iff.1 hxe
        have h3 := eqB_iff.1 he
        unfold tot at h1
        rw [h2 0 (by omega), h2 1 (by omega), h2 2 (by omega), h2 3 (by omega), h2 4 (by omega), h2 5 (by omega), h3 0 (by omega), h3 1 (by omega), h3 2 (by omega), h3 3 (by omega), h3 4 (by omega), h3 5 (by omega)] at h1
        simp at h1
    · rename_i hxe
      cases hn : nxt L N q X with
      | none => rw [hn] at hg; cases hg
      | some a =>
        rw [hn] at hg
        simp only [Option.bind_some] at hg
        cases hgr : greedy L N q n (bump X a) with
        | none => rw [hgr] at hg; cases hg
        | some r =>
          rw [hgr] at hg
          simp only [Option.map_some, Option.some.injEq] at hg
          subst hg
          obtain ⟨ha, hfa⟩ := nxt_some hn
          cases o with
          | nil => simp only [runL, Option.some.injEq] at hr; subst hr; exact absurd he hxe
          | cons b o =>
            simp only [runL] at hr
            split at hr
            · rename_i hb
              by_cases hab : (a : Int) = b
              · subst hab
                rw [Int.toNat_natCast] at hr
                have hfb := fireB_iff.1 hfa
                rcases ih (bump X a) r o Y hgr hr he (fun i hi => by
                  unfold bump; split
                  · rename_i e; subst e; omega
                  · exact hX i hi) with h | ⟨p, a', b', r1, r2, h1, h2, h3⟩
                · left; simp only [zs, List.map_cons] at h ⊢; rw [h]
                · right; exact ⟨(a : Int) :: p, a', b', r1, r2, by simp only [zs, List.map_cons] at h1 ⊢; rw [h1]; rfl, by rw [h2]; rfl, h3⟩
              · right
                refine ⟨[], (a : Int), b, zs r, o, rfl, rfl, ?_⟩
                unfold nxt at hn
                rw [List.find?_eq_some_iff_getElem] at hn
                obtain ⟨_, i, hi, he1, hlt⟩ := hn
                simp at he1
                subst he1
                rcases Int.lt_or_le i b with h | h
                · exact h
                · have := hlt b.toNat (by omega)
                  simp only [List.getElem_range] at this
                  rw [hb.2.2] at this; cases this
            · cases hr
end Go.Fl

end
section
/-
  VALUES WITHOUT ADDRESSES, 33: a loop over a function: its record as an object, one round, the statement; lists of operations whose calls are known by a relation.
-/
namespace Go.Vm
open Go.RowKit

section
variable {P : Program} {M : Nat → Prop} {W0 w : World} {ι : List Nat} {σ : List VObj}

end
end Go.Vm

end
section
/-
  VALUES WITHOUT ADDRESSES, 34: operations whose result is known by a relation; iterators; a walk through a loop over a function.
-/
namespace Go.Vm
open Go.RowKit

section
variable {P : Program} {M : Nat → Prop} {W0 : World} {n : Nat} {ops : Array Oper} {l : List Oper} {o : Oper} {σ σ' : List VObj} {kn : Kn}

/-- A call of yield whose result is known by a relation. -/
theorem WpL.yld {s : St} {T : St → Prop} {callee : Operand} {args : Array Operand} {ts : Array TypeId} {id : Nat} {Q : List VObj → Bool → Prop} (hg : guardX ops s.env o = some true)
    (ho : o.op = .call ⟨.value callee, args, ts⟩) (hv : evalX s.env callee = .yl id) (_ : id < s.σ.length) (hc : InRound P M W0 id s.σ (args.toList.map (evalX s.env)) Q)
    (hd : dstOk n o.dst = true) (h : ∀ σ' b, Q σ' b → WpL P M W0 n ops l ⟨σ', putE s.env o.dst (.d (.lit (.bool b)))⟩ T) : WpL P M W0 n ops (o :: l) s T := by
  intro C ι a w hfr R hq
  unfold wpListIn
  rw [if_pos (by rw [guardX_sound hfr.env hg])]
  have e1 := evalX_rep hfr.env callee
  rw [hv] at e1
  generalize hcv : a.eval callee = cv at e1
  cases e1 with
  | yl hb =>
    rename_i lb
    obtain ⟨a1, a2⟩ := args_rep (args := args) (vs := #[]) (us := #[]) (first := []) (caps := []) hfr.env rfl rfl (by simp) (by simp)
    obtain ⟨fn, tmps, assign, body, k1, k2⟩ := hc ι w lb (args.map a.eval).toList hfr.mem hb (by simp) (fun i v x h1 h2 => a2 i v x (by simpa using h1) (by simpa using h2))
    rw [Array.toArray_toList] at k1
    have hrun : (execOp a.eval o).run P w = .ok (.round lb fn tmps assign body) w := by
      simp [execOp, ho, resolve, hcv, Deferred.ofValue, invoke, k1]
    refine ⟨fun _ _ => trivial, ?_⟩
    rw [semAt_of hrun (by simp)]
    refine ⟨fun h => Bool.noConfusion (show false = true from h), ?_⟩
    refine RoundIn.mono (show RoundIn (FR C.ro) 0 P lb fn tmps assign body w _ from k2) fun e w' => ?_
    rintro ⟨ι', σ', b, rfl, h1, h2, h3⟩
    exact h σ' b h3 C ι' _ w' (hfr.put hd h1 h2 (.d (.lit _))) R fun ι'' s' a' w'' q1 q2 q3 => hq ι'' s' a' w'' q1 q2 (h2.trans q3)

/-- A list of operations, the results known by relations. -/
def KL (P : Program) (M : Nat → Prop) (W0 : World) (n : Nat) (ops : Array Oper) (l : List Oper) (σ : List VObj) (kn : Kn) (T : List VObj → Kn → Prop) : Prop :=
  ∀ env, Agree kn env → WpL P M W0 n ops l ⟨σ, env⟩ (fun s => ∃ kn', Agree kn' s.env ∧ T s.σ kn')

theorem KL.nil {T : List VObj → Kn → Prop} (h : T σ kn) : KL P M W0 n ops [] σ kn T := fun _ he => .nil ⟨kn, he, h⟩

theorem KL.step {T : List VObj → Kn → Prop} {x : XV} {fl : Nat} (hg : guardK ops kn o = some true) (hd : dstOk n o.dst = true) (he : KEv P o σ kn x σ' fl)
    (h : KL P M W0 n ops l σ' (extK o.dst x kn) T) : KL P M W0 n ops (o :: l) σ kn T :=
  fun env ha => .step (s := ⟨σ, env⟩) (guardK_X ha hg) (he env ha) hd (h _ (ha.ext o.dst x))

theorem KL.skip {T : List VObj → Kn → Prop} (hg : guardK ops kn o = some false) (hd : dstOk n o.dst = true) (h : KL P M W0 n ops l σ (extK o.dst undefX kn) T) : KL P M W0 n ops (o :: l) σ kn T :=
  fun env ha => .skip (s := ⟨σ, env⟩) (guardK_X ha hg) hd (h _ (ha.ext o.dst undefX))

/-- A call among the caller's objects, known by a relation. -/
theorem KL.call {T : List VObj → Kn → Prop} {c : Operand} {v : XV} {args : Array Operand} {ts : Array TypeId} {f : FuncId} {first caps xs : List XV} {R : List VObj → XV → Prop} {dst : Option Tmp} {ty : TypeId} {pos : String} {af : Array Edge} {g : Option (Nat × Bool)}
    (hg : guardK ops kn ⟨dst, .call ⟨.value c, args, ts⟩, ty, pos, af, g⟩ = some true) (hd : dstOk n dst = true) (hv : evK kn c = some v) (hf : asFn v = some (f, first, caps)) (ha : args.toList.mapM (evK kn) = some xs) (hp : plainFn P f = true)
    (hc : InCall P M W0 f σ (first ++ xs ++ caps) R) (h : ∀ σ' x, R σ' x → KL P M W0 n ops l σ' (extK dst x kn) T) : KL P M W0 n ops (⟨dst, .call ⟨.value c, args, ts⟩, ty, pos, af, g⟩ :: l) σ kn T :=
  fun env he => .inl (s := ⟨σ, env⟩) (guardK_X he hg) rfl (by show asFn (evalX env c) = _; rw [evK_evalX he hv]; exact hf) hp (by show InCall P M W0 f σ (first ++ args.toList.map (evalX env) ++ caps) R; rw [mapM_evK he ha]; exact hc) hd
    (fun σ' x hr => h σ' x hr _ (he.ext dst x))

/-- A call of yield, known by a relation. -/
theorem KL.yld {T : List VObj → Kn → Prop} {c : Operand} {id : Nat} {args : Array Operand} {ts : Array TypeId} {xs : List XV} {Q : List VObj → Bool → Prop} {dst : Option Tmp} {ty : TypeId} {pos : String} {af : Array Edge} {g : Option (Nat × Bool)}
    (hg : guardK ops kn ⟨dst, .call ⟨.value c, args, ts⟩, ty, pos, af, g⟩ = some true) (hd : dstOk n dst = true) (hv : evK kn c = some (.yl id)) (hid : id < σ.length) (ha : args.toList.mapM (evK kn) = some xs)
    (hc : InRound P M W0 id σ xs Q) (h : ∀ σ' b, Q σ' b → KL P M W0 n ops l σ' (extK dst (.d (.lit (.bool b))) kn) T) : KL P M W0 n ops (⟨dst, .call ⟨.value c, args, ts⟩, ty, pos, af, g⟩ :: l) σ kn T :=
  fun env he => .yld (s := ⟨σ, env⟩) (guardK_X he hg) rfl (evK_evalX he hv) hid (by show InRound P M W0 id σ (args.toList.map (evalX env)) Q; rw [mapM_evK he ha]; exact hc) hd
    (fun σ' b hr => h σ' b hr _ (he.ext dst _))

theorem KC.regionL {id : Nat} {T : Exit → List VObj → Kn → Prop} (h : KL P M W0 n ops ops.toList σ kn (T .normal)) : KC P M W0 n (.region id ops false) σ kn T :=
  fun env he => .region ((h env he).mono fun _ ⟨k, h1, h2⟩ => ⟨k, h1, h2⟩)

/-- A body's walk gives what the call does among the caller's objects, known by a relation. -/
theorem inCall_K {f : FuncId} {fn : Func} {c : Code} {args : List XV} {R : List VObj → XV → Prop} (hf : P.funcs[f]? = some fn) (hb : fn.body = some c) (hn : args.length ≤ fn.ntmps)
    (h : KC P M W0 fn.ntmps c σ (enterK 0 args) (fun e σ2 kn => (e = .ret ∨ e = .normal) ∧ ∃ x, resK P fn σ2 kn = some x ∧ R σ2 x)) : InCall P M W0 f σ args R :=
  inCall_of hf hb hn ((h _ (agree_enter σ args)).mono fun _ _ ⟨_, h1, h2, x, h3, h4⟩ => ⟨h2, x, resK_X h1 h3, h4⟩)

end
end Go.Vm

end
section
/-
  VALUES WITHOUT ADDRESSES: statements whose order is open, where a call writes only such objects as the others do not read.
-/
namespace Go.Vm
open Go.RowKit

/-- All but some objects are as they were. -/
def KeepsZ (Z : Nat → Prop) (σ σ2 : List VObj) : Prop := ∀ (id : Nat) (ob : VObj), ¬ Z id → σ[id]? = some ob → ∃ ob', σ2[id]? = some ob' ∧ ob'.cells = ob.cells ∧ (ob'.mode < 2 ↔ ob.mode < 2)
theorem Keeps.z {Z : Nat → Prop} {σ σ2 : List VObj} (h : Keeps σ σ2) : KeepsZ Z σ σ2 := fun id ob _ ho => h id ob ho
theorem KeepsZ.refl {Z : Nat → Prop} (σ : List VObj) : KeepsZ Z σ σ := (Keeps.refl σ).z
theorem KeepsZ.trans {Z : Nat → Prop} {σ σ2 σ3 : List VObj} (h : KeepsZ Z σ σ2) (k : KeepsZ Z σ2 σ3) : KeepsZ Z σ σ3 := fun id ob hz ho => by
  obtain ⟨o2, a1, a2, a3⟩ := h id ob hz ho
  obtain ⟨o3, b1, b2, b3⟩ := k id o2 hz a1
  exact ⟨o3, b1, b2.trans a2, b3.trans a3⟩

structure StepsZ (P : Program) (n : Nat) (ops : Array Oper) (Z : Nat → Prop) (S : Nat → St) (X : Nat → XV) (F G : Nat → Nat) (i : Nat) (o : Oper) : Prop where
  st : Steps' P n ops S X F i o
  rd : G i = 1 → ∀ y ∈ o.op.operands, ∀ id off, evalX (S i).env y = .optr id off → ¬ Z id
  one : G i = 1 → F i = 1
  wr : G i = 2 → KeepsZ Z (S i).σ (S (i + 1)).σ

section
variable {P : Program} {ops : Array Oper}
section
variable {Z : Nat → Prop} {n : Nat} {S : Nat → St} {X : Nat → XV} {F G : Nat → Nat} (hst : ∀ (i : Nat) (o : Oper), ops[i]? = some o → StepsZ P n ops Z S X F G i o)
include hst
end
variable {M : Nat → Prop} {W0 : World} {C : Ctx} {n : Nat} {Z : Nat → Prop} {G : Nat → Nat}

/-- A list of operations; which of them read what is kept, and which write only what is not. -/
inductive TrZ (P : Program) (n : Nat) (ops : Array Oper) (Z : Nat → Prop) : List Oper → St → List Nat → List Nat → St → Prop
  | nil {s : St} : TrZ P n ops Z [] s [] [] s
  | step {o : Oper} {l : List Oper} {s s' : St} {x : XV} {σ' : List VObj} {fl g : Nat} {fls gs : List Nat} (hg : guardX ops s.env o = some true) (he : Ev P o s x σ' fl) (hd : dstOk n o.dst = true)
      (hr : g = 1 → ∀ y ∈ o.op.operands, ∀ id off, evalX s.env y = .optr id off → ¬ Z id) (h1 : g = 1 → fl = 1) (hw : g = 2 → KeepsZ Z s.σ σ')
      (h : TrZ P n ops Z l ⟨σ', putE s.env o.dst x⟩ fls gs s') : TrZ P n ops Z (o :: l) s (fl :: fls) (g :: gs) s'
theorem TrZ.fns {l : List Oper} {s s' : St} {fls gs : List Nat} (h : TrZ P n ops Z l s fls gs s') : ∃ (S : Nat → St) (X : Nat → XV), S 0 = s ∧ S l.length = s' ∧ ∀ (i : Nat) (o : Oper), l[i]? = some o → StepsZ P n ops Z S X (fun i => fls.getD i 0) (fun i => gs.getD i 0) i o := by
  induction h with
  | @nil s => exact ⟨fun _ => s, fun _ => undefX, rfl, rfl, fun i o h => by simp at h⟩
  | @step o l s s' x σ' fl g fls gs hg he hd hr h1 hw h ih =>
    obtain ⟨S, X, h0, h2, h3⟩ := ih
    refine ⟨consF s S, consF x X, rfl, h2, fun i o' hi => ?_⟩
    cases i with
    | zero =>
      simp at hi; subst hi
      exact ⟨⟨hd, by show (S 0).env = _; rw [h0]; rfl, .inl ⟨hg, by show Ev P o s x (S 0).σ fl; rw [h0]; exact he⟩⟩, fun hg => hr (by simpa using hg), fun hg => by simpa using h1 (by simpa using hg),
        fun hg => by show KeepsZ Z s.σ (S 0).σ; rw [h0]; exact hw (by simpa using hg)⟩
    | succ i =>
      have := h3 i o' (by simpa using hi)
      exact ⟨⟨this.st.dst, this.st.env, this.st.ev⟩, fun hg => this.rd (by simpa using hg), fun hg => by simpa using this.one (by simpa using hg), fun hg => this.wr (by simpa using hg)⟩

/-- The walk over such a statement. -/
def KTZ (P : Program) (n : Nat) (ops : Array Oper) (Z : Nat → Prop) (l : List Oper) (σ : List VObj) (kn : Kn) (R : List Nat → List Nat → List VObj → Kn → Prop) : Prop :=
  ∀ env, Agree kn env → ∃ (fls gs : List Nat) (s' : St) (kn' : Kn), TrZ P n ops Z l ⟨σ, env⟩ fls gs s' ∧ Agree kn' s'.env ∧ R fls gs s'.σ kn'
variable {l : List Oper} {o : Oper} {σ σ' : List VObj} {kn : Kn}
theorem KTZ.nil {R : List Nat → List Nat → List VObj → Kn → Prop} (h : R [] [] σ kn) : KTZ P n ops Z [] σ kn R := fun _ he => ⟨[], [], _, kn, .nil, he, h⟩
theorem KTZ.step {R : List Nat → List Nat → List VObj → Kn → Prop} {x : XV} {fl : Nat} (hg : guardK ops kn o = some true) (hd : dstOk n o.dst = true) (he : KEv P o σ kn x σ' fl)
    (h : KTZ P n ops Z l σ' (extK o.dst x kn) (fun fls gs τ k => R (fl :: fls) (0 :: gs) τ k)) : KTZ P n ops Z (o :: l) σ kn R := by
  intro env ha
  obtain ⟨fls, gs, s', kn', h1, h2, h3⟩ := h (putE env o.dst x) (ha.ext o.dst x)
  exact ⟨fl :: fls, 0 :: gs, s', kn', .step (s := ⟨σ, env⟩) (guardK_X ha hg) (he env ha) hd (fun h => by cases h) (fun h => by cases h) (fun h => by cases h) h1, h2, h3⟩
/-- A load of what no other operation writes. -/
theorem KTZ.load {R : List Nat → List Nat → List VObj → Kn → Prop} {x : XV} {t : TypeId} {y : Operand} {dst : Option Tmp} {ty : TypeId} {pos : String} {af : Array Edge} {gd : Option (Nat × Bool)} {id off : Nat}
    (hg : guardK ops kn ⟨dst, .load t y, ty, pos, af, gd⟩ = some true) (hd : dstOk n dst = true) (hy : evK kn y = some (.optr id off)) (hz : ¬ Z id) (he : KEv P ⟨dst, .load t y, ty, pos, af, gd⟩ σ kn x σ 1)
    (h : KTZ P n ops Z l σ (extK dst x kn) (fun fls gs τ k => R (1 :: fls) (1 :: gs) τ k)) : KTZ P n ops Z (⟨dst, .load t y, ty, pos, af, gd⟩ :: l) σ kn R := by
  intro env ha
  obtain ⟨fls, gs, s', kn', h1, h2, h3⟩ := h (putE env dst x) (ha.ext dst x)
  refine ⟨1 :: fls, 1 :: gs, s', kn', .step (s := ⟨σ, env⟩) (guardK_X ha hg) (he env ha) hd (fun _ z hz' i o hi => ?_) (fun _ => rfl) (fun h => by cases h) h1, h2, h3⟩
  simp [Op.operands] at hz'
  subst hz'
  rw [evK_evalX ha hy] at hi
  cases hi
  exact hz
/-- A call that writes only such objects. -/
theorem KTZ.write {R : List Nat → List Nat → List VObj → Kn → Prop} {x : XV} (hg : guardK ops kn o = some true) (hd : dstOk n o.dst = true) (hk : KeepsZ Z σ σ') (he : KEv P o σ kn x σ' 2)
    (h : KTZ P n ops Z l σ' (extK o.dst x kn) (fun fls gs τ k => R (2 :: fls) (2 :: gs) τ k)) : KTZ P n ops Z (o :: l) σ kn R := by
  intro env ha
  obtain ⟨fls, gs, s', kn', h1, h2, h3⟩ := h (putE env o.dst x) (ha.ext o.dst x)
  exact ⟨2 :: fls, 2 :: gs, s', kn', .step (s := ⟨σ, env⟩) (guardK_X ha hg) (he env ha) hd (fun h => by cases h) (fun h => by cases h) (fun _ => hk) h1, h2, h3⟩
end
end Go.Vm

end
section
/-
  THE ALGEBRA OF TIMES, without any program: sums are maxima, products are sums; none is 'never'.
-/
namespace Go.Cy

abbrev O := Option Int

/-- a is at most u. -/
def Ub (a : O) (u : Int) : Prop := ∀ x, a = some x → x ≤ u

theorem ub_ext {a b : O} (h : ∀ u, Ub a u ↔ Ub b u) : a = b := by
  cases a with
  | none =>
    cases b with
    | none => rfl
    | some y => have := (h (y - 1)).1 (fun x hx => by cases hx) y rfl; omega
  | some x =>
    cases b with
    | none => have := (h (x - 1)).2 (fun x hx => by cases hx) x rfl; omega
    | some y =>
      have h1 := (h y).2 (fun z hz => by cases hz; omega) x rfl
      have h2 := (h x).1 (fun z hz => by cases hz; omega) y rfl
      rw [show x = y by omega]

def omax : O → O → O
  | none, b => b
  | a, none => a
  | some x, some y => some (max x y)
def oadd : O → O → O
  | some x, some y => some (x + y)
  | _, _ => none

theorem ub_max {a b : O} {u : Int} : Ub (omax a b) u ↔ Ub a u ∧ Ub b u := by
  cases a with
  | none => exact ⟨fun h => ⟨fun x hx => (by cases hx), h⟩, fun h => h.2⟩
  | some x =>
    cases b with
    | none => exact ⟨fun h => ⟨h, fun x hx => by cases hx⟩, fun h => h.1⟩
    | some y =>
      constructor
      · intro h
        have := h (max x y) rfl
        exact ⟨fun z hz => by cases hz; omega, fun z hz => by cases hz; omega⟩
      · intro ⟨h1, h2⟩ z hz
        have e1 := h1 x rfl
        have e2 := h2 y rfl
        cases hz; omega

/-- The greatest of f 0 .. f (n - 1). -/
def osup : Nat → (Nat → O) → O
  | 0, _ => none
  | n + 1, f => omax (osup n f) (f n)

theorem ub_sup {f : Nat → O} {u : Int} : ∀ {n : Nat}, Ub (osup n f) u ↔ ∀ k, k < n → Ub (f k) u
  | 0 => ⟨fun _ k h => by omega, fun _ x hx => by cases hx⟩
  | n + 1 => by
    rw [osup, ub_max, ub_sup]
    constructor
    · intro ⟨h1, h2⟩ k hk
      by_cases e : k = n
      · subst e; exact h2
      · exact h1 k (by omega)
    · intro h; exact ⟨fun k hk => h k (by omega), h n (by omega)⟩

/-- It is one of them. -/
theorem sup_some {f : Nat → O} {w : Int} : ∀ {n : Nat}, osup n f = some w → ∃ k, k < n ∧ f k = some w
  | 0, h => by cases h
  | n + 1, h => by
    rw [osup] at h
    cases ha : osup n f with
    | none =>
      rw [ha] at h
      exact ⟨n, by omega, by cases hb : f n <;> rw [hb] at h <;> exact h⟩
    | some x =>
      rw [ha] at h
      cases hb : f n with
      | none =>
        rw [hb] at h
        obtain ⟨k, hk, e⟩ := sup_some (f := f) (n := n) (ha.trans h)
        exact ⟨k, by omega, e⟩
      | some y =>
        rw [hb] at h
        simp only [omax, Option.some.injEq] at h
        by_cases hxy : x ≤ y
        · exact ⟨n, by omega, by rw [hb, ← h, Int.max_eq_right hxy]⟩
        · obtain ⟨k, hk, e⟩ := sup_some (f := f) (n := n) ha
          exact ⟨k, by omega, by rw [e, ← h, Int.max_eq_left (by omega)]⟩

theorem sup_none {f : Nat → O} {n : Nat} : osup n f = none ↔ ∀ k, k < n → f k = none := by
  constructor
  · intro h k hk
    cases hf : f k with
    | none => rfl
    | some x =>
      have h1 : Ub (osup n f) (x - 1) := by rw [h]; intro z hz; cases hz
      have := ub_sup.1 h1 k hk x hf; omega
  · intro h
    cases hs : osup n f with
    | none => rfl
    | some x => obtain ⟨k, hk, e⟩ := sup_some hs; rw [h k hk] at e; cases e

theorem sup_ge {f : Nat → O} {n k : Nat} {x : Int} (hk : k < n) (hf : f k = some x) : ∃ y, osup n f = some y ∧ x ≤ y := by
  cases hs : osup n f with
  | none => rw [sup_none.1 hs k hk] at hf; cases hf
  | some y =>
    have h1 : Ub (osup n f) y := by rw [hs]; intro z hz; cases hz; omega
    exact ⟨y, rfl, ub_sup.1 h1 k hk x hf⟩

theorem ub_add {a b : O} {u : Int} : Ub (oadd a b) u ↔ ∀ x y, a = some x → b = some y → x + y ≤ u := by
  constructor
  · intro h x y hx hy; subst hx hy; exact h _ rfl
  · intro h z hz
    cases a with
    | none => cases hz
    | some x => cases b with
      | none => cases hz
      | some y => cases hz; exact h x y rfl rfl
theorem add_some {a b : O} {w : Int} : oadd a b = some w ↔ ∃ x y, a = some x ∧ b = some y ∧ w = x + y := by
  constructor
  · intro h
    cases a with
    | none => cases h
    | some x => cases b with
      | none => cases h
      | some y => cases h; exact ⟨x, y, rfl, rfl, rfl⟩
  · rintro ⟨x, y, rfl, rfl, rfl⟩; rfl
theorem add_zero (a : O) : oadd a (some 0) = a := by cases a <;> simp [oadd]
theorem zero_add (a : O) : oadd (some 0) a = a := by cases a <;> simp [oadd]

/-- Matrices of n rows: outside of them there is never anything. -/
abbrev TM := Nat → Nat → O
def tone (n : Nat) : TM := fun i j => if i = j ∧ i < n then some 0 else none
def tmul (n : Nat) (A B : TM) : TM := fun i j => osup n fun k => oadd (A i k) (B k j)
def tpow (n : Nat) (A : TM) : Nat → TM
  | 0 => tone n
  | k + 1 => tmul n (tpow n A k) A

theorem ub_mul {n : Nat} {A B : TM} {i j : Nat} {u : Int} : Ub (tmul n A B i j) u ↔ ∀ k x y, k < n → A i k = some x → B k j = some y → x + y ≤ u := by
  unfold tmul; rw [ub_sup]
  constructor
  · intro h k x y hk hx hy; exact ub_add.1 (h k hk) x y hx hy
  · intro h k hk; exact ub_add.2 fun x y hx hy => h k x y hk hx hy
theorem mul_some {n : Nat} {A B : TM} {i j : Nat} {w : Int} (h : tmul n A B i j = some w) : ∃ k x y, k < n ∧ A i k = some x ∧ B k j = some y ∧ w = x + y := by
  obtain ⟨k, hk, h⟩ := sup_some h
  obtain ⟨x, y, h1, h2, h3⟩ := add_some.1 h
  exact ⟨k, x, y, hk, h1, h2, h3⟩
theorem mul_ge {n : Nat} {A B : TM} {i j k : Nat} {x y : Int} (hk : k < n) (hx : A i k = some x) (hy : B k j = some y) : ∃ w, tmul n A B i j = some w ∧ x + y ≤ w :=
  sup_ge hk (add_some.2 ⟨x, y, hx, hy, rfl⟩)

/-- Numbers, with one for never. -/
def Nv : Int := -1099511627776
def Good (b x : Int) : Prop := x = Nv ∨ (-b ≤ x ∧ x ≤ b)
theorem Good.mono {b c x : Int} (h : Good b x) (hbc : b ≤ c) : Good c x := h.imp id fun h => by omega
theorem Good.ne {b x : Int} (h : -b ≤ x ∧ x ≤ b) (hb : b ≤ 1000000000000) : x ≠ Nv := by unfold Nv; omega

end Go.Cy

end
section
/-
  KARP'S THEOREM on greatest means of cycles, without any program.
-/
namespace Go.Cy

/-- How far the arcs are above num/den. -/
def gain (A : TM) (num den : Int) : TM := fun i j => (A i j).map fun x => den * x - num
theorem pow_gain {n : Nat} {A : TM} {num den : Int} (hd : 0 < den) : ∀ k i j, tpow n (gain A num den) k i j = (tpow n A k i j).map fun x => den * x - num * (k : Int)
  | 0, i, j => by
    show tone n i j = (tone n i j).map _
    unfold tone; split <;> simp
  | k + 1, i, j => by
    show tmul n _ _ i j = (tmul n _ _ i j).map _
    refine ub_ext fun u => ?_
    have hub : ∀ (o : O) (f : Int → Int) (u : Int), Ub (o.map f) u ↔ ∀ x, o = some x → f x ≤ u := fun o f u => by
      cases o with
      | none => exact ⟨fun _ x hx => (by cases hx), fun _ x hx => (by cases hx)⟩
      | some z => exact ⟨fun h x hx => by cases hx; exact h _ rfl, fun h x hx => by cases hx; exact h z rfl⟩
    rw [hub, ub_mul]
    constructor
    · intro h w hw
      obtain ⟨l, x, y, hl, hx, hy, rfl⟩ := mul_some hw
      have := h l (den * x - num * k) (den * y - num) hl (by rw [pow_gain hd k, hx]; rfl) (by unfold gain; rw [hy]; rfl)
      simp only [Int.mul_add, Int.natCast_add]; simp; omega
    · intro h l x y hl hx hy
      rw [pow_gain hd k] at hx
      obtain ⟨a, ha, rfl⟩ := Option.map_eq_some_iff.1 hx
      unfold gain at hy
      obtain ⟨b, hb, rfl⟩ := Option.map_eq_some_iff.1 hy
      obtain ⟨w, hw, hle⟩ := mul_ge (n := n) hl ha hb
      have h1 := h w hw
      have h2 := Int.mul_le_mul_of_nonneg_left hle (Int.le_of_lt hd)
      simp only [Int.mul_add, Int.natCast_add] at h1 h2; simp at h1; omega
end Go.Cy

end
section
/-
  THE GREATEST MEAN OF A CYCLE: that there is one, that it is one number, and that Karp's way finds it.
-/
namespace Go.Cy

/-- num/den is the mean of A: no closed path is above it, and one has it. -/
structure MeanOf (n : Nat) (A : TM) (num den : Int) : Prop where
  pos : 0 < den
  le : ∀ k i w, 0 < k → tpow n A k i i = some w → den * w ≤ num * (k : Int)
  eq : ∃ k c w, 0 < k ∧ tpow n A k c c = some w ∧ den * w = num * (k : Int)

theorem MeanOf.zero {n : Nat} {A : TM} {num den : Int} (h : MeanOf n A num den) : ∃ L c, 0 < L ∧ tpow n (gain A num den) L c c = some 0 := by
  obtain ⟨k, c, w, h1, h2, h3⟩ := h.eq
  exact ⟨k, c, h1, by rw [pow_gain h.pos, h2]; simp; omega⟩
/-- The means are equal as fractions. -/
theorem MeanOf.uniq {n : Nat} {A : TM} {p q p' q' : Int} (h : MeanOf n A p q) (h' : MeanOf n A p' q') : p * q' = p' * q := by
  obtain ⟨k, c, w, h1, h2, h3⟩ := h.eq
  obtain ⟨k', c', w', h1', h2', h3'⟩ := h'.eq
  have e1 := h'.le k c w h1 h2
  have e2 := h.le k' c' w' h1' h2'
  have hk : (0 : Int) < k := by omega
  have hk' : (0 : Int) < k' := by omega
  have hq := h.pos
  have hq' := h'.pos
  -- q' w <= p' k, q w = p k: multiply
  have f1 : k * (p * q') ≤ k * (p' * q) := by
    have : q * (q' * w) ≤ q * (p' * k) := Int.mul_le_mul_of_nonneg_left e1 (by omega)
    have a : q * (q' * w) = k * (p * q') := by rw [show q * (q' * w) = q' * (q * w) by rw [← Int.mul_assoc, Int.mul_comm q q', Int.mul_assoc], h3, ← Int.mul_assoc, Int.mul_comm q' p, Int.mul_comm]
    have b : q * (p' * k) = k * (p' * q) := by rw [← Int.mul_assoc, Int.mul_comm q p', Int.mul_comm]
    omega
  have f2 : k' * (p' * q) ≤ k' * (p * q') := by
    have : q' * (q * w') ≤ q' * (p * k') := Int.mul_le_mul_of_nonneg_left e2 (by omega)
    have a : q' * (q * w') = k' * (p' * q) := by rw [show q' * (q * w') = q * (q' * w') by rw [← Int.mul_assoc, Int.mul_comm q' q, Int.mul_assoc], h3', ← Int.mul_assoc, Int.mul_comm q p', Int.mul_comm]
    have b : q' * (p * k') = k' * (p * q') := by rw [← Int.mul_assoc, Int.mul_comm q' p, Int.mul_comm]
    omega
  exact Int.le_antisymm (Int.le_of_mul_le_mul_left f1 hk) (Int.le_of_mul_le_mul_left f2 hk')

end Go.Cy

end
section
/-
  MATRICES OF INTS as deep values: by functions of the row and the column.
-/
namespace Go.Cy
open Go.Vm Go.RowKit

def okX (L x : Int) : Bool := decide (x = Nv) || (decide (-L ≤ x) && decide (x ≤ L))
def okRow (n : Nat) (L : Int) (r : List Int) : Bool := decide (r.length = n) && r.all (okX L)
def validB (L : Int) (m : List (List Int)) : Bool := (decide (1 ≤ m.length) && decide (m.length ≤ 6)) && m.all (okRow m.length L)

end Go.Cy

end
section
/-
  MATRICES THAT ARE MADE BY A FUNCTION VALUE, behind other objects.
-/
namespace Go.Vm
open Go.RowKit

/-- A contract on deep values, among objects. -/
theorem DeepCall.own {P : Program} {f : FuncId} {args : List DV} {res : DV} (h : DeepCall P f args res) (σ : List VObj) : OwnCall P f σ (args.map .d) σ (.d res) := by
  intro M W0 ι w vs hm hl hx
  refine (h (Forb M ι σ) w vs hm.forb_lt (by simpa using hl) fun i v x hv hx' => ?_).mono fun e w' => ?_
  · have := hx i v (.d x) hv (by simp [hx'])
    cases this with
    | d h => exact h
  · rintro ⟨v, rfl, h1, h2⟩
    obtain ⟨g1, g2⟩ := hm.grown h2
    exact ⟨ι, σ, .d res, v, rfl, g1, g2, .d h1, rfl, rfl⟩

section
variable (L N : Nat) (f : Nat → Nat → Int)
end
section
variable {L N : Nat} {f : Nat → Nat → Int} {pre : List VObj}
end
end Go.Vm
namespace Go.Vm
end Go.Vm
namespace Go.Vm
section
variable {P : Program} {σ : List VObj} {kn : Kn} {dst : Option Tmp} {ty : TypeId} {pos : String} {af : Array Edge} {g : Option (Nat × Bool)}
end
end Go.Vm
namespace Go.Vm
end Go.Vm
namespace Go.Cy
end Go.Cy

end
section
/-
  VALUES WITHOUT ADDRESSES: what a cell of one's own, or a slot, stands for may be told in another way.
-/
namespace Go.Vm
open Go.RowKit

section
variable {P : Program} {M : Nat → Prop} {W0 : World} {n : Nat} {σ : List VObj} {kn : Kn}
end
end Go.Vm

end
section
/-
  VALUES WITHOUT ADDRESSES, 30: maps whose keys are strings, walks over strings, checks for nil.
-/
namespace Go.Vm
open Go.RowKit

section
variable {P : Program} {σ : List VObj} {kn : Kn} {dst : Option Tmp} {ty : TypeId} {pos : String} {af : Array Edge} {g : Option (Nat × Bool)}

theorem K.semP {o : Oper} {x : XV} (hs : ∀ env, Agree kn env → ∀ (F : Nat → Prop) (ι : List Nat) (w : World) (ev : Operand → Value), (∀ y ∈ o.op.operands, XRep w ι F (ev y) (evalX env y)) → ∃ v, (execOp ev o).run P w = .ok (.value v) w ∧ XRep w ι F v x) : KEv P o σ kn x σ 0 :=
  fun env he => .semP (s := ⟨σ, env⟩) (hs env he)

theorem K.semG {o : Oper} {x : XV} {τ : List VObj} (hs : ∀ env, Agree kn env → ∀ (M : Nat → Prop) (W0 : World) (ι : List Nat) (w : World) (ev : Operand → Value), Mem M W0 ι σ w → (∀ y ∈ o.op.operands, XRep w ι (Forb M ι σ) (ev y) (evalX env y)) → Good P M W0 ι σ w (execOp ev o) x (σ ++ τ)) : KEv P o σ kn x (σ ++ τ) 3 :=
  fun env he => .semG (s := ⟨σ, env⟩) (hs env he)

theorem K.semW {o : Oper} {x : XV} {σ' : List VObj} (hs : ∀ env, Agree kn env → ∀ (M : Nat → Prop) (W0 : World) (ι : List Nat) (w : World) (ev : Operand → Value), Mem M W0 ι σ w → (∀ y ∈ o.op.operands, XRep w ι (Forb M ι σ) (ev y) (evalX env y)) → Good P M W0 ι σ w (execOp ev o) x σ') : KEv P o σ kn x σ' 2 :=
  fun env he => .semW (s := ⟨σ, env⟩) (hs env he)

/-- A pointer to a variable of the call's own is not nil. -/
theorem K.nilCheckO {x : Operand} {id off : Nat} (hx : evK kn x = some (.optr id off)) : KEv P ⟨dst, .nilCheck x, ty, pos, af, g⟩ σ kn (.optr id off) σ 0 := by
  refine K.semP fun env he F ι w ev h => ?_
  have h1 := h x (by simp [Op.operands])
  rw [evK_evalX he hx] at h1
  generalize hv : ev x = v at h1
  cases h1 with
  | optr hb =>
    refine ⟨_, ?_, .optr hb⟩
    simp [execOp, hv]

end
end Go.Vm

end
