import Derived.Test.YtcjcchceeidgkaaCyP
/-
  A STATEMENT WHOSE ORDER IS OPEN THAT MAKES TWO VARIABLES: x, y := a, b, where both are variables in memory.
-/
namespace Go.Vm
open Go.RowKit

/-- The operations one after another, the two new variables left aside. -/
inductive TrV (P : Program) (n : Nat) (ops : Array Oper) (σ : List VObj) (C : Nat → List XV) : Nat → List Oper → (Nat → XV) → List Nat → (Nat → XV) → Prop
  | nil {k : Nat} {e : Nat → XV} : TrV P n ops σ C k [] e [] e
  | read {k : Nat} {o : Oper} {l : List Oper} {e e' : Nat → XV} {x : XV} {fl : Nat} {fls : List Nat} (hg : guardX ops e o = some true) (he : Ev P o ⟨σ, e⟩ x σ fl) (hf : fl < 2) (hd : dstOk n o.dst = true)
      (h : TrV P n ops σ C (k + 1) l (putE e o.dst x) fls e') : TrV P n ops σ C k (o :: l) e (fl :: fls) e'
  | make {k : Nat} {o : Oper} {l : List Oper} {e e' : Nat → XV} {fls : List Nat} (hd : dstOk n o.dst = true)
      (h : TrV P n ops σ C (k + 1) l (putE e o.dst undefX) fls e') : TrV P n ops σ C k (o :: l) e (3 :: fls) e'
  | put {k : Nat} {o : Oper} {l : List Oper} {e e' : Nat → XV} {fls : List Nat} {T : TypeId} {t s : Tmp} {xv : XV} (ho : o.op = .store T (.tmp t) (.tmp s)) (hx : e s = xv) (hc : cellsX xv = C k) (hd : o.dst = none)
      (h : TrV P n ops σ C (k + 1) l e fls e') : TrV P n ops σ C k (o :: l) e (2 :: fls) e'

structure StepsV (P : Program) (n : Nat) (ops : Array Oper) (σ : List VObj) (C : Nat → List XV) (E : Nat → Nat → XV) (X : Nat → XV) (F : Nat → Nat) (k i : Nat) (o : Oper) : Prop where
  dst : dstOk n o.dst = true
  env : E (i + 1) = putE (E i) o.dst (X i)
  kind : (guardX ops (E i) o = some true ∧ Ev P o ⟨σ, E i⟩ (X i) σ (F i) ∧ F i < 2) ∨ F i = 3 ∨ (F i = 2 ∧ ∃ T t s, o.op = .store T (.tmp t) (.tmp s) ∧ cellsX (E i s) = C (k + i))

section
variable {P : Program} {ops : Array Oper} {n : Nat} {σ0 : List VObj} {C : Nat → List XV}

theorem TrV.fns {k : Nat} {l : List Oper} {e e' : Nat → XV} {fls : List Nat} (h : TrV P n ops σ0 C k l e fls e') :
    ∃ (E : Nat → Nat → XV) (X : Nat → XV), E 0 = e ∧ E l.length = e' ∧ ∀ (i : Nat) (o : Oper), l[i]? = some o → StepsV P n ops σ0 C E X (fun i => fls.getD i 0) k i o := by
  induction h with
  | @nil k e => exact ⟨fun _ => e, fun _ => undefX, rfl, rfl, fun i o h => by simp at h⟩
  | @read k o l e e' x fl fls hg he hf hd h ih =>
    obtain ⟨E, X, h0, h1, h2⟩ := ih
    refine ⟨consF e E, consF x X, rfl, h1, fun i o' hi => ?_⟩
    cases i with
    | zero =>
      simp at hi; subst hi
      exact ⟨hd, by show E 0 = _; rw [h0]; rfl, .inl ⟨hg, he, hf⟩⟩
    | succ i =>
      have := h2 i o' (by simpa using hi)
      exact ⟨this.dst, this.env, by have hk := this.kind; rwa [show k + 1 + i = k + (i + 1) by omega] at hk⟩
  | @make k o l e e' fls hd h ih =>
    obtain ⟨E, X, h0, h1, h2⟩ := ih
    refine ⟨consF e E, consF undefX X, rfl, h1, fun i o' hi => ?_⟩
    cases i with
    | zero =>
      simp at hi; subst hi
      exact ⟨hd, by show E 0 = _; rw [h0]; rfl, .inr (.inl rfl)⟩
    | succ i =>
      have := h2 i o' (by simpa using hi)
      exact ⟨this.dst, this.env, by have hk := this.kind; rwa [show k + 1 + i = k + (i + 1) by omega] at hk⟩
  | @put k o l e e' fls T t s xv ho hx hc hd h ih =>
    obtain ⟨E, X, h0, h1, h2⟩ := ih
    refine ⟨consF e E, consF undefX X, rfl, h1, fun i o' hi => ?_⟩
    cases i with
    | zero =>
      simp at hi; subst hi
      exact ⟨by rw [hd]; rfl, by show E 0 = _; rw [h0, hd]; rfl, .inr (.inr ⟨rfl, T, t, s, ho, by show cellsX (e s) = _; rw [hx, hc]; rfl⟩)⟩
    | succ i =>
      have := h2 i o' (by simpa using hi)
      exact ⟨this.dst, this.env, by have hk := this.kind; rwa [show k + 1 + i = k + (i + 1) by omega] at hk⟩

/-- The orders that do not matter. -/
def okV (ops : Array Oper) (i1 j1 i2 j2 : Nat) (t1 t2 : Tmp) : Bool :=
  okDraw ops (fun _ => 0) && (List.range ops.size).all (fun i => match ops[i]? with
    | none => true
    | some o => (i == j1 || !(o.looksAt ops).contains t1) && (i == j2 || !(o.looksAt ops).contains t2)) &&
  (reachB ops 8 j1 i1 && reachB ops 8 j2 i2)
theorem okV_look {i1 j1 i2 j2 : Nat} {t1 t2 : Tmp} (h : okV ops i1 j1 i2 j2 t1 t2 = true) {i : Nat} {o : Oper} (ho : ops[i]? = some o) : (i = j1 ∨ t1 ∉ o.looksAt ops) ∧ (i = j2 ∨ t2 ∉ o.looksAt ops) := by
  unfold okV at h
  simp only [Bool.and_eq_true] at h
  have h2 := List.all_eq_true.1 h.1.2 i (by simpa using (Array.getElem?_eq_some_iff.1 ho).1)
  rw [ho] at h2
  simpa using h2

section
variable {E : Nat → Nat → XV} {X : Nat → XV} {F : Nat → Nat} (hst : ∀ (i : Nat) (o : Oper), ops[i]? = some o → StepsV P n ops σ0 C E X F 0 i o)
include hst

theorem envV_none {t : Nat} : ∀ i, i ≤ ops.size → (∀ (j : Nat) (p : Oper), j < i → ops[j]? = some p → p.dst ≠ some t) → E i t = E 0 t
  | 0, _, _ => rfl
  | i + 1, hi, h => by
    have ho := Array.getElem?_eq_getElem (show i < ops.size by omega)
    rw [(hst i _ ho).env]
    have hne := h i _ (Nat.lt_succ_self i) ho
    have ih := envV_none i (by omega) (fun j p hj hp => h j p (by omega) hp)
    cases hd : ops[i].dst with
    | none => simpa [putE] using ih
    | some d =>
      simp only [putE, upd]
      rw [if_neg (fun e => hne (by rw [hd, e]))]
      exact ih

theorem envV_some (hok : okDraw ops (fun _ => 0) = true) {t j : Nat} {p : Oper} (hp : ops[j]? = some p) (hd : p.dst = some t) : ∀ i, i ≤ ops.size → j < i → E i t = X j
  | 0, _, h => by omega
  | i + 1, hi, h => by
    have ho := Array.getElem?_eq_getElem (show i < ops.size by omega)
    rw [(hst i _ ho).env]
    by_cases e : j = i
    · subst e
      have : ops[j] = p := by rw [ho] at hp; simpa using hp
      rw [this, hd]
      simp [putE, upd]
    · have ih := envV_some hok hp hd i (by omega) (by omega)
      cases hd' : ops[i].dst with
      | none => simpa [putE] using ih
      | some d =>
        simp only [putE, upd]
        rw [if_neg (fun e' => e (okDraw_dst hok hp ho hd (by rw [hd', e'])))]
        exact ih
end

def zeroC (z : Value) : List XV := z.cells.toList.map fun v => .d (.lit v)

/-- One new variable: its two operations. -/
def NewV (P : Program) (ops : Array Oper) (i j : Nat) (t s : Tmp) (c : List XV) : Prop :=
  ∃ (T : TypeId) (z : Value) (o p : Oper), ops[i]? = some o ∧ o.op = .alloc T ∧ o.dst = some t ∧ o.guard = none ∧ zeroT P T = some z ∧ z.cells.size = c.length ∧
    ops[j]? = some p ∧ p.op = .store T (.tmp t) (.tmp s) ∧ p.dst = none ∧ p.guard = none ∧ sizeT P T = some c.length ∧ c.all oneX = true

/-- What holds when some operations have been done. -/
structure InvV (P : Program) (M : Nat → Prop) (W0 : World) (n : Nat) (ops : Array Oper) (σ0 : List VObj) (e0 : Nat → XV) (X : Nat → XV) (i1 j1 i2 j2 : Nat) (t1 t2 : Tmp) (c1 c2 : List XV)
    (ι0 : List Nat) (w0 : World) (listed : Array Bool) (ι : List Nat) (σ : List VObj) (p1 p2 : Nat) (a : Act) (w : World) : Prop where
  size : listed.size = ops.size
  closed : ∀ (i : Nat) (o : Oper), listed.getD i true = true → ops[i]? = some o → ∀ e ∈ o.after, bindsA e = true → listed.getD e.on false = true
  mem : Mem M W0 ι σ w
  ext : Ext M ι0 σ0 w0 ι σ w
  env : ∀ t, t ≠ t1 → t ≠ t2 → XRep w ι (Forb M ι σ) (a.tmps.getD t undef) (envL ops e0 X (fun j => listed.getD j false) t)
  old : ∀ j, j < σ0.length → σ[j]? = σ0[j]?
  long : σ0.length ≤ σ.length
  n1 : listed.getD i1 false = true → σ0.length ≤ p1 ∧ (∃ b, a.tmps.getD t1 undef = .pointer (some ⟨b, 0, none⟩) ∧ ι[p1]? = some b) ∧
    ∃ cs, σ[p1]? = some ⟨cs, 0⟩ ∧ cs.length = c1.length ∧ (listed.getD j1 false = true → cs = c1)
  n2 : listed.getD i2 false = true → σ0.length ≤ p2 ∧ (∃ b, a.tmps.getD t2 undef = .pointer (some ⟨b, 0, none⟩) ∧ ι[p2]? = some b) ∧
    ∃ cs, σ[p2]? = some ⟨cs, 0⟩ ∧ cs.length = c2.length ∧ (listed.getD j2 false = true → cs = c2)
  ne : listed.getD i1 false = true → listed.getD i2 false = true → p1 ≠ p2
  tsize : a.tmps.size = n
  defers : a.defers = []

theorem getD_put {a : Act} {t : Nat} {o : Option Tmp} {v : Value} (h : o ≠ some t) : (a.put o v).tmps.getD t undef = a.tmps.getD t undef := by
  cases o with
  | none => rfl
  | some d =>
    have hne : d ≠ t := fun e => h (by rw [e])
    simp only [Act.put, Array.getD_eq_getD_getElem?]
    rw [Array.getElem?_setIfInBounds_ne hne]

variable {M : Nat → Prop} {W0 : World} {e0 : Nat → XV} {X : Nat → XV} {i1 j1 i2 j2 : Nat} {t1 t2 s1 s2 : Tmp} {c1 c2 : List XV} {ι0 : List Nat} {w0 : World}

theorem lt_of_some {α : Type} {l : List α} {i : Nat} {x : α} (h : l[i]? = some x) : i < l.length := (List.getElem?_eq_some_iff.1 h).1

theorem InvV.next {E : Nat → Nat → XV} {F : Nat → Nat} (hst : ∀ (i : Nat) (o : Oper), ops[i]? = some o → StepsV P n ops σ0 C E X F 0 i o) (hE : E 0 = e0) (hok : okV ops i1 j1 i2 j2 t1 t2 = true)
    (h1 : NewV P ops i1 j1 t1 s1 c1) (h2 : NewV P ops i2 j2 t2 s2 c2) (hc1 : C j1 = c1) (hc2 : C j2 = c2) (hij : i1 ≠ i2 ∧ j1 ≠ j2 ∧ t1 ≠ t2 ∧ s1 ≠ t1 ∧ s1 ≠ t2 ∧ s2 ≠ t1 ∧ s2 ≠ t2)
    (hF : ∀ (i : Nat) (o : Oper), ops[i]? = some o → (F i = 3 → i = i1 ∨ i = i2) ∧ (F i = 2 → i = j1 ∨ i = j2) ∧ (F i < 2 → i ≠ i1 ∧ i ≠ i2 ∧ i ≠ j1 ∧ i ≠ j2))
    {listed : Array Bool} {ι : List Nat} {σ : List VObj} {p1 p2 : Nat} {a : Act} {w : World} (hI : InvV P M W0 n ops σ0 e0 X i1 j1 i2 j2 t1 t2 c1 c2 ι0 w0 listed ι σ p1 p2 a w)
    {i : Nat} {o : Oper} (ho : ops[i]? = some o) (hun : listed.getD i false = false) (hready : ∀ e ∈ o.after, bindsA e = true → listed.getD e.on false = true) {Q : Exit → Act → World → Prop} {KK : Act → World → Prop}
    (hK : ∀ (ι' : List Nat) (σ' : List VObj) (p1' p2' : Nat) (a' : Act) (w' : World), InvV P M W0 n ops σ0 e0 X i1 j1 i2 j2 t1 t2 c1 c2 ι0 w0 (listed.setIfInBounds i true) ι' σ' p1' p2' a' w' → KK a' w') : wpOp P ops Q i KK a w := by
  have hokd : okDraw ops (fun _ => 0) = true := by unfold okV at hok; simp only [Bool.and_eq_true] at hok; exact hok.1.1
  have hi := (Array.getElem?_eq_some_iff.1 ho).1
  have hil : i < listed.size := by rw [hI.size]; exact hi
  have hcl : ∀ (j : Nat) (q : Oper), listed.getD j false = true → ops[j]? = some q → ∀ e ∈ q.after, bindsA e = true → listed.getD e.on false = true := fun j q hj hq => hI.closed j q (by
    rw [getD_bool listed j (by rw [hI.size]; exact (Array.getElem?_eq_some_iff.1 hq).1) true false]; exact hj) hq
  have before : ∀ j, reachB ops 8 i j = true → listed.getD j false = true := fun j h => reach_closed (ops := ops) (C := fun k => listed.getD k false = true) hcl 8 i j o ho hready h
  have behind : ∀ (j : Nat) (q : Oper), ops[j]? = some q → reachB ops 8 j i = true → listed.getD j false = false := fun j q hq h => by
    cases hl : listed.getD j false with
    | false => rfl
    | true =>
      have := reach_closed (ops := ops) (C := fun k => listed.getD k false = true) hcl 8 j i q hq (hcl j q hl hq) h
      rw [hun] at this; cases this
  have hlook : ∀ t ∈ o.looksAt ops, envL ops e0 X (fun j => listed.getD j false) t = E i t := by
    intro t ht
    by_cases hex : ∃ (j : Nat) (q : Oper), ops[j]? = some q ∧ q.dst = some t
    · obtain ⟨j, q, hq, hd⟩ := hex
      have uniq : ∀ (k : Nat) (r : Oper), ops[k]? = some r → r.dst = some t → k = j := fun k r hr hrd => okDraw_dst hokd hr hq hrd hd
      by_cases e : j = i
      · rw [envL_none (fun k r hr hl hrd => by have := uniq k r hr hrd; subst this; subst e; simp [hun] at hl)]
        rw [envV_none hst i (by omega) (fun k r hk hr hrd => by have := uniq k r hr hrd; omega), hE]
      · have hpr := okDraw_pair hokd ho hq e
        simp only [okPair, hd, Bool.and_eq_true, Bool.or_eq_true, Bool.not_eq_true'] at hpr
        have hord : ordB ops i j = true := by
          rcases hpr.1.2 with h | h
          · rw [List.contains_iff_mem.2 ht] at h; cases h
          · exact h
        unfold ordB at hord
        split at hord
        · rename_i hlt
          rw [envL_some hokd hq hd (by exact before j hord), envV_some hst hokd hq hd i (by omega) hlt]
        · rename_i hge
          have hnl := behind j q hq hord
          rw [envL_none (fun k r hr hl hrd => by have := uniq k r hr hrd; subst this; simp [hnl] at hl)]
          rw [envV_none hst i (by omega) (fun k r hk hr hrd => by have := uniq k r hr hrd; omega), hE]
    · rw [envL_none (fun k r hr hl hrd => hex ⟨k, r, hr, hrd⟩), envV_none hst i (by omega) (fun k r hk hr hrd => hex ⟨k, r, hr, hrd⟩), hE]
  have hs := hst i o ho
  have hlist : ∀ j, (listed.setIfInBounds i true).getD j false = if j = i then true else listed.getD j false := by
    intro j
    simp only [Array.getD_eq_getD_getElem?]
    by_cases e : j = i
    · subst e; simp [hil]
    · rw [Array.getElem?_setIfInBounds_ne (by omega), if_neg e]
  have hcl' : ∀ (j : Nat) (q : Oper), (listed.setIfInBounds i true).getD j true = true → ops[j]? = some q → ∀ e ∈ q.after, bindsA e = true → (listed.setIfInBounds i true).getD e.on false = true := by
    intro j q hj hq e he hb
    rw [hlist]
    split
    · rfl
    · by_cases e' : j = i
      · subst e'; rw [ho] at hq; cases hq; exact hready e he hb
      · refine hcl j q ?_ hq e he hb
        have hjl : j < listed.size := by rw [hI.size]; exact (Array.getElem?_eq_some_iff.1 hq).1
        rw [getD_bool _ j (by simpa using hjl) true false, hlist, if_neg e'] at hj
        exact hj
  -- the frame behind an operation that gives x: of the slots that are not the new variables'
  have henv : ∀ (ι' : List Nat) (σ' : List VObj) (w' : World) (v : Value), Ext M ι σ w ι' σ' w' → (∀ t, o.dst = some t → t ≠ t1 → t ≠ t2 → XRep w' ι' (Forb M ι' σ') v (X i)) →
      ∀ t, t ≠ t1 → t ≠ t2 → XRep w' ι' (Forb M ι' σ') ((a.put o.dst v).tmps.getD t undef) (envL ops e0 X (fun j => (listed.setIfInBounds i true).getD j false) t) := by
    intro ι' σ' w' v h4 h5 t ht1 ht2
    by_cases hd : o.dst = some t
    · have e1 : envL ops e0 X (fun j => (listed.setIfInBounds i true).getD j false) t = X i := envL_some hokd ho hd (by simp only [hlist, if_pos])
      rw [e1]
      have hdo := hs.dst
      rw [hd] at hdo
      simp only [dstOk, decide_eq_true_eq] at hdo
      have e2 : (a.put o.dst v).tmps.getD t undef = v := by rw [hd]; simp [Act.put, hI.tsize, hdo]
      rw [e2]; exact h5 t hd ht1 ht2
    · have e1 : envL ops e0 X (fun j => (listed.setIfInBounds i true).getD j false) t = envL ops e0 X (fun j => listed.getD j false) t := by
        by_cases hex : ∃ (j : Nat) (q : Oper), ops[j]? = some q ∧ q.dst = some t ∧ listed.getD j false = true
        · obtain ⟨j, q, hq, hqd, hl⟩ := hex
          rw [envL_some hokd hq hqd (by simp only [hlist]; split <;> first | rfl | exact hl), envL_some hokd hq hqd hl]
        · rw [envL_none (fun k r hr hl hrd => ?_), envL_none (fun k r hr hl hrd => hex ⟨k, r, hr, hrd, hl⟩)]
          simp only [hlist] at hl
          split at hl
          · rename_i e; subst e; rw [ho] at hr; cases hr; exact hd hrd
          · exact hex ⟨k, r, hr, hrd, hl⟩
      rw [e1, getD_put hd]
      exact (hI.env t ht1 ht2).ext h4
  have hps : ∀ v, (a.put o.dst v).tmps.size = n := fun v => by cases o.dst <;> simp [Act.put, hI.tsize]
  have hpd : ∀ v, (a.put o.dst v).defers = [] := fun v => by cases o.dst <;> simp [Act.put, hI.defers]
  have hdst : ∀ t, (∃ k q, ops[k]? = some q ∧ q.dst = some t ∧ k ≠ i) → o.dst ≠ some t := fun t ⟨k, q, hq, hqd, hne⟩ hd => hne (okDraw_dst hokd hq ho hqd hd)
  have allR : ∀ (Y1 Y2 : XV), XRep w ι (Forb M ι σ) (a.tmps.getD t1 undef) Y1 → XRep w ι (Forb M ι σ) (a.tmps.getD t2 undef) Y2 →
      ∀ t, XRep w ι (Forb M ι σ) (a.tmps.getD t undef) (if t = t1 then Y1 else if t = t2 then Y2 else envL ops e0 X (fun j => listed.getD j false) t) := by
    intro Y1 Y2 r1 r2 t
    split
    · rename_i e; subst e; exact r1
    · split
      · rename_i e; subst e; exact r2
      · exact hI.env t ‹_› ‹_›
  obtain ⟨T1, z1, oa1, os1, ha1, ha1o, ha1d, ha1g, hz1, hz1l, hs1, hs1o, hs1d, hs1g, hsz1, hone1⟩ := h1
  obtain ⟨T2, z2, oa2, os2, ha2, ha2o, ha2d, ha2g, hz2, hz2l, hs2, hs2o, hs2d, hs2g, hsz2, hone2⟩ := h2
  have kind : ∀ (i j : Nat) (p q : Oper) (T T' : TypeId) (x y : Operand), ops[i]? = some p → ops[j]? = some q → p.op = .alloc T → q.op = .store T' x y → i ≠ j := fun i j p q T T' x y k1 k2 k3 k4 e => by
    subst e; rw [k1] at k2; cases k2; rw [k3] at k4; cases k4
  have ne_ij11 := kind i1 j1 _ _ _ _ _ _ ha1 hs1 ha1o hs1o
  have ne_ij12 := kind i1 j2 _ _ _ _ _ _ ha1 hs2 ha1o hs2o
  have ne_ij21 := kind i2 j1 _ _ _ _ _ _ ha2 hs1 ha2o hs1o
  have ne_ij22 := kind i2 j2 _ _ _ _ _ _ ha2 hs2 ha2o hs2o
  have hrr : reachB ops 8 j1 i1 = true ∧ reachB ops 8 j2 i2 = true := by unfold okV at hok; simp only [Bool.and_eq_true] at hok; exact hok.2
  obtain ⟨hr1, hr2⟩ := hrr
  have hR0' := allR (.d (.lit (a.tmps.getD t1 undef))) (.d (.lit (a.tmps.getD t2 undef))) (.d (.lit _)) (.d (.lit _))
  obtain ⟨env0, hR0⟩ : ∃ env0 : Nat → XV, ∀ t, XRep w ι (Forb M ι σ) (a.tmps.getD t undef) (env0 t) := ⟨_, hR0'⟩
  unfold wpOp
  rw [ho]
  simp only
  rcases hs.kind with ⟨hg, hev, hf⟩ | hf | ⟨hf, Ts, ts, ss, hso, hsc⟩
  · -- a reading operation
    obtain ⟨hn1, hn2, hn3, hn4⟩ := (hF i o ho).2.2 hf
    obtain ⟨hl1, hl2⟩ := okV_look hok ho
    have hl1 := hl1.resolve_left hn3
    have hl2 := hl2.resolve_left hn4
    have hR := allR (.d (.lit (a.tmps.getD t1 undef))) (.d (.lit (a.tmps.getD t2 undef))) (.d (.lit _)) (.d (.lit _))
    generalize hev' : (fun t => if t = t1 then XV.d (.lit (a.tmps.getD t1 undef)) else if t = t2 then XV.d (.lit (a.tmps.getD t2 undef)) else envL ops e0 X (fun j => listed.getD j false) t) = env' at hR
    have hR' : ∀ t, XRep w ι (Forb M ι σ) (a.tmps.getD t undef) (env' t) := fun t => by rw [← hev']; exact allR _ _ (.d (.lit _)) (.d (.lit _)) t
    have hlk : ∀ t ∈ o.looksAt ops, env' t = E i t := fun t ht => by
      rw [← hev']
      simp only
      rw [if_neg (fun e : t = t1 => hl1 (e ▸ ht)), if_neg (fun e : t = t2 => hl2 (e ▸ ht))]
      exact hlook t ht
    rw [← guardX_congr hlk] at hg
    rw [if_pos (by rw [guardX_sound hR' hg])]
    left
    have hops : ∀ y ∈ o.op.operands, evalX env' y = evalX (E i) y := by
      intro y hy
      cases y with
      | tmp t => exact hlk t (mem_looks hy)
      | _ => rfl
    have hev2 := hev.congr hops
    have hev3 : Ev P o ⟨σ, env'⟩ (X i) σ (F i) := by
      by_cases hf0 : F i = 0
      · rw [hf0] at hev2 ⊢; exact hev2.pure σ
      · have hf1 : F i = 1 := by omega
        rw [hf1] at hev2 ⊢
        refine hev2.one (σ2 := σ) fun y hy id off he ob hob => ⟨ob, ?_, rfl, Iff.rfl⟩
        rw [hI.old id (lt_of_some hob)]; exact hob
    refine hev3.wp hI.mem hR' fun ι' v w' k1 k2 k3 => hK ι' σ p1 p2 _ w' ?_
    have hfix : ∀ (j b : Nat), ι[j]? = some b → ι'[j]? = some b := k2.pre
    refine ⟨by simp [hI.size], hcl', k1, hI.ext.trans k2, henv ι' σ w' v k2 (fun t _ _ _ => k3), hI.old, hI.long, fun hl => ?_, fun hl => ?_, fun q1 q2 => ?_, hps v, hpd v⟩
    · rw [hlist, if_neg (Ne.symm hn1)] at hl
      obtain ⟨m1, ⟨b, m2, m3⟩, m4⟩ := hI.n1 hl
      refine ⟨m1, ⟨b, ?_, hfix _ _ m3⟩, ?_⟩
      · rw [getD_put (hdst t1 ⟨i1, oa1, ha1, ha1d, Ne.symm hn1⟩)]; exact m2
      · rw [hlist, if_neg (Ne.symm hn3)]; exact m4
    · rw [hlist, if_neg (Ne.symm hn2)] at hl
      obtain ⟨m1, ⟨b, m2, m3⟩, m4⟩ := hI.n2 hl
      refine ⟨m1, ⟨b, ?_, hfix _ _ m3⟩, ?_⟩
      · rw [getD_put (hdst t2 ⟨i2, oa2, ha2, ha2d, Ne.symm hn2⟩)]; exact m2
      · rw [hlist, if_neg (Ne.symm hn4)]; exact m4
    · rw [hlist, if_neg (Ne.symm hn1)] at q1
      rw [hlist, if_neg (Ne.symm hn2)] at q2
      exact hI.ne q1 q2
  · -- a new variable
    rcases (hF i o ho).1 hf with e | e
    · subst e
      have eo : o = oa1 := by rw [ho] at ha1; exact Option.some.inj ha1
      subst eo
      obtain ⟨d0, op0, ty0, po0, af0, g0⟩ := o
      simp only at ha1o ha1d ha1g
      subst ha1o ha1d ha1g
      have hg : guardX ops env0 (⟨some t1, .alloc T1, ty0, po0, af0, none⟩ : Oper) = some true := rfl
      rw [if_pos (by rw [guardX_sound hR0 hg])]
      left
      have hev : Ev P ⟨some t1, .alloc T1, ty0, po0, af0, none⟩ ⟨σ, env0⟩ (.optr σ.length 0) (σ ++ [⟨zeroC z1, 0⟩]) 3 := K.alloc (kn := []) hz1 env0 (fun t x h => by simp [look] at h)
      have hnj : listed.getD j1 false = false := behind j1 os1 hs1 hr1
      refine hev.wp hI.mem hR0 fun ι' v w' k1 k2 k3 => hK ι' (σ ++ [⟨zeroC z1, 0⟩]) σ.length p2 _ w' ?_
      obtain ⟨b, rfl, hb⟩ : ∃ b, v = .pointer (some ⟨b, 0, none⟩) ∧ ι'[σ.length]? = some b := by cases k3 with | optr hb => exact ⟨_, rfl, hb⟩
      have hfix : ∀ (j b : Nat), ι[j]? = some b → ι'[j]? = some b := k2.pre
      have hdo := hs.dst
      simp only [dstOk, decide_eq_true_eq] at hdo
      have hlg := hI.long
      refine ⟨by simp [hI.size], hcl', k1, hI.ext.trans k2, henv ι' _ w' _ k2 (fun t hd q1 q2 => absurd (Option.some.inj hd).symm q1), fun j hj => ?_, by simp; omega, fun _ => ⟨hlg, ⟨b, by simp [Act.put, hI.tsize, hdo], hb⟩, zeroC z1, List.getElem?_concat_length .., by simp [zeroC, hz1l], fun hl => by
        rw [hlist, if_neg (fun e => ne_ij11 e.symm), hnj] at hl; cases hl⟩, fun hl => by
        rw [hlist, if_neg (fun e => hij.1 e.symm)] at hl
        obtain ⟨m1, ⟨b', m2, m3⟩, cs, m5, m6, m7⟩ := hI.n2 hl
        refine ⟨m1, ⟨b', ?_, hfix _ _ m3⟩, cs, ?_, m6, fun hj => ?_⟩
        · rw [getD_put (fun e => hij.2.2.1 (Option.some.inj e))]; exact m2
        · rw [List.getElem?_append_left (lt_of_some m5)]; exact m5
        · rw [hlist, if_neg (fun e => ne_ij12 e.symm)] at hj; exact m7 hj, fun q1 q2 => ?_, hps _, hpd _⟩
      · rw [List.getElem?_append_left (by omega)]; exact hI.old j hj
      · rw [hlist, if_neg (fun e => hij.1 e.symm)] at q2
        obtain ⟨_, _, cs, m5, _⟩ := hI.n2 q2
        have := lt_of_some m5
        omega
    · subst e
      have eo : o = oa2 := by rw [ho] at ha2; exact Option.some.inj ha2
      subst eo
      obtain ⟨d0, op0, ty0, po0, af0, g0⟩ := o
      simp only at ha2o ha2d ha2g
      subst ha2o ha2d ha2g
      have hg : guardX ops env0 (⟨some t2, .alloc T2, ty0, po0, af0, none⟩ : Oper) = some true := rfl
      rw [if_pos (by rw [guardX_sound hR0 hg])]
      left
      have hev : Ev P ⟨some t2, .alloc T2, ty0, po0, af0, none⟩ ⟨σ, env0⟩ (.optr σ.length 0) (σ ++ [⟨zeroC z2, 0⟩]) 3 := K.alloc (kn := []) hz2 env0 (fun t x h => by simp [look] at h)
      have hnj : listed.getD j2 false = false := behind j2 os2 hs2 hr2
      refine hev.wp hI.mem hR0 fun ι' v w' k1 k2 k3 => hK ι' (σ ++ [⟨zeroC z2, 0⟩]) p1 σ.length _ w' ?_
      obtain ⟨b, rfl, hb⟩ : ∃ b, v = .pointer (some ⟨b, 0, none⟩) ∧ ι'[σ.length]? = some b := by cases k3 with | optr hb => exact ⟨_, rfl, hb⟩
      have hfix : ∀ (j b : Nat), ι[j]? = some b → ι'[j]? = some b := k2.pre
      have hdo := hs.dst
      simp only [dstOk, decide_eq_true_eq] at hdo
      have hlg := hI.long
      refine ⟨by simp [hI.size], hcl', k1, hI.ext.trans k2, henv ι' _ w' _ k2 (fun t hd q1 q2 => absurd (Option.some.inj hd).symm q2), fun j hj => ?_, by simp; omega, fun hl => by
        rw [hlist, if_neg (fun e => hij.1 e)] at hl
        obtain ⟨m1, ⟨b', m2, m3⟩, cs, m5, m6, m7⟩ := hI.n1 hl
        refine ⟨m1, ⟨b', ?_, hfix _ _ m3⟩, cs, ?_, m6, fun hj => ?_⟩
        · rw [getD_put (fun e => (Ne.symm hij.2.2.1) (Option.some.inj e))]; exact m2
        · rw [List.getElem?_append_left (lt_of_some m5)]; exact m5
        · rw [hlist, if_neg (fun e => ne_ij21 e.symm)] at hj; exact m7 hj, fun _ => ⟨hlg, ⟨b, by simp [Act.put, hI.tsize, hdo], hb⟩, zeroC z2, List.getElem?_concat_length .., by simp [zeroC, hz2l], fun hl => by
        rw [hlist, if_neg (fun e => ne_ij22 e.symm), hnj] at hl; cases hl⟩, fun q1 q2 => ?_, hps _, hpd _⟩
      · rw [List.getElem?_append_left (by omega)]; exact hI.old j hj
      · rw [hlist, if_neg (fun e => hij.1 e)] at q1
        obtain ⟨_, _, cs, m5, _⟩ := hI.n1 q1
        have := lt_of_some m5
        omega
  · -- its value
    rcases (hF i o ho).2.1 hf with e | e
    · subst i
      have eo : o = os1 := by rw [ho] at hs1; exact Option.some.inj hs1
      subst eo
      obtain ⟨d0, op0, ty0, po0, af0, g0⟩ := o
      simp only at hs1o hs1d hs1g hso
      subst hs1o hs1d hs1g
      injection hso with e1 e2 e3
      injection e2 with e2
      injection e3 with e3
      subst e1 e2 e3
      have hl1 : listed.getD i1 false = true := before i1 hr1
      obtain ⟨m1, ⟨b, m2, m3⟩, cs, m5, m6, m7⟩ := hI.n1 hl1
      have hR := allR (.optr p1 0) (.d (.lit (a.tmps.getD t2 undef))) (by rw [m2]; exact .optr m3) (.d (.lit _))
      have hlks := hlook s1 (mem_looks (by simp [Op.operands]))
      have hg : guardX ops env0 (⟨none, .store T1 (.tmp t1) (.tmp s1), ty0, po0, af0, none⟩ : Oper) = some true := rfl
      rw [if_pos (by rw [guardX_sound hR0 hg])]
      left
      have hcl2 : cellsX (E j1 s1) = c1 := by rw [hsc, Nat.zero_add]; exact hc1
      generalize hev' : (fun t => if t = t1 then XV.optr p1 0 else if t = t2 then XV.d (.lit (a.tmps.getD t2 undef)) else envL ops e0 X (fun j => listed.getD j false) t) = env' at hR
      have hRR : ∀ t, XRep w ι (Forb M ι σ) (a.tmps.getD t undef) (env' t) := fun t => by rw [← hev']; exact hR t
      have ea : env' t1 = .optr p1 0 := by rw [← hev']; simp
      have es : env' s1 = E j1 s1 := by rw [← hev']; simp only; rw [if_neg hij.2.2.2.1, if_neg hij.2.2.2.2.1]; exact hlks
      have hev : Ev P ⟨none, .store T1 (.tmp t1) (.tmp s1), ty0, po0, af0, none⟩ ⟨σ, env'⟩ undefX (σ.set p1 ⟨splice cs 0 (cellsX (E j1 s1)), 0⟩) 2 :=
        K.storeN (kn := [(t1, .optr p1 0), (s1, E j1 s1)]) (by simp [evK, look]) (by simp [evK, look, hij.2.2.2.1]) m5 (by rw [hcl2]; omega) (by rw [hcl2]; exact hone1) (by rw [hcl2]; exact hsz1) env' (fun t x h => by
          simp only [look] at h
          split at h
          · rename_i e; subst e; cases h; exact ea
          · split at h
            · rename_i e; subst e; cases h; exact es
            · cases h)
      rw [hcl2, splice_all m6] at hev
      refine hev.wp hI.mem hRR fun ι' v w' k1 k2 k3 => hK ι' (σ.set p1 ⟨c1, 0⟩) p1 p2 _ w' ?_
      have hfix : ∀ (j b : Nat), ι[j]? = some b → ι'[j]? = some b := k2.pre
      have hlg := hI.long
      have hpl := lt_of_some m5
      refine ⟨by simp [hI.size], hcl', k1, hI.ext.trans k2, henv ι' _ w' _ k2 (fun t hd q1 q2 => by cases hd), fun j hj => ?_, by simp; omega, fun _ => ⟨m1, ⟨b, m2, hfix _ _ m3⟩, c1, by rw [List.getElem?_set_self hpl], rfl, fun _ => rfl⟩, fun hl => by
        rw [hlist, if_neg (fun e => ne_ij21 e)] at hl
        obtain ⟨r1, ⟨b', r2, r3⟩, cs', r5, r6, r7⟩ := hI.n2 hl
        refine ⟨r1, ⟨b', r2, hfix _ _ r3⟩, cs', ?_, r6, fun hj => ?_⟩
        · rw [List.getElem?_set_ne (hI.ne hl1 hl)]; exact r5
        · rw [hlist, if_neg (fun e => hij.2.1 e.symm)] at hj; exact r7 hj, fun q1 q2 => ?_, hps _, hpd _⟩
      · rw [List.getElem?_set_ne (by omega)]; exact hI.old j hj
      · rw [hlist, if_neg (fun e => ne_ij11 e)] at q1
        rw [hlist, if_neg (fun e => ne_ij21 e)] at q2
        exact hI.ne q1 q2
    · subst i
      have eo : o = os2 := by rw [ho] at hs2; exact Option.some.inj hs2
      subst eo
      obtain ⟨d0, op0, ty0, po0, af0, g0⟩ := o
      simp only at hs2o hs2d hs2g hso
      subst hs2o hs2d hs2g
      injection hso with e1 e2 e3
      injection e2 with e2
      injection e3 with e3
      subst e1 e2 e3
      have hl2 : listed.getD i2 false = true := before i2 hr2
      obtain ⟨m1, ⟨b, m2, m3⟩, cs, m5, m6, m7⟩ := hI.n2 hl2
      have hR := allR (.d (.lit (a.tmps.getD t1 undef))) (.optr p2 0) (.d (.lit _)) (by rw [m2]; exact .optr m3)
      have hlks := hlook s2 (mem_looks (by simp [Op.operands]))
      have hg : guardX ops env0 (⟨none, .store T2 (.tmp t2) (.tmp s2), ty0, po0, af0, none⟩ : Oper) = some true := rfl
      rw [if_pos (by rw [guardX_sound hR0 hg])]
      left
      have hcl2 : cellsX (E j2 s2) = c2 := by rw [hsc, Nat.zero_add]; exact hc2
      generalize hev' : (fun t => if t = t1 then XV.d (.lit (a.tmps.getD t1 undef)) else if t = t2 then XV.optr p2 0 else envL ops e0 X (fun j => listed.getD j false) t) = env' at hR
      have hRR : ∀ t, XRep w ι (Forb M ι σ) (a.tmps.getD t undef) (env' t) := fun t => by rw [← hev']; exact hR t
      have ea : env' t2 = .optr p2 0 := by rw [← hev']; simp [Ne.symm hij.2.2.1]
      have es : env' s2 = E j2 s2 := by rw [← hev']; simp only; rw [if_neg hij.2.2.2.2.2.1, if_neg hij.2.2.2.2.2.2]; exact hlks
      have hev : Ev P ⟨none, .store T2 (.tmp t2) (.tmp s2), ty0, po0, af0, none⟩ ⟨σ, env'⟩ undefX (σ.set p2 ⟨splice cs 0 (cellsX (E j2 s2)), 0⟩) 2 :=
        K.storeN (kn := [(t2, .optr p2 0), (s2, E j2 s2)]) (by simp [evK, look]) (by simp [evK, look, hij.2.2.2.2.2.2]) m5 (by rw [hcl2]; omega) (by rw [hcl2]; exact hone2) (by rw [hcl2]; exact hsz2) env' (fun t x h => by
          simp only [look] at h
          split at h
          · rename_i e; subst e; cases h; exact ea
          · split at h
            · rename_i e; subst e; cases h; exact es
            · cases h)
      rw [hcl2, splice_all m6] at hev
      refine hev.wp hI.mem hRR fun ι' v w' k1 k2 k3 => hK ι' (σ.set p2 ⟨c2, 0⟩) p1 p2 _ w' ?_
      have hfix : ∀ (j b : Nat), ι[j]? = some b → ι'[j]? = some b := k2.pre
      have hlg := hI.long
      have hpl := lt_of_some m5
      refine ⟨by simp [hI.size], hcl', k1, hI.ext.trans k2, henv ι' _ w' _ k2 (fun t hd q1 q2 => by cases hd), fun j hj => ?_, by simp; omega, fun hl => by
        rw [hlist, if_neg (fun e => ne_ij12 e)] at hl
        obtain ⟨r1, ⟨b', r2, r3⟩, cs', r5, r6, r7⟩ := hI.n1 hl
        refine ⟨r1, ⟨b', r2, hfix _ _ r3⟩, cs', ?_, r6, fun hj => ?_⟩
        · rw [List.getElem?_set_ne (Ne.symm (hI.ne hl hl2))]; exact r5
        · rw [hlist, if_neg (fun e => hij.2.1 e)] at hj; exact r7 hj, fun _ => ⟨m1, ⟨b, m2, hfix _ _ m3⟩, c2, by rw [List.getElem?_set_self hpl], rfl, fun _ => rfl⟩, fun q1 q2 => ?_, hps _, hpd _⟩
      · rw [List.getElem?_set_ne (by omega)]; exact hI.old j hj
      · rw [hlist, if_neg (fun e => ne_ij12 e)] at q1
        rw [hlist, if_neg (fun e => ne_ij22 e)] at q2
        exact hI.ne q1 q2

theorem wpV_of {E : Nat → Nat → XV} {F : Nat → Nat} (hst : ∀ (i : Nat) (o : Oper), ops[i]? = some o → StepsV P n ops σ0 C E X F 0 i o) (hE : E 0 = e0) (hok : okV ops i1 j1 i2 j2 t1 t2 = true)
    (h1 : NewV P ops i1 j1 t1 s1 c1) (h2 : NewV P ops i2 j2 t2 s2 c2) (hc1 : C j1 = c1) (hc2 : C j2 = c2) (hij : i1 ≠ i2 ∧ j1 ≠ j2 ∧ t1 ≠ t2 ∧ s1 ≠ t1 ∧ s1 ≠ t2 ∧ s2 ≠ t1 ∧ s2 ≠ t2)
    (hF : ∀ (i : Nat) (o : Oper), ops[i]? = some o → (F i = 3 → i = i1 ∨ i = i2) ∧ (F i = 2 → i = j1 ∨ i = j2) ∧ (F i < 2 → i ≠ i1 ∧ i ≠ i2 ∧ i ≠ j1 ∧ i ≠ j2)) {Q : Exit → Act → World → Prop}
    (hq : ∀ (ι : List Nat) (σ : List VObj) (p1 p2 : Nat) (a : Act) (w : World), InvV P M W0 n ops σ0 e0 X i1 j1 i2 j2 t1 t2 c1 c2 ι0 w0 (Array.replicate ops.size true) ι σ p1 p2 a w → Q .normal a w) :
    ∀ (fuel : Nat) (listed : Array Bool) (ι : List Nat) (σ : List VObj) (p1 p2 : Nat) (a : Act) (w : World), InvV P M W0 n ops σ0 e0 X i1 j1 i2 j2 t1 t2 c1 c2 ι0 w0 listed ι σ p1 p2 a w →
      ops.size ≤ fuel + (List.range ops.size).countP (fun j => listed.getD j false) → wpAny P .any ops Q fuel listed a w := by
  have hokd : okDraw ops (fun _ => 0) = true := by unfold okV at hok; simp only [Bool.and_eq_true] at hok; exact hok.1.1
  have full : ∀ (listed : Array Bool), listed.size = ops.size → (∀ i, i < ops.size → listed.getD i false = true) → listed = Array.replicate ops.size true := by
    intro listed hs hall
    refine Array.ext (by simp [hs]) fun i h1 h2 => ?_
    have := hall i (by omega)
    simp [Array.getD_eq_getD_getElem?, h1] at this
    simp [this]
  intro fuel
  induction fuel with
  | zero =>
    intro listed ι σ p1 p2 a w hI hc
    have hall := getElem?_range_all (N := ops.size) (f := fun j => listed.getD j false) (by omega)
    refine ⟨?_, hq ι σ p1 p2 a w (full listed hI.size hall ▸ hI)⟩
    cases hr : Region.ready .any ops listed with
    | nil => rfl
    | cons x xs =>
      obtain ⟨o, ho, hu, _⟩ := mem_ready (i := x) (by rw [hr]; simp) hI.size
      have := hall x (Array.getElem?_eq_some_iff.1 ho).1
      rw [this] at hu; cases hu
  | succ fuel ih =>
    intro listed ι σ p1 p2 a w hI hc
    refine ⟨fun hr => ?_, fun i hi => ?_⟩
    · exact hq ι σ p1 p2 a w (full listed hI.size (ready_nil hokd hI.size hr) ▸ hI)
    · obtain ⟨o, ho, hu, hre⟩ := mem_ready hi hI.size
      have hil := (Array.getElem?_eq_some_iff.1 ho).1
      refine hI.next hst hE hok h1 h2 hc1 hc2 hij hF ho hu hre fun ι' σ' p1' p2' a' w' hI' => ?_
      refine ih _ ι' σ' p1' p2' a' w' hI' ?_
      have := countP_set (fun j => listed.getD j false) (fun j => (listed.setIfInBounds i true).getD j false) i hu (by
        have : i < listed.size := by rw [hI.size]; exact hil
        simp [this]) (fun j hj => by
        simp only [Array.getD_eq_getD_getElem?]
        rw [Array.getElem?_setIfInBounds_ne (by omega)]) (List.range ops.size) List.nodup_range (by simpa using hil)
      omega
end

def KTV (P : Program) (n : Nat) (ops : Array Oper) (σ : List VObj) (C : Nat → List XV) (k : Nat) (l : List Oper) (kn : Kn) (R : List Nat → Kn → Prop) : Prop :=
  ∀ env, Agree kn env → ∃ (fls : List Nat) (e' : Nat → XV) (kn' : Kn), TrV P n ops σ C k l env fls e' ∧ Agree kn' e' ∧ R fls kn'

section
variable {P : Program} {M : Nat → Prop} {W0 : World} {n : Nat} {ops : Array Oper} {σ : List VObj} {C : Nat → List XV} {k : Nat} {l : List Oper} {o : Oper} {kn : Kn}
theorem KTV.nil {R : List Nat → Kn → Prop} (h : R [] kn) : KTV P n ops σ C k [] kn R := fun env he => ⟨[], env, kn, .nil, he, h⟩
theorem KTV.read {R : List Nat → Kn → Prop} {x : XV} {fl : Nat} (hg : guardK ops kn o = some true) (hd : dstOk n o.dst = true) (he : KEv P o σ kn x σ fl) (hf : fl < 2) (h : KTV P n ops σ C (k + 1) l (extK o.dst x kn) (fun fls kn' => R (fl :: fls) kn')) : KTV P n ops σ C k (o :: l) kn R := fun env ha => by
  obtain ⟨fls, e', kn', h1, h2, h3⟩ := h _ (ha.ext o.dst x)
  exact ⟨_, e', kn', .read (guardK_X ha hg) (he env ha) hf hd h1, h2, h3⟩
theorem KTV.make {R : List Nat → Kn → Prop} (hd : dstOk n o.dst = true) (h : KTV P n ops σ C (k + 1) l (extK o.dst undefX kn) (fun fls kn' => R (3 :: fls) kn')) : KTV P n ops σ C k (o :: l) kn R := fun env ha => by
  obtain ⟨fls, e', kn', h1, h2, h3⟩ := h _ (ha.ext o.dst undefX)
  exact ⟨_, e', kn', .make hd h1, h2, h3⟩
theorem KTV.put {R : List Nat → Kn → Prop} {T : TypeId} {t s : Tmp} {xv : XV} (ho : o.op = .store T (.tmp t) (.tmp s)) (hx : look kn s = some xv) (hc : cellsX xv = C k) (hd : o.dst = none) (h : KTV P n ops σ C (k + 1) l kn (fun fls kn' => R (2 :: fls) kn')) : KTV P n ops σ C k (o :: l) kn R := fun env ha => by
  obtain ⟨fls, e', kn', h1, h2, h3⟩ := h _ ha
  exact ⟨_, e', kn', .put ho (ha s xv hx) hc hd h1, h2, h3⟩

def okF (size i1 j1 i2 j2 : Nat) (fls : List Nat) : Bool := (List.range size).all fun i =>
  (!(fls.getD i 0 == 3) || i == i1 || i == i2) && (!(fls.getD i 0 == 2) || i == j1 || i == j2) && (!(decide (fls.getD i 0 < 2)) || (i != i1 && i != i2 && i != j1 && i != j2))

/-- x, y := a, b, where x and y are variables in memory. -/
theorem KC.drawV (hm : P.follows .mixedOrders = true) {rid i1 j1 i2 j2 : Nat} {t1 t2 s1 s2 : Tmp} {c1 c2 : List XV} (h1 : NewV P ops i1 j1 t1 s1 c1) (h2 : NewV P ops i2 j2 t2 s2 c2) (hc1 : C j1 = c1) (hc2 : C j2 = c2)
    (hij : i1 ≠ i2 ∧ j1 ≠ j2 ∧ t1 ≠ t2 ∧ s1 ≠ t1 ∧ s1 ≠ t2 ∧ s2 ≠ t1 ∧ s2 ≠ t2) (hok : okV ops i1 j1 i2 j2 t1 t2 = true) {T : Exit → List VObj → Kn → Prop}
    (h : KTV P n ops σ C 0 ops.toList kn (fun fls kn' => okF ops.size i1 j1 i2 j2 fls = true ∧ ∀ (σ' : List VObj) (p q : Nat), σ.length ≤ p → σ.length ≤ q → p ≠ q → σ'[p]? = some ⟨c1, 0⟩ → σ'[q]? = some ⟨c2, 0⟩ → (∀ j, j < σ.length → σ'[j]? = σ[j]?) → σ.length ≤ σ'.length →
      T .normal σ' ((t1, .optr p 0) :: (t2, .optr q 0) :: kn'))) : KC P M W0 n (.region rid ops true) σ kn T := fun env ha => by
  obtain ⟨fls, e', kn', htr, ha', hfl, hT⟩ := h env ha
  obtain ⟨E, X, hE0, hE1, hst⟩ := htr.fns
  have hst' : ∀ (i : Nat) (o : Oper), ops[i]? = some o → StepsV P n ops σ C E X (fun i => fls.getD i 0) 0 i o := fun i o ho => hst i o (by simpa using ho)
  have hokd : okDraw ops (fun _ => 0) = true := by unfold okV at hok; simp only [Bool.and_eq_true] at hok; exact hok.1.1
  intro ι a w hf Q hq
  have hmem : Mem M W0 ι σ { w with drawn := w.drawn + 1 } ∧ Ext M ι σ w ι σ { w with drawn := w.drawn + 1 } := hf.mem.grown (Below.drew (Below.refl _ _))
  obtain ⟨T1, z1, oa1, os1, ha1, ha1o, ha1d, ha1g, hz1, hz1l, hs1, hs1o, hs1d, hs1g, hsz1, hone1⟩ := (show NewV P ops i1 j1 t1 s1 c1 from h1)
  obtain ⟨T2, z2, oa2, os2, ha2, ha2o, ha2d, ha2g, hz2, hz2l, hs2, hs2o, hs2d, hs2g, hsz2, hone2⟩ := (show NewV P ops i2 j2 t2 s2 c2 from h2)
  have li1 := (Array.getElem?_eq_some_iff.1 ha1).1
  have li2 := (Array.getElem?_eq_some_iff.1 ha2).1
  have lj1 := (Array.getElem?_eq_some_iff.1 hs1).1
  have lj2 := (Array.getElem?_eq_some_iff.1 hs2).1
  refine wp_region_any hm (wpV_of (M := M) (W0 := W0) (ι0 := ι) (w0 := { w with drawn := w.drawn + 1 }) hst' hE0 hok h1 h2 hc1 hc2 hij (fun i o ho => ?_) (fun ι' σ' p1 p2 a' w' hI => ?_) ops.size _ ι σ 0 0 a _ ?_ (by omega))
  · have hi := (Array.getElem?_eq_some_iff.1 ho).1
    have hh := List.all_eq_true.1 hfl i (by simpa using hi)
    show (fls.getD i 0 = 3 → i = i1 ∨ i = i2) ∧ (fls.getD i 0 = 2 → i = j1 ∨ i = j2) ∧ (fls.getD i 0 < 2 → i ≠ i1 ∧ i ≠ i2 ∧ i ≠ j1 ∧ i ≠ j2)
    generalize fls.getD i 0 = v at hh ⊢
    simp at hh
    exact ⟨fun h => by omega, fun h => by omega, fun h => by omega⟩
  · obtain ⟨m1, ⟨b1, m2, m3⟩, cs1, m4, _, m5⟩ := hI.n1 (by simp [li1])
    obtain ⟨r1, ⟨b2, r2, r3⟩, cs2, r4, _, r5⟩ := hI.n2 (by simp [li2])
    have m5 := m5 (by simp [lj1])
    have r5 := r5 (by simp [lj2])
    subst m5 r5
    have hne := hI.ne (by simp [li1]) (by simp [li2])
    refine hq .normal ι' ⟨σ', fun t => if t = t1 then .optr p1 0 else if t = t2 then .optr p2 0 else e' t⟩ a' w' ⟨_, ?_, hT σ' p1 p2 m1 r1 hne m4 r4 hI.old hI.long⟩ ⟨hI.mem, fun t => ?_, hI.tsize, hI.defers⟩ (hmem.2.trans hI.ext)
    · intro t x hx
      simp only [look] at hx
      simp only
      split at hx
      · rename_i e; rw [if_pos e]; exact Option.some.inj hx
      · rename_i e1
        rw [if_neg e1]
        split at hx
        · rename_i e; rw [if_pos e]; exact Option.some.inj hx
        · rename_i e2
          rw [if_neg e2]
          exact ha' t x hx
    · simp only
      split
      · rename_i e; subst e; rw [m2]; exact .optr m3
      · rename_i e1
        split
        · rename_i e; subst e; rw [r2]; exact .optr r3
        · rename_i e2
          have e : envL ops env X (fun j => (Array.replicate ops.size true).getD j false) t = e' t := by
            rw [← hE1]
            by_cases hex : ∃ (j : Nat) (q : Oper), ops[j]? = some q ∧ q.dst = some t
            · obtain ⟨j, q, hq, hd⟩ := hex
              have hj := (Array.getElem?_eq_some_iff.1 hq).1
              rw [envL_some hokd hq hd (by simp [hj]), envV_some hst' hokd hq hd _ (by simp) (by simpa using hj)]
            · rw [envL_none (fun k r hr hl hrd => hex ⟨k, r, hr, hrd⟩), envV_none hst' _ (by simp) (fun k r hk hr hrd => hex ⟨k, r, hr, hrd⟩), hE0]
          rw [← e]; exact hI.env t e1 e2
  · refine ⟨by simp, fun i o hi ho e he hb => ?_, hmem.1, .refl _ _ _ _, fun t _ _ => ?_, fun _ _ => rfl, Nat.le_refl _, fun hl => by simp [li1] at hl, fun hl => by simp [li2] at hl, fun hl => by simp [li1] at hl, hf.size, hf.defers⟩
    · have hil := (Array.getElem?_eq_some_iff.1 ho).1
      simp [hil] at hi
    · rw [envL_none (fun j p hp hl _ => by have := (Array.getElem?_eq_some_iff.1 hp).1; simp [this] at hl)]
      exact (hf.env t).ext hmem.2
end
end Go.Vm

