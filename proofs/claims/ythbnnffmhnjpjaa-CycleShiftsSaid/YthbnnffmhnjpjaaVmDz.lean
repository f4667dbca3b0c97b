import Derived.Test.YthbnnffmhnjpjaaVmU
/-
  VALUES WITHOUT ADDRESSES: statements whose order is open, where a call writes only such objects as the others do not read.
-/
namespace Go.Vm
open Go.RowKit

/-- All but some objects are as they were. -/
def KeepsZ (Z : Nat → Prop) (σ σ2 : List VObj) : Prop := ∀ (id : Nat) (ob : VObj), ¬ Z id → σ[id]? = some ob → ∃ ob', σ2[id]? = some ob' ∧ ob'.cells = ob.cells ∧ (ob'.mode = 2 ↔ ob.mode = 2)
theorem Keeps.z {Z : Nat → Prop} {σ σ2 : List VObj} (h : Keeps σ σ2) : KeepsZ Z σ σ2 := fun id ob _ ho => h id ob ho
theorem KeepsZ.refl {Z : Nat → Prop} (σ : List VObj) : KeepsZ Z σ σ := (Keeps.refl σ).z
theorem KeepsZ.trans {Z : Nat → Prop} {σ σ2 σ3 : List VObj} (h : KeepsZ Z σ σ2) (k : KeepsZ Z σ2 σ3) : KeepsZ Z σ σ3 := fun id ob hz ho => by
  obtain ⟨o2, a1, a2, a3⟩ := h id ob hz ho
  obtain ⟨o3, b1, b2, b3⟩ := k id o2 hz a1
  exact ⟨o3, b1, b2.trans a2, b3.trans a3⟩

def okPairZ (ops : Array Oper) (fl g : Nat → Nat) (i j : Nat) (o p : Oper) : Bool :=
  (match p.dst with
    | some d => (o.dst != some d) && (!(o.looksAt ops).contains d || ordB ops i j)
    | none => true) && (decide (fl j < 2) || fl i == 0 || (fl j == 3 && fl i == 1) || (g j == 2 && g i == 1) || ordB ops i j)
def okDrawZ (ops : Array Oper) (fl g : Nat → Nat) : Bool :=
  (List.range ops.size).all fun i => match ops[i]? with
    | none => true
    | some o => o.after.all (fun e => !bindsA e || e.on < i) && (List.range ops.size).all fun j => j == i || match ops[j]? with
      | none => true
      | some p => okPairZ ops fl g i j o p

structure StepsZ (P : Program) (n : Nat) (ops : Array Oper) (Z : Nat → Prop) (S : Nat → St) (X : Nat → XV) (F G : Nat → Nat) (i : Nat) (o : Oper) : Prop where
  st : Steps' P n ops S X F i o
  rd : G i = 1 → ∀ y ∈ o.op.operands, ∀ id off, evalX (S i).env y = .optr id off → ¬ Z id
  one : G i = 1 → F i = 1
  wr : G i = 2 → KeepsZ Z (S i).σ (S (i + 1)).σ

section
variable {P : Program} {ops : Array Oper}
theorem okDrawZ_edges {F G : Nat → Nat} (h : okDrawZ ops F G = true) {i : Nat} {o : Oper} (ho : ops[i]? = some o) : ∀ e ∈ o.after, bindsA e = true → e.on < i := by
  intro e he hb
  have hi := (Array.getElem?_eq_some_iff.1 ho).1
  have := List.all_eq_true.1 h i (by simpa using hi)
  simp only [ho, Bool.and_eq_true] at this
  have h1 := Array.all_eq_true_iff_forall_mem.1 this.1 e he
  simpa [hb] using h1
theorem okDrawZ_pair {F G : Nat → Nat} (h : okDrawZ ops F G = true) {i j : Nat} {o p : Oper} (ho : ops[i]? = some o) (hp : ops[j]? = some p) (hne : j ≠ i) : okPairZ ops F G i j o p = true := by
  have hi := (Array.getElem?_eq_some_iff.1 ho).1
  have hj := (Array.getElem?_eq_some_iff.1 hp).1
  have h1 := List.all_eq_true.1 h i (by simpa using hi)
  simp only [ho, Bool.and_eq_true] at h1
  have h2 := List.all_eq_true.1 h1.2 j (by simpa using hj)
  simp only [hp, Bool.or_eq_true, beq_iff_eq] at h2
  exact h2.resolve_left hne
theorem okDrawZ_dst {F G : Nat → Nat} (h : okDrawZ ops F G = true) {i j : Nat} {o p : Oper} {t : Nat} (ho : ops[i]? = some o) (hp : ops[j]? = some p) (h1 : o.dst = some t) (h2 : p.dst = some t) : i = j := by
  by_cases e : j = i
  · exact e.symm
  · have := okDrawZ_pair h ho hp e
    simp only [okPairZ, h2, Bool.and_eq_true] at this
    simp [h1] at this
theorem envL_someZ {F G : Nat → Nat} (h : okDrawZ ops F G = true) {e0 X : Nat → XV} {listed : Nat → Bool} {t j : Nat} {p : Oper} (hp : ops[j]? = some p) (hd : p.dst = some t) (hl : listed j = true) : envL ops e0 X listed t = X j := by
  unfold envL
  have hj := (Array.getElem?_eq_some_iff.1 hp).1
  cases hf : (List.range ops.size).find? (writes ops listed t) with
  | none =>
    have := List.find?_eq_none.1 hf j (by simpa using hj)
    simp [writes, hp, hd, hl] at this
  | some k =>
    have h1 := List.find?_some hf
    simp only [writes, Bool.and_eq_true, beq_iff_eq] at h1
    cases hk : ops[k]? with
    | none => rw [hk] at h1; simp at h1
    | some q =>
      rw [hk] at h1
      simp only [Option.bind_some] at h1
      rw [okDrawZ_dst h hk hp h1.2 hd]
section
variable {Z : Nat → Prop} {n : Nat} {S : Nat → St} {X : Nat → XV} {F G : Nat → Nat} (hst : ∀ (i : Nat) (o : Oper), ops[i]? = some o → StepsZ P n ops Z S X F G i o)
include hst
theorem stepsZ : ∀ (i : Nat) (o : Oper), ops[i]? = some o → Steps' P n ops S X F i o := fun i o h => (hst i o h).st
theorem env_someZ (hok : okDrawZ ops F G = true) {t j : Nat} {p : Oper} (hp : ops[j]? = some p) (hd : p.dst = some t) : ∀ i, i ≤ ops.size → j < i → (S i).env t = X j
  | 0, _, h => by omega
  | i + 1, hi, h => by
    have ho := Array.getElem?_eq_getElem (show i < ops.size by omega)
    rw [(hst i _ ho).st.env]
    by_cases e : j = i
    · subst e
      have : ops[j] = p := by rw [ho] at hp; simpa using hp
      rw [this, hd]
      simp [putE, upd]
    · have ih := env_someZ hok hp hd i (by omega) (by omega)
      cases hd' : ops[i].dst with
      | none => simpa [putE] using ih
      | some d =>
        simp only [putE, upd]
        rw [if_neg (fun e' => e (okDrawZ_dst hok hp ho hd (by rw [hd', e'])))]
        exact ih
theorem σ_growZ : ∀ (k i : Nat), i + k ≤ ops.size → (∀ j, i ≤ j → j < i + k → F j ≠ 2 ∨ G j = 2) → KeepsZ Z (S i).σ (S (i + k)).σ
  | 0, _, _, _ => .refl _
  | k + 1, i, hi, h => by
    have ho := Array.getElem?_eq_getElem (show i + k < ops.size by omega)
    refine (σ_growZ k i (by omega) (fun j h1 h2 => h j h1 (by omega))).trans ?_
    rcases h (i + k) (by omega) (by omega) with h1 | h1
    · exact ((hst (i + k) _ ho).st.grow h1).z
    · exact (hst (i + k) _ ho).wr h1
theorem σ_nearZ {p q i : Nat} (hp : p ≤ ops.size) (hq : q ≤ ops.size) (h : ∀ j, F j = 2 → ¬ (G j = 2 ∧ G i = 1) → j < ops.size → (j < p ↔ j < q)) {id : Nat} {ob : VObj} (hz : G i = 1 → ¬ Z id) (hid : id < (S p).σ.length) (ho : (S q).σ[id]? = some ob) : ∃ ob', (S p).σ[id]? = some ob' ∧ ob'.cells = ob.cells ∧ (ob'.mode = 2 ↔ ob.mode = 2) := by
  by_cases hg : G i = 1
  · have hz := hz hg
    rcases Nat.le_total p q with hle | hle
    · have e := σ_growZ hst (q - p) p (by omega) (fun j h1 h2 => Classical.byContradiction fun h3 => by
        have := h j (by omega) (fun h4 => h3 (.inr h4.1)) (by omega); omega)
      rw [show p + (q - p) = q by omega] at e
      obtain ⟨o2, a1, a2, a3⟩ := e id _ hz (List.getElem?_eq_getElem hid)
      rw [ho] at a1
      cases a1
      exact ⟨_, List.getElem?_eq_getElem hid, a2.symm, a3.symm⟩
    · have e := σ_growZ hst (p - q) q (by omega) (fun j h1 h2 => Classical.byContradiction fun h3 => by
        have := h j (by omega) (fun h4 => h3 (.inr h4.1)) (by omega); omega)
      rw [show q + (p - q) = p by omega] at e
      exact e id ob hz ho
  · exact σ_near (stepsZ hst) hp hq (fun j h1 h2 => h j h1 (fun h3 => hg h3.2) h2) hid ho
end
variable {M : Nat → Prop} {W0 : World} {n : Nat} {Z : Nat → Prop} {G : Nat → Nat}

theorem InvL.nextZ {S : Nat → St} {X : Nat → XV} {F : Nat → Nat} (hst : ∀ (i : Nat) (o : Oper), ops[i]? = some o → StepsZ P n ops Z S X F G i o) (hok : okDrawZ ops F G = true)
    {ι0 : List Nat} {w0 : World} {listed : Array Bool} {ι : List Nat} {p : Nat} {a : Act} {w : World} (hI : InvL P M W0 n ops S X F ι0 w0 listed ι p a w)
    {i : Nat} {o : Oper} (ho : ops[i]? = some o) (hun : listed.getD i false = false) (hready : ∀ e ∈ o.after, bindsA e = true → listed.getD e.on false = true) {Q : Exit → Act → World → Prop} {K : Act → World → Prop}
    (hK : ∀ (ι' : List Nat) (p' : Nat) (a' : Act) (w' : World), InvL P M W0 n ops S X F ι0 w0 (listed.setIfInBounds i true) ι' p' a' w' → K a' w') : wpOp P ops Q i K a w := by
  have hi := (Array.getElem?_eq_some_iff.1 ho).1
  have hil : i < listed.size := by rw [hI.size]; exact hi
  have hcl : ∀ (j : Nat) (q : Oper), listed.getD j false = true → ops[j]? = some q → ∀ e ∈ q.after, bindsA e = true → listed.getD e.on false = true := fun j q hj hq => hI.closed j q (by
    rw [getD_bool listed j (by rw [hI.size]; exact (Array.getElem?_eq_some_iff.1 hq).1) true false]; exact hj) hq
  -- what comes before i has been done, what comes behind i has not
  have before : ∀ j, reachB ops 8 i j = true → listed.getD j false = true := fun j h => reach_closed (ops := ops) (C := fun k => listed.getD k false = true) hcl 8 i j o ho hready h
  have behind : ∀ (j : Nat) (q : Oper), ops[j]? = some q → reachB ops 8 j i = true → listed.getD j false = false := fun j q hq h => by
    cases hl : listed.getD j false with
    | false => rfl
    | true =>
      have := reach_closed (ops := ops) (C := fun k => listed.getD k false = true) hcl 8 j i q hq (hcl j q hl hq) h
      rw [hun] at this; cases this
  have hlook : ∀ t ∈ o.looksAt ops, envL ops (S 0).env X (fun j => listed.getD j false) t = (S i).env t := by
    intro t ht
    by_cases hex : ∃ (j : Nat) (q : Oper), ops[j]? = some q ∧ q.dst = some t
    · obtain ⟨j, q, hq, hd⟩ := hex
      have uniq : ∀ (k : Nat) (r : Oper), ops[k]? = some r → r.dst = some t → k = j := fun k r hr hrd => okDrawZ_dst hok hr hq hrd hd
      by_cases e : j = i
      · rw [envL_none (fun k r hr hl hrd => by have := uniq k r hr hrd; subst this; subst e; simp [hun] at hl)]
        rw [env_none (stepsZ hst) i (by omega) (fun k r hk hr hrd => by have := uniq k r hr hrd; omega)]
      · have hpr := okDrawZ_pair hok ho hq e
        simp only [okPairZ, hd, Bool.and_eq_true, Bool.or_eq_true, Bool.not_eq_true'] at hpr
        have hord : ordB ops i j = true := by
          rcases hpr.1.2 with h | h
          · rw [List.contains_iff_mem.2 ht] at h; cases h
          · exact h
        unfold ordB at hord
        split at hord
        · rename_i hlt
          rw [envL_someZ hok hq hd (by exact before j hord), env_someZ hst hok hq hd i (by omega) hlt]
        · rename_i hge
          have hnl := behind j q hq hord
          rw [envL_none (fun k r hr hl hrd => by have := uniq k r hr hrd; subst this; simp [hnl] at hl)]
          rw [env_none (stepsZ hst) i (by omega) (fun k r hk hr hrd => by have := uniq k r hr hrd; omega)]
    · rw [envL_none (fun k r hr hl hrd => hex ⟨k, r, hr, hrd⟩), env_none (stepsZ hst) i (by omega) (fun k r hk hr hrd => hex ⟨k, r, hr, hrd⟩)]
  have hs := hst i o ho
  have hlist : ∀ j, (listed.setIfInBounds i true).getD j false = if j = i then true else listed.getD j false := by
    intro j
    simp only [Array.getD_eq_getD_getElem?]
    by_cases e : j = i
    · subst e; simp [hil]
    · rw [Array.getElem?_setIfInBounds_ne (by omega), if_neg e]
  -- the invariant behind the operation
  have close : ∀ (ι' : List Nat) (p' : Nat) (v : Value) (w' : World), p' ≤ ops.size → (∀ j, 2 ≤ F j → j < ops.size → ((listed.setIfInBounds i true).getD j false = true ↔ j < p')) → Mem M W0 ι' (S p').σ w' → Ext M ι (S p).σ w ι' (S p').σ w' →
      XRep w' ι' (Forb M ι' (S p').σ) v (X i) → InvL P M W0 n ops S X F ι0 w0 (listed.setIfInBounds i true) ι' p' (a.put o.dst v) w' := by
    intro ι' p' v w' h1 h2 h3 h4 h5
    refine ⟨by simp [hI.size], fun j q hj hq e he hb => ?_, h1, h2, h3, hI.ext.trans h4, fun t => ?_, by cases o.dst <;> simp [Act.put, hI.tsize], by cases o.dst <;> simp [Act.put, hI.defers]⟩
    · rw [hlist]
      split
      · rfl
      · by_cases e' : j = i
        · subst e'; rw [ho] at hq; cases hq; exact hready e he hb
        · refine hcl j q ?_ hq e he hb
          have hjl : j < listed.size := by rw [hI.size]; exact (Array.getElem?_eq_some_iff.1 hq).1
          rw [getD_bool _ j (by simpa using hjl) true false, hlist, if_neg e'] at hj
          exact hj
    · by_cases hd : o.dst = some t
      · have e1 : envL ops (S 0).env X (fun j => (listed.setIfInBounds i true).getD j false) t = X i := envL_someZ hok ho hd (by simp only [hlist, if_pos])
        rw [e1]
        have hdo := hs.st.dst
        rw [hd] at hdo
        simp only [dstOk, decide_eq_true_eq] at hdo
        have e2 : (a.put o.dst v).tmps.getD t undef = v := by rw [hd]; simp [Act.put, hI.tsize, hdo]
        rw [e2]; exact h5
      · have e1 : envL ops (S 0).env X (fun j => (listed.setIfInBounds i true).getD j false) t = envL ops (S 0).env X (fun j => listed.getD j false) t := by
          by_cases hex : ∃ (j : Nat) (q : Oper), ops[j]? = some q ∧ q.dst = some t ∧ listed.getD j false = true
          · obtain ⟨j, q, hq, hqd, hl⟩ := hex
            rw [envL_someZ hok hq hqd (by simp only [hlist]; split <;> first | rfl | exact hl), envL_someZ hok hq hqd hl]
          · rw [envL_none (fun k r hr hl hrd => ?_), envL_none (fun k r hr hl hrd => hex ⟨k, r, hr, hrd, hl⟩)]
            simp only [hlist] at hl
            split at hl
            · rename_i e; subst e; rw [ho] at hr; cases hr; exact hd hrd
            · exact hex ⟨k, r, hr, hrd, hl⟩
        rw [e1]
        have e2 : (a.put o.dst v).tmps.getD t undef = a.tmps.getD t undef := by
          cases hod : o.dst with
          | none => rfl
          | some d =>
            have hne : d ≠ t := fun e => hd (by rw [hod, e])
            simp only [Act.put, Array.getD_eq_getD_getElem?]
            rw [Array.getElem?_setIfInBounds_ne hne]
        rw [e2]; exact (hI.env t).ext h4
  have same : ∀ j, 2 ≤ F j → j < ops.size → F i < 2 → ((listed.setIfInBounds i true).getD j false = true ↔ j < p) := by
    intro j hj hjl hf
    rw [hlist, if_neg (fun e => by subst e; omega)]
    exact hI.mods j hj hjl
  unfold wpOp
  rw [ho]
  simp only
  rcases hs.st.ev with ⟨hg, hev⟩ | ⟨hg, hx, hf, hσ⟩
  · rw [← guardX_congr hlook] at hg
    rw [if_pos (by rw [guardX_sound hI.env hg])]
    left
    have hops : ∀ y ∈ o.op.operands, evalX (envL ops (S 0).env X (fun j => listed.getD j false)) y = evalX (S i).env y := by
      intro y hy
      cases y with
      | tmp t => exact hlook t (mem_looks hy)
      | _ => rfl
    have hev' := hev.congr hops
    by_cases hf0 : F i = 0
    · rw [hf0] at hev'
      have hev'' := hev'.pure (S p).σ
      exact hev''.wp (s := ⟨(S p).σ, envL ops (S 0).env X (fun j => listed.getD j false)⟩) hI.mem hI.env fun ι' v w' h1 h2 h3 =>
        hK ι' p _ w' (close ι' p v w' hI.le (fun j hj hjl => same j hj hjl (by omega)) h1 h2 h3)
    · -- what is written has been done as in the text's order
      have hbef : ∀ j, 2 ≤ F j → (F j = 3 → F i ≠ 1) → ¬ (G j = 2 ∧ G i = 1) → j < ops.size → j ≠ i → (j < p ↔ j < i) := by
        intro j hj hj3 hg2 hjl hne
        have hq := Array.getElem?_eq_getElem hjl
        have hpr := okDrawZ_pair hok ho hq hne
        simp only [okPairZ, Bool.and_eq_true, Bool.or_eq_true] at hpr
        have hord : ordB ops i j = true := by
          rcases hpr.2 with (((h | h) | h) | h) | h
          · simp at h; omega
          · simp at h; exact absurd h hf0
          · simp at h; exact absurd h.2 (hj3 h.1)
          · simp at h; exact absurd h hg2
          · exact h
        rw [← hI.mods j hj hjl]
        unfold ordB at hord
        split at hord
        · rename_i hlt
          exact ⟨fun _ => hlt, fun _ => before j hord⟩
        · rename_i hge
          have := behind j _ hq hord
          rw [this]
          exact ⟨(fun h => by cases h), (fun h => by omega)⟩
      by_cases hf1 : F i = 1
      · have hev1 : Ev P o ⟨(S p).σ, envL ops (S 0).env X (fun j => listed.getD j false)⟩ (X i) (S p).σ (F i) := by
          rw [hf1] at hev' ⊢
          refine hev'.one (σ2 := (S p).σ) fun y hy id off he ob hob => ?_
          refine σ_nearZ hst hI.le (by omega) (fun j hj hgj hjl => hbef j (by omega) (by omega) hgj hjl (fun e => by subst e; omega)) (fun hgi => hs.rd hgi y hy id off (by rw [← hops y hy]; exact he)) ?_ hob
          have hr := evalX_rep hI.env y
          simp only at he
          rw [he] at hr
          generalize a.eval y = vy at hr
          cases hr with
          | optr hb =>
            rw [← hI.mem.len]
            exact (List.getElem?_eq_some_iff.1 hb).1
        exact hev1.wp hI.mem hI.env fun ι' v w' h1 h2 h3 => hK ι' p _ w' (close ι' p v w' hI.le (fun j hj hjl => same j hj hjl (by omega)) h1 h2 h3)
      · have hσ : (S p).σ = (S i).σ := by
          refine σ_eq (stepsZ hst) hI.le (by omega) (fun j hj hjl => ?_)
          by_cases e : j = i
          · subst e
            have := hI.mods j hj hjl
            rw [hun] at this
            constructor
            · intro h; exact absurd (this.2 h) (by simp)
            · intro h; omega
          · exact hbef j hj (fun _ => hf1) (fun h => hf1 (hs.one h.2)) hjl e
        have hev2 : Ev P o ⟨(S p).σ, envL ops (S 0).env X (fun j => listed.getD j false)⟩ (X i) (S (i + 1)).σ (F i) := by rw [hσ]; exact hev'
        exact hev2.wp hI.mem hI.env fun ι' v w' h1 h2 h3 => hK ι' (i + 1) _ w' (close ι' (i + 1) v w' (by omega) (fun j hj hjl => by
          rw [hlist]
          by_cases e : j = i
          · subst e; simp
          · rw [if_neg e, hI.mods j hj hjl, hbef j hj (fun _ => hf1) (fun h => hf1 (hs.one h.2)) hjl e]; omega) h1 h2 h3)
  · rw [← guardX_congr hlook] at hg
    rw [if_neg (by rw [guardX_sound hI.env hg]; simp)]
    exact hK ι p _ w (close ι p undef w hI.le (fun j hj hjl => same j hj hjl (by omega)) hI.mem (.refl _ _ _ _) (by rw [hx]; exact .d (.lit _)))


theorem InvL.doneZ {S : Nat → St} {X : Nat → XV} {F : Nat → Nat} (hst : ∀ (i : Nat) (o : Oper), ops[i]? = some o → StepsZ P n ops Z S X F G i o) (hok : okDrawZ ops F G = true)
    {ι0 : List Nat} {w0 : World} {listed : Array Bool} {ι : List Nat} {p : Nat} {a : Act} {w : World} (hI : InvL P M W0 n ops S X F ι0 w0 listed ι p a w) (hall : ∀ i, i < ops.size → listed.getD i false = true) :
    Fr M W0 n ι (S ops.size) a w ∧ Ext M ι0 (S 0).σ w0 ι (S ops.size).σ w := by
  have hσ : (S p).σ = (S ops.size).σ := σ_eq (stepsZ hst) hI.le (Nat.le_refl _) (fun j hj hjl => by
    have := (hI.mods j hj hjl).1 (hall j hjl)
    exact ⟨fun _ => hjl, fun _ => this⟩)
  refine ⟨⟨hσ ▸ hI.mem, fun t => ?_, hI.tsize, hI.defers⟩, hσ ▸ hI.ext⟩
  rw [← hσ]
  have e : envL ops (S 0).env X (fun j => listed.getD j false) t = (S ops.size).env t := by
    by_cases hex : ∃ (j : Nat) (q : Oper), ops[j]? = some q ∧ q.dst = some t
    · obtain ⟨j, q, hq, hd⟩ := hex
      have hj := (Array.getElem?_eq_some_iff.1 hq).1
      rw [envL_someZ hok hq hd (hall j hj), env_someZ hst hok hq hd _ (Nat.le_refl _) hj]
    · rw [envL_none (fun k r hr hl hrd => hex ⟨k, r, hr, hrd⟩), env_none (stepsZ hst) _ (Nat.le_refl _) (fun k r hk hr hrd => hex ⟨k, r, hr, hrd⟩)]
  rw [← e]; exact hI.env t


theorem ready_nilZ {F G : Nat → Nat} (hok : okDrawZ ops F G = true) {listed : Array Bool} (hs : listed.size = ops.size) (h : Region.ready .any ops listed = []) : ∀ i, i < ops.size → listed.getD i false = true := by
  intro i
  induction i using Nat.strongRecOn with
  | _ i ih =>
    intro hi
    cases hl : listed.getD i false with
    | true => rfl
    | false =>
      exfalso
      have ho := Array.getElem?_eq_getElem hi
      have : i ∈ Region.ready .any ops listed := by
        unfold Region.ready
        rw [List.mem_filter]
        refine ⟨by simpa using hi, ?_⟩
        simp only [Bool.and_eq_true, Bool.not_eq_true']
        refine ⟨by rw [getD_bool listed i (by omega) true false]; exact hl, ?_⟩
        rw [ho]
        simp only [Option.map_some, Option.getD_some]
        refine Array.all_eq_true_iff_forall_mem.2 fun e he => ?_
        by_cases hb : bindsA e = true
        · have hlt := okDrawZ_edges hok ho e he hb
          simp [ih e.on hlt (by omega)]
        · have hb' : Region.binds .any e = false := by simpa [bindsA] using hb
          simp [hb']
      rw [h] at this; cases this


theorem wpAny_ofZ {S : Nat → St} {X : Nat → XV} {F : Nat → Nat} (hst : ∀ (i : Nat) (o : Oper), ops[i]? = some o → StepsZ P n ops Z S X F G i o) (hok : okDrawZ ops F G = true)
    {ι0 : List Nat} {w0 : World} {Q : Exit → Act → World → Prop}
    (hq : ∀ (ι : List Nat) (a : Act) (w : World), Fr M W0 n ι (S ops.size) a w → Ext M ι0 (S 0).σ w0 ι (S ops.size).σ w → Q .normal a w) :
    ∀ (fuel : Nat) (listed : Array Bool) (ι : List Nat) (p : Nat) (a : Act) (w : World), InvL P M W0 n ops S X F ι0 w0 listed ι p a w → ops.size ≤ fuel + (List.range ops.size).countP (fun j => listed.getD j false) →
      wpAny P .any ops Q fuel listed a w
  | 0, listed, ι, p, a, w, hI, hc => by
    have hall := getElem?_range_all (N := ops.size) (f := fun j => listed.getD j false) (by omega)
    obtain ⟨h1, h2⟩ := hI.doneZ hst hok hall
    refine ⟨?_, hq ι a w h1 h2⟩
    cases hr : Region.ready .any ops listed with
    | nil => rfl
    | cons x xs =>
      obtain ⟨o, ho, hu, _⟩ := mem_ready (i := x) (by rw [hr]; simp) hI.size
      have := hall x (Array.getElem?_eq_some_iff.1 ho).1
      rw [this] at hu; cases hu
  | fuel + 1, listed, ι, p, a, w, hI, hc => by
    refine ⟨fun hr => ?_, fun i hi => ?_⟩
    · obtain ⟨h1, h2⟩ := hI.doneZ hst hok (ready_nilZ hok hI.size hr)
      exact hq ι a w h1 h2
    · obtain ⟨o, ho, hu, hre⟩ := mem_ready hi hI.size
      have hil := (Array.getElem?_eq_some_iff.1 ho).1
      refine hI.nextZ hst hok ho hu hre fun ι' p' a' w' hI' => ?_
      refine wpAny_ofZ hst hok hq fuel _ ι' p' a' w' hI' ?_
      have := countP_set (fun j => listed.getD j false) (fun j => (listed.setIfInBounds i true).getD j false) i hu (by
        have : i < listed.size := by rw [hI.size]; exact hil
        simp [this]) (fun j hj => by
        simp only [Array.getD_eq_getD_getElem?]
        rw [Array.getElem?_setIfInBounds_ne (by omega)]) (List.range ops.size) List.nodup_range (by simpa using hil)
      omega


/-- A list of operations; which of them read what is kept, and which write only what is not. -/
inductive TrZ (P : Program) (n : Nat) (ops : Array Oper) (Z : Nat → Prop) : List Oper → St → List Nat → List Nat → St → Prop
  | nil {s : St} : TrZ P n ops Z [] s [] [] s
  | step {o : Oper} {l : List Oper} {s s' : St} {x : XV} {σ' : List VObj} {fl g : Nat} {fls gs : List Nat} (hg : guardX ops s.env o = some true) (he : Ev P o s x σ' fl) (hd : dstOk n o.dst = true)
      (hr : g = 1 → ∀ y ∈ o.op.operands, ∀ id off, evalX s.env y = .optr id off → ¬ Z id) (h1 : g = 1 → fl = 1) (hw : g = 2 → KeepsZ Z s.σ σ')
      (h : TrZ P n ops Z l ⟨σ', putE s.env o.dst x⟩ fls gs s') : TrZ P n ops Z (o :: l) s (fl :: fls) (g :: gs) s'
theorem TrZ.fns {l : List Oper} {s s' : St} {fls gs : List Nat} (h : TrZ P n ops Z l s fls gs s') : ∃ (S : Nat → St) (X : Nat → XV), S 0 = s ∧ S l.length = s' ∧ ∀ (i : Nat) (o : Oper), l[i]? = some o → StepsZ P n ops Z S X (fun i => fls.getD i 0) (fun i => gs.getD i 0) i o := by
  induction h with
  | @nil s => exact ⟨fun _ => s, fun _ => undefX, rfl, rfl, fun i o h => by simp at h⟩
  | @step o l s s' x σ' fl g fls gs hg he hd hr h1 hw h ih =>
    obtain ⟨S, X, h0, h2, h3⟩ := ih
    refine ⟨consF s S, consF x X, rfl, h2, fun i o' hi => ?_⟩
    cases i with
    | zero =>
      simp at hi; subst hi
      exact ⟨⟨hd, by show (S 0).env = _; rw [h0]; rfl, .inl ⟨hg, by show Ev P o s x (S 0).σ fl; rw [h0]; exact he⟩⟩, fun hg => hr (by simpa using hg), fun hg => by simpa using h1 (by simpa using hg),
        fun hg => by show KeepsZ Z s.σ (S 0).σ; rw [h0]; exact hw (by simpa using hg)⟩
    | succ i =>
      have := h3 i o' (by simpa using hi)
      exact ⟨⟨this.st.dst, this.st.env, this.st.ev⟩, fun hg => this.rd (by simpa using hg), fun hg => by simpa using this.one (by simpa using hg), fun hg => this.wr (by simpa using hg)⟩

theorem Wp.drawZ {id : Nat} {s s' : St} {fls gs : List Nat} {T : Exit → St → Prop} (hm : P.follows .mixedOrders = true) (h : TrZ P n ops Z ops.toList s fls gs s') (hok : okDrawZ ops (fun i => fls.getD i 0) (fun i => gs.getD i 0) = true) (hT : T .normal s') :
    Wp P M W0 n (.region id ops true) s T := by
  obtain ⟨S, X, h0, h1, h2⟩ := h.fns
  have hst : ∀ (i : Nat) (o : Oper), ops[i]? = some o → StepsZ P n ops Z S X (fun i => fls.getD i 0) (fun i => gs.getD i 0) i o := fun i o ho => h2 i o (by simpa using ho)
  intro ι a w hf Q hq
  have hlen : S ops.size = s' := by rw [← h1]; simp
  have hmem : Mem M W0 ι s.σ { w with drawn := w.drawn + 1 } ∧ Ext M ι s.σ w ι s.σ { w with drawn := w.drawn + 1 } := hf.mem.grown (Below.drew (Below.refl _ _))
  refine wp_region_any hm (wpAny_ofZ (M := M) (W0 := W0) (ι0 := ι) (w0 := { w with drawn := w.drawn + 1 }) hst hok (fun ι' a' w' k1 k2 => hq .normal ι' s' a' w' hT (hlen ▸ k1) (hmem.2.trans (by rw [← h0, ← hlen]; exact k2))) ops.size _ ι 0 a _ ?_ (by omega))
  refine ⟨by simp, fun i o hi ho e he hb => ?_, Nat.zero_le _, fun j hj hjl => by simp [hjl], by rw [h0]; exact hmem.1, by rw [h0]; exact .refl _ _ _ _, fun t => ?_, hf.size, hf.defers⟩
  · have hil := (Array.getElem?_eq_some_iff.1 ho).1
    simp [hil] at hi
  · rw [envL_none (fun j p hp hl _ => by have := (Array.getElem?_eq_some_iff.1 hp).1; simp [this] at hl), h0]
    exact (hf.env t).ext hmem.2

/-- The walk over such a statement. -/
def KTZ (P : Program) (n : Nat) (ops : Array Oper) (Z : Nat → Prop) (l : List Oper) (σ : List VObj) (kn : Kn) (R : List Nat → List Nat → List VObj → Kn → Prop) : Prop :=
  ∀ env, Agree kn env → ∃ (fls gs : List Nat) (s' : St) (kn' : Kn), TrZ P n ops Z l ⟨σ, env⟩ fls gs s' ∧ Agree kn' s'.env ∧ R fls gs s'.σ kn'
variable {l : List Oper} {o : Oper} {σ σ' : List VObj} {kn : Kn}
theorem KTZ.nil {R : List Nat → List Nat → List VObj → Kn → Prop} (h : R [] [] σ kn) : KTZ P n ops Z [] σ kn R := fun env he => ⟨[], [], _, kn, .nil, he, h⟩
theorem KTZ.step {R : List Nat → List Nat → List VObj → Kn → Prop} {x : XV} {fl : Nat} (hg : guardK ops kn o = some true) (hd : dstOk n o.dst = true) (he : KEv P o σ kn x σ' fl)
    (h : KTZ P n ops Z l σ' (extK o.dst x kn) (fun fls gs τ k => R (fl :: fls) (0 :: gs) τ k)) : KTZ P n ops Z (o :: l) σ kn R := by
  intro env ha
  obtain ⟨fls, gs, s', kn', h1, h2, h3⟩ := h (putE env o.dst x) (ha.ext o.dst x)
  exact ⟨fl :: fls, 0 :: gs, s', kn', .step (s := ⟨σ, env⟩) (guardK_X ha hg) (he env ha) hd (fun h => by cases h) (fun h => by cases h) (fun h => by cases h) h1, h2, h3⟩
/-- A load of what no other operation writes. -/
theorem KTZ.load {R : List Nat → List Nat → List VObj → Kn → Prop} {x : XV} {t : TypeId} {y : Operand} {dst : Option Tmp} {ty : TypeId} {pos : String} {af : Array Edge} {gd : Option (Nat × Bool)} {id off : Nat}
    (hg : guardK ops kn ⟨dst, .load t y, ty, pos, af, gd⟩ = some true) (hd : dstOk n dst = true) (hy : evK kn y = some (.optr id off)) (hz : ¬ Z id) (he : KEv P ⟨dst, .load t y, ty, pos, af, gd⟩ σ kn x σ 1)
    (h : KTZ P n ops Z l σ (extK dst x kn) (fun fls gs τ k => R (1 :: fls) (1 :: gs) τ k)) : KTZ P n ops Z (⟨dst, .load t y, ty, pos, af, gd⟩ :: l) σ kn R := by
  intro env ha
  obtain ⟨fls, gs, s', kn', h1, h2, h3⟩ := h (putE env dst x) (ha.ext dst x)
  refine ⟨1 :: fls, 1 :: gs, s', kn', .step (s := ⟨σ, env⟩) (guardK_X ha hg) (he env ha) hd (fun _ z hz' i o hi => ?_) (fun _ => rfl) (fun h => by cases h) h1, h2, h3⟩
  simp [Op.operands] at hz'
  subst hz'
  rw [evK_evalX ha hy] at hi
  cases hi
  exact hz
/-- A call that writes only such objects. -/
theorem KTZ.write {R : List Nat → List Nat → List VObj → Kn → Prop} {x : XV} (hg : guardK ops kn o = some true) (hd : dstOk n o.dst = true) (hk : KeepsZ Z σ σ') (he : KEv P o σ kn x σ' 2)
    (h : KTZ P n ops Z l σ' (extK o.dst x kn) (fun fls gs τ k => R (2 :: fls) (2 :: gs) τ k)) : KTZ P n ops Z (o :: l) σ kn R := by
  intro env ha
  obtain ⟨fls, gs, s', kn', h1, h2, h3⟩ := h (putE env o.dst x) (ha.ext o.dst x)
  exact ⟨2 :: fls, 2 :: gs, s', kn', .step (s := ⟨σ, env⟩) (guardK_X ha hg) (he env ha) hd (fun h => by cases h) (fun h => by cases h) (fun _ => hk) h1, h2, h3⟩
theorem KC.drawZ (Z : Nat → Prop) (hm : P.follows .mixedOrders = true) {id : Nat} {T : Exit → List VObj → Kn → Prop} (h : KTZ P n ops Z ops.toList σ kn (fun fls gs τ k => okDrawZ ops (fun i => fls.getD i 0) (fun i => gs.getD i 0) = true ∧ T .normal τ k)) :
    KC P M W0 n (.region id ops true) σ kn T := by
  intro env he
  obtain ⟨fls, gs, s', kn', h1, h2, h3, h4⟩ := h env he
  exact .drawZ hm h1 h3 ⟨kn', h2, h4⟩
end
end Go.Vm

