import Derived.Test.YthbnnffmhnjpjaaVmK
/-
  VALUES WITHOUT ADDRESSES, 12: statements that leave their order open.
-/
namespace Go.Vm
open Go.RowKit

def bindsA (e : Edge) : Bool := Region.binds .any e

/-- What some operations come right after. -/
def stepF (ops : Array Oper) (xs : List Nat) : List Nat := (xs.flatMap fun i => match ops[i]? with
  | some o => (o.after.toList.filter bindsA).map (·.on)
  | none => []).eraseDups

def reachL (ops : Array Oper) : Nat → List Nat → Nat → Bool
  | 0, _, _ => false
  | d + 1, xs, k => (stepF ops xs).contains k || reachL ops d (stepF ops xs) k

/-- Operation i comes after operation k in whatever order. -/
def reachB (ops : Array Oper) (d i k : Nat) : Bool := reachL ops d [i] k

def ordB (ops : Array Oper) (i j : Nat) : Bool := if j < i then reachB ops 8 i j else reachB ops 8 j i

def okPair (ops : Array Oper) (fl : Nat → Nat) (i j : Nat) (o p : Oper) : Bool :=
  (match p.dst with
    | some d => (o.dst != some d) && (!(o.looksAt ops).contains d || ordB ops i j)
    | none => true) && (decide (fl j < 2) || fl i == 0 || (fl j == 3 && fl i == 1) || ordB ops i j)

/-- The order does not matter. -/
def okDraw (ops : Array Oper) (fl : Nat → Nat) : Bool :=
  (List.range ops.size).all fun i => match ops[i]? with
    | none => true
    | some o => o.after.all (fun e => !bindsA e || e.on < i) && (List.range ops.size).all fun j => j == i || match ops[j]? with
      | none => true
      | some p => okPair ops fl i j o p

section
variable {P : Program} {ops : Array Oper}

theorem mem_stepF {xs : List Nat} {k : Nat} (h : k ∈ stepF ops xs) : ∃ i o, i ∈ xs ∧ ops[i]? = some o ∧ ∃ e ∈ o.after, bindsA e = true ∧ e.on = k := by
  unfold stepF at h
  rw [List.mem_eraseDups, List.mem_flatMap] at h
  obtain ⟨i, hi, hk⟩ := h
  cases ho : ops[i]? with
  | none => rw [ho] at hk; simp at hk
  | some o =>
    rw [ho] at hk
    simp only [List.mem_map, List.mem_filter] at hk
    obtain ⟨e, ⟨he, hb⟩, rfl⟩ := hk
    exact ⟨i, o, hi, ho, e, Array.mem_toList_iff.1 he, hb, rfl⟩

theorem reachL_closed {C : Nat → Prop} (hC : ∀ (i : Nat) (o : Oper), C i → ops[i]? = some o → ∀ e ∈ o.after, bindsA e = true → C e.on) : ∀ (d : Nat) (xs : List Nat) (k : Nat),
    (∀ i ∈ xs, ∀ o, ops[i]? = some o → ∀ e ∈ o.after, bindsA e = true → C e.on) → reachL ops d xs k = true → C k
  | 0, _, _, _, h => by simp [reachL] at h
  | d + 1, xs, k, hx, h => by
    have key : ∀ y ∈ stepF ops xs, C y := fun y hy => by
      obtain ⟨i, o, hi, ho, e, he, hb, rfl⟩ := mem_stepF hy
      exact hx i hi o ho e he hb
    simp only [reachL, Bool.or_eq_true] at h
    rcases h with h | h
    · exact key k (List.contains_iff_mem.1 h)
    · exact reachL_closed hC d _ k (fun i hi o ho e he hb => hC i o (key i hi) ho e he hb) h

theorem reach_closed {C : Nat → Prop} (hC : ∀ (i : Nat) (o : Oper), C i → ops[i]? = some o → ∀ e ∈ o.after, bindsA e = true → C e.on) (d i k : Nat) (o : Oper) (ho : ops[i]? = some o) (hi : ∀ e ∈ o.after, bindsA e = true → C e.on) (h : reachB ops d i k = true) : C k :=
  reachL_closed hC d [i] k (fun j hj q hq e he hb => by
    simp at hj; subst hj; rw [ho] at hq; cases hq; exact hi e he hb) h

/-- Where the operands read alike and nothing was done with the objects. -/
theorem Ev.congr {o : Oper} {s : St} {x : XV} {σ' : List VObj} {fl : Nat} (h : Ev P o s x σ' fl) {env2 : Nat → XV} (he : ∀ y ∈ o.op.operands, evalX env2 y = evalX s.env y) : Ev P o ⟨s.σ, env2⟩ x σ' fl := by
  cases h with
  | op h => exact .op (by rw [evalOp_congr (env := s.env) he]; exact h)
  | call ho hf hp hd hc =>
    rename_i callee args ts f first caps dargs res
    have hargs : args.toList.map (evalX env2) = args.toList.map (evalX s.env) := List.map_congr_left fun y hy => he y (by rw [ho]; simp [Op.operands, Call.operands]; exact .inr (by simpa using hy))
    exact Ev.call (s := ⟨s.σ, env2⟩) ho (by show asFn (evalX env2 callee) = _; rw [he callee (by rw [ho]; simp [Op.operands, Call.operands])]; exact hf) hp (by show first ++ args.toList.map (evalX env2) ++ caps = _; rw [hargs]; exact hd) hc
  | callF ids n ho hf hp hd hc =>
    rename_i callee args ts f first caps dargs res
    have hargs : args.toList.map (evalX env2) = args.toList.map (evalX s.env) := List.map_congr_left fun y hy => he y (by rw [ho]; simp [Op.operands, Call.operands]; exact .inr (by simpa using hy))
    exact Ev.callF (s := ⟨s.σ, env2⟩) ids n ho (by show asFn (evalX env2 callee) = _; rw [he callee (by rw [ho]; simp [Op.operands, Call.operands])]; exact hf) hp (by show (first ++ args.toList.map (evalX env2) ++ caps).mapM _ = _; rw [hargs]; exact hd) hc
  | inl ho hf hp hc =>
    rename_i callee args ts f first caps
    have hargs : args.toList.map (evalX env2) = args.toList.map (evalX s.env) := List.map_congr_left fun y hy => he y (by rw [ho]; simp [Op.operands, Call.operands]; exact .inr (by simpa using hy))
    exact Ev.inl (s := ⟨s.σ, env2⟩) ho (by show asFn (evalX env2 callee) = _; rw [he callee (by rw [ho]; simp [Op.operands, Call.operands])]; exact hf) hp (by
      intro M W0; have := hc M W0; rw [← hargs] at this; exact this)
  | inlG ho hf hp hc =>
    rename_i callee args ts f first caps τ
    have hargs : args.toList.map (evalX env2) = args.toList.map (evalX s.env) := List.map_congr_left fun y hy => he y (by rw [ho]; simp [Op.operands, Call.operands]; exact .inr (by simpa using hy))
    exact Ev.inlG (s := ⟨s.σ, env2⟩) ho (by show asFn (evalX env2 callee) = _; rw [he callee (by rw [ho]; simp [Op.operands, Call.operands])]; exact hf) hp (by
      intro M W0; have := hc M W0; rw [← hargs] at this; exact this)

theorem Ev.pure {o : Oper} {s : St} {x : XV} {σ' : List VObj} (h : Ev P o s x σ' 0) (σ2 : List VObj) : Ev P o ⟨σ2, s.env⟩ x σ2 0 := by
  cases h with
  | op h => exact .op (evalOp_pure h σ2)
  | call ho hf hp hd hc => exact Ev.call (s := ⟨σ2, s.env⟩) ho hf hp hd hc

theorem Ev.read {o : Oper} {s : St} {x : XV} {σ' : List VObj} {fl : Nat} (h : Ev P o s x σ' fl) (hf : fl < 2) : σ' = s.σ := by
  cases h with
  | op h => exact evalOp_read h hf
  | call => rfl
  | callF => omega
  | inl => omega
  | inlG => omega

/-- What is there is still there, with the same cells. -/
def Keeps (σ σ2 : List VObj) : Prop := ∀ (id : Nat) (ob : VObj), σ[id]? = some ob → ∃ ob', σ2[id]? = some ob' ∧ ob'.cells = ob.cells ∧ (ob'.mode = 2 ↔ ob.mode = 2)
theorem Keeps.refl (σ : List VObj) : Keeps σ σ := fun _ ob h => ⟨ob, h, rfl, Iff.rfl⟩
theorem Keeps.trans {σ σ2 σ3 : List VObj} (h : Keeps σ σ2) (k : Keeps σ2 σ3) : Keeps σ σ3 := fun id ob ho => by
  obtain ⟨o2, a1, a2, a3⟩ := h id ob ho
  obtain ⟨o3, b1, b2, b3⟩ := k id o2 a1
  exact ⟨o3, b1, b2.trans a2, b3.trans a3⟩
theorem Keeps.append (σ τ : List VObj) : Keeps σ (σ ++ τ) := fun id ob ho => ⟨ob, by rw [List.getElem?_append_left (List.getElem?_eq_some_iff.1 ho).1]; exact ho, rfl, Iff.rfl⟩
theorem Keeps.freeze (σ : List VObj) (ids : List Nat) : Keeps σ (freezeIds σ ids) := fun id ob ho => by
  simp only [freezeIds, List.getElem?_mapIdx, ho, Option.map_some]
  split
  · rename_i h
    simp only [Bool.and_eq_true, beq_iff_eq] at h
    exact ⟨_, rfl, rfl, by simp [h.2]⟩
  · exact ⟨_, rfl, rfl, Iff.rfl⟩

theorem Ev.grow {o : Oper} {s : St} {x : XV} {σ' : List VObj} {fl : Nat} (h : Ev P o s x σ' fl) (hf : fl ≠ 2) : Keeps s.σ σ' := by
  cases h with
  | op h => obtain ⟨τ, rfl⟩ := evalOp_grow h hf; exact .append _ _
  | call => exact .refl _
  | callF ids => exact .freeze _ ids
  | inl => exact absurd rfl hf
  | inlG => exact .append _ _

theorem Ev.one {o : Oper} {s : St} {x : XV} {σ' σ2 : List VObj} (h : Ev P o s x σ' 1) (h2 : ∀ y ∈ o.op.operands, ∀ id off, evalX s.env y = .optr id off → ∀ ob, s.σ[id]? = some ob → ∃ ob', σ2[id]? = some ob' ∧ ob'.cells = ob.cells ∧ (ob'.mode = 2 ↔ ob.mode = 2)) : Ev P o ⟨σ2, s.env⟩ x σ2 1 := by
  cases h with
  | op h => exact .op (evalOp_one h h2)

/-- What each operation does, in the text's order. -/
structure Steps' (P : Program) (n : Nat) (ops : Array Oper) (S : Nat → St) (X : Nat → XV) (F : Nat → Nat) (i : Nat) (o : Oper) : Prop where
  dst : dstOk n o.dst = true
  env : (S (i + 1)).env = putE (S i).env o.dst (X i)
  ev : (guardX ops (S i).env o = some true ∧ Ev P o (S i) (X i) (S (i + 1)).σ (F i)) ∨ (guardX ops (S i).env o = some false ∧ X i = undefX ∧ F i = 0 ∧ (S (i + 1)).σ = (S i).σ)

theorem Steps'.same {n : Nat} {S : Nat → St} {X : Nat → XV} {F : Nat → Nat} {i : Nat} {o : Oper} (h : Steps' P n ops S X F i o) (hf : F i < 2) : (S (i + 1)).σ = (S i).σ := by
  rcases h.ev with ⟨_, h⟩ | ⟨_, _, _, h⟩
  · exact h.read hf
  · exact h

theorem Steps'.grow {n : Nat} {S : Nat → St} {X : Nat → XV} {F : Nat → Nat} {i : Nat} {o : Oper} (h : Steps' P n ops S X F i o) (hf : F i ≠ 2) : Keeps (S i).σ (S (i + 1)).σ := by
  rcases h.ev with ⟨_, h⟩ | ⟨_, _, _, h⟩
  · exact h.grow hf
  · rw [h]; exact .refl _

def writes (ops : Array Oper) (listed : Nat → Bool) (t : Nat) (j : Nat) : Bool := listed j && ((ops[j]?).bind (·.dst)) == some t

/-- The frame when the listed operations have been done. -/
def envL (ops : Array Oper) (e0 : Nat → XV) (X : Nat → XV) (listed : Nat → Bool) (t : Nat) : XV :=
  match (List.range ops.size).find? (writes ops listed t) with
  | some j => X j
  | none => e0 t

theorem okDraw_edges {F : Nat → Nat} (h : okDraw ops F = true) {i : Nat} {o : Oper} (ho : ops[i]? = some o) : ∀ e ∈ o.after, bindsA e = true → e.on < i := by
  intro e he hb
  have hi := (Array.getElem?_eq_some_iff.1 ho).1
  have := List.all_eq_true.1 h i (by simpa using hi)
  simp only [ho, Bool.and_eq_true] at this
  have h1 := Array.all_eq_true_iff_forall_mem.1 this.1 e he
  simpa [hb] using h1

theorem okDraw_pair {F : Nat → Nat} (h : okDraw ops F = true) {i j : Nat} {o p : Oper} (ho : ops[i]? = some o) (hp : ops[j]? = some p) (hne : j ≠ i) : okPair ops F i j o p = true := by
  have hi := (Array.getElem?_eq_some_iff.1 ho).1
  have hj := (Array.getElem?_eq_some_iff.1 hp).1
  have h1 := List.all_eq_true.1 h i (by simpa using hi)
  simp only [ho, Bool.and_eq_true] at h1
  have h2 := List.all_eq_true.1 h1.2 j (by simpa using hj)
  simp only [hp, Bool.or_eq_true, beq_iff_eq] at h2
  exact h2.resolve_left hne

theorem okDraw_dst {F : Nat → Nat} (h : okDraw ops F = true) {i j : Nat} {o p : Oper} {t : Nat} (ho : ops[i]? = some o) (hp : ops[j]? = some p) (h1 : o.dst = some t) (h2 : p.dst = some t) : i = j := by
  by_cases e : j = i
  · exact e.symm
  · have := okDraw_pair h ho hp e
    simp only [okPair, h2, Bool.and_eq_true] at this
    simp [h1] at this

theorem envL_some {F : Nat → Nat} (h : okDraw ops F = true) {e0 X : Nat → XV} {listed : Nat → Bool} {t j : Nat} {p : Oper} (hp : ops[j]? = some p) (hd : p.dst = some t) (hl : listed j = true) : envL ops e0 X listed t = X j := by
  unfold envL
  have hj := (Array.getElem?_eq_some_iff.1 hp).1
  cases hf : (List.range ops.size).find? (writes ops listed t) with
  | none =>
    have := List.find?_eq_none.1 hf j (by simpa using hj)
    simp [writes, hp, hd, hl] at this
  | some k =>
    have h1 := List.find?_some hf
    simp only [writes, Bool.and_eq_true, beq_iff_eq] at h1
    cases hk : ops[k]? with
    | none => rw [hk] at h1; simp at h1
    | some q =>
      rw [hk] at h1
      simp only [Option.bind_some] at h1
      rw [okDraw_dst h hk hp h1.2 hd]

theorem envL_none {e0 X : Nat → XV} {listed : Nat → Bool} {t : Nat} (h : ∀ (j : Nat) (p : Oper), ops[j]? = some p → listed j = true → p.dst ≠ some t) : envL ops e0 X listed t = e0 t := by
  unfold envL
  cases hf : (List.range ops.size).find? (writes ops listed t) with
  | none => rfl
  | some k =>
    have h1 := List.find?_some hf
    simp only [writes, Bool.and_eq_true, beq_iff_eq] at h1
    cases hk : ops[k]? with
    | none => rw [hk] at h1; simp at h1
    | some q =>
      rw [hk] at h1
      exact absurd h1.2 (h k q hk h1.1)

section
variable {n : Nat} {S : Nat → St} {X : Nat → XV} {F : Nat → Nat} (hst : ∀ (i : Nat) (o : Oper), ops[i]? = some o → Steps' P n ops S X F i o)
include hst

theorem env_none {t : Nat} : ∀ i, i ≤ ops.size → (∀ (j : Nat) (p : Oper), j < i → ops[j]? = some p → p.dst ≠ some t) → (S i).env t = (S 0).env t
  | 0, _, _ => rfl
  | i + 1, hi, h => by
    have ho := Array.getElem?_eq_getElem (show i < ops.size by omega)
    rw [(hst i _ ho).env]
    have hne := h i _ (Nat.lt_succ_self i) ho
    have ih := env_none i (by omega) (fun j p hj hp => h j p (by omega) hp)
    cases hd : ops[i].dst with
    | none => simpa [putE] using ih
    | some d =>
      simp only [putE, upd]
      rw [if_neg (fun e => hne (by rw [hd, e]))]
      exact ih

theorem env_some (hok : okDraw ops F = true) {t j : Nat} {p : Oper} (hp : ops[j]? = some p) (hd : p.dst = some t) : ∀ i, i ≤ ops.size → j < i → (S i).env t = X j
  | 0, _, h => by omega
  | i + 1, hi, h => by
    have ho := Array.getElem?_eq_getElem (show i < ops.size by omega)
    rw [(hst i _ ho).env]
    by_cases e : j = i
    · subst e
      have : ops[j] = p := by rw [ho] at hp; simpa using hp
      rw [this, hd]
      simp [putE, upd]
    · have ih := env_some hok hp hd i (by omega) (by omega)
      cases hd' : ops[i].dst with
      | none => simpa [putE] using ih
      | some d =>
        simp only [putE, upd]
        rw [if_neg (fun e' => e (okDraw_dst hok hp ho hd (by rw [hd', e'])))]
        exact ih

theorem σ_same : ∀ (k i : Nat), i + k ≤ ops.size → (∀ j, i ≤ j → j < i + k → F j < 2) → (S (i + k)).σ = (S i).σ
  | 0, _, _, _ => rfl
  | k + 1, i, hi, h => by
    have ho := Array.getElem?_eq_getElem (show i + k < ops.size by omega)
    rw [← σ_same k i (by omega) (fun j h1 h2 => h j h1 (by omega))]
    exact (hst (i + k) _ ho).same (h _ (by omega) (by omega))

theorem σ_grow : ∀ (k i : Nat), i + k ≤ ops.size → (∀ j, i ≤ j → j < i + k → F j ≠ 2) → Keeps (S i).σ (S (i + k)).σ
  | 0, _, _, _ => .refl _
  | k + 1, i, hi, h => by
    have ho := Array.getElem?_eq_getElem (show i + k < ops.size by omega)
    exact (σ_grow k i (by omega) (fun j h1 h2 => h j h1 (by omega))).trans ((hst (i + k) _ ho).grow (h _ (by omega) (by omega)))

theorem σ_eq {p q : Nat} (hp : p ≤ ops.size) (hq : q ≤ ops.size) (h : ∀ j, 2 ≤ F j → j < ops.size → (j < p ↔ j < q)) : (S p).σ = (S q).σ := by
  rcases Nat.le_total p q with hle | hle
  · have := σ_same hst (q - p) p (by omega) (fun j h1 h2 => Nat.lt_of_not_le fun h3 => by have := h j h3 (by omega); omega)
    rw [show p + (q - p) = q by omega] at this
    exact this.symm
  · have := σ_same hst (p - q) q (by omega) (fun j h1 h2 => Nat.lt_of_not_le fun h3 => by have := h j h3 (by omega); omega)
    rw [show q + (p - q) = p by omega] at this
    exact this

/-- Between two points where all that is written has been done alike, one has what the other has, and perhaps more. -/
theorem σ_near {p q : Nat} (hp : p ≤ ops.size) (hq : q ≤ ops.size) (h : ∀ j, F j = 2 → j < ops.size → (j < p ↔ j < q)) {id : Nat} {ob : VObj} (hid : id < (S p).σ.length) (ho : (S q).σ[id]? = some ob) : ∃ ob', (S p).σ[id]? = some ob' ∧ ob'.cells = ob.cells ∧ (ob'.mode = 2 ↔ ob.mode = 2) := by
  rcases Nat.le_total p q with hle | hle
  · have e := σ_grow hst (q - p) p (by omega) (fun j h1 h2 h3 => by have := h j h3 (by omega); omega)
    rw [show p + (q - p) = q by omega] at e
    obtain ⟨o2, a1, a2, a3⟩ := e id _ (List.getElem?_eq_getElem hid)
    rw [ho] at a1
    cases a1
    exact ⟨_, List.getElem?_eq_getElem hid, a2.symm, a3.symm⟩
  · have e := σ_grow hst (p - q) q (by omega) (fun j h1 h2 h3 => by have := h j h3 (by omega); omega)
    rw [show q + (p - q) = p by omega] at e
    exact e id ob ho

end

/-- What holds when some operations have been done. -/
structure InvL (P : Program) (M : Nat → Prop) (W0 : World) (n : Nat) (ops : Array Oper) (S : Nat → St) (X : Nat → XV) (F : Nat → Nat) (ι0 : List Nat) (w0 : World) (listed : Array Bool) (ι : List Nat) (p : Nat) (a : Act) (w : World) : Prop where
  size : listed.size = ops.size
  closed : ∀ (i : Nat) (o : Oper), listed.getD i true = true → ops[i]? = some o → ∀ e ∈ o.after, bindsA e = true → listed.getD e.on false = true
  le : p ≤ ops.size
  mods : ∀ j, 2 ≤ F j → j < ops.size → (listed.getD j false = true ↔ j < p)
  mem : Mem M W0 ι (S p).σ w
  ext : Ext M ι0 (S 0).σ w0 ι (S p).σ w
  env : ∀ t, XRep w ι (Forb M ι (S p).σ) (a.tmps.getD t undef) (envL ops (S 0).env X (fun j => listed.getD j false) t)
  tsize : a.tmps.size = n
  defers : a.defers = []

theorem mem_looks {o : Oper} {t : Tmp} (h : Operand.tmp t ∈ o.op.operands) : t ∈ o.looksAt ops := by
  unfold Oper.looksAt
  refine List.mem_append_left _ (List.mem_filterMap.2 ⟨.tmp t, by simpa using h, rfl⟩)

theorem guard_looks {o : Oper} {j d : Nat} {want : Bool} (hg : o.guard = some (j, want)) (hd : (ops[j]?).bind (·.dst) = some d) : d ∈ o.looksAt ops := by
  unfold Oper.looksAt
  refine List.mem_append_right _ ?_
  rw [hg]
  simp [hd]

theorem guardX_congr {o : Oper} {e1 e2 : Nat → XV} (h : ∀ t ∈ o.looksAt ops, e1 t = e2 t) : guardX ops e1 o = guardX ops e2 o := by
  unfold guardX
  cases hg : o.guard with
  | none => rfl
  | some q =>
    obtain ⟨j, want⟩ := q
    simp only
    cases hd : (ops[j]?).bind (·.dst) with
    | none => rfl
    | some d => simp only; rw [h d (guard_looks hg hd)]

theorem getD_bool (a : Array Bool) (i : Nat) (hi : i < a.size) (x y : Bool) : a.getD i x = a.getD i y := by simp [hi]

variable {M : Nat → Prop} {W0 : World} {n : Nat}

theorem InvL.next {S : Nat → St} {X : Nat → XV} {F : Nat → Nat} (hst : ∀ (i : Nat) (o : Oper), ops[i]? = some o → Steps' P n ops S X F i o) (hok : okDraw ops F = true)
    {ι0 : List Nat} {w0 : World} {listed : Array Bool} {ι : List Nat} {p : Nat} {a : Act} {w : World} (hI : InvL P M W0 n ops S X F ι0 w0 listed ι p a w)
    {i : Nat} {o : Oper} (ho : ops[i]? = some o) (hun : listed.getD i false = false) (hready : ∀ e ∈ o.after, bindsA e = true → listed.getD e.on false = true) {Q : Exit → Act → World → Prop} {K : Act → World → Prop}
    (hK : ∀ (ι' : List Nat) (p' : Nat) (a' : Act) (w' : World), InvL P M W0 n ops S X F ι0 w0 (listed.setIfInBounds i true) ι' p' a' w' → K a' w') : wpOp P ops Q i K a w := by
  have hi := (Array.getElem?_eq_some_iff.1 ho).1
  have hil : i < listed.size := by rw [hI.size]; exact hi
  have hcl : ∀ (j : Nat) (q : Oper), listed.getD j false = true → ops[j]? = some q → ∀ e ∈ q.after, bindsA e = true → listed.getD e.on false = true := fun j q hj hq => hI.closed j q (by
    rw [getD_bool listed j (by rw [hI.size]; exact (Array.getElem?_eq_some_iff.1 hq).1) true false]; exact hj) hq
  -- what comes before i has been done, what comes behind i has not
  have before : ∀ j, reachB ops 8 i j = true → listed.getD j false = true := fun j h => reach_closed (ops := ops) (C := fun k => listed.getD k false = true) hcl 8 i j o ho hready h
  have behind : ∀ (j : Nat) (q : Oper), ops[j]? = some q → reachB ops 8 j i = true → listed.getD j false = false := fun j q hq h => by
    cases hl : listed.getD j false with
    | false => rfl
    | true =>
      have := reach_closed (ops := ops) (C := fun k => listed.getD k false = true) hcl 8 j i q hq (hcl j q hl hq) h
      rw [hun] at this; cases this
  have hlook : ∀ t ∈ o.looksAt ops, envL ops (S 0).env X (fun j => listed.getD j false) t = (S i).env t := by
    intro t ht
    by_cases hex : ∃ (j : Nat) (q : Oper), ops[j]? = some q ∧ q.dst = some t
    · obtain ⟨j, q, hq, hd⟩ := hex
      have uniq : ∀ (k : Nat) (r : Oper), ops[k]? = some r → r.dst = some t → k = j := fun k r hr hrd => okDraw_dst hok hr hq hrd hd
      by_cases e : j = i
      · rw [envL_none (fun k r hr hl hrd => by have := uniq k r hr hrd; subst this; subst e; simp [hun] at hl)]
        rw [env_none hst i (by omega) (fun k r hk hr hrd => by have := uniq k r hr hrd; omega)]
      · have hpr := okDraw_pair hok ho hq e
        simp only [okPair, hd, Bool.and_eq_true, Bool.or_eq_true, Bool.not_eq_true'] at hpr
        have hord : ordB ops i j = true := by
          rcases hpr.1.2 with h | h
          · rw [List.contains_iff_mem.2 ht] at h; cases h
          · exact h
        unfold ordB at hord
        split at hord
        · rename_i hlt
          rw [envL_some hok hq hd (by exact before j hord), env_some hst hok hq hd i (by omega) hlt]
        · rename_i hge
          have hnl := behind j q hq hord
          rw [envL_none (fun k r hr hl hrd => by have := uniq k r hr hrd; subst this; simp [hnl] at hl)]
          rw [env_none hst i (by omega) (fun k r hk hr hrd => by have := uniq k r hr hrd; omega)]
    · rw [envL_none (fun k r hr hl hrd => hex ⟨k, r, hr, hrd⟩), env_none hst i (by omega) (fun k r hk hr hrd => hex ⟨k, r, hr, hrd⟩)]
  have hs := hst i o ho
  have hlist : ∀ j, (listed.setIfInBounds i true).getD j false = if j = i then true else listed.getD j false := by
    intro j
    simp only [Array.getD_eq_getD_getElem?]
    by_cases e : j = i
    · subst e; simp [hil]
    · rw [Array.getElem?_setIfInBounds_ne (by omega), if_neg e]
  -- the invariant behind the operation
  have close : ∀ (ι' : List Nat) (p' : Nat) (v : Value) (w' : World), p' ≤ ops.size → (∀ j, 2 ≤ F j → j < ops.size → ((listed.setIfInBounds i true).getD j false = true ↔ j < p')) → Mem M W0 ι' (S p').σ w' → Ext M ι (S p).σ w ι' (S p').σ w' →
      XRep w' ι' (Forb M ι' (S p').σ) v (X i) → InvL P M W0 n ops S X F ι0 w0 (listed.setIfInBounds i true) ι' p' (a.put o.dst v) w' := by
    intro ι' p' v w' h1 h2 h3 h4 h5
    refine ⟨by simp [hI.size], fun j q hj hq e he hb => ?_, h1, h2, h3, hI.ext.trans h4, fun t => ?_, by cases o.dst <;> simp [Act.put, hI.tsize], by cases o.dst <;> simp [Act.put, hI.defers]⟩
    · rw [hlist]
      split
      · rfl
      · by_cases e' : j = i
        · subst e'; rw [ho] at hq; cases hq; exact hready e he hb
        · refine hcl j q ?_ hq e he hb
          have hjl : j < listed.size := by rw [hI.size]; exact (Array.getElem?_eq_some_iff.1 hq).1
          rw [getD_bool _ j (by simpa using hjl) true false, hlist, if_neg e'] at hj
          exact hj
    · by_cases hd : o.dst = some t
      · have e1 : envL ops (S 0).env X (fun j => (listed.setIfInBounds i true).getD j false) t = X i := envL_some hok ho hd (by simp only [hlist, if_pos])
        rw [e1]
        have hdo := hs.dst
        rw [hd] at hdo
        simp only [dstOk, decide_eq_true_eq] at hdo
        have e2 : (a.put o.dst v).tmps.getD t undef = v := by rw [hd]; simp [Act.put, hI.tsize, hdo]
        rw [e2]; exact h5
      · have e1 : envL ops (S 0).env X (fun j => (listed.setIfInBounds i true).getD j false) t = envL ops (S 0).env X (fun j => listed.getD j false) t := by
          by_cases hex : ∃ (j : Nat) (q : Oper), ops[j]? = some q ∧ q.dst = some t ∧ listed.getD j false = true
          · obtain ⟨j, q, hq, hqd, hl⟩ := hex
            rw [envL_some hok hq hqd (by simp only [hlist]; split <;> first | rfl | exact hl), envL_some hok hq hqd hl]
          · rw [envL_none (fun k r hr hl hrd => ?_), envL_none (fun k r hr hl hrd => hex ⟨k, r, hr, hrd, hl⟩)]
            simp only [hlist] at hl
            split at hl
            · rename_i e; subst e; rw [ho] at hr; cases hr; exact hd hrd
            · exact hex ⟨k, r, hr, hrd, hl⟩
        rw [e1]
        have e2 : (a.put o.dst v).tmps.getD t undef = a.tmps.getD t undef := by
          cases hod : o.dst with
          | none => rfl
          | some d =>
            have hne : d ≠ t := fun e => hd (by rw [hod, e])
            simp only [Act.put, Array.getD_eq_getD_getElem?]
            rw [Array.getElem?_setIfInBounds_ne hne]
        rw [e2]; exact (hI.env t).ext h4
  have same : ∀ j, 2 ≤ F j → j < ops.size → F i < 2 → ((listed.setIfInBounds i true).getD j false = true ↔ j < p) := by
    intro j hj hjl hf
    rw [hlist, if_neg (fun e => by subst e; omega)]
    exact hI.mods j hj hjl
  unfold wpOp
  rw [ho]
  simp only
  rcases hs.ev with ⟨hg, hev⟩ | ⟨hg, hx, hf, hσ⟩
  · rw [← guardX_congr hlook] at hg
    rw [if_pos (by rw [guardX_sound hI.env hg])]
    left
    have hops : ∀ y ∈ o.op.operands, evalX (envL ops (S 0).env X (fun j => listed.getD j false)) y = evalX (S i).env y := by
      intro y hy
      cases y with
      | tmp t => exact hlook t (mem_looks hy)
      | _ => rfl
    have hev' := hev.congr hops
    by_cases hf0 : F i = 0
    · rw [hf0] at hev'
      have hev'' := hev'.pure (S p).σ
      exact hev''.wp (s := ⟨(S p).σ, envL ops (S 0).env X (fun j => listed.getD j false)⟩) hI.mem hI.env fun ι' v w' h1 h2 h3 =>
        hK ι' p _ w' (close ι' p v w' hI.le (fun j hj hjl => same j hj hjl (by omega)) h1 h2 h3)
    · -- what is written has been done as in the text's order
      have hbef : ∀ j, 2 ≤ F j → (F j = 3 → F i ≠ 1) → j < ops.size → j ≠ i → (j < p ↔ j < i) := by
        intro j hj hj3 hjl hne
        have hq := Array.getElem?_eq_getElem hjl
        have hpr := okDraw_pair hok ho hq hne
        simp only [okPair, Bool.and_eq_true, Bool.or_eq_true] at hpr
        have hord : ordB ops i j = true := by
          rcases hpr.2 with ((h | h) | h) | h
          · simp at h; omega
          · simp at h; exact absurd h hf0
          · simp at h; exact absurd h.2 (hj3 h.1)
          · exact h
        rw [← hI.mods j hj hjl]
        unfold ordB at hord
        split at hord
        · rename_i hlt
          exact ⟨fun _ => hlt, fun _ => before j hord⟩
        · rename_i hge
          have := behind j _ hq hord
          rw [this]
          exact ⟨(fun h => by cases h), (fun h => by omega)⟩
      by_cases hf1 : F i = 1
      · have hev1 : Ev P o ⟨(S p).σ, envL ops (S 0).env X (fun j => listed.getD j false)⟩ (X i) (S p).σ (F i) := by
          rw [hf1] at hev' ⊢
          refine hev'.one (σ2 := (S p).σ) fun y hy id off he ob hob => ?_
          refine σ_near hst hI.le (by omega) (fun j hj hjl => hbef j (by omega) (by omega) hjl (fun e => by subst e; omega)) ?_ hob
          have hr := evalX_rep hI.env y
          simp only at he
          rw [he] at hr
          generalize a.eval y = vy at hr
          cases hr with
          | optr hb =>
            rw [← hI.mem.len]
            exact (List.getElem?_eq_some_iff.1 hb).1
        exact hev1.wp hI.mem hI.env fun ι' v w' h1 h2 h3 => hK ι' p _ w' (close ι' p v w' hI.le (fun j hj hjl => same j hj hjl (by omega)) h1 h2 h3)
      · have hσ : (S p).σ = (S i).σ := by
          refine σ_eq hst hI.le (by omega) (fun j hj hjl => ?_)
          by_cases e : j = i
          · subst e
            have := hI.mods j hj hjl
            rw [hun] at this
            constructor
            · intro h; exact absurd (this.2 h) (by simp)
            · intro h; omega
          · exact hbef j hj (fun _ => hf1) hjl e
        have hev2 : Ev P o ⟨(S p).σ, envL ops (S 0).env X (fun j => listed.getD j false)⟩ (X i) (S (i + 1)).σ (F i) := by rw [hσ]; exact hev'
        exact hev2.wp hI.mem hI.env fun ι' v w' h1 h2 h3 => hK ι' (i + 1) _ w' (close ι' (i + 1) v w' (by omega) (fun j hj hjl => by
          rw [hlist]
          by_cases e : j = i
          · subst e; simp
          · rw [if_neg e, hI.mods j hj hjl, hbef j hj (fun _ => hf1) hjl e]; omega) h1 h2 h3)
  · rw [← guardX_congr hlook] at hg
    rw [if_neg (by rw [guardX_sound hI.env hg]; simp)]
    exact hK ι p _ w (close ι p undef w hI.le (fun j hj hjl => same j hj hjl (by omega)) hI.mem (.refl _ _ _ _) (by rw [hx]; exact .d (.lit _)))

end
end Go.Vm

