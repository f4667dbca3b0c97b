import Derived.Test.YtocgjopmlhpjdaaVmK
import Derived.Deep.Matrix
import Derived.Deep.Slices
import Derived.ChangeSlices
import Derived.Carry
import Derived.OpenShut
section
/-
  VALUES WITHOUT ADDRESSES, 12: statements that leave their order open.
-/
namespace Go.Vm
open Go.RowKit

def bindsA (e : Edge) : Bool := Region.binds .any e

/-- What some operations come right after. -/
def stepF (ops : Array Oper) (xs : List Nat) : List Nat := (xs.flatMap fun i => match ops[i]? with
  | some o => (o.after.toList.filter bindsA).map (·.on)
  | none => []).eraseDups

def reachL (ops : Array Oper) : Nat → List Nat → Nat → Bool
  | 0, _, _ => false
  | d + 1, xs, k => (stepF ops xs).contains k || reachL ops d (stepF ops xs) k

/-- Operation i comes after operation k in whatever order. -/
def reachB (ops : Array Oper) (d i k : Nat) : Bool := reachL ops d [i] k

def ordB (ops : Array Oper) (i j : Nat) : Bool := if j < i then reachB ops 8 i j else reachB ops 8 j i

def okPair (ops : Array Oper) (fl : Nat → Nat) (i j : Nat) (o p : Oper) : Bool :=
  (match p.dst with
    | some d => (o.dst != some d) && (!(o.looksAt ops).contains d || ordB ops i j)
    | none => true) && (decide (fl j < 2) || fl i == 0 || (fl j == 3 && fl i == 1) || ordB ops i j)

/-- The order does not matter. -/
def okDraw (ops : Array Oper) (fl : Nat → Nat) : Bool :=
  (List.range ops.size).all fun i => match ops[i]? with
    | none => true
    | some o => o.after.all (fun e => !bindsA e || e.on < i) && (List.range ops.size).all fun j => j == i || match ops[j]? with
      | none => true
      | some p => okPair ops fl i j o p

section
variable {P : Program} {ops : Array Oper}

theorem mem_stepF {xs : List Nat} {k : Nat} (h : k ∈ stepF ops xs) : ∃ i o, i ∈ xs ∧ ops[i]? = some o ∧ ∃ e ∈ o.after, bindsA e = true ∧ e.on = k := by
  unfold stepF at h
  rw [List.mem_eraseDups, List.mem_flatMap] at h
  obtain ⟨i, hi, hk⟩ := h
  cases ho : ops[i]? with
  | none => rw [ho] at hk; simp at hk
  | some o =>
    rw [ho] at hk
    simp only [List.mem_map, List.mem_filter] at hk
    obtain ⟨e, ⟨he, hb⟩, rfl⟩ := hk
    exact ⟨i, o, hi, ho, e, Array.mem_toList_iff.1 he, hb, rfl⟩

theorem reachL_closed {C : Nat → Prop} (hC : ∀ (i : Nat) (o : Oper), C i → ops[i]? = some o → ∀ e ∈ o.after, bindsA e = true → C e.on) : ∀ (d : Nat) (xs : List Nat) (k : Nat),
    (∀ i ∈ xs, ∀ o, ops[i]? = some o → ∀ e ∈ o.after, bindsA e = true → C e.on) → reachL ops d xs k = true → C k
  | 0, _, _, _, h => by simp [reachL] at h
  | d + 1, xs, k, hx, h => by
    have key : ∀ y ∈ stepF ops xs, C y := fun y hy => by
      obtain ⟨i, o, hi, ho, e, he, hb, rfl⟩ := mem_stepF hy
      exact hx i hi o ho e he hb
    simp only [reachL, Bool.or_eq_true] at h
    rcases h with h | h
    · exact key k (List.contains_iff_mem.1 h)
    · exact reachL_closed hC d _ k (fun i hi o ho e he hb => hC i o (key i hi) ho e he hb) h

theorem reach_closed {C : Nat → Prop} (hC : ∀ (i : Nat) (o : Oper), C i → ops[i]? = some o → ∀ e ∈ o.after, bindsA e = true → C e.on) (d i k : Nat) (o : Oper) (ho : ops[i]? = some o) (hi : ∀ e ∈ o.after, bindsA e = true → C e.on) (h : reachB ops d i k = true) : C k :=
  reachL_closed hC d [i] k (fun j hj q hq e he hb => by
    simp at hj; subst hj; rw [ho] at hq; cases hq; exact hi e he hb) h

/-- Where the operands read alike and nothing was done with the objects. -/
theorem Ev.congr {o : Oper} {s : St} {x : XV} {σ' : List VObj} {fl : Nat} (h : Ev P o s x σ' fl) {env2 : Nat → XV} (he : ∀ y ∈ o.op.operands, evalX env2 y = evalX s.env y) : Ev P o ⟨s.σ, env2⟩ x σ' fl := by
  cases h with
  | op h => exact .op (by rw [evalOp_congr (env := s.env) he]; exact h)
  | call ho hf hp hd hc =>
    rename_i callee args ts f first caps dargs res
    have hargs : args.toList.map (evalX env2) = args.toList.map (evalX s.env) := List.map_congr_left fun y hy => he y (by rw [ho]; simp [Op.operands, Call.operands]; exact .inr (by simpa using hy))
    exact Ev.call (s := ⟨s.σ, env2⟩) ho (by show asFn (evalX env2 callee) = _; rw [he callee (by rw [ho]; simp [Op.operands, Call.operands])]; exact hf) hp (by show first ++ args.toList.map (evalX env2) ++ caps = _; rw [hargs]; exact hd) hc
  | callF ids n ho hf hp hd hc =>
    rename_i callee args ts f first caps dargs res
    have hargs : args.toList.map (evalX env2) = args.toList.map (evalX s.env) := List.map_congr_left fun y hy => he y (by rw [ho]; simp [Op.operands, Call.operands]; exact .inr (by simpa using hy))
    exact Ev.callF (s := ⟨s.σ, env2⟩) ids n ho (by show asFn (evalX env2 callee) = _; rw [he callee (by rw [ho]; simp [Op.operands, Call.operands])]; exact hf) hp (by show (first ++ args.toList.map (evalX env2) ++ caps).mapM _ = _; rw [hargs]; exact hd) hc
  | inl ho hf hp hc =>
    rename_i callee args ts f first caps
    have hargs : args.toList.map (evalX env2) = args.toList.map (evalX s.env) := List.map_congr_left fun y hy => he y (by rw [ho]; simp [Op.operands, Call.operands]; exact .inr (by simpa using hy))
    exact Ev.inl (s := ⟨s.σ, env2⟩) ho (by show asFn (evalX env2 callee) = _; rw [he callee (by rw [ho]; simp [Op.operands, Call.operands])]; exact hf) hp (by
      intro M W0; have := hc M W0; rw [← hargs] at this; exact this)
  | inlG ho hf hp hc =>
    rename_i callee args ts f first caps τ
    have hargs : args.toList.map (evalX env2) = args.toList.map (evalX s.env) := List.map_congr_left fun y hy => he y (by rw [ho]; simp [Op.operands, Call.operands]; exact .inr (by simpa using hy))
    exact Ev.inlG (s := ⟨s.σ, env2⟩) ho (by show asFn (evalX env2 callee) = _; rw [he callee (by rw [ho]; simp [Op.operands, Call.operands])]; exact hf) hp (by
      intro M W0; have := hc M W0; rw [← hargs] at this; exact this)
  | yld ho hv hc =>
    rename_i callee args ts id b
    have hargs : args.toList.map (evalX env2) = args.toList.map (evalX s.env) := List.map_congr_left fun y hy => he y (by rw [ho]; simp [Op.operands, Call.operands]; exact .inr (by simpa using hy))
    exact Ev.yld (s := ⟨s.σ, env2⟩) ho (by show evalX env2 callee = _; rw [he callee (by rw [ho]; simp [Op.operands, Call.operands])]; exact hv) (by
      intro M W0; have := hc M W0; rw [← hargs] at this; exact this)
  | semP hs => exact Ev.semP (s := ⟨s.σ, env2⟩) fun F ι w ev h => hs F ι w ev fun y hy => by have := h y hy; rwa [he y hy] at this
  | hid hs => exact Ev.hid (s := ⟨s.σ, env2⟩) fun F ι w ev hF h => hs F ι w ev hF fun y hy => by have := h y hy; rwa [he y hy] at this
  | semG hs => exact Ev.semG (s := ⟨s.σ, env2⟩) fun M W0 ι w ev hm h => hs M W0 ι w ev hm fun y hy => by have := h y hy; rwa [he y hy] at this
  | semW hs => exact Ev.semW (s := ⟨s.σ, env2⟩) fun M W0 ι w ev hm h => hs M W0 ι w ev hm fun y hy => by have := h y hy; rwa [he y hy] at this

theorem Ev.pure {o : Oper} {s : St} {x : XV} {σ' : List VObj} (h : Ev P o s x σ' 0) (σ2 : List VObj) : Ev P o ⟨σ2, s.env⟩ x σ2 0 := by
  cases h with
  | op h => exact .op (evalOp_pure h σ2)
  | call ho hf hp hd hc => exact Ev.call (s := ⟨σ2, s.env⟩) ho hf hp hd hc
  | semP hs => exact Ev.semP (s := ⟨σ2, s.env⟩) hs
  | hid hs => exact Ev.hid (s := ⟨σ2, s.env⟩) hs

theorem Ev.read {o : Oper} {s : St} {x : XV} {σ' : List VObj} {fl : Nat} (h : Ev P o s x σ' fl) (hf : fl < 2) : σ' = s.σ := by
  cases h with
  | op h => exact evalOp_read h hf
  | call => rfl
  | callF => omega
  | inl => omega
  | inlG => omega
  | yld => omega
  | semP => rfl
  | hid => rfl
  | semG => omega
  | semW => omega

/-- What is there is still there, with the same cells. -/
def Keeps (σ σ2 : List VObj) : Prop := ∀ (id : Nat) (ob : VObj), σ[id]? = some ob → ∃ ob', σ2[id]? = some ob' ∧ ob'.cells = ob.cells ∧ (ob'.mode < 2 ↔ ob.mode < 2)
theorem Keeps.refl (σ : List VObj) : Keeps σ σ := fun _ ob h => ⟨ob, h, rfl, Iff.rfl⟩
theorem Keeps.trans {σ σ2 σ3 : List VObj} (h : Keeps σ σ2) (k : Keeps σ2 σ3) : Keeps σ σ3 := fun id ob ho => by
  obtain ⟨o2, a1, a2, a3⟩ := h id ob ho
  obtain ⟨o3, b1, b2, b3⟩ := k id o2 a1
  exact ⟨o3, b1, b2.trans a2, b3.trans a3⟩
theorem Keeps.append (σ τ : List VObj) : Keeps σ (σ ++ τ) := fun id ob ho => ⟨ob, by rw [List.getElem?_append_left (List.getElem?_eq_some_iff.1 ho).1]; exact ho, rfl, Iff.rfl⟩
theorem Keeps.freeze (σ : List VObj) (ids : List Nat) : Keeps σ (freezeIds σ ids) := fun id ob ho => by
  simp only [freezeIds, List.getElem?_mapIdx, ho, Option.map_some]
  split
  · rename_i h
    simp only [Bool.and_eq_true, beq_iff_eq] at h
    exact ⟨_, rfl, rfl, by simp [h.2]⟩
  · split
    · rename_i h
      simp only [Bool.and_eq_true, beq_iff_eq] at h
      exact ⟨_, rfl, rfl, by simp [h.2]⟩
    · exact ⟨_, rfl, rfl, Iff.rfl⟩

theorem Ev.grow {o : Oper} {s : St} {x : XV} {σ' : List VObj} {fl : Nat} (h : Ev P o s x σ' fl) (hf : fl ≠ 2) : Keeps s.σ σ' := by
  cases h with
  | op h => obtain ⟨τ, rfl⟩ := evalOp_grow h hf; exact .append _ _
  | call => exact .refl _
  | callF ids => exact .freeze _ ids
  | inl => exact absurd rfl hf
  | inlG => exact .append _ _
  | yld => exact absurd rfl hf
  | semP => exact .refl _
  | hid => exact .refl _
  | semG => exact .append _ _
  | semW => exact absurd rfl hf

theorem Ev.one {o : Oper} {s : St} {x : XV} {σ' σ2 : List VObj} (h : Ev P o s x σ' 1) (h2 : ∀ y ∈ o.op.operands, ∀ id off, evalX s.env y = .optr id off → ∀ ob, s.σ[id]? = some ob → ∃ ob', σ2[id]? = some ob' ∧ ob'.cells = ob.cells ∧ (ob'.mode < 2 ↔ ob.mode < 2)) : Ev P o ⟨σ2, s.env⟩ x σ2 1 := by
  cases h with
  | op h => exact .op (evalOp_one h h2)

/-- What each operation does, in the text's order. -/
structure Steps' (P : Program) (n : Nat) (ops : Array Oper) (S : Nat → St) (X : Nat → XV) (F : Nat → Nat) (i : Nat) (o : Oper) : Prop where
  dst : dstOk n o.dst = true
  env : (S (i + 1)).env = putE (S i).env o.dst (X i)
  ev : (guardX ops (S i).env o = some true ∧ Ev P o (S i) (X i) (S (i + 1)).σ (F i)) ∨ (guardX ops (S i).env o = some false ∧ X i = undefX ∧ F i = 0 ∧ (S (i + 1)).σ = (S i).σ)

theorem Steps'.same {n : Nat} {S : Nat → St} {X : Nat → XV} {F : Nat → Nat} {i : Nat} {o : Oper} (h : Steps' P n ops S X F i o) (hf : F i < 2) : (S (i + 1)).σ = (S i).σ := by
  rcases h.ev with ⟨_, h⟩ | ⟨_, _, _, h⟩
  · exact h.read hf
  · exact h

theorem Steps'.grow {n : Nat} {S : Nat → St} {X : Nat → XV} {F : Nat → Nat} {i : Nat} {o : Oper} (h : Steps' P n ops S X F i o) (hf : F i ≠ 2) : Keeps (S i).σ (S (i + 1)).σ := by
  rcases h.ev with ⟨_, h⟩ | ⟨_, _, _, h⟩
  · exact h.grow hf
  · rw [h]; exact .refl _

def writes (ops : Array Oper) (listed : Nat → Bool) (t : Nat) (j : Nat) : Bool := listed j && ((ops[j]?).bind (·.dst)) == some t

/-- The frame when the listed operations have been done. -/
def envL (ops : Array Oper) (e0 : Nat → XV) (X : Nat → XV) (listed : Nat → Bool) (t : Nat) : XV :=
  match (List.range ops.size).find? (writes ops listed t) with
  | some j => X j
  | none => e0 t

theorem okDraw_edges {F : Nat → Nat} (h : okDraw ops F = true) {i : Nat} {o : Oper} (ho : ops[i]? = some o) : ∀ e ∈ o.after, bindsA e = true → e.on < i := by
  intro e he hb
  have hi := (Array.getElem?_eq_some_iff.1 ho).1
  have := List.all_eq_true.1 h i (by simpa using hi)
  simp only [ho, Bool.and_eq_true] at this
  have h1 := Array.all_eq_true_iff_forall_mem.1 this.1 e he
  simpa [hb] using h1

theorem okDraw_pair {F : Nat → Nat} (h : okDraw ops F = true) {i j : Nat} {o p : Oper} (ho : ops[i]? = some o) (hp : ops[j]? = some p) (hne : j ≠ i) : okPair ops F i j o p = true := by
  have hi := (Array.getElem?_eq_some_iff.1 ho).1
  have hj := (Array.getElem?_eq_some_iff.1 hp).1
  have h1 := List.all_eq_true.1 h i (by simpa using hi)
  simp only [ho, Bool.and_eq_true] at h1
  have h2 := List.all_eq_true.1 h1.2 j (by simpa using hj)
  simp only [hp, Bool.or_eq_true, beq_iff_eq] at h2
  exact h2.resolve_left hne

theorem okDraw_dst {F : Nat → Nat} (h : okDraw ops F = true) {i j : Nat} {o p : Oper} {t : Nat} (ho : ops[i]? = some o) (hp : ops[j]? = some p) (h1 : o.dst = some t) (h2 : p.dst = some t) : i = j := by
  by_cases e : j = i
  · exact e.symm
  · have := okDraw_pair h ho hp e
    simp only [okPair, h2, Bool.and_eq_true] at this
    simp [h1] at this

theorem envL_some {F : Nat → Nat} (h : okDraw ops F = true) {e0 X : Nat → XV} {listed : Nat → Bool} {t j : Nat} {p : Oper} (hp : ops[j]? = some p) (hd : p.dst = some t) (hl : listed j = true) : envL ops e0 X listed t = X j := by
  unfold envL
  have hj := (Array.getElem?_eq_some_iff.1 hp).1
  cases hf : (List.range ops.size).find? (writes ops listed t) with
  | none =>
    have := List.find?_eq_none.1 hf j (by simpa using hj)
    simp [writes, hp, hd, hl] at this
  | some k =>
    have h1 := List.find?_some hf
    simp only [writes, Bool.and_eq_true, beq_iff_eq] at h1
    cases hk : ops[k]? with
    | none => rw [hk] at h1; simp at h1
    | some q =>
      rw [hk] at h1
      simp only [Option.bind_some] at h1
      rw [okDraw_dst h hk hp h1.2 hd]

theorem envL_none {e0 X : Nat → XV} {listed : Nat → Bool} {t : Nat} (h : ∀ (j : Nat) (p : Oper), ops[j]? = some p → listed j = true → p.dst ≠ some t) : envL ops e0 X listed t = e0 t := by
  unfold envL
  cases hf : (List.range ops.size).find? (writes ops listed t) with
  | none => rfl
  | some k =>
    have h1 := List.find?_some hf
    simp only [writes, Bool.and_eq_true, beq_iff_eq] at h1
    cases hk : ops[k]? with
    | none => rw [hk] at h1; simp at h1
    | some q =>
      rw [hk] at h1
      exact absurd h1.2 (h k q hk h1.1)

section
variable {n : Nat} {S : Nat → St} {X : Nat → XV} {F : Nat → Nat} (hst : ∀ (i : Nat) (o : Oper), ops[i]? = some o → Steps' P n ops S X F i o)
include hst

theorem env_none {t : Nat} : ∀ i, i ≤ ops.size → (∀ (j : Nat) (p : Oper), j < i → ops[j]? = some p → p.dst ≠ some t) → (S i).env t = (S 0).env t
  | 0, _, _ => rfl
  | i + 1, hi, h => by
    have ho := Array.getElem?_eq_getElem (show i < ops.size by omega)
    rw [(hst i _ ho).env]
    have hne := h i _ (Nat.lt_succ_self i) ho
    have ih := env_none i (by omega) (fun j p hj hp => h j p (by omega) hp)
    cases hd : ops[i].dst with
    | none => simpa [putE] using ih
    | some d =>
      simp only [putE, upd]
      rw [if_neg (fun e => hne (by rw [hd, e]))]
      exact ih

theorem env_some (hok : okDraw ops F = true) {t j : Nat} {p : Oper} (hp : ops[j]? = some p) (hd : p.dst = some t) : ∀ i, i ≤ ops.size → j < i → (S i).env t = X j
  | 0, _, h => by omega
  | i + 1, hi, h => by
    have ho := Array.getElem?_eq_getElem (show i < ops.size by omega)
    rw [(hst i _ ho).env]
    by_cases e : j = i
    · subst e
      have : ops[j] = p := by rw [ho] at hp; simpa using hp
      rw [this, hd]
      simp [putE, upd]
    · have ih := env_some hok hp hd i (by omega) (by omega)
      cases hd' : ops[i].dst with
      | none => simpa [putE] using ih
      | some d =>
        simp only [putE, upd]
        rw [if_neg (fun e' => e (okDraw_dst hok hp ho hd (by rw [hd', e'])))]
        exact ih

theorem σ_same : ∀ (k i : Nat), i + k ≤ ops.size → (∀ j, i ≤ j → j < i + k → F j < 2) → (S (i + k)).σ = (S i).σ
  | 0, _, _, _ => rfl
  | k + 1, i, hi, h => by
    have ho := Array.getElem?_eq_getElem (show i + k < ops.size by omega)
    rw [← σ_same k i (by omega) (fun j h1 h2 => h j h1 (by omega))]
    exact (hst (i + k) _ ho).same (h _ (by omega) (by omega))

theorem σ_grow : ∀ (k i : Nat), i + k ≤ ops.size → (∀ j, i ≤ j → j < i + k → F j ≠ 2) → Keeps (S i).σ (S (i + k)).σ
  | 0, _, _, _ => .refl _
  | k + 1, i, hi, h => by
    have ho := Array.getElem?_eq_getElem (show i + k < ops.size by omega)
    exact (σ_grow k i (by omega) (fun j h1 h2 => h j h1 (by omega))).trans ((hst (i + k) _ ho).grow (h _ (by omega) (by omega)))

theorem σ_eq {p q : Nat} (hp : p ≤ ops.size) (hq : q ≤ ops.size) (h : ∀ j, 2 ≤ F j → j < ops.size → (j < p ↔ j < q)) : (S p).σ = (S q).σ := by
  rcases Nat.le_total p q with hle | hle
  · have := σ_same hst (q - p) p (by omega) (fun j h1 h2 => Nat.lt_of_not_le fun h3 => by have := h j h3 (by omega); omega)
    rw [show p + (q - p) = q by omega] at this
    exact this.symm
  · have := σ_same hst (p - q) q (by omega) (fun j h1 h2 => Nat.lt_of_not_le fun h3 => by have := h j h3 (by omega); omega)
    rw [show q + (p - q) = p by omega] at this
    exact this

/-- Between two points where all that is written has been done alike, one has what the other has, and perhaps more. -/
theorem σ_near {p q : Nat} (hp : p ≤ ops.size) (hq : q ≤ ops.size) (h : ∀ j, F j = 2 → j < ops.size → (j < p ↔ j < q)) {id : Nat} {ob : VObj} (hid : id < (S p).σ.length) (ho : (S q).σ[id]? = some ob) : ∃ ob', (S p).σ[id]? = some ob' ∧ ob'.cells = ob.cells ∧ (ob'.mode < 2 ↔ ob.mode < 2) := by
  rcases Nat.le_total p q with hle | hle
  · have e := σ_grow hst (q - p) p (by omega) (fun j h1 h2 h3 => by have := h j h3 (by omega); omega)
    rw [show p + (q - p) = q by omega] at e
    obtain ⟨o2, a1, a2, a3⟩ := e id _ (List.getElem?_eq_getElem hid)
    rw [ho] at a1
    cases a1
    exact ⟨_, List.getElem?_eq_getElem hid, a2.symm, a3.symm⟩
  · have e := σ_grow hst (p - q) q (by omega) (fun j h1 h2 h3 => by have := h j h3 (by omega); omega)
    rw [show q + (p - q) = p by omega] at e
    exact e id ob ho

end

/-- What holds when some operations have been done. -/
structure InvL (P : Program) (M : Nat → Prop) (W0 : World) (C : Ctx) (n : Nat) (ops : Array Oper) (S : Nat → St) (X : Nat → XV) (F : Nat → Nat) (ι0 : List Nat) (w0 : World) (listed : Array Bool) (ι : List Nat) (p : Nat) (a : Act) (w : World) : Prop where
  size : listed.size = ops.size
  closed : ∀ (i : Nat) (o : Oper), listed.getD i true = true → ops[i]? = some o → ∀ e ∈ o.after, bindsA e = true → listed.getD e.on false = true
  le : p ≤ ops.size
  mods : ∀ j, 2 ≤ F j → j < ops.size → (listed.getD j false = true ↔ j < p)
  mem : Mem M W0 ι (S p).σ w
  ext : Ext M ι0 (S 0).σ w0 ι (S p).σ w
  env : ∀ t, XRep w ι (Forb M ι (S p).σ) (a.tmps.getD t undef) (envL ops (S 0).env X (fun j => listed.getD j false) t)
  tsize : a.tmps.size = n
  defers : Marks M C.B ι (S p).σ w a.defers
  round : ∀ l, C.ro = some l → ∃ r : Loop, w.heap[l]? = some (Obj.loop r)

theorem mem_looks {o : Oper} {t : Tmp} (h : Operand.tmp t ∈ o.op.operands) : t ∈ o.looksAt ops := by
  unfold Oper.looksAt
  refine List.mem_append_left _ (List.mem_filterMap.2 ⟨.tmp t, by simpa using h, rfl⟩)

theorem guard_looks {o : Oper} {j d : Nat} {want : Bool} (hg : o.guard = some (j, want)) (hd : (ops[j]?).bind (·.dst) = some d) : d ∈ o.looksAt ops := by
  unfold Oper.looksAt
  refine List.mem_append_right _ ?_
  rw [hg]
  simp [hd]

theorem guardX_congr {o : Oper} {e1 e2 : Nat → XV} (h : ∀ t ∈ o.looksAt ops, e1 t = e2 t) : guardX ops e1 o = guardX ops e2 o := by
  unfold guardX
  cases hg : o.guard with
  | none => rfl
  | some q =>
    obtain ⟨j, want⟩ := q
    simp only
    cases hd : (ops[j]?).bind (·.dst) with
    | none => rfl
    | some d => simp only; rw [h d (guard_looks hg hd)]

theorem getD_bool (a : Array Bool) (i : Nat) (hi : i < a.size) (x y : Bool) : a.getD i x = a.getD i y := by simp [hi]

variable {M : Nat → Prop} {W0 : World} {C : Ctx} {n : Nat}

theorem InvL.next {S : Nat → St} {X : Nat → XV} {F : Nat → Nat} (hst : ∀ (i : Nat) (o : Oper), ops[i]? = some o → Steps' P n ops S X F i o) (hok : okDraw ops F = true)
    {ι0 : List Nat} {w0 : World} {listed : Array Bool} {ι : List Nat} {p : Nat} {a : Act} {w : World} (hI : InvL P M W0 C n ops S X F ι0 w0 listed ι p a w)
    {i : Nat} {o : Oper} (ho : ops[i]? = some o) (hun : listed.getD i false = false) (hready : ∀ e ∈ o.after, bindsA e = true → listed.getD e.on false = true) {Q : Exit → Act → World → Prop} {K : Act → World → Prop}
    (hK : ∀ (ι' : List Nat) (p' : Nat) (a' : Act) (w' : World), InvL P M W0 C n ops S X F ι0 w0 (listed.setIfInBounds i true) ι' p' a' w' → K a' w') : wpOpIn (FR C.ro) 0 P ops Q i K a w := by
  have hi := (Array.getElem?_eq_some_iff.1 ho).1
  have hil : i < listed.size := by rw [hI.size]; exact hi
  have hcl : ∀ (j : Nat) (q : Oper), listed.getD j false = true → ops[j]? = some q → ∀ e ∈ q.after, bindsA e = true → listed.getD e.on false = true := fun j q hj hq => hI.closed j q (by
    rw [getD_bool listed j (by rw [hI.size]; exact (Array.getElem?_eq_some_iff.1 hq).1) true false]; exact hj) hq
  -- what comes before i has been done, what comes behind i has not
  have before : ∀ j, reachB ops 8 i j = true → listed.getD j false = true := fun j h => reach_closed (ops := ops) (C := fun k => listed.getD k false = true) hcl 8 i j o ho hready h
  have behind : ∀ (j : Nat) (q : Oper), ops[j]? = some q → reachB ops 8 j i = true → listed.getD j false = false := fun j q hq h => by
    cases hl : listed.getD j false with
    | false => rfl
    | true =>
      have := reach_closed (ops := ops) (C := fun k => listed.getD k false = true) hcl 8 j i q hq (hcl j q hl hq) h
      rw [hun] at this; cases this
  have hlook : ∀ t ∈ o.looksAt ops, envL ops (S 0).env X (fun j => listed.getD j false) t = (S i).env t := by
    intro t ht
    by_cases hex : ∃ (j : Nat) (q : Oper), ops[j]? = some q ∧ q.dst = some t
    · obtain ⟨j, q, hq, hd⟩ := hex
      have uniq : ∀ (k : Nat) (r : Oper), ops[k]? = some r → r.dst = some t → k = j := fun k r hr hrd => okDraw_dst hok hr hq hrd hd
      by_cases e : j = i
      · rw [envL_none (fun k r hr hl hrd => by have := uniq k r hr hrd; subst this; subst e; simp [hun] at hl)]
        rw [env_none hst i (by omega) (fun k r hk hr hrd => by have := uniq k r hr hrd; omega)]
      · have hpr := okDraw_pair hok ho hq e
        simp only [okPair, hd, Bool.and_eq_true, Bool.or_eq_true, Bool.not_eq_true'] at hpr
        have hord : ordB ops i j = true := by
          rcases hpr.1.2 with h | h
          · rw [List.contains_iff_mem.2 ht] at h; cases h
          · exact h
        unfold ordB at hord
        split at hord
        · rename_i hlt
          rw [envL_some hok hq hd (by exact before j hord), env_some hst hok hq hd i (by omega) hlt]
        · rename_i hge
          have hnl := behind j q hq hord
          rw [envL_none (fun k r hr hl hrd => by have := uniq k r hr hrd; subst this; simp [hnl] at hl)]
          rw [env_none hst i (by omega) (fun k r hk hr hrd => by have := uniq k r hr hrd; omega)]
    · rw [envL_none (fun k r hr hl hrd => hex ⟨k, r, hr, hrd⟩), env_none hst i (by omega) (fun k r hk hr hrd => hex ⟨k, r, hr, hrd⟩)]
  have hs := hst i o ho
  have hlist : ∀ j, (listed.setIfInBounds i true).getD j false = if j = i then true else listed.getD j false := by
    intro j
    simp only [Array.getD_eq_getD_getElem?]
    by_cases e : j = i
    · subst e; simp [hil]
    · rw [Array.getElem?_setIfInBounds_ne (by omega), if_neg e]
  -- the invariant behind the operation
  have close : ∀ (ι' : List Nat) (p' : Nat) (v : Value) (w' : World), p' ≤ ops.size → (∀ j, 2 ≤ F j → j < ops.size → ((listed.setIfInBounds i true).getD j false = true ↔ j < p')) → Mem M W0 ι' (S p').σ w' → Ext M ι (S p).σ w ι' (S p').σ w' →
      XRep w' ι' (Forb M ι' (S p').σ) v (X i) → InvL P M W0 C n ops S X F ι0 w0 (listed.setIfInBounds i true) ι' p' (a.put o.dst v) w' := by
    intro ι' p' v w' h1 h2 h3 h4 h5
    refine ⟨by simp [hI.size], fun j q hj hq e he hb => ?_, h1, h2, h3, hI.ext.trans h4, fun t => ?_, by cases o.dst <;> simp [Act.put, hI.tsize], by cases o.dst <;> exact hI.defers.ext h4, fun l hl => let ⟨r, hr⟩ := hI.round l hl; h4.loops l r hr⟩
    · rw [hlist]
      split
      · rfl
      · by_cases e' : j = i
        · subst e'; rw [ho] at hq; cases hq; exact hready e he hb
        · refine hcl j q ?_ hq e he hb
          have hjl : j < listed.size := by rw [hI.size]; exact (Array.getElem?_eq_some_iff.1 hq).1
          rw [getD_bool _ j (by simpa using hjl) true false, hlist, if_neg e'] at hj
          exact hj
    · by_cases hd : o.dst = some t
      · have e1 : envL ops (S 0).env X (fun j => (listed.setIfInBounds i true).getD j false) t = X i := envL_some hok ho hd (by simp only [hlist, if_pos])
        rw [e1]
        have hdo := hs.dst
        rw [hd] at hdo
        simp only [dstOk, decide_eq_true_eq] at hdo
        have e2 : (a.put o.dst v).tmps.getD t undef = v := by rw [hd]; simp [Act.put, hI.tsize, hdo]
        rw [e2]; exact h5
      · have e1 : envL ops (S 0).env X (fun j => (listed.setIfInBounds i true).getD j false) t = envL ops (S 0).env X (fun j => listed.getD j false) t := by
          by_cases hex : ∃ (j : Nat) (q : Oper), ops[j]? = some q ∧ q.dst = some t ∧ listed.getD j false = true
          · obtain ⟨j, q, hq, hqd, hl⟩ := hex
            rw [envL_some hok hq hqd (by simp only [hlist]; split <;> first | rfl | exact hl), envL_some hok hq hqd hl]
          · rw [envL_none (fun k r hr hl hrd => ?_), envL_none (fun k r hr hl hrd => hex ⟨k, r, hr, hrd, hl⟩)]
            simp only [hlist] at hl
            split at hl
            · rename_i e; subst e; rw [ho] at hr; cases hr; exact hd hrd
            · exact hex ⟨k, r, hr, hrd, hl⟩
        rw [e1]
        have e2 : (a.put o.dst v).tmps.getD t undef = a.tmps.getD t undef := by
          cases hod : o.dst with
          | none => rfl
          | some d =>
            have hne : d ≠ t := fun e => hd (by rw [hod, e])
            simp only [Act.put, Array.getD_eq_getD_getElem?]
            rw [Array.getElem?_setIfInBounds_ne hne]
        rw [e2]; exact (hI.env t).ext h4
  have same : ∀ j, 2 ≤ F j → j < ops.size → F i < 2 → ((listed.setIfInBounds i true).getD j false = true ↔ j < p) := by
    intro j hj hjl hf
    rw [hlist, if_neg (fun e => by subst e; omega)]
    exact hI.mods j hj hjl
  unfold wpOpIn
  rw [ho]
  simp only
  rcases hs.ev with ⟨hg, hev⟩ | ⟨hg, hx, hf, hσ⟩
  · rw [← guardX_congr hlook] at hg
    rw [if_pos (by rw [guardX_sound hI.env hg])]
    have hops : ∀ y ∈ o.op.operands, evalX (envL ops (S 0).env X (fun j => listed.getD j false)) y = evalX (S i).env y := by
      intro y hy
      cases y with
      | tmp t => exact hlook t (mem_looks hy)
      | _ => rfl
    have hev' := hev.congr hops
    by_cases hf0 : F i = 0
    · rw [hf0] at hev'
      have hev'' := hev'.pure (S p).σ
      exact hev''.wp (s := ⟨(S p).σ, envL ops (S 0).env X (fun j => listed.getD j false)⟩) hI.mem hI.env fun ι' v w' h1 h2 h3 =>
        hK ι' p _ w' (close ι' p v w' hI.le (fun j hj hjl => same j hj hjl (by omega)) h1 h2 h3)
    · -- what is written has been done as in the text's order
      have hbef : ∀ j, 2 ≤ F j → (F j = 3 → F i ≠ 1) → j < ops.size → j ≠ i → (j < p ↔ j < i) := by
        intro j hj hj3 hjl hne
        have hq := Array.getElem?_eq_getElem hjl
        have hpr := okDraw_pair hok ho hq hne
        simp only [okPair, Bool.and_eq_true, Bool.or_eq_true] at hpr
        have hord : ordB ops i j = true := by
          rcases hpr.2 with ((h | h) | h) | h
          · simp at h; omega
          · simp at h; exact absurd h hf0
          · simp at h; exact absurd h.2 (hj3 h.1)
          · exact h
        rw [← hI.mods j hj hjl]
        unfold ordB at hord
        split at hord
        · rename_i hlt
          exact ⟨fun _ => hlt, fun _ => before j hord⟩
        · rename_i hge
          have := behind j _ hq hord
          rw [this]
          exact ⟨(fun h => by cases h), (fun h => by omega)⟩
      by_cases hf1 : F i = 1
      · have hev1 : Ev P o ⟨(S p).σ, envL ops (S 0).env X (fun j => listed.getD j false)⟩ (X i) (S p).σ (F i) := by
          rw [hf1] at hev' ⊢
          refine hev'.one (σ2 := (S p).σ) fun y hy id off he ob hob => ?_
          refine σ_near hst hI.le (by omega) (fun j hj hjl => hbef j (by omega) (by omega) hjl (fun e => by subst e; omega)) ?_ hob
          have hr := evalX_rep hI.env y
          simp only at he
          rw [he] at hr
          generalize a.eval y = vy at hr
          cases hr with
          | optr hb =>
            rw [← hI.mem.len]
            exact (List.getElem?_eq_some_iff.1 hb).1
        exact hev1.wp hI.mem hI.env fun ι' v w' h1 h2 h3 => hK ι' p _ w' (close ι' p v w' hI.le (fun j hj hjl => same j hj hjl (by omega)) h1 h2 h3)
      · have hσ : (S p).σ = (S i).σ := by
          refine σ_eq hst hI.le (by omega) (fun j hj hjl => ?_)
          by_cases e : j = i
          · subst e
            have := hI.mods j hj hjl
            rw [hun] at this
            constructor
            · intro h; exact absurd (this.2 h) (by simp)
            · intro h; omega
          · exact hbef j hj (fun _ => hf1) hjl e
        have hev2 : Ev P o ⟨(S p).σ, envL ops (S 0).env X (fun j => listed.getD j false)⟩ (X i) (S (i + 1)).σ (F i) := by rw [hσ]; exact hev'
        exact hev2.wp hI.mem hI.env fun ι' v w' h1 h2 h3 => hK ι' (i + 1) _ w' (close ι' (i + 1) v w' (by omega) (fun j hj hjl => by
          rw [hlist]
          by_cases e : j = i
          · subst e; simp
          · rw [if_neg e, hI.mods j hj hjl, hbef j hj (fun _ => hf1) hjl e]; omega) h1 h2 h3)
  · rw [← guardX_congr hlook] at hg
    rw [if_neg (by rw [guardX_sound hI.env hg]; simp)]
    refine ⟨fun _ _ => trivial, ?_⟩
    exact hK ι p _ w (close ι p undef w hI.le (fun j hj hjl => same j hj hjl (by omega)) hI.mem (.refl _ _ _ _) (by rw [hx]; exact .d (.lit _)))

end
end Go.Vm

end
section
/-
  VALUES WITHOUT ADDRESSES, 13: the rule for a statement whose order is open; the machine as a program, and that it is right.
-/
namespace Go.Vm
open Go.RowKit

theorem countP_set (f g : Nat → Bool) (i : Nat) (hf : f i = false) (hg : g i = true) (h : ∀ j, j ≠ i → g j = f j) : ∀ (l : List Nat), l.Nodup → i ∈ l → l.countP g = l.countP f + 1
  | [], _, hm => by cases hm
  | x :: l, hnd, hm => by
    rw [List.nodup_cons] at hnd
    by_cases e : x = i
    · subst e
      have hrest : l.countP g = l.countP f := List.countP_congr fun j hj => by rw [h j (fun e => hnd.1 (e ▸ hj))]
      simp [hf, hg, hrest]
    · have hm' : i ∈ l := by rcases List.mem_cons.1 hm with e' | h'; exact absurd e'.symm e; exact h'
      have ih := countP_set f g i hf hg h l hnd.2 hm'
      simp only [List.countP_cons, ih, h x e]
      omega

section
variable {P : Program} {M : Nat → Prop} {W0 : World} {C : Ctx} {n : Nat} {ops : Array Oper}

theorem getElem?_range_all {N : Nat} {f : Nat → Bool} (h : N ≤ (List.range N).countP f) : ∀ i, i < N → f i = true := by
  intro i hi
  have h1 : (List.range N).countP f = (List.range N).length := by
    have := List.countP_le_length (p := f) (l := List.range N)
    simp at this ⊢; omega
  exact List.countP_eq_length.1 h1 i (by simpa using hi)

theorem InvL.done {S : Nat → St} {X : Nat → XV} {F : Nat → Nat} (hst : ∀ (i : Nat) (o : Oper), ops[i]? = some o → Steps' P n ops S X F i o) (hok : okDraw ops F = true)
    {ι0 : List Nat} {w0 : World} {listed : Array Bool} {ι : List Nat} {p : Nat} {a : Act} {w : World} (hI : InvL P M W0 C n ops S X F ι0 w0 listed ι p a w) (hall : ∀ i, i < ops.size → listed.getD i false = true) :
    Fr M W0 C n ι (S ops.size) a w ∧ Ext M ι0 (S 0).σ w0 ι (S ops.size).σ w := by
  have hσ : (S p).σ = (S ops.size).σ := σ_eq hst hI.le (Nat.le_refl _) (fun j hj hjl => by
    have := (hI.mods j hj hjl).1 (hall j hjl)
    exact ⟨fun _ => hjl, fun _ => this⟩)
  refine ⟨⟨hσ ▸ hI.mem, fun t => ?_, hI.tsize, hσ ▸ hI.defers, hI.round⟩, hσ ▸ hI.ext⟩
  rw [← hσ]
  have e : envL ops (S 0).env X (fun j => listed.getD j false) t = (S ops.size).env t := by
    by_cases hex : ∃ (j : Nat) (q : Oper), ops[j]? = some q ∧ q.dst = some t
    · obtain ⟨j, q, hq, hd⟩ := hex
      have hj := (Array.getElem?_eq_some_iff.1 hq).1
      rw [envL_some hok hq hd (hall j hj), env_some hst hok hq hd _ (Nat.le_refl _) hj]
    · rw [envL_none (fun k r hr hl hrd => hex ⟨k, r, hr, hrd⟩), env_none hst _ (Nat.le_refl _) (fun k r hk hr hrd => hex ⟨k, r, hr, hrd⟩)]
  rw [← e]; exact hI.env t

theorem mem_ready {listed : Array Bool} {i : Nat} (h : i ∈ Region.ready .any ops listed) (hs : listed.size = ops.size) : ∃ o, ops[i]? = some o ∧ listed.getD i false = false ∧ ∀ e ∈ o.after, bindsA e = true → listed.getD e.on false = true := by
  unfold Region.ready at h
  rw [List.mem_filter] at h
  obtain ⟨h1, h2⟩ := h
  simp only [Bool.and_eq_true, Bool.not_eq_true'] at h2
  obtain ⟨h2, h3⟩ := h2
  cases ho : ops[i]? with
  | none => rw [ho] at h3; simp at h3
  | some o =>
    rw [ho] at h3
    have hi := (Array.getElem?_eq_some_iff.1 ho).1
    refine ⟨o, rfl, by rw [getD_bool listed i (by omega) false true]; exact h2, fun e he hb => ?_⟩
    simp only [Option.map_some, Option.getD_some] at h3
    have := Array.all_eq_true_iff_forall_mem.1 h3 e he
    simpa [show Region.binds .any e = true from hb] using this

theorem ready_nil {F : Nat → Nat} (hok : okDraw ops F = true) {listed : Array Bool} (hs : listed.size = ops.size) (h : Region.ready .any ops listed = []) : ∀ i, i < ops.size → listed.getD i false = true := by
  intro i
  induction i using Nat.strongRecOn with
  | _ i ih =>
    intro hi
    cases hl : listed.getD i false with
    | true => rfl
    | false =>
      exfalso
      have ho := Array.getElem?_eq_getElem hi
      have : i ∈ Region.ready .any ops listed := by
        unfold Region.ready
        rw [List.mem_filter]
        refine ⟨by simpa using hi, ?_⟩
        simp only [Bool.and_eq_true, Bool.not_eq_true']
        refine ⟨by rw [getD_bool listed i (by omega) true false]; exact hl, ?_⟩
        rw [ho]
        simp only [Option.map_some, Option.getD_some]
        refine Array.all_eq_true_iff_forall_mem.2 fun e he => ?_
        by_cases hb : bindsA e = true
        · have hlt := okDraw_edges hok ho e he hb
          simp [ih e.on hlt (by omega)]
        · have hb' : Region.binds .any e = false := by simpa [bindsA] using hb
          simp [hb']
      rw [h] at this; cases this

theorem wpAny_of {S : Nat → St} {X : Nat → XV} {F : Nat → Nat} (hst : ∀ (i : Nat) (o : Oper), ops[i]? = some o → Steps' P n ops S X F i o) (hok : okDraw ops F = true)
    {ι0 : List Nat} {w0 : World} {Q : Exit → Act → World → Prop}
    (hq : ∀ (ι : List Nat) (a : Act) (w : World), Fr M W0 C n ι (S ops.size) a w → Ext M ι0 (S 0).σ w0 ι (S ops.size).σ w → Q .normal a w) :
    ∀ (fuel : Nat) (listed : Array Bool) (ι : List Nat) (p : Nat) (a : Act) (w : World), InvL P M W0 C n ops S X F ι0 w0 listed ι p a w → ops.size ≤ fuel + (List.range ops.size).countP (fun j => listed.getD j false) →
      wpAnyIn (FR C.ro) 0 P .any ops Q fuel listed a w
  | 0, listed, ι, p, a, w, hI, hc => by
    have hall := getElem?_range_all (N := ops.size) (f := fun j => listed.getD j false) (by omega)
    obtain ⟨h1, h2⟩ := hI.done hst hok hall
    refine ⟨?_, hq ι a w h1 h2⟩
    cases hr : Region.ready .any ops listed with
    | nil => rfl
    | cons x xs =>
      obtain ⟨o, ho, hu, _⟩ := mem_ready (i := x) (by rw [hr]; simp) hI.size
      have := hall x (Array.getElem?_eq_some_iff.1 ho).1
      rw [this] at hu; cases hu
  | fuel + 1, listed, ι, p, a, w, hI, hc => by
    refine ⟨fun hr => ?_, fun i hi => ?_⟩
    · obtain ⟨h1, h2⟩ := hI.done hst hok (ready_nil hok hI.size hr)
      exact hq ι a w h1 h2
    · obtain ⟨o, ho, hu, hre⟩ := mem_ready hi hI.size
      have hil := (Array.getElem?_eq_some_iff.1 ho).1
      refine hI.next hst hok ho hu hre fun ι' p' a' w' hI' => ?_
      refine wpAny_of hst hok hq fuel _ ι' p' a' w' hI' ?_
      have := countP_set (fun j => listed.getD j false) (fun j => (listed.setIfInBounds i true).getD j false) i hu (by
        have : i < listed.size := by rw [hI.size]; exact hil
        simp [this]) (fun j hj => by
        simp only [Array.getD_eq_getD_getElem?]
        rw [Array.getElem?_setIfInBounds_ne (by omega)]) (List.range ops.size) List.nodup_range (by simpa using hil)
      omega

/-- A list of operations, one after the other; what each did with the objects. -/
inductive Tr (P : Program) (n : Nat) (ops : Array Oper) : List Oper → St → List Nat → St → Prop
  | nil {s : St} : Tr P n ops [] s [] s
  | step {o : Oper} {l : List Oper} {s s' : St} {x : XV} {σ' : List VObj} {fl : Nat} {fls : List Nat} (hg : guardX ops s.env o = some true) (he : Ev P o s x σ' fl) (hd : dstOk n o.dst = true)
      (h : Tr P n ops l ⟨σ', putE s.env o.dst x⟩ fls s') : Tr P n ops (o :: l) s (fl :: fls) s'
  | skip {o : Oper} {l : List Oper} {s s' : St} {fls : List Nat} (hg : guardX ops s.env o = some false) (hd : dstOk n o.dst = true)
      (h : Tr P n ops l ⟨s.σ, putE s.env o.dst undefX⟩ fls s') : Tr P n ops (o :: l) s (0 :: fls) s'

def consF {α : Type} (x : α) (f : Nat → α) : Nat → α
  | 0 => x
  | i + 1 => f i

theorem Tr.fns {l : List Oper} {s s' : St} {fls : List Nat} (h : Tr P n ops l s fls s') : ∃ (S : Nat → St) (X : Nat → XV), S 0 = s ∧ S l.length = s' ∧ ∀ (i : Nat) (o : Oper), l[i]? = some o → Steps' P n ops S X (fun i => fls.getD i 0) i o := by
  induction h with
  | @nil s => exact ⟨fun _ => s, fun _ => undefX, rfl, rfl, fun i o h => by simp at h⟩
  | @step o l s s' x σ' fl fls hg he hd h ih =>
    obtain ⟨S, X, h0, h1, h2⟩ := ih
    refine ⟨consF s S, consF x X, rfl, h1, fun i o' hi => ?_⟩
    cases i with
    | zero =>
      simp at hi; subst hi
      exact ⟨hd, by show (S 0).env = _; rw [h0]; rfl, .inl ⟨hg, by show Ev P o s x (S 0).σ fl; rw [h0]; exact he⟩⟩
    | succ i =>
      have := h2 i o' (by simpa using hi)
      exact ⟨this.dst, this.env, this.ev⟩
  | @skip o l s s' fls hg hd h ih =>
    obtain ⟨S, X, h0, h1, h2⟩ := ih
    refine ⟨consF s S, consF undefX X, rfl, h1, fun i o' hi => ?_⟩
    cases i with
    | zero =>
      simp at hi; subst hi
      exact ⟨hd, by show (S 0).env = _; rw [h0]; rfl, .inr ⟨hg, rfl, rfl, by show (S 0).σ = s.σ; rw [h0]⟩⟩
    | succ i =>
      have := h2 i o' (by simpa using hi)
      exact ⟨this.dst, this.env, this.ev⟩

theorem Tr.wpL {l : List Oper} {s s' : St} {fls : List Nat} (h : Tr P n ops l s fls s') : WpL P M W0 n ops l s (fun s2 => s2 = s') := by
  induction h with
  | nil => exact .nil rfl
  | step hg he hd _ ih => exact .step hg he hd ih
  | skip hg hd _ ih => exact .skip hg hd ih

/-- A STATEMENT WHOSE ORDER IS OPEN. -/
theorem Wp.draw {id : Nat} {s s' : St} {fls : List Nat} {T : Exit → St → Prop} (hm : P.follows .mixedOrders = true) (h : Tr P n ops ops.toList s fls s') (hok : okDraw ops (fun i => fls.getD i 0) = true) (hT : T .normal s') :
    Wp P M W0 n (.region id ops true) s T := by
  obtain ⟨S, X, h0, h1, h2⟩ := h.fns
  have hst : ∀ (i : Nat) (o : Oper), ops[i]? = some o → Steps' P n ops S X (fun i => fls.getD i 0) i o := fun i o ho => h2 i o (by simpa using ho)
  intro C ι a w hf Q hq
  have hlen : S ops.size = s' := by rw [← h1]; simp
  have hmem : Mem M W0 ι s.σ { w with drawn := w.drawn + 1 } ∧ Ext M ι s.σ w ι s.σ { w with drawn := w.drawn + 1 } := hf.mem.grown (Below.drew (Below.refl _ _))
  refine wpIn_region_any hm (wpAny_of (M := M) (W0 := W0) (ι0 := ι) (w0 := { w with drawn := w.drawn + 1 }) hst hok (fun ι' a' w' k1 k2 => hq .normal ι' s' a' w' hT (hlen ▸ k1) (hmem.2.trans (by rw [← h0, ← hlen]; exact k2))) ops.size _ ι 0 a _ ?_ (by omega))
  refine ⟨by simp, fun i o hi ho e he hb => ?_, Nat.zero_le _, fun j hj hjl => by simp [hjl], by rw [h0]; exact hmem.1, by rw [h0]; exact .refl _ _ _ _, fun t => ?_, hf.size, h0 ▸ hf.defers.ext hmem.2, hf.round⟩
  · have hil := (Array.getElem?_eq_some_iff.1 ho).1
    simp [hil] at hi
  · rw [envL_none (fun j p hp hl _ => by have := (Array.getElem?_eq_some_iff.1 hp).1; simp [this] at hl), h0]
    exact (hf.env t).ext hmem.2

theorem Wp.plain {id : Nat} {s s' : St} {fls : List Nat} {T : Exit → St → Prop} (h : Tr P n ops ops.toList s fls s') (hT : T .normal s') : Wp P M W0 n (.region id ops false) s T :=
  .region (h.wpL.mono fun s2 e => by rw [e]; exact hT)

end

theorem allD_some : ∀ {l : List XV} {r : List DV}, allD l = some r → l = r.map .d
  | [], r, h => by simp [allD] at h; subst h; rfl
  | .d x :: l, r, h => by
    simp only [allD, Option.map_eq_some_iff] at h
    obtain ⟨r', h1, rfl⟩ := h
    rw [allD_some h1]; rfl
  | .osl .. :: _, _, h | .optr .. :: _, _, h | .tup _ :: _, _, h | .agg _ :: _, _, h | .fn .. :: _, _, h | .ifc .. :: _, _, h | .omp _ :: _, _, h | .yl _ :: _, _, h | .lp _ :: _, _, h => by simp [allD] at h

/-- The objects that a value comes to. -/
def idsOf (σ : List VObj) : Nat → XV → List Nat
  | 0, _ => []
  | n + 1, x => match x with
    | .d _ => []
    | .osl id _ _ _ _ _ => id :: ((σ[id]?).elim [] fun ob => ob.cells.flatMap (idsOf σ n))
    | .optr id _ => id :: ((σ[id]?).elim [] fun ob => ob.cells.flatMap (idsOf σ n))
    | .tup xs => xs.flatMap (idsOf σ n)
    | .agg xs => xs.flatMap (idsOf σ n)
    | .fn _ a b => a.flatMap (idsOf σ n) ++ b.flatMap (idsOf σ n)
    | .ifc _ x => idsOf σ n x
    | .omp id => id :: ((σ[id]?).elim [] fun ob => ob.cells.flatMap (idsOf σ n))
    | .yl _ => []
    | .lp _ => []

/-- A call on deep values, by a run that shares objects. -/
def deepOf (callI : FuncId → List VObj → List XV → Option (XV × List VObj)) (f : FuncId) (args : List DV) : Option DV :=
  (callI f [] (args.map .d)).bind fun r => deepen (freezeAll r.2) 20 r.1

def evX (P : Program) (inl : FuncId → Bool) (callI : FuncId → List VObj → List XV → Option (XV × List VObj)) (o : Oper) (s : St) : Option (XV × List VObj × Nat) :=
  match evalOp P o s with
  | some r => some r
  | none => match o.op with
    | .call ⟨.value callee, args, _⟩ => match asFn (evalX s.env callee) with
      | some (f, first, caps) => if plainFn P f then
          if inl f then (callI f s.σ (first ++ args.toList.map (evalX s.env) ++ caps)).map fun r => (r.1, r.2, 2)
          else match allD (first ++ args.toList.map (evalX s.env) ++ caps) with
          | some dargs => (deepOf callI f dargs).map fun r => (.d r, s.σ, 0)
          | none => match (first ++ args.toList.map (evalX s.env) ++ caps).mapM (deepen (freezeIds s.σ ((first ++ args.toList.map (evalX s.env) ++ caps).flatMap (idsOf s.σ 20))) 20) with
            | some dargs => (deepOf callI f dargs).map fun r => (.d r, freezeIds s.σ ((first ++ args.toList.map (evalX s.env) ++ caps).flatMap (idsOf s.σ 20)), 3)
            | none => none
        else none
      | none => none
    | _ => none

/-- A run that shares objects tells what the call does. -/
def Right (P : Program) (callI : FuncId → List VObj → List XV → Option (XV × List VObj)) : Prop :=
  ∀ (f : FuncId) (σ : List VObj) (args : List XV) (x : XV) (σ' : List VObj), callI f σ args = some (x, σ') → ∀ (M : Nat → Prop) (W0 : World), InCall P M W0 f σ args (fun σ2 x2 => σ2 = σ' ∧ x2 = x)

theorem InCall.mono {P : Program} {M : Nat → Prop} {W0 : World} {f : FuncId} {σ : List VObj} {args : List XV} {Q R : List VObj → XV → Prop} (h : InCall P M W0 f σ args Q) (hq : ∀ σ x, Q σ x → R σ x) : InCall P M W0 f σ args R :=
  fun ι w vs h1 h2 h3 => (h ι w vs h1 h2 h3).mono fun _ _ ⟨ι', σ', x, v, k1, k2, k3, k4, k5⟩ => ⟨ι', σ', x, v, k1, k2, k3, k4, hq _ _ k5⟩

theorem deepOf_sound {P : Program} {callI : FuncId → List VObj → List XV → Option (XV × List VObj)} (hc : Right P callI) {f : FuncId} {args : List DV} {res : DV} (h : deepOf callI f args = some res) : DeepCall P f args res := by
  unfold deepOf at h
  rw [Option.bind_eq_some_iff] at h
  obtain ⟨⟨x, σ'⟩, h1, h2⟩ := h
  exact deepCall_of_inCall 20 fun M W0 => (hc f [] _ x σ' h1 M W0).mono fun σ2 x2 ⟨e1, e2⟩ => by rw [e1, e2]; exact h2

theorem evX_sound {P : Program} {inl : FuncId → Bool} {callI : FuncId → List VObj → List XV → Option (XV × List VObj)} (hc : Right P callI) {o : Oper} {s : St} {x : XV} {σ' : List VObj} {fl : Nat}
    (h : evX P inl callI o s = some (x, σ', fl)) : Ev P o s x σ' fl := by
  unfold evX at h
  split at h
  · rename_i r hr; cases h; exact .op hr
  · split at h
    · rename_i callee args ts ho
      split at h
      · rename_i f first caps hf
        split at h
        · rename_i hp
          split at h
          · simp only [Option.map_eq_some_iff, Prod.mk.injEq] at h
            obtain ⟨⟨y, τ⟩, hr, rfl, rfl, rfl⟩ := h
            exact .inl ho hf hp (fun M W0 => hc f _ _ y τ hr M W0)
          · split at h
            · rename_i dargs hd
              simp only [Option.map_eq_some_iff, Prod.mk.injEq] at h
              obtain ⟨r, hr, rfl, rfl, rfl⟩ := h
              exact .call ho hf hp (allD_some hd) (deepOf_sound hc hr)
            · split at h
              · rename_i dargs hd
                simp only [Option.map_eq_some_iff, Prod.mk.injEq] at h
                obtain ⟨r, hr, rfl, rfl, rfl⟩ := h
                exact .callF _ 20 ho hf hp hd (deepOf_sound hc hr)
              · cases h
        · cases h
      · cases h
    · cases h

def runOps (P : Program) (inl : FuncId → Bool) (callI : FuncId → List VObj → List XV → Option (XV × List VObj)) (n : Nat) (ops : Array Oper) : List Oper → St → Option (List Nat × St)
  | [], s => some ([], s)
  | o :: l, s => if dstOk n o.dst then match guardX ops s.env o with
    | some true => match evX P inl callI o s with
      | some (x, σ', fl) => (runOps P inl callI n ops l ⟨σ', putE s.env o.dst x⟩).map fun r => (fl :: r.1, r.2)
      | none => none
    | some false => (runOps P inl callI n ops l ⟨s.σ, putE s.env o.dst undefX⟩).map fun r => (0 :: r.1, r.2)
    | none => none else none

theorem runOps_sound {P : Program} {inl : FuncId → Bool} {callI : FuncId → List VObj → List XV → Option (XV × List VObj)} (hc : Right P callI) {n : Nat} {ops : Array Oper} : ∀ (l : List Oper) (s : St) (fls : List Nat) (s' : St),
    runOps P inl callI n ops l s = some (fls, s') → Tr P n ops l s fls s'
  | [], s, fls, s', h => by simp [runOps] at h; obtain ⟨rfl, rfl⟩ := h; exact .nil
  | o :: l, s, fls, s', h => by
    simp only [runOps] at h
    split at h
    · rename_i hd
      split at h
      · rename_i hg
        split at h
        · rename_i x σ' fl he
          simp only [Option.map_eq_some_iff, Prod.mk.injEq] at h
          obtain ⟨⟨f, q⟩, hr, rfl, rfl⟩ := h
          exact .step hg (evX_sound hc he) hd (runOps_sound hc l _ _ _ hr)
        · cases h
      · rename_i hg
        simp only [Option.map_eq_some_iff, Prod.mk.injEq] at h
        obtain ⟨⟨f, q⟩, hr, rfl, rfl⟩ := h
        exact .skip hg hd (runOps_sound hc l _ _ _ hr)
      · cases h
    · cases h

def runCode (P : Program) (inl : FuncId → Bool) (callI : FuncId → List VObj → List XV → Option (XV × List VObj)) (n : Nat) : Nat → Code → St → Option (Exit × St)
  | 0, _, _ => none
  | k + 1, c, s => match c with
    | .skip => some (.normal, s)
    | .label _ => some (.normal, s)
    | .ret => some (.ret, s)
    | .exit id => some (.exit id, s)
    | .region _ ops draw => match runOps P inl callI n ops ops.toList s with
      | some (fls, s') => if !draw || okDraw ops (fun i => fls.getD i 0) then some (.normal, s') else none
      | none => none
    | .seq x y => match runCode P inl callI n k x s with
      | some (.normal, s') => runCode P inl callI n k y s'
      | r => r
    | .cond c x y => match litOf (evalX s.env c) with
      | some (.bool t) => runCode P inl callI n k (if t then x else y) s
      | _ => none
    | .block id x => match runCode P inl callI n k x s with
      | some (.exit id', s') => if id' = id then some (.normal, s') else some (.exit id', s')
      | r => r
    | .loop x => match runCode P inl callI n k x s with
      | some (.normal, s') => runCode P inl callI n k (.loop x) s'
      | r => r
    | _ => none

theorem runCode_both {P : Program} {M : Nat → Prop} {W0 : World} (hmix : P.follows .mixedOrders = true) {inl : FuncId → Bool} {callI : FuncId → List VObj → List XV → Option (XV × List VObj)} (hc : Right P callI) {n : Nat} :
    ∀ (k : Nat), (∀ (c : Code) (s : St) (e : Exit) (s' : St), runCode P inl callI n k c s = some (e, s') → Wp P M W0 n c s (fun e2 s2 => e2 = e ∧ s2 = s')) ∧
      (∀ (x : Code) (s : St) (e : Exit) (s' : St), runCode P inl callI n k (.loop x) s = some (e, s') → ∀ (C : Ctx) (ι : List Nat) (a : Act) (w : World), Fr M W0 C n ι s a w → ∀ Q : Exit → Act → World → Prop,
        (∀ (ι' : List Nat) (a' : Act) (w' : World), Fr M W0 C n ι' s' a' w' → Ext M ι s.σ w ι' s'.σ w' → Q e a' w') → Code.roundsIn (FR C.ro) 0 P x Q k a w)
  | 0 => ⟨fun c s e s' h => by simp [runCode] at h, fun x s e s' h => by simp [runCode] at h⟩
  | k + 1 => by
    obtain ⟨ih, ihl⟩ := runCode_both (M := M) (W0 := W0) hmix hc (n := n) k
    have hloop : ∀ (x : Code) (s : St) (e : Exit) (s' : St), runCode P inl callI n (k + 1) (.loop x) s = some (e, s') → ∀ (C : Ctx) (ι : List Nat) (a : Act) (w : World), Fr M W0 C n ι s a w → ∀ Q : Exit → Act → World → Prop,
        (∀ (ι' : List Nat) (a' : Act) (w' : World), Fr M W0 C n ι' s' a' w' → Ext M ι s.σ w ι' s'.σ w' → Q e a' w') → Code.roundsIn (FR C.ro) 0 P x Q (k + 1) a w := by
      intro x s e s' h C ι a w hf Q hq
      simp only [runCode] at h
      rw [roundsIn_succ]
      cases hx : runCode P inl callI n k x s with
      | none => rw [hx] at h; cases h
      | some r =>
        obtain ⟨e1, s1⟩ := r
        rw [hx] at h
        refine ih x s e1 s1 hx C ι a w hf _ fun e2 ι' s2 a' w' h1 h2 h3 => ?_
        obtain ⟨rfl, rfl⟩ := h1
        cases e2 <;> simp only [Exit.then] <;> first
          | exact ihl x s2 e s' h C ι' a' w' h2 Q fun ι'' a'' w'' q1 q2 => hq ι'' a'' w'' q1 (h3.trans q2)
          | (cases h; exact hq ι' a' w' h2 h3)
    refine ⟨fun c s e s' h => ?_, hloop⟩
    cases c with
    | skip => simp [runCode] at h; obtain ⟨rfl, rfl⟩ := h; exact .skip ⟨rfl, rfl⟩
    | label l => simp [runCode] at h; obtain ⟨rfl, rfl⟩ := h; exact .label ⟨rfl, rfl⟩
    | ret => simp [runCode] at h; obtain ⟨rfl, rfl⟩ := h; exact .ret ⟨rfl, rfl⟩
    | exit id => simp [runCode] at h; obtain ⟨rfl, rfl⟩ := h; exact .exit ⟨rfl, rfl⟩
    | region id ops draw =>
      simp only [runCode] at h
      split at h
      · rename_i fls s2 hr
        split at h
        · rename_i hd
          cases h
          have htr := runOps_sound hc _ _ _ _ hr
          cases draw with
          | false => exact .plain htr ⟨rfl, rfl⟩
          | true => exact .draw hmix htr (by simpa using hd) ⟨rfl, rfl⟩
        · cases h
      · cases h
    | seq x y =>
      simp only [runCode] at h
      refine .seq ?_
      cases hx : runCode P inl callI n k x s with
      | none => rw [hx] at h; cases h
      | some r =>
        obtain ⟨e1, s1⟩ := r
        rw [hx] at h
        refine (ih x s e1 s1 hx).mono fun e2 s2 he => ?_
        obtain ⟨rfl, rfl⟩ := he
        cases e2 <;> simp only [thenT] <;> first | exact ih y s2 e s' h | (cases h; exact ⟨rfl, rfl⟩)
    | cond c x y =>
      simp only [runCode] at h
      split at h
      · rename_i t ht; exact .cond ht (ih _ s e s' h)
      · cases h
    | block id x =>
      simp only [runCode] at h
      refine .block ?_
      cases hx : runCode P inl callI n k x s with
      | none => rw [hx] at h; cases h
      | some r =>
        obtain ⟨e1, s1⟩ := r
        rw [hx] at h
        refine (ih x s e1 s1 hx).mono fun e2 s2 he => ?_
        obtain ⟨rfl, rfl⟩ := he
        cases e2 with
        | exit id' =>
          simp only [blockT]
          simp only at h
          split at h
          · rename_i hid; rw [if_pos hid]; cases h; exact ⟨rfl, rfl⟩
          · rename_i hid; rw [if_neg hid]; cases h; exact ⟨rfl, rfl⟩
        | _ => cases h; exact ⟨rfl, rfl⟩
    | loop x =>
      exact fun C ι a w hf Q hq => wpIn_loop_rounds (k + 1) (hloop x s e s' h C ι a w hf Q fun ι' a' w' q1 q2 => hq e ι' s' a' w' ⟨rfl, rfl⟩ q1 q2)
    | _ => simp [runCode] at h

/-- A function, run among objects: k bounds how deep calls lie in each other, len how long each runs. -/
def runX (P : Program) (inl : FuncId → Bool) (len : Nat) : Nat → FuncId → List VObj → List XV → Option (XV × List VObj)
  | 0, _, _, _ => none
  | k + 1, f, σ, args => match P.funcs[f]? with
    | some fn => match fn.body with
      | some c => if args.length ≤ fn.ntmps then
          match runCode P inl (runX P inl len k) fn.ntmps len c (enter σ args) with
          | some (.ret, s) | some (.normal, s) => (resX P fn s).map fun x => (x, s.σ)
          | _ => none
        else none
      | none => none
    | none => none

theorem runX_sound {P : Program} (hmix : P.follows .mixedOrders = true) {inl : FuncId → Bool} {len : Nat} : ∀ (k : Nat), Right P (runX P inl len k)
  | 0 => fun f σ args x σ' h => by simp [runX] at h
  | k + 1 => fun f σ args x σ' h => by
    simp only [runX] at h
    split at h
    · rename_i fn hf
      split at h
      · rename_i c hb
        split at h
        · rename_i hn
          have key : ∀ (e : Exit) (s : St), (e = .ret ∨ e = .normal) → runCode P inl (runX P inl len k) fn.ntmps len c (enter σ args) = some (e, s) → ((resX P fn s).map fun x => (x, s.σ)) = some (x, σ') →
              ∀ (M : Nat → Prop) (W0 : World), InCall P M W0 f σ args (fun σ2 x2 => σ2 = σ' ∧ x2 = x) := by
            intro e s he hr hres M W0
            simp only [Option.map_eq_some_iff, Prod.mk.injEq] at hres
            obtain ⟨y, hy, rfl, rfl⟩ := hres
            refine inCall_of hf hb hn (((runCode_both hmix (runX_sound hmix k) len).1 c _ e s hr).mono fun e2 s2 h2 => ?_)
            obtain ⟨rfl, rfl⟩ := h2
            exact ⟨he, y, hy, rfl, rfl⟩
          split at h
          · rename_i s hr; exact key .ret s (.inl rfl) hr h
          · rename_i s hr; exact key .normal s (.inr rfl) hr h
          · cases h
        · cases h
      · cases h
    · cases h

/-- A function, run on deep values. -/
def runFn (P : Program) (inl : FuncId → Bool) (len k : Nat) (f : FuncId) (args : List DV) : Option DV := deepOf (runX P inl len k) f args

theorem runFn_sound {P : Program} (hmix : P.follows .mixedOrders = true) {inl : FuncId → Bool} {len k : Nat} {f : FuncId} {args : List DV} {res : DV} (h : runFn P inl len k f args = some res) : DeepCall P f args res :=
  deepOf_sound (runX_sound hmix k) h

end Go.Vm

end
section
/-
  VALUES WITHOUT ADDRESSES, 14: a frame of which some slots are known: the rules by which a body is walked.
-/
namespace Go.Vm
open Go.RowKit

abbrev Kn := List (Nat × XV)

def look : Kn → Nat → Option XV
  | [], _ => none
  | (s, x) :: kn, t => if t = s then some x else look kn t

def Agree (kn : Kn) (env : Nat → XV) : Prop := ∀ (t : Nat) (x : XV), look kn t = some x → env t = x

def evK (kn : Kn) : Operand → Option XV
  | .tmp t => look kn t
  | .const v => some (.d (.lit v))
  | .global g => some (.d (.lit (.pointer (some ⟨g, 0, none⟩))))
  | .func f => some (.d (.fn (.func f) [] []))

theorem evK_evalX {kn : Kn} {env : Nat → XV} (h : Agree kn env) {x : Operand} {v : XV} (hx : evK kn x = some v) : evalX env x = v := by
  cases x with
  | tmp t => exact h t v hx
  | const c => simp [evK] at hx; exact hx
  | global g => simp [evK] at hx; exact hx
  | func f => simp [evK] at hx; exact hx

def extK (dst : Option Tmp) (x : XV) (kn : Kn) : Kn :=
  match dst with
  | some d => (d, x) :: kn
  | none => kn

theorem Agree.ext {kn : Kn} {env : Nat → XV} (h : Agree kn env) (dst : Option Tmp) (x : XV) : Agree (extK dst x kn) (putE env dst x) := by
  cases dst with
  | none => exact h
  | some d =>
    intro t y hy
    simp only [extK, look] at hy
    simp only [putE, upd]
    split at hy
    · rename_i e; rw [if_pos e]; cases hy; rfl
    · rename_i e; rw [if_neg e]; exact h t y hy

/-- Some of what is known. -/
theorem Agree.weaken {kn kn' : Kn} {env : Nat → XV} (h : Agree kn env) (hk : ∀ p ∈ kn', look kn p.1 = some p.2) : Agree kn' env := by
  intro t x hx
  have : ∀ (l : Kn), (∀ p ∈ l, look kn p.1 = some p.2) → look l t = some x → look kn t = some x := by
    intro l
    induction l with
    | nil => intro _ h; simp [look] at h
    | cons p l ih =>
      intro hl hx
      obtain ⟨s, y⟩ := p
      simp only [look] at hx
      split at hx
      · rename_i e; cases hx; subst e; exact hl (t, x) (by simp)
      · exact ih (fun q hq => hl q (by simp [hq])) hx
  exact h t x (this kn' hk hx)

/-- An operation on what is known. -/
def KEv (P : Program) (o : Oper) (σ : List VObj) (kn : Kn) (x : XV) (σ' : List VObj) (fl : Nat) : Prop := ∀ env, Agree kn env → Ev P o ⟨σ, env⟩ x σ' fl

def guardK (ops : Array Oper) (kn : Kn) (o : Oper) : Option Bool :=
  match o.guard with
  | none => some true
  | some (j, want) => match (ops[j]?).bind (·.dst) with
    | some d => match (look kn d).bind litOf with
      | some (.bool b) => some (b == want)
      | some _ => some false
      | none => none
    | none => some false

theorem guardK_X {ops : Array Oper} {kn : Kn} {env : Nat → XV} (h : Agree kn env) {o : Oper} {b : Bool} (hg : guardK ops kn o = some b) : guardX ops env o = some b := by
  unfold guardK at hg
  unfold guardX
  cases ho : o.guard with
  | none => rw [ho] at hg; exact hg
  | some q =>
    obtain ⟨j, want⟩ := q
    rw [ho] at hg
    simp only at hg ⊢
    cases hd : (ops[j]?).bind (·.dst) with
    | none => rw [hd] at hg; exact hg
    | some d =>
      rw [hd] at hg
      simp only at hg ⊢
      cases hl : look kn d with
      | none => rw [hl] at hg; simp at hg
      | some x =>
        rw [hl] at hg
        rw [h d x hl]
        simp only [Option.bind_some] at hg
        cases hx : litOf x with
        | none => rw [hx] at hg; cases hg
        | some v => rw [hx] at hg; cases v <;> exact hg

/-- A list of operations on what is known. -/
def KT (P : Program) (n : Nat) (ops : Array Oper) (l : List Oper) (σ : List VObj) (kn : Kn) (R : List Nat → List VObj → Kn → Prop) : Prop :=
  ∀ env, Agree kn env → ∃ (fls : List Nat) (s' : St) (kn' : Kn), Tr P n ops l ⟨σ, env⟩ fls s' ∧ Agree kn' s'.env ∧ R fls s'.σ kn'

def KC (P : Program) (M : Nat → Prop) (W0 : World) (n : Nat) (c : Code) (σ : List VObj) (kn : Kn) (T : Exit → List VObj → Kn → Prop) : Prop :=
  ∀ env, Agree kn env → Wp P M W0 n c ⟨σ, env⟩ (fun e s => ∃ kn', Agree kn' s.env ∧ T e s.σ kn')

section
variable {P : Program} {M : Nat → Prop} {W0 : World} {n : Nat} {ops : Array Oper} {l : List Oper} {o : Oper} {σ σ' : List VObj} {kn : Kn}

theorem KT.nil {R : List Nat → List VObj → Kn → Prop} (h : R [] σ kn) : KT P n ops [] σ kn R := fun _ he => ⟨[], _, kn, .nil, he, h⟩

theorem KT.step {R : List Nat → List VObj → Kn → Prop} {x : XV} {fl : Nat} (hg : guardK ops kn o = some true) (hd : dstOk n o.dst = true) (he : KEv P o σ kn x σ' fl)
    (h : KT P n ops l σ' (extK o.dst x kn) (fun fls τ k => R (fl :: fls) τ k)) : KT P n ops (o :: l) σ kn R := by
  intro env ha
  obtain ⟨fls, s', kn', h1, h2, h3⟩ := h (putE env o.dst x) (ha.ext o.dst x)
  exact ⟨fl :: fls, s', kn', .step (s := ⟨σ, env⟩) (guardK_X ha hg) (he env ha) hd h1, h2, h3⟩

theorem KT.skip {R : List Nat → List VObj → Kn → Prop} (hg : guardK ops kn o = some false) (hd : dstOk n o.dst = true)
    (h : KT P n ops l σ (extK o.dst undefX kn) (fun fls τ k => R (0 :: fls) τ k)) : KT P n ops (o :: l) σ kn R := by
  intro env ha
  obtain ⟨fls, s', kn', h1, h2, h3⟩ := h (putE env o.dst undefX) (ha.ext o.dst undefX)
  exact ⟨0 :: fls, s', kn', .skip (s := ⟨σ, env⟩) (guardK_X ha hg) hd h1, h2, h3⟩

theorem KC.mono {c : Code} {T T' : Exit → List VObj → Kn → Prop} (h : KC P M W0 n c σ kn T) (ht : ∀ e σ k, T e σ k → T' e σ k) : KC P M W0 n c σ kn T' :=
  fun env he => (h env he).mono fun _ _ ⟨k, h1, h2⟩ => ⟨k, h1, ht _ _ _ h2⟩

/-- Less is known. -/
theorem KC.weaken {c : Code} {T : Exit → List VObj → Kn → Prop} {kn' : Kn} (h : KC P M W0 n c σ kn' T) (hk : ∀ p ∈ kn', look kn p.1 = some p.2) : KC P M W0 n c σ kn T :=
  fun env he => h env (he.weaken hk)

theorem KC.region {id : Nat} {T : Exit → List VObj → Kn → Prop} (h : KT P n ops ops.toList σ kn (fun _ τ k => T .normal τ k)) : KC P M W0 n (.region id ops false) σ kn T := by
  intro env he
  obtain ⟨fls, s', kn', h1, h2, h3⟩ := h env he
  exact .plain h1 ⟨kn', h2, h3⟩

theorem KC.draw (hm : P.follows .mixedOrders = true) {id : Nat} {T : Exit → List VObj → Kn → Prop} (h : KT P n ops ops.toList σ kn (fun fls τ k => okDraw ops (fun i => fls.getD i 0) = true ∧ T .normal τ k)) :
    KC P M W0 n (.region id ops true) σ kn T := by
  intro env he
  obtain ⟨fls, s', kn', h1, h2, h3, h4⟩ := h env he
  exact .draw hm h1 h3 ⟨kn', h2, h4⟩

def thenK (A : List VObj → Kn → Prop) (T : Exit → List VObj → Kn → Prop) : Exit → List VObj → Kn → Prop
  | .normal, σ, k => A σ k
  | e, σ, k => T e σ k

theorem KC.seq {x y : Code} {T : Exit → List VObj → Kn → Prop} (h : KC P M W0 n x σ kn (thenK (fun τ k => KC P M W0 n y τ k T) T)) : KC P M W0 n (.seq x y) σ kn T := by
  intro env he
  refine .seq ((h env he).mono fun e s hs => ?_)
  obtain ⟨k, h1, h2⟩ := hs
  cases e with
  | normal => exact h2 s.env h1
  | exit id => exact ⟨k, h1, h2⟩
  | goto j => exact ⟨k, h1, h2⟩
  | ret => exact ⟨k, h1, h2⟩
  | panic c => exact ⟨k, h1, h2⟩
  | outgrown => exact ⟨k, h1, h2⟩

theorem KC.skip {T : Exit → List VObj → Kn → Prop} (h : T .normal σ kn) : KC P M W0 n .skip σ kn T := fun _ he => .skip ⟨kn, he, h⟩

theorem KC.ret {T : Exit → List VObj → Kn → Prop} (h : T .ret σ kn) : KC P M W0 n .ret σ kn T := fun _ he => .ret ⟨kn, he, h⟩

theorem KC.exit {id : Nat} {T : Exit → List VObj → Kn → Prop} (h : T (.exit id) σ kn) : KC P M W0 n (.exit id) σ kn T := fun _ he => .exit ⟨kn, he, h⟩

/-- A branch: either way under its condition. -/
theorem KC.cond {c : Operand} {x y : Code} {t : Bool} {T : Exit → List VObj → Kn → Prop} (hc : evK kn c = some (.d (.lit (.bool t)))) (h1 : t = true → KC P M W0 n x σ kn T) (h2 : t = false → KC P M W0 n y σ kn T) :
    KC P M W0 n (.cond c x y) σ kn T := by
  intro env he
  refine .cond (t := t) (by show litOf (evalX env c) = _; rw [evK_evalX he hc]; rfl) ?_
  cases t with
  | true => exact h1 rfl env he
  | false => exact h2 rfl env he

def blockK (id : Nat) (T : Exit → List VObj → Kn → Prop) : Exit → List VObj → Kn → Prop
  | .exit id', σ, k => if id' = id then T .normal σ k else T (.exit id') σ k
  | e, σ, k => T e σ k

theorem KC.block {id : Nat} {c : Code} {T : Exit → List VObj → Kn → Prop} (h : KC P M W0 n c σ kn (blockK id T)) : KC P M W0 n (.block id c) σ kn T := by
  intro env he
  refine .block ((h env he).mono fun e s hs => ?_)
  obtain ⟨k, h1, h2⟩ := hs
  cases e with
  | exit j =>
    simp only [blockK] at h2
    simp only [blockT]
    split at h2
    · rename_i e; rw [if_pos e]; exact ⟨k, h1, h2⟩
    · rename_i e; rw [if_neg e]; exact ⟨k, h1, h2⟩
  | normal => exact ⟨k, h1, h2⟩
  | goto j => exact ⟨k, h1, h2⟩
  | ret => exact ⟨k, h1, h2⟩
  | panic c => exact ⟨k, h1, h2⟩
  | outgrown => exact ⟨k, h1, h2⟩

/-- A LOOP: at every round's head the objects and the known slots are those of some index; a measure of the index gets less. -/
theorem KC.loop {α : Type} {c : Code} {T : Exit → List VObj → Kn → Prop} (Sg : α → List VObj) (Kf : α → Kn) (I : α → Prop) (μ : α → Nat) (a0 : α) (h0 : I a0) (hσ : σ = Sg a0) (hk : ∀ p ∈ Kf a0, look kn p.1 = some p.2)
    (h : ∀ a, I a → KC P M W0 n c (Sg a) (Kf a) (thenK (fun τ k => ∃ b, I b ∧ μ b < μ a ∧ τ = Sg b ∧ ∀ p ∈ Kf b, look k p.1 = some p.2) T)) : KC P M W0 n (.loop c) σ kn T := by
  intro env he
  have key : ∀ (m : Nat) (a : α), μ a < m → I a → ∀ env, Agree (Kf a) env → ∀ (C : Ctx) (ι : List Nat) (ac : Act) (w : World), Fr M W0 C n ι ⟨Sg a, env⟩ ac w → ∀ Q : Exit → Act → World → Prop,
      (∀ (e : Exit) (ι' : List Nat) (s' : St) (a' : Act) (w' : World), (∃ k, Agree k s'.env ∧ T e s'.σ k) → Fr M W0 C n ι' s' a' w' → Ext M ι (Sg a) w ι' s'.σ w' → Q e a' w') → Code.roundsIn (FR C.ro) 0 P c Q m ac w := by
    intro m
    induction m with
    | zero => intro a hm; omega
    | succ m ih =>
      intro a hm hI env he C ι ac w hf Q hq
      rw [roundsIn_succ]
      refine h a hI env he C ι ac w hf _ fun e ι' s' a' w' hs h2 h3 => ?_
      obtain ⟨k, k1, k2⟩ := hs
      cases e with
      | normal =>
        obtain ⟨b, b1, b2, b3, b4⟩ := k2
        obtain ⟨σ', env'⟩ := s'
        simp only at b3 k1
        subst b3
        exact ih b (by omega) b1 env' (k1.weaken b4) C ι' a' w' h2 Q fun e ι'' s'' a'' w'' q1 q2 q3 => hq e ι'' s'' a'' w'' q1 q2 (h3.trans q3)
      | exit id => exact hq (.exit id) ι' s' a' w' ⟨k, k1, k2⟩ h2 h3
      | goto j => exact hq (.goto j) ι' s' a' w' ⟨k, k1, k2⟩ h2 h3
      | ret => exact hq .ret ι' s' a' w' ⟨k, k1, k2⟩ h2 h3
      | panic c => exact hq (.panic c) ι' s' a' w' ⟨k, k1, k2⟩ h2 h3
      | outgrown => exact hq .outgrown ι' s' a' w' ⟨k, k1, k2⟩ h2 h3
  subst hσ
  exact fun C ι ac w hf Q hq => wpIn_loop_rounds (μ a0 + 1) (key _ a0 (Nat.lt_succ_self _) h0 env (he.weaken hk) C ι ac w hf Q hq)

end

/-- The known slots of a call's frame. -/
def enterK : Nat → List XV → Kn
  | _, [] => []
  | i, x :: xs => (i, x) :: enterK (i + 1) xs

theorem look_enterK : ∀ (xs : List XV) (i t : Nat) (x : XV), look (enterK i xs) t = some x → i ≤ t ∧ xs[t - i]? = some x
  | [], _, _, _, h => by simp [enterK, look] at h
  | y :: xs, i, t, x, h => by
    simp only [enterK, look] at h
    split at h
    · rename_i e; subst e; cases h; simp
    · rename_i e
      obtain ⟨h1, h2⟩ := look_enterK xs (i + 1) t x h
      refine ⟨by omega, ?_⟩
      rw [show t - i = (t - (i + 1)) + 1 by omega]
      exact h2

theorem agree_enter (σ : List VObj) (args : List XV) : Agree (enterK 0 args) (enter σ args).env := by
  intro t x h
  obtain ⟨_, h2⟩ := look_enterK args 0 t x h
  simp only [Nat.sub_zero] at h2
  simp [enter, h2]

/-- What is known of one result. -/
def resVarK (P : Program) (σ : List VObj) (kn : Kn) : ResultVar → Option XV
  | .tmp t => look kn t
  | .cell a t => (look kn a).bind fun x => (opLoad P σ t x).map (·.1)

def resK (P : Program) (fn : Func) (σ : List VObj) (kn : Kn) : Option XV :=
  match fn.results.toList.mapM (resVarK P σ kn) with
  | some [x] => some x
  | some xs => some (.tup xs)
  | none => none

theorem mapM_mono {α β : Type} {f g : α → Option β} (h : ∀ x y, f x = some y → g x = some y) : ∀ {l : List α} {r : List β}, l.mapM f = some r → l.mapM g = some r
  | [], r, hr => by simpa using hr
  | x :: l, r, hr => by
    rw [List.mapM_cons] at hr ⊢
    cases hf : f x with
    | none => rw [hf] at hr; simp at hr
    | some y =>
      cases hl : l.mapM f with
      | none => rw [hf, hl] at hr; simp at hr
      | some ys =>
        rw [hf, hl] at hr
        rw [h x y hf, mapM_mono h hl]
        exact hr

theorem resK_X {P : Program} {fn : Func} {s : St} {kn : Kn} (h : Agree kn s.env) {x : XV} (hx : resK P fn s.σ kn = some x) : resX P fn s = some x := by
  have key : ∀ xs, fn.results.toList.mapM (resVarK P s.σ kn) = some xs → fn.results.toList.mapM (resVar P s) = some xs := fun xs hxs => mapM_mono (fun r y hr => by
    cases r with
    | tmp t => simp [resVar]; exact h t y hr
    | cell a t =>
      simp only [resVarK, Option.bind_eq_some_iff] at hr
      obtain ⟨z, hz, hr⟩ := hr
      simp only [resVar]
      rw [h a z hz]; exact hr) hxs
  unfold resK at hx
  unfold resX
  split at hx
  · rename_i y hy; rw [key _ hy]; exact hx
  · rename_i xs hne hxs
    rw [key _ hxs]
    split
    · rename_i y hy; cases hy; exact absurd rfl (hne y)
    · rename_i ys _ hys; cases hys; exact hx
    · rename_i hn; cases hn
  · cases hx

/-- THE CONTRACT OF A FUNCTION, by a walk over its body. -/
theorem deepCall_K {P : Program} {f : FuncId} {fn : Func} {c : Code} {args : List DV} {res : DV} (k : Nat) (hf : P.funcs[f]? = some fn) (hb : fn.body = some c) (hn : args.length ≤ fn.ntmps)
    (h : ∀ (M : Nat → Prop) (W0 : World), KC P M W0 fn.ntmps c [] (enterK 0 (args.map .d)) (fun e σ kn => (e = .ret ∨ e = .normal) ∧ ∃ x, resK P fn σ kn = some x ∧ deepen (freezeAll σ) k x = some res)) : DeepCall P f args res :=
  deepCall_of k hf hb hn fun M W0 => (h M W0 _ (agree_enter [] _)).mono fun _ _ ⟨_, h1, h2, x, h3, h4⟩ => ⟨h2, x, resK_X h1 h3, h4⟩

end Go.Vm

end
section
/-
  VALUES WITHOUT ADDRESSES, 15: the rules, operation by operation.
-/
namespace Go.Vm
open Go.RowKit

theorem pureRun_bind {α β : Type} {P : Program} (s : Sem α) (f : α → Sem β) : pureRun P (s >>= f) = (pureRun P s).bind fun a => pureRun P (f a) := by
  show pureRun P (Sem.bind s f) = _
  induction s with
  | pure a => rfl
  | program k ih => exact ih P
  | mark m k ih => exact ih
  | _ => rfl

abbrev DI (n : Int) : DV := .lit (.int .i64 n)
abbrev DB (b : Bool) : DV := .lit (.bool b)
abbrev Dnil : DV := .lit (.slice none 0 0)

/-- A slice, nil or not, that reads as a list. -/
inductive Vec {α : Type} (R : DV → α → Prop) : DV → List α → Prop
  | nil : Vec R Dnil []
  | sl {cs : List DV} {l : List α} {cap : Option Nat} (hn : cs.length = l.length) (h : ∀ (i : Nat) (c : DV) (x : α), cs[i]? = some c → l[i]? = some x → R c x) : Vec R (.sl cs l.length cap) l

abbrev IsI (c : DV) (n : Int) : Prop := c = DI n
abbrev Ints : DV → List Int → Prop := Vec IsI
abbrev Mat : DV → List (List Int) → Prop := Vec Ints

section
variable {P : Program} {σ : List VObj} {kn : Kn} {dst : Option Tmp} {ty : TypeId} {pos : String} {af : Array Edge} {g : Option (Nat × Bool)}

theorem ev_lit {o : Oper} {kn : Kn} {v : Value} (h : ∀ env, Agree kn env → litOp P env o = some v) : KEv P o σ kn (.d (.lit v)) σ 0 := fun env he =>
  .op (by unfold evalOp; simp only [h env he])

theorem ev_op {o : Oper} {kn : Kn} {x : XV} {σ' : List VObj} {fl : Nat} (h : ∀ env, Agree kn env → evalOp P o ⟨σ, env⟩ = some (x, σ', fl)) : KEv P o σ kn x σ' fl := fun env he => .op (h env he)

theorem litOp_none {o : Oper} {env : Nat → XV} {x : Operand} (hx : x ∈ o.op.operands) (h : litOf (evalX env x) = none) : litOp P env o = none := by
  unfold litOp
  rw [if_neg]
  simp only [Bool.and_eq_true, not_and]
  intro hall
  have := Array.all_eq_true_iff_forall_mem.1 hall x hx
  rw [h] at this; cases this

theorem K.move {x : Operand} {v : XV} (h : evK kn x = some v) : KEv P ⟨dst, .move x, ty, pos, af, g⟩ σ kn v σ 0 := ev_op fun env he => by
  have e := evK_evalX he h
  unfold evalOp
  cases hl : litOp P env ⟨dst, .move x, ty, pos, af, g⟩ with
  | none => simp [e]
  | some u =>
    unfold litOp at hl
    split at hl
    · rename_i hc
      simp [Op.operands, isSelect, e] at hc
      obtain ⟨w, hw⟩ := Option.isSome_iff_exists.1 hc
      simp [execOp, e, hw] at hl
      have e2 : pureRun P (pure (Next.value w) : Sem Next) = some (.value w) := rfl
      rw [e2] at hl
      simp at hl; subst hl
      unfold litOf at hw
      split at hw
      · cases hw; rfl
      · cases hw
    · cases hl

theorem K.assign {x : Operand} {v : XV} (h : evK kn x = some v) : KEv P ⟨dst, .assign x, ty, pos, af, g⟩ σ kn v σ 0 := ev_op fun env he => by
  have e := evK_evalX he h
  unfold evalOp
  cases hl : litOp P env ⟨dst, .assign x, ty, pos, af, g⟩ with
  | none => simp [e]
  | some u =>
    unfold litOp at hl
    split at hl
    · rename_i hc
      simp [Op.operands, isSelect, e] at hc
      obtain ⟨w, hw⟩ := Option.isSome_iff_exists.1 hc
      simp [execOp, e, hw] at hl
      have e2 : pureRun P (pure (Next.value w) : Sem Next) = some (.value w) := rfl
      rw [e2] at hl
      simp at hl; subst hl
      unfold litOf at hw
      split at hw
      · cases hw; rfl
      · cases hw
    · cases hl

theorem pureRun_v {s : Sem Value} {v : Value} (h : pureRun P s = some v) : pureRun P (do pure (Next.value (← s)) : Sem Next) = some (.value v) := by
  rw [pureRun_bind, h]; rfl

/-- A binary operation on plain values. -/
theorem K.bin {op : BinOp} {t u : TypeId} {x y : Operand} {a b v : Value} (hx : evK kn x = some (.d (.lit a))) (hy : evK kn y = some (.d (.lit b)))
    (hr : pureRun P (do eqGuard op t x y a b; binOp op t a b : Sem Value) = some v) : KEv P ⟨dst, .binOp op t x y u, ty, pos, af, g⟩ σ kn (.d (.lit v)) σ 0 := ev_lit fun env he => by
  have e1 := evK_evalX he hx
  have e2 := evK_evalX he hy
  unfold litOp
  rw [if_pos (by simp [Op.operands, isSelect, e1, e2, litOf])]
  have e3 : execOp (fun x => (litOf (evalX env x)).getD undef) ⟨dst, .binOp op t x y u, ty, pos, af, g⟩ = (do pure (Next.value (← (do eqGuard op t x y a b; binOp op t a b : Sem Value))) : Sem Next) := by
    simp [execOp, e1, e2, litOf]
  rw [e3, pureRun_v hr]

theorem eqGuard_int (op : BinOp) (t : TypeId) (x y : Operand) (k k' : IntKind) (a b : Int) : pureRun P (eqGuard op t x y (.int k a) (.int k' b)) = some () := by
  unfold eqGuard; cases op <;> rfl

theorem bin_int {op : BinOp} {t : TypeId} {x y : Operand} {k k' : IntKind} {a b : Int} {v : Value} (h : pureRun P (binOp op t (.int k a) (.int k' b)) = some v) :
    pureRun P (do eqGuard op t x y (.int k a) (.int k' b); binOp op t (.int k a) (.int k' b) : Sem Value) = some v := by
  rw [pureRun_bind, eqGuard_int]; exact h

section ints
variable {t u : TypeId} {x y : Operand} {k : IntKind} {a b : Int} (hx : evK kn x = some (.d (.lit (.int k a)))) (hy : evK kn y = some (.d (.lit (.int k b))))
include hx hy

theorem K.add {c : Int} (hc : k.wrap (a + b) = c) : KEv P ⟨dst, .binOp .add t x y u, ty, pos, af, g⟩ σ kn (.d (.lit (.int k c))) σ 0 :=
  K.bin hx hy (bin_int (by subst hc; cases k <;> rfl))
theorem K.sub {c : Int} (hc : k.wrap (a - b) = c) : KEv P ⟨dst, .binOp .sub t x y u, ty, pos, af, g⟩ σ kn (.d (.lit (.int k c))) σ 0 :=
  K.bin hx hy (bin_int (by subst hc; cases k <;> rfl))
theorem K.lss : KEv P ⟨dst, .binOp .lss t x y u, ty, pos, af, g⟩ σ kn (.d (DB (decide (a < b)))) σ 0 := K.bin hx hy (bin_int (by cases k <;> rfl))
theorem K.leq : KEv P ⟨dst, .binOp .leq t x y u, ty, pos, af, g⟩ σ kn (.d (DB (decide (a ≤ b)))) σ 0 := K.bin hx hy (bin_int (by cases k <;> rfl))
theorem K.gtr : KEv P ⟨dst, .binOp .gtr t x y u, ty, pos, af, g⟩ σ kn (.d (DB (decide (b < a)))) σ 0 := K.bin hx hy (bin_int (by cases k <;> rfl))
theorem K.geq : KEv P ⟨dst, .binOp .geq t x y u, ty, pos, af, g⟩ σ kn (.d (DB (decide (b ≤ a)))) σ 0 := K.bin hx hy (bin_int (by cases k <;> rfl))
theorem K.eql : KEv P ⟨dst, .binOp .eql t x y u, ty, pos, af, g⟩ σ kn (.d (DB (decide (a = b)))) σ 0 := K.bin hx hy (bin_int (by
  have : (a == b) = decide (a = b) := by by_cases h : a = b <;> simp [h]
  rw [← this]; cases k <;> rfl))
theorem K.neq : KEv P ⟨dst, .binOp .neq t x y u, ty, pos, af, g⟩ σ kn (.d (DB (decide (a ≠ b)))) σ 0 := K.bin hx hy (bin_int (by
  have : (a != b) = decide (a ≠ b) := by by_cases h : a = b <;> simp [h]
  rw [← this]; cases k <;> rfl))
end ints

theorem equal_bool {t : TypeId} (ht : P.underlying t = some .bool) (a b : Bool) : pureRun P (Op.equal t (.bool a) (.bool b)) = some (a == b) := by
  show pureRun P (Op.equalIn (9999 + 1) t (.bool a) (.bool b)) = _
  unfold Op.equalIn
  rw [pureRun_bind]
  have : pureRun P (underlying t) = some .bool := by
    unfold underlying
    rw [pureRun_bind]
    show (some P).bind _ = _
    simp only [Option.bind_some, ht]; rfl
  rw [this]; rfl

theorem K.eqB {t u : TypeId} {x y : Operand} {a b : Bool} (ht : P.underlying t = some .bool) (hx : evK kn x = some (.d (DB a))) (hy : evK kn y = some (.d (DB b))) :
    KEv P ⟨dst, .binOp .eql t x y u, ty, pos, af, g⟩ σ kn (.d (DB (a == b))) σ 0 :=
  K.bin hx hy (by
    rw [pureRun_bind]
    show (some ()).bind _ = _
    simp only [Option.bind_some]
    show pureRun P (do pure (Value.bool (← Op.equal t (.bool a) (.bool b))) : Sem Value) = _
    rw [pureRun_bind, equal_bool ht]; rfl)

theorem K.not {t : TypeId} {x : Operand} {a : Bool} (hx : evK kn x = some (.d (DB a))) : KEv P ⟨dst, .unOp .not t x, ty, pos, af, g⟩ σ kn (.d (DB (!a))) σ 0 := ev_lit fun env he => by
  have e1 := evK_evalX he hx
  unfold litOp
  rw [if_pos (by simp [Op.operands, isSelect, e1, litOf])]
  have e3 : execOp (fun x => (litOf (evalX env x)).getD undef) ⟨dst, .unOp .not t x, ty, pos, af, g⟩ = (do pure (Next.value (← Op.unary .not (.bool a))) : Sem Next) := by
    simp [execOp, e1, litOf]
  rw [e3, pureRun_v (v := .bool (!a)) rfl]

/-- The answer of '&&', '||'. -/
theorem K.pick {c a b : Operand} {t : Bool} {v : XV} (hc : evK kn c = some (.d (DB t))) (ha : t = true → evK kn a = some v) (hb : t = false → evK kn b = some v) : KEv P ⟨dst, .pick c a b, ty, pos, af, g⟩ σ kn v σ 0 := ev_op fun env he => by
  have e1 := evK_evalX he hc
  have hv : (if t then evalX env a else evalX env b) = v := by
    cases t with
    | true => exact evK_evalX he (ha rfl)
    | false => exact evK_evalX he (hb rfl)
  unfold evalOp
  cases hl : litOp P env ⟨dst, .pick c a b, ty, pos, af, g⟩ with
  | none => simp [e1, litOf]; simpa using hv
  | some u =>
    unfold litOp at hl
    split at hl
    · rename_i hcc
      have h3 : (litOf (evalX env a)).isSome = true ∧ (litOf (evalX env b)).isSome = true := by simpa [Op.operands, isSelect, e1, litOf] using hcc
      obtain ⟨wa, hwa⟩ := Option.isSome_iff_exists.1 h3.1
      obtain ⟨wb, hwb⟩ := Option.isSome_iff_exists.1 h3.2
      have la : ∀ z w, litOf z = some w → z = .d (.lit w) := fun z w hz => by
        unfold litOf at hz
        split at hz
        · cases hz; rfl
        · cases hz
      have e3 : pureRun P (execOp (fun x => (litOf (evalX env x)).getD undef) ⟨dst, .pick c a b, ty, pos, af, g⟩) = some (.value (if t then wa else wb)) := by
        have e0 : (litOf (evalX env c)).getD undef = .bool t := by rw [e1]; rfl
        simp only [execOp, e0, Option.getD_some, hwa, hwb]
        rw [pureRun_bind]
        cases t <;> rfl
      rw [e3] at hl
      simp at hl; subst hl
      rw [la _ _ hwa, la _ _ hwb] at hv
      simp only
      cases t <;> simp at hv ⊢ <;> exact hv
    · cases hl

theorem litOf_vec {α : Type} {R : DV → α → Prop} {d : DV} {l : List α} (h : Vec R d l) : (d = Dnil ∧ l = []) ∨ ∃ cs cap, d = .sl cs l.length cap ∧ cs.length = l.length ∧ ∀ (i : Nat) (c : DV) (x : α), cs[i]? = some c → l[i]? = some x → R c x := by
  cases h with
  | nil => exact .inl ⟨rfl, rfl⟩
  | sl hn h => exact .inr ⟨_, _, rfl, hn, h⟩

theorem pureRun_underlying {t : TypeId} {d : TypeDesc} (h : P.underlying t = some d) : pureRun P (underlying t) = some d := by
  unfold underlying
  rw [pureRun_bind]
  show (some P).bind _ = _
  simp only [Option.bind_some, h]; rfl

theorem K.len {α : Type} {R : DV → α → Prop} {x : Operand} {t e : TypeId} {d : DV} {l : List α} (hx : evK kn x = some (.d d)) (hv : Vec R d l) (ht : P.underlying t = some (.slice e)) :
    KEv P ⟨dst, .call ⟨.builtin .len, #[x], #[t]⟩, ty, pos, af, g⟩ σ kn (.d (DI l.length)) σ 0 := by
  rcases litOf_vec hv with ⟨rfl, rfl⟩ | ⟨cs, cap, rfl, _, _⟩
  · refine ev_lit fun env he => ?_
    have e1 := evK_evalX he hx
    unfold litOp
    rw [if_pos (by simp [Op.operands, Call.operands, isSelect, e1, litOf])]
    have e3 : pureRun P (execOp (fun x => (litOf (evalX env x)).getD undef) ⟨dst, .call ⟨.builtin .len, #[x], #[t]⟩, ty, pos, af, g⟩) = some (.value (.int .i64 0)) := by
      simp only [execOp, resolve, List.map_toArray, List.map_cons, List.map_nil, e1, litOf, Option.getD_some]
      rw [pureRun_bind]
      show (some _).bind _ = _
      simp only [Option.bind_some, invoke, builtin]
      rw [pureRun_v (v := .int .i64 0)]
      show pureRun P (Builtin.len_ #[t] ty #[.slice none 0 0]) = _
      unfold Builtin.len_
      simp only [List.getElem?_toArray, List.getElem?_cons_zero]
      rw [pureRun_bind, pureRun_underlying ht]; rfl
    rw [e3]; rfl
  · refine ev_op fun env he => ?_
    have e1 := evK_evalX he hx
    unfold evalOp
    rw [litOp_none (x := x) (by simp [Op.operands, Call.operands]) (by rw [e1]; rfl)]
    simp [e1, opLen, isSliceT, ht]

/-- A variable of a slice that is read. -/
theorem K.idx {α : Type} {R : DV → α → Prop} {x i : Operand} {t e : TypeId} {d : DV} {l : List α} {m : Nat} (hx : evK kn x = some (.d d)) (hv : Vec R d l) (hi : evK kn i = some (.d (DI m))) (hm : m < l.length)
    (ht : P.underlying t = some (.slice e)) (hs : sizeT P e = some 1) : ∃ c cs, R c l[m] ∧ KEv P ⟨dst, .indexAddr t x i, ty, pos, af, g⟩ σ kn (.d (.ptr (c :: cs))) σ 0 := by
  rcases litOf_vec hv with ⟨rfl, rfl⟩ | ⟨cs, cap, rfl, hn, hr⟩
  · simp at hm
  · have hlt : m < cs.length := by omega
    refine ⟨cs[m], cs.drop (m + 1), hr m _ _ (List.getElem?_eq_getElem hlt) (List.getElem?_eq_getElem hm), ev_op fun env he => ?_⟩
    have e1 := evK_evalX he hx
    have e2 := evK_evalX he hi
    unfold evalOp
    rw [litOp_none (x := x) (by simp [Op.operands]) (by rw [e1]; rfl)]
    have h1 : (m : Int) < (l.length : Int) := by omega
    simp [e1, e2, opIndexAddr, litOf, ht, hs, h1]

theorem K.load {x : Operand} {t : TypeId} {c : DV} {cs : List DV} (hx : evK kn x = some (.d (.ptr (c :: cs)))) (ht : isAggT P t = some false) : KEv P ⟨dst, .load t x, ty, pos, af, g⟩ σ kn (.d c) σ 0 := ev_op fun env he => by
  have e1 := evK_evalX he hx
  unfold evalOp
  rw [litOp_none (x := x) (by simp [Op.operands]) (by rw [e1]; rfl)]
  simp [e1, opLoad, takeVar, ht]

theorem K.extract {x : Operand} {i : Nat} {ds : List DV} {c : DV} (hx : evK kn x = some (.d (.tup ds))) (hc : ds[i]? = some c) : KEv P ⟨dst, .extract x i, ty, pos, af, g⟩ σ kn (.d c) σ 0 := ev_op fun env he => by
  have e1 := evK_evalX he hx
  unfold evalOp
  rw [litOp_none (x := x) (by simp [Op.operands]) (by rw [e1]; rfl)]
  simp [e1, opExtract, hc]

/-- A call whose arguments are deep. -/
theorem K.call {f : FuncId} {args : Array Operand} {ts : Array TypeId} {ds : List DV} {res : DV} (ha : args.toList.mapM (evK kn) = some (ds.map .d)) (hp : plainFn P f = true) (hc : DeepCall P f ds res) :
    KEv P ⟨dst, .call ⟨.value (.func f), args, ts⟩, ty, pos, af, g⟩ σ kn (.d res) σ 0 := fun env he => by
  have e : args.toList.map (evalX env) = ds.map .d := by
    obtain ⟨h1, h2⟩ := mapM_get ha
    refine List.ext_getElem? fun i => ?_
    by_cases hi : i < args.toList.length
    · have hi' : i < (ds.map XV.d).length := by omega
      have := h2 i _ _ (List.getElem?_eq_getElem hi) (List.getElem?_eq_getElem hi')
      rw [List.getElem?_map, List.getElem?_eq_getElem hi, List.getElem?_eq_getElem hi']
      simp only [Option.map_some]
      rw [evK_evalX he this]
    · rw [List.getElem?_eq_none (by simp at hi ⊢; omega), List.getElem?_eq_none (by rw [← h1]; omega)]
  exact .call (first := []) (caps := []) rfl (by simp [evalX, asFn]) hp (by simpa using e) hc

end
end Go.Vm

end
section
/-
  VALUES WITHOUT ADDRESSES, 16: more rules: what a walk over a body needs besides.
-/
namespace Go.Vm
open Go.RowKit

theorem wrap_id {n : Int} (h : -9223372036854775808 ≤ n ∧ n ≤ 9223372036854775807) : IntKind.i64.wrap n = n := by
  simp [IntKind.wrap, IntKind.bits, IntKind.signed]; omega

section
variable {A : List VObj → Kn → Prop} {T : Exit → List VObj → Kn → Prop} {σ : List VObj} {k : Kn} {id id' : Nat}
theorem thenK_n (h : A σ k) : thenK A T .normal σ k := h
theorem thenK_r (h : T .ret σ k) : thenK A T .ret σ k := h
theorem thenK_x (h : T (.exit id) σ k) : thenK A T (.exit id) σ k := h
theorem blockK_n (h : T .normal σ k) : blockK id T .normal σ k := h
theorem blockK_r (h : T .ret σ k) : blockK id T .ret σ k := h
theorem blockK_e (h : T .normal σ k) : blockK id T (.exit id) σ k := by simp [blockK, h]
theorem blockK_x (hne : ¬ id' = id) (h : T (.exit id') σ k) : blockK id T (.exit id') σ k := by simp [blockK, hne, h]
end

section
variable {P : Program} {n : Nat} {ops : Array Oper} {l : List Oper} {σ : List VObj} {kn : Kn} {dst : Option Tmp} {ty : TypeId} {pos : String} {af : Array Edge} {g : Option (Nat × Bool)}
  {R : List Nat → List VObj → Kn → Prop}

/-- A variable of a slice that is read, and the way on. -/
theorem KT.idx {α : Type} {Q : DV → α → Prop} {x i : Operand} {t e : TypeId} {d : DV} {xs : List α} {m : Nat} (hg : guardK ops kn ⟨dst, .indexAddr t x i, ty, pos, af, g⟩ = some true) (hd : dstOk n dst = true)
    (hx : evK kn x = some (.d d)) (hv : Vec Q d xs) (hi : evK kn i = some (.d (DI m))) (hm : m < xs.length) (ht : P.underlying t = some (.slice e)) (hs : sizeT P e = some 1)
    (h : ∀ c cs, Q c xs[m] → KT P n ops l σ (extK dst (.d (.ptr (c :: cs))) kn) (fun fls τ k => R (0 :: fls) τ k)) : KT P n ops (⟨dst, .indexAddr t x i, ty, pos, af, g⟩ :: l) σ kn R := by
  obtain ⟨c, cs, hc, hev⟩ := K.idx (P := P) (σ := σ) (dst := dst) (ty := ty) (pos := pos) (af := af) (g := g) hx hv hi hm ht hs
  exact KT.step hg hd hev (h c cs hc)

theorem KT.idxI {x i : Operand} {t e : TypeId} {d : DV} {xs : List Int} {m : Nat} (hg : guardK ops kn ⟨dst, .indexAddr t x i, ty, pos, af, g⟩ = some true) (hd : dstOk n dst = true)
    (hx : evK kn x = some (.d d)) (hv : Ints d xs) (hi : evK kn i = some (.d (DI m))) (hm : m < xs.length) (ht : P.underlying t = some (.slice e)) (hs : sizeT P e = some 1)
    (h : ∀ cs, KT P n ops l σ (extK dst (.d (.ptr (DI xs[m] :: cs))) kn) (fun fls τ k => R (0 :: fls) τ k)) : KT P n ops (⟨dst, .indexAddr t x i, ty, pos, af, g⟩ :: l) σ kn R :=
  KT.idx hg hd hx hv hi hm ht hs fun c cs hc => by cases hc; exact h cs

/-- Both ways of a test. -/
theorem KT.bcase {b : Bool} (h1 : b = true → KT P n ops l σ (extK dst (.d (DB true)) kn) R) (h2 : b = false → KT P n ops l σ (extK dst (.d (DB false)) kn) R) : KT P n ops l σ (extK dst (.d (DB b)) kn) R := by
  cases b with
  | true => exact h1 rfl
  | false => exact h2 rfl

theorem K.call0 {f : FuncId} {ts : Array TypeId} {res : DV} (hp : plainFn P f = true) (hc : DeepCall P f [] res) : KEv P ⟨dst, .call ⟨.value (.func f), #[], ts⟩, ty, pos, af, g⟩ σ kn (.d res) σ 0 :=
  K.call (ds := []) rfl hp hc

theorem K.call1 {f : FuncId} {a : Operand} {ts : Array TypeId} {d res : DV} (ha : evK kn a = some (.d d)) (hp : plainFn P f = true) (hc : DeepCall P f [d] res) : KEv P ⟨dst, .call ⟨.value (.func f), #[a], ts⟩, ty, pos, af, g⟩ σ kn (.d res) σ 0 :=
  K.call (ds := [d]) (by simp [ha]) hp hc

theorem K.call2 {f : FuncId} {a b : Operand} {ts : Array TypeId} {d e res : DV} (ha : evK kn a = some (.d d)) (hb : evK kn b = some (.d e)) (hp : plainFn P f = true) (hc : DeepCall P f [d, e] res) :
    KEv P ⟨dst, .call ⟨.value (.func f), #[a, b], ts⟩, ty, pos, af, g⟩ σ kn (.d res) σ 0 :=
  K.call (ds := [d, e]) (by simp [ha, hb]) hp hc

theorem K.call3 {f : FuncId} {a b c : Operand} {ts : Array TypeId} {d e x res : DV} (ha : evK kn a = some (.d d)) (hb : evK kn b = some (.d e)) (hc' : evK kn c = some (.d x)) (hp : plainFn P f = true) (hc : DeepCall P f [d, e, x] res) :
    KEv P ⟨dst, .call ⟨.value (.func f), #[a, b, c], ts⟩, ty, pos, af, g⟩ σ kn (.d res) σ 0 :=
  K.call (ds := [d, e, x]) (by simp [ha, hb, hc']) hp hc

/-- min of two ints. -/
theorem K.min2 {x y : Operand} {ts : Array TypeId} {a b : Int} (hx : evK kn x = some (.d (DI a))) (hy : evK kn y = some (.d (DI b))) :
    KEv P ⟨dst, .call ⟨.builtin .min, #[x, y], ts⟩, ty, pos, af, g⟩ σ kn (.d (DI (min a b))) σ 0 := ev_lit fun env he => by
  have e1 := evK_evalX he hx
  have e2 := evK_evalX he hy
  unfold litOp
  rw [if_pos (by simp [Op.operands, Call.operands, isSelect, e1, e2, litOf])]
  have e3 : pureRun P (execOp (fun x => (litOf (evalX env x)).getD undef) ⟨dst, .call ⟨.builtin .min, #[x, y], ts⟩, ty, pos, af, g⟩) = some (.value (.int .i64 (min a b))) := by
    simp only [execOp, resolve, List.map_toArray, List.map_cons, List.map_nil, e1, e2, litOf, Option.getD_some]
    rw [pureRun_bind]
    show (some _).bind _ = _
    simp only [Option.bind_some, invoke, builtin]
    rw [pureRun_v (v := .int .i64 (min a b))]
    show pureRun P (Builtin.min_ ts ty #[.int .i64 a, .int .i64 b]) = _
    show some (Value.int .i64 (if b < a then b else a)) = _
    congr 2
    split <;> omega
  rw [e3]

/-- The beginning of a slice: s[:h]. -/
theorem K.sliceTo {α : Type} {Q : DV → α → Prop} {x h : Operand} {t e : TypeId} {d : DV} {xs : List α} {m : Nat} (hx : evK kn x = some (.d d)) (hv : Vec Q d xs) (hh : evK kn h = some (.d (DI m))) (hm : m ≤ xs.length)
    (ht : P.underlying t = some (.slice e)) (hs : sizeT P e = some 1) : ∃ r, Vec Q r (xs.take m) ∧ KEv P ⟨dst, .slice t x none (some h) none, ty, pos, af, g⟩ σ kn (.d r) σ 0 := by
  rcases litOf_vec hv with ⟨rfl, rfl⟩ | ⟨cs, cap, rfl, hn, hr⟩
  · have hm0 : m = 0 := by simpa using hm
    subst hm0
    refine ⟨Dnil, .nil, ev_lit fun env he => ?_⟩
    have e1 := evK_evalX he hx
    have e2 := evK_evalX he hh
    unfold litOp
    rw [if_pos (by simp [Op.operands, isSelect, e1, e2, litOf])]
    have e3 : pureRun P (execOp (fun x => (litOf (evalX env x)).getD undef) ⟨dst, .slice t x none (some h) none, ty, pos, af, g⟩) = some (.value (.slice none 0 0)) := by
      simp only [execOp, e1, e2, litOf, Option.getD_some, Option.map_some, Option.map_none]
      refine pureRun_v (v := .slice none 0 0) ?_
      unfold Instr.sliceAt
      rw [pureRun_bind, pureRun_underlying ht]
      simp only [Option.bind_some]
      unfold Instr.slice
      rw [pureRun_bind, pureRun_underlying ht]
      simp only [Option.bind_some]
      have hsz : pureRun P (sizeOf e) = some 1 := by
        unfold sizeOf typeInfo
        unfold sizeT at hs
        cases hi : P.info? e with
        | none => rw [hi] at hs; simp at hs
        | some i =>
          rw [hi] at hs
          simp at hs
          rw [pureRun_bind, pureRun_bind]
          show ((some P).bind _).bind _ = _
          simp only [Option.bind_some, hi]
          show some i.size = _
          rw [hs]
      show pureRun P (do let size ← sizeOf e; pure (Value.slice (if 0 = 0 then (none : Option Addr) else Option.map (fun (a : Addr) => a.add (0 * size)) none) (0 - 0) (0 - 0)) : Sem Value) = _
      rw [pureRun_bind, hsz]; rfl
    rw [e3]
  · refine ⟨.sl (cs.take m) m (cap.map (· - 0)), ?_, ev_op fun env he => ?_⟩
    · have hlen : (xs.take m).length = m := by simp; omega
      have : Vec Q (.sl (cs.take m) (xs.take m).length (cap.map (· - 0))) (xs.take m) := .sl (by simp; omega) (fun i c y hc hy => by
        rw [List.getElem?_take] at hc hy
        split at hc
        · rename_i hlt
          rw [if_pos hlt] at hy
          exact hr i c y hc hy
        · cases hc)
      rwa [hlen] at this
    · have e1 := evK_evalX he hx
      have e2 := evK_evalX he hh
      unfold evalOp
      rw [litOp_none (x := x) (by simp [Op.operands]) (by rw [e1]; rfl)]
      have h1 : (m : Int).toNat = m := rfl
      simp [e1, e2, opSlice, litOf, ht, hs, boundOf, hn, hm]

theorem KT.sliceTo {α : Type} {Q : DV → α → Prop} {x h : Operand} {t e : TypeId} {d : DV} {xs : List α} {m : Nat} (hg : guardK ops kn ⟨dst, .slice t x none (some h) none, ty, pos, af, g⟩ = some true) (hd : dstOk n dst = true)
    (hx : evK kn x = some (.d d)) (hv : Vec Q d xs) (hh : evK kn h = some (.d (DI m))) (hm : m ≤ xs.length) (ht : P.underlying t = some (.slice e)) (hs : sizeT P e = some 1)
    (hk : ∀ r, Vec Q r (xs.take m) → KT P n ops l σ (extK dst (.d r) kn) (fun fls τ k => R (0 :: fls) τ k)) : KT P n ops (⟨dst, .slice t x none (some h) none, ty, pos, af, g⟩ :: l) σ kn R := by
  obtain ⟨r, hr, hev⟩ := K.sliceTo (P := P) (σ := σ) (dst := dst) (ty := ty) (pos := pos) (af := af) (g := g) hx hv hh hm ht hs
  exact KT.step hg hd hev (hk r hr)

/-- s == nil. -/
theorem K.eqNil {x : Operand} {t u e : TypeId} {cs : List DV} {len : Nat} {cap : Option Nat} (hx : evK kn x = some (.d (.sl cs len cap))) (ht : P.underlying t = some (.slice e)) :
    KEv P ⟨dst, .binOp .eql t x (.const (.slice none 0 0)) u, ty, pos, af, g⟩ σ kn (.d (DB false)) σ 0 := ev_op fun env he => by
  have e1 := evK_evalX he hx
  have e2 : evalX env (.const (.slice none 0 0)) = .d (.lit (.slice none 0 0)) := rfl
  unfold evalOp
  rw [litOp_none (x := x) (by simp [Op.operands]) (by rw [e1]; rfl)]
  simp [e1, e2, opEqNil, isSliceT, ht, isSl, isNilSl]

end
end Go.Vm

end
section
/-
  VALUES WITHOUT ADDRESSES, 17: rules for what a call makes of its own: slices made, written, read, appended to; and the values that come of parts.
-/
namespace Go.Vm
open Go.RowKit

/-- The element m of a slice. -/
def getV (d : DV) (m : Nat) : DV :=
  match d with
  | .sl cs _ _ => cs.getD m Dnil
  | _ => Dnil

def restV (d : DV) (m : Nat) : List DV :=
  match d with
  | .sl cs _ _ => cs.drop (m + 1)
  | _ => []

/-- The first m elements. -/
def takeV (m : Nat) (d : DV) : DV :=
  match d with
  | .sl cs _ cap => .sl (cs.take m) m (cap.map (· - 0))
  | x => x

theorem getV_vec {α : Type} {R : DV → α → Prop} {d : DV} {l : List α} (h : Vec R d l) {m : Nat} (hm : m < l.length) : R (getV d m) l[m] := by
  cases h with
  | nil => simp at hm
  | sl hn h =>
    have hlt : m < _ := hn ▸ hm
    simp only [getV, List.getD_eq_getElem?_getD, List.getElem?_eq_getElem hlt, Option.getD_some]
    exact h m _ _ (List.getElem?_eq_getElem hlt) (List.getElem?_eq_getElem hm)

theorem takeV_vec {α : Type} {R : DV → α → Prop} {d : DV} {l : List α} (h : Vec R d l) {m : Nat} (hm : m ≤ l.length) : Vec R (takeV m d) (l.take m) := by
  cases h with
  | nil => simp; exact .nil
  | sl hn h =>
    rename_i cs cap
    have hlen : (l.take m).length = m := by simp; omega
    have : Vec R (.sl (cs.take m) (l.take m).length (cap.map (· - 0))) (l.take m) := .sl (by simp; omega) (fun i c y hc hy => by
      rw [List.getElem?_take] at hc hy
      split at hc
      · rename_i hlt
        rw [if_pos hlt] at hy
        exact h i c y hc hy
      · cases hc)
    rwa [hlen] at this

section
variable {P : Program} {n : Nat} {ops : Array Oper} {l : List Oper} {σ : List VObj} {kn : Kn} {dst : Option Tmp} {ty : TypeId} {pos : String} {af : Array Edge} {g : Option (Nat × Bool)}
  {R : List Nat → List VObj → Kn → Prop}

theorem K.idxV {α : Type} {Q : DV → α → Prop} {x i : Operand} {t e : TypeId} {d : DV} {xs : List α} {m : Nat} (hx : evK kn x = some (.d d)) (hv : Vec Q d xs) (hi : evK kn i = some (.d (DI m))) (hm : m < xs.length)
    (ht : P.underlying t = some (.slice e)) (hs : sizeT P e = some 1) : KEv P ⟨dst, .indexAddr t x i, ty, pos, af, g⟩ σ kn (.d (.ptr (getV d m :: restV d m))) σ 0 := ev_op fun env he => by
  rcases litOf_vec hv with ⟨rfl, rfl⟩ | ⟨cs, cap, rfl, hn, hr⟩
  · simp at hm
  · have hlt : m < cs.length := by omega
    have e1 := evK_evalX he hx
    have e2 := evK_evalX he hi
    unfold evalOp
    rw [litOp_none (x := x) (by simp [Op.operands]) (by rw [e1]; rfl)]
    have h1 : (m : Int) < (xs.length : Int) := by omega
    have e3 : cs.drop m = getV (.sl cs xs.length cap) m :: restV (.sl cs xs.length cap) m := by
      simp [getV, restV, hlt]
    simp [e1, e2, opIndexAddr, litOf, ht, hs, h1, e3]

theorem K.takeV {α : Type} {Q : DV → α → Prop} {x h : Operand} {t e : TypeId} {d : DV} {xs : List α} {m : Nat} (hx : evK kn x = some (.d d)) (hv : Vec Q d xs) (hh : evK kn h = some (.d (DI m))) (hm : m ≤ xs.length)
    (ht : P.underlying t = some (.slice e)) (hs : sizeT P e = some 1) : KEv P ⟨dst, .slice t x none (some h) none, ty, pos, af, g⟩ σ kn (.d (takeV m d)) σ 0 := by
  rcases litOf_vec hv with ⟨rfl, rfl⟩ | ⟨cs, cap, rfl, hn, hr⟩
  · obtain ⟨r, hr, hev⟩ := K.sliceTo (P := P) (σ := σ) (dst := dst) (ty := ty) (pos := pos) (af := af) (g := g) hx (Q := Q) (xs := []) .nil hh hm ht hs
    have hm0 : m = 0 := by simpa using hm
    subst hm0
    intro env he
    have h0 := hev env he
    -- the value is nil
    refine .op ?_
    have e1 := evK_evalX he hx
    have e2 := evK_evalX he hh
    have hlit : ∃ v, litOp P env ⟨dst, .slice t x none (some h) none, ty, pos, af, g⟩ = some v ∧ v = .slice none 0 0 := by
      unfold litOp
      rw [if_pos (by simp [Op.operands, isSelect, e1, e2, litOf])]
      refine ⟨.slice none 0 0, ?_, rfl⟩
      have e3 : pureRun P (execOp (fun x => (litOf (evalX env x)).getD undef) ⟨dst, .slice t x none (some h) none, ty, pos, af, g⟩) = some (.value (.slice none 0 0)) := by
        simp only [execOp, e1, e2, litOf, Option.getD_some, Option.map_some, Option.map_none]
        refine pureRun_v (v := .slice none 0 0) ?_
        unfold Instr.sliceAt
        rw [pureRun_bind, pureRun_underlying ht]
        simp only [Option.bind_some]
        unfold Instr.slice
        rw [pureRun_bind, pureRun_underlying ht]
        simp only [Option.bind_some]
        have hsz : pureRun P (sizeOf e) = some 1 := by
          unfold sizeOf typeInfo
          unfold sizeT at hs
          cases hi : P.info? e with
          | none => rw [hi] at hs; simp at hs
          | some i =>
            rw [hi] at hs
            simp at hs
            rw [pureRun_bind, pureRun_bind]
            show ((some P).bind _).bind _ = _
            simp only [Option.bind_some, hi]
            show some i.size = _
            rw [hs]
        show pureRun P (do let size ← sizeOf e; pure (Value.slice (if 0 = 0 then (none : Option Addr) else Option.map (fun (a : Addr) => a.add (0 * size)) none) (0 - 0) (0 - 0)) : Sem Value) = _
        rw [pureRun_bind, hsz]; rfl
      rw [e3]
    obtain ⟨v, hv1, hv2⟩ := hlit
    unfold evalOp
    rw [hv1, hv2]; rfl
  · refine ev_op fun env he => ?_
    have e1 := evK_evalX he hx
    have e2 := evK_evalX he hh
    unfold evalOp
    rw [litOp_none (x := x) (by simp [Op.operands]) (by rw [e1]; rfl)]
    simp [e1, e2, opSlice, litOf, ht, hs, boundOf, hn, hm, Go.Vm.takeV]

/-- What a type is good for in a slice of one's own: its variable is one cell, with this zero value, and it is not wide. -/
structure OneT (P : Program) (e : TypeId) (z : Value) : Prop where
  size : sizeT P e = some 1
  zero : zeroT P e = some z
  cells : z.cells = #[z]
  bytes : bytesT P e ≤ 65536

theorem zeroRow_one {z : Value} (h : z.cells = #[z]) (k : Nat) : zeroRow z k = List.replicate k (.d (.lit z)) := by
  unfold zeroRow
  refine List.ext_getElem? fun i => ?_
  by_cases hi : i < k
  · simp [hi, h, Nat.mod_one]
  · rw [List.getElem?_eq_none (by simp; omega), List.getElem?_eq_none (by simp; omega)]

theorem K.make {t e : TypeId} {x y : Operand} {m c : Nat} {z : Value} (hx : evK kn x = some (.d (DI m))) (hy : evK kn y = some (.d (DI c))) (hmc : m ≤ c) (hm : c ≤ 1073741824) (ht : P.underlying t = some (.slice e)) (h1 : OneT P e z) :
    KEv P ⟨dst, .makeSlice t x y, ty, pos, af, g⟩ σ kn (.osl σ.length 0 m 1 c true) (σ ++ [⟨List.replicate c (.d (.lit z)), 0⟩]) 3 := ev_op fun env he => by
  have e1 := evK_evalX he hx
  have e2 := evK_evalX he hy
  have hl : litOp P env ⟨dst, .makeSlice t x y, ty, pos, af, g⟩ = none := by
    unfold litOp
    rw [if_pos (by simp [Op.operands, isSelect, e1, e2, litOf])]
    have e3 : pureRun P (execOp (fun x => (litOf (evalX env x)).getD undef) ⟨dst, .makeSlice t x y, ty, pos, af, g⟩) = none := by
      obtain ⟨i, hi, hi1⟩ : ∃ i, P.info? e = some i ∧ i.size = 1 := by
        have := h1.size
        unfold sizeT at this
        cases hi : P.info? e with
        | none => rw [hi] at this; simp at this
        | some i => rw [hi] at this; simp at this; exact ⟨i, rfl, this⟩
      have hb : i.bytes ≤ 65536 := by have := h1.bytes; simpa [bytesT, hi] using this
      simp only [execOp, e1, e2, litOf, Option.getD_some]
      rw [pureRun_bind]
      have : pureRun P (Instr.makeSlice t (.int .i64 m) (.int .i64 c)) = none := by
        unfold Instr.makeSlice
        rw [pureRun_bind, pureRun_underlying ht]
        simp only [Option.bind_some]
        have w1 : IntKind.i64.wrap (m : Int) = m := wrap_id (by omega)
        have w2 : IntKind.i64.wrap (c : Int) = c := wrap_id (by omega)
        rw [pureRun_bind]
        show (some (m : Int)).bind _ = _
        simp only [Option.bind_some]
        rw [pureRun_bind]
        show (some (c : Int)).bind _ = _
        simp only [Option.bind_some]
        rw [pureRun_bind]
        have hti : pureRun P (typeInfo e) = some i := by
          unfold typeInfo
          rw [pureRun_bind]
          show (some P).bind _ = _
          simp only [Option.bind_some, hi]; rfl
        rw [hti]
        simp only [Option.bind_some, w1, w2]
        have hbb : (i.bytes : Int) * c ≤ 2 ^ 48 := by
          have : i.bytes * c ≤ 65536 * 1073741824 := Nat.mul_le_mul hb hm
          have h3 : ((i.bytes * c : Nat) : Int) = (i.bytes : Int) * c := by rw [Int.natCast_mul]
          omega
        have hno : ¬ ((decide ((c : Int) < 0) || decide ((i.bytes : Int) * c > 2 ^ 48) || decide ((m : Int) < 0) || decide ((m : Int) > c)) = true) := by simp; omega
        rw [if_neg hno]
        rw [pureRun_bind]
        have hask : ∀ k : Nat, pureRun P (askRoom k) = some () ∨ pureRun P (askRoom k) = none := by
          intro k; unfold askRoom; split
          · left; rfl
          · left; rfl
        rcases hask ((c : Int).toNat * i.bytes) with h | h
        · rw [h]
          simp only [Option.bind_some]
          rw [pureRun_bind]
          have hsz : pureRun P (sizeOf e) = some 1 := by
            unfold sizeOf
            rw [pureRun_bind, hti]
            show some i.size = _
            rw [hi1]
          rw [hsz]
          simp only [Option.bind_some]
          split
          · rfl
          · rw [pureRun_bind]
            cases hz : pureRun P (zeroValue e) with
            | none => rfl
            | some z => rfl
        · rw [h]; rfl
      rw [this]; rfl
    rw [e3]
  unfold evalOp
  rw [hl]
  have c1 : (m : Int) ≤ (c : Int) := by omega
  have c2 : (c : Int) ≤ 1073741824 := by omega
  simp [e1, e2, opMakeSlice, litOf, ht, h1.size, h1.zero, h1.bytes, c1, c2, zeroRow_one h1.cells]

/-- A variable of a slice of one's own. -/
theorem K.idxO {x i : Operand} {t e : TypeId} {id off len lo m : Nat} {ex : Bool} (hx : evK kn x = some (.osl id off len 1 lo ex)) (hi : evK kn i = some (.d (DI m))) (hm : m < len) (ht : P.underlying t = some (.slice e)) (hs : sizeT P e = some 1) :
    KEv P ⟨dst, .indexAddr t x i, ty, pos, af, g⟩ σ kn (.optr id (off + m)) σ 0 := ev_op fun env he => by
  have e1 := evK_evalX he hx
  have e2 := evK_evalX he hi
  unfold evalOp
  rw [litOp_none (x := x) (by simp [Op.operands]) (by rw [e1]; rfl)]
  have h1 : (m : Int) < (len : Int) := by omega
  simp [e1, e2, opIndexAddr, litOf, ht, hs, h1]

theorem K.loadO {x : Operand} {t : TypeId} {id off : Nat} {ob : VObj} {y : XV} (hx : evK kn x = some (.optr id off)) (ho : σ[id]? = some ob) (h2 : ob.mode < 2) (hy : ob.cells[off]? = some y) (ht : isAggT P t = some false) :
    KEv P ⟨dst, .load t x, ty, pos, af, g⟩ σ kn y σ 1 := ev_op fun env he => by
  have e1 := evK_evalX he hx
  unfold evalOp
  rw [litOp_none (x := x) (by simp [Op.operands]) (by rw [e1]; rfl)]
  have : (ob.cells.drop off).head? = some y := by rw [List.head?_drop]; exact hy
  simp [e1, opLoad, takeVar, ht, ho, h2, this]

theorem splice_one {α : Type} (cs : List α) (o : Nat) (x : α) (h : o < cs.length) : splice cs o [x] = cs.set o x := by
  rw [← splice_cons cs o x [] (by simp; omega), splice_nil]

theorem K.storeO {x y : Operand} {t : TypeId} {id off : Nat} {cells : List XV} {v : XV} (hx : evK kn x = some (.optr id off)) (hy : evK kn y = some v) (ho : σ[id]? = some ⟨cells, 0⟩) (hof : off < cells.length) (hc : cellsX v = [v]) (h1 : oneX v = true)
    (hs : sizeT P t = some 1) : KEv P ⟨dst, .store t x y, ty, pos, af, g⟩ σ kn undefX (σ.set id ⟨cells.set off v, 0⟩) 2 := ev_op fun env he => by
  have e1 := evK_evalX he hx
  have e2 := evK_evalX he hy
  unfold evalOp
  rw [litOp_none (x := x) (by simp [Op.operands]) (by rw [e1]; rfl)]
  have h3 : off + 1 ≤ cells.length := by omega
  simp [e1, e2, opStore, ho, hc, hs, h1, h3, splice_one _ _ _ hof, undefX]

/-- A slice that is appended to: nil, or one's own up to its end. -/
inductive Own (σ : List VObj) : XV → List XV → Prop
  | nil : Own σ (.d Dnil) []
  | sl {id : Nat} {cells : List XV} (h : σ[id]? = some ⟨cells, 0⟩) : Own σ (.osl id 0 cells.length 1 cells.length false) cells

theorem Own.pushed {x : XV} {cells : List XV} (h : Own σ x cells) (o : VObj) : Own (σ ++ [o]) x cells := by
  cases h with
  | nil => exact .nil
  | sl h => exact .sl (getElem?_pre _ _ _ _ h)

/-- append(s, v). -/
theorem K.app {t e : TypeId} {x y : Operand} {sx : XV} {cells : List XV} {id : Nat} {v : XV} {z : Value} (hx : evK kn x = some sx) (hy : evK kn y = some (.osl id 0 1 1 1 true)) (hown : Own σ sx cells) (hid : σ[id]? = some ⟨[v], 0⟩)
    (h1v : oneX v = true) (hlen : cells.length < 1073741823) (ht : P.underlying t = some (.slice e)) (h1 : OneT P e z) :
    ∃ σ' x', Own σ' x' (cells ++ [v]) ∧ KEv P ⟨dst, .call ⟨.builtin .append, #[x, y], #[t, t]⟩, ty, pos, af, g⟩ σ kn x' σ' 2 := by
  have hz : (zeroT P e).map (·.cells.size) = some 1 := by rw [h1.zero]; simp [h1.cells]
  cases hown with
  | nil =>
    refine ⟨σ ++ [⟨[v], 0⟩], .osl σ.length 0 1 1 1 false, Own.sl (cells := [v]) (by simp), ev_op fun env he => ?_⟩
    have e1 := evK_evalX he hx
    have e2 := evK_evalX he hy
    unfold evalOp
    rw [litOp_none (x := y) (by simp [Op.operands, Call.operands]) (by rw [e2]; rfl)]
    simp [e1, e2, opAppend, ht, h1.size, srcCells, hid, h1v, growTo, h1.bytes, hz]
  | @sl oid cells ho =>
    refine ⟨(σ.set oid ⟨cells, 2⟩) ++ [⟨cells ++ [v], 0⟩], .osl σ.length 0 (cells.length + 1) 1 (cells.length + 1) false, ?_, ev_op fun env he => ?_⟩
    · have : (cells ++ [v]).length = cells.length + 1 := by simp
      rw [← this]
      exact .sl (by rw [List.getElem?_append_right (by simp)]; simp)
    · have e1 := evK_evalX he hx
      have e2 := evK_evalX he hy
      unfold evalOp
      rw [litOp_none (x := x) (by simp [Op.operands, Call.operands]) (by rw [e1]; rfl)]
      have h3 : cells.length + 1 ≤ 1073741824 := by omega
      have h4 : ¬ cells.length + 1 ≤ cells.length := by omega
      simp [e1, e2, opAppend, ht, h1.size, srcCells, hid, h1v, ho, h1.bytes, hz, h3, h4]

theorem fin_d {k : Nat} {d res : DV} (h : res = d) : deepen σ (k + 1) (.d d) = some res := by subst h; rfl

theorem fin_b {k : Nat} {b c : Bool} (h : b = c) : deepen σ (k + 1) (.d (DB c)) = some (DB b) := by subst h; rfl

theorem mapM_deep {k : Nat} (ds : List DV) : (ds.map XV.d).mapM (deepen σ (k + 1)) = some ds := by
  induction ds with
  | nil => rfl
  | cons d ds ih => rw [List.map_cons, List.mapM_cons, ih]; rfl

theorem deepen_osl {k id off len w lo : Nat} {ex : Bool} {ob : VObj} (h1 : σ[id]? = some ob) (hm : ob.mode = 1) (hl : off + len * w ≤ ob.cells.length) :
    deepen σ (k + 1) (.osl id off len w lo ex) = (((ob.cells.drop off).take (len * w)).mapM (deepen σ k)).map fun cs => .sl cs len (if ex then some lo else none) := by
  conv => lhs; unfold deepen
  simp only [h1]
  rw [if_pos ⟨hm, hl⟩]

/-- What an appended slice is in the end. -/
def slOf (ds : List DV) : DV := match ds with | [] => Dnil | _ => .sl ds ds.length none

theorem fin_own {k : Nat} {x : XV} {ds : List DV} (h : Own σ x (ds.map .d)) (hne : ds = [] → x = .d Dnil) : deepen (freezeAll σ) (k + 2) x = some (slOf ds) := by
  generalize hc : ds.map XV.d = cells at h
  cases h with
  | nil =>
    have : ds = [] := by simpa using hc
    subst this; rfl
  | @sl id cells ho =>
    have hd : ds ≠ [] := fun e => by have := hne e; cases this
    subst hc
    have h1 : (freezeAll σ)[id]? = some ⟨ds.map .d, 1⟩ := by simp [freezeAll, ho]
    have e : slOf ds = .sl ds ds.length none := by cases ds with | nil => exact absurd rfl hd | cons _ _ => rfl
    have h2 : ((ds.map XV.d).drop 0).take ((ds.map XV.d).length * 1) = ds.map XV.d := by
      rw [List.drop_zero, Nat.mul_one, List.take_length]
    have h3 : 0 + (ds.map XV.d).length * 1 ≤ (ds.map XV.d).length := by omega
    rw [deepen_osl h1 rfl h3, h2, mapM_deep, e]
    simp

end
end Go.Vm

end
section
/-
  VALUES WITHOUT ADDRESSES, 18: rules for slices.Clone, for literals of slices, for appends in a loop.
-/
namespace Go.Vm
open Go.RowKit

/-- slices.Clone. -/
def cloneD (d : DV) : DV :=
  match d with
  | .sl cs len _ => if len = 0 then .sl [] 0 (some 0) else .sl (cs.take len) len none
  | x => x

theorem cloneD_vec {α : Type} {R : DV → α → Prop} {d : DV} {l : List α} (h : Vec R d l) : Vec R (cloneD d) l := by
  cases h with
  | nil => exact .nil
  | sl hn h =>
    rename_i cs cap
    simp only [cloneD]
    split
    · rename_i h0
      have : l = [] := List.length_eq_zero_iff.1 h0
      subst this
      exact Vec.sl (cs := []) (l := []) rfl (fun i c x hc _ => by simp at hc)
    · exact .sl (by simp [hn]) (fun i c x hc hx => by
        rw [List.getElem?_take] at hc
        split at hc
        · exact h i c x hc hx
        · cases hc)

theorem cellsX_clone {α : Type} {R : DV → α → Prop} {d : DV} {l : List α} (h : Vec R d l) : cellsX (.d (cloneD d)) = [.d (cloneD d)] ∧ oneX (.d (cloneD d)) = true := by
  cases h with
  | nil => exact ⟨rfl, rfl⟩
  | sl hn h => simp only [cloneD]; split <;> exact ⟨rfl, rfl⟩

theorem pureRun_none {α β : Type} {P : Program} (s : Sem α) (f : α → Sem β) (h : ∀ a, pureRun P (f a) = none) : pureRun P (s >>= f) = none := by
  rw [pureRun_bind]; cases pureRun P s with
  | none => rfl
  | some a => exact h a

theorem pureRun_newRow {P : Program} (e : TypeId) (c : Array Value) : pureRun P (newRow e c) = none := rfl

theorem pureRun_buildSlice {P : Program} (t : TypeId) (n : Nat) (ps : Array (Nat × Value)) : pureRun P (Instr.buildSlice t n ps) = none := by
  unfold Instr.buildSlice
  refine pureRun_none _ _ fun d => ?_
  split
  · refine pureRun_none _ _ fun size => ?_
    dsimp only
    split
    · refine pureRun_none _ _ fun r => ?_
      split
      · refine pureRun_none _ _ fun z => ?_
        split
        · rw [pureRun_bind, pureRun_newRow]; rfl
        · rfl
      · refine pureRun_none _ _ fun z => ?_
        refine pureRun_none _ _ fun z => ?_
        split
        · rw [pureRun_bind, pureRun_newRow]; rfl
        · rfl
    · split
      · refine pureRun_none _ _ fun z => ?_
        split
        · rw [pureRun_bind, pureRun_newRow]; rfl
        · rfl
      · refine pureRun_none _ _ fun z => ?_
        refine pureRun_none _ _ fun z => ?_
        split
        · rw [pureRun_bind, pureRun_newRow]; rfl
        · rfl
  · rfl

section
variable {P : Program} {n : Nat} {ops : Array Oper} {l : List Oper} {σ : List VObj} {kn : Kn} {dst : Option Tmp} {ty : TypeId} {pos : String} {af : Array Edge} {g : Option (Nat × Bool)}
  {R : List Nat → List VObj → Kn → Prop}

theorem litOp_buildSlice {env : Nat → XV} {t : TypeId} {k : Nat} {ps : Array (Nat × Operand)} : litOp P env ⟨dst, .buildSlice t k ps, ty, pos, af, g⟩ = none := by
  unfold litOp
  split
  · have : pureRun P (execOp (fun x => (litOf (evalX env x)).getD undef) ⟨dst, .buildSlice t k ps, ty, pos, af, g⟩) = none := by
      simp only [execOp]
      rw [pureRun_bind, pureRun_buildSlice]; rfl
    rw [this]
  · rfl

theorem K.build0 {t e : TypeId} {z : Value} (ht : P.underlying t = some (.slice e)) (h1 : OneT P e z) :
    KEv P ⟨dst, .buildSlice t 0 #[], ty, pos, af, g⟩ σ kn (.osl σ.length 0 0 1 0 true) (σ ++ [⟨[], 0⟩]) 3 := ev_op fun env he => by
  unfold evalOp
  rw [litOp_buildSlice]
  simp [opBuildSlice, ht, h1.size, h1.zero, fillX, zeroRow]

theorem K.build1' {t e : TypeId} {x : Operand} {v : XV} {z : Value} (hx : evK kn x = some v) (hc : cellsX v = [v]) (ht : P.underlying t = some (.slice e)) (h1 : OneT P e z) :
    KEv P ⟨dst, .buildSlice t 1 #[(0, x)], ty, pos, af, g⟩ σ kn (.osl σ.length 0 1 1 1 true) (σ ++ [⟨[v], 0⟩]) 3 := ev_op fun env he => by
  have e1 := evK_evalX he hx
  unfold evalOp
  rw [litOp_buildSlice]
  simp [e1, opBuildSlice, ht, h1.size, h1.zero, fillX, hc, zeroRow_one h1.cells, splice]

theorem KT.app {t e : TypeId} {x y : Operand} {sx : XV} {cells : List XV} {id : Nat} {v : XV} {z : Value} (hg : guardK ops kn ⟨dst, .call ⟨.builtin .append, #[x, y], #[t, t]⟩, ty, pos, af, g⟩ = some true) (hd : dstOk n dst = true)
    (hx : evK kn x = some sx) (hy : evK kn y = some (.osl id 0 1 1 1 true)) (hown : Own σ sx cells) (hid : σ[id]? = some ⟨[v], 0⟩)
    (h1v : oneX v = true) (hlen : cells.length < 1073741823) (ht : P.underlying t = some (.slice e)) (h1 : OneT P e z)
    (h : ∀ σ' x', Own σ' x' (cells ++ [v]) → KT P n ops l σ' (extK dst x' kn) (fun fls τ k => R (2 :: fls) τ k)) : KT P n ops (⟨dst, .call ⟨.builtin .append, #[x, y], #[t, t]⟩, ty, pos, af, g⟩ :: l) σ kn R := by
  obtain ⟨σ', x', ho, hev⟩ := K.app (P := P) (dst := dst) (ty := ty) (pos := pos) (af := af) (g := g) hx hy hown hid h1v hlen ht h1
  exact KT.step hg hd hev (h σ' x' ho)

/-- append([]T{}, s...), s not nil. -/
theorem K.appAll {t e : TypeId} {x y : Operand} {cs : List DV} {len id : Nat} {cap : Option Nat} {z : Value} (hx : evK kn x = some (.osl id 0 0 1 0 true)) (hy : evK kn y = some (.d (.sl cs len cap))) (hid : σ[id]? = some ⟨[], 0⟩)
    (hn : cs.length = len) (h1v : ((cs.take len).map XV.d).all oneX = true) (h0 : len ≠ 0) (hlen : len ≤ 1073741824) (ht : P.underlying t = some (.slice e)) (h1 : OneT P e z) :
    KEv P ⟨dst, .call ⟨.builtin .append, #[x, y], #[t, t]⟩, ty, pos, af, g⟩ σ kn (.osl σ.length 0 len 1 len false) (σ ++ [⟨(cs.take len).map .d, 0⟩]) 2 := ev_op fun env he => by
  have e1 := evK_evalX he hx
  have e2 := evK_evalX he hy
  have hz : (zeroT P e).map (·.cells.size) = some 1 := by rw [h1.zero]; simp [h1.cells]
  unfold evalOp
  rw [litOp_none (x := x) (by simp [Op.operands, Call.operands]) (by rw [e1]; rfl)]
  have h3 : len ≤ cs.length := by omega
  have h4 : (cs.take len).all (oneX ∘ XV.d) = true := by rw [List.all_map] at h1v; exact h1v
  simp [e1, e2, opAppend, ht, h1.size, srcCells, h3, h0, hid, growTo, hlen, h1.bytes, hz]
  rw [if_pos (by simpa using h1v)]

theorem K.appNone {t e : TypeId} {x y : Operand} {cs : List DV} {id : Nat} {cap : Option Nat} {z : Value} (hx : evK kn x = some (.osl id 0 0 1 0 true)) (hy : evK kn y = some (.d (.sl cs 0 cap)))
    (ht : P.underlying t = some (.slice e)) (h1 : OneT P e z) : KEv P ⟨dst, .call ⟨.builtin .append, #[x, y], #[t, t]⟩, ty, pos, af, g⟩ σ kn (.osl id 0 0 1 0 true) σ 2 := ev_op fun env he => by
  have e1 := evK_evalX he hx
  have e2 := evK_evalX he hy
  unfold evalOp
  rw [litOp_none (x := x) (by simp [Op.operands, Call.operands]) (by rw [e1]; rfl)]
  simp [e1, e2, opAppend, ht, h1.size, srcCells]

/-- nil == nil. -/
theorem K.eqNilNil {x : Operand} {t u e : TypeId} (hx : evK kn x = some (.d Dnil)) (ht : P.underlying t = some (.slice e)) :
    KEv P ⟨dst, .binOp .eql t x (.const (.slice none 0 0)) u, ty, pos, af, g⟩ σ kn (.d (DB true)) σ 0 :=
  K.bin hx rfl (by
    rw [pureRun_bind]
    show (some ()).bind _ = _
    simp only [Option.bind_some]
    show pureRun P (do pure (Value.bool (← Op.equal t (.slice none 0 0) (.slice none 0 0))) : Sem Value) = _
    rw [pureRun_bind]
    have : pureRun P (Op.equal t (.slice none 0 0) (.slice none 0 0)) = some true := by
      show pureRun P (Op.equalIn (9999 + 1) t (.slice none 0 0) (.slice none 0 0)) = _
      unfold Op.equalIn
      rw [pureRun_bind, pureRun_underlying ht]; rfl
    rw [this]; rfl)

theorem K.minN {x y : Operand} {ts : Array TypeId} {a b : Nat} (hx : evK kn x = some (.d (DI a))) (hy : evK kn y = some (.d (DI b))) :
    KEv P ⟨dst, .call ⟨.builtin .min, #[x, y], ts⟩, ty, pos, af, g⟩ σ kn (.d (DI ((min a b : Nat) : Int))) σ 0 := by
  have h := K.min2 (P := P) (σ := σ) (dst := dst) (ty := ty) (pos := pos) (af := af) (g := g) (ts := ts) hx hy
  have e : ((min a b : Nat) : Int) = min (a : Int) (b : Int) := by omega
  rw [e]; exact h

end
end Go.Vm

end
section
/-
  VALUES WITHOUT ADDRESSES, 19: arguments that a statement opens stand for deep values.
-/
namespace Go.Vm
open Go.RowKit Go.ChangeShapes Go.WideShapes Go.Deep

abbrev Noone : Nat → Prop := fun _ => False

/-- A row of cells, each of which stands for something. -/
theorem rep_cells {w : World} {a : Addr} {len cap : Nat} (V : Nat → Value) (D : Nat → DV) (hl : len ≤ cap) (hc : ∀ i, i < len → w.cell? (a.add i) = some (V i)) (hd : ∀ i, i < len → DRep w Noone (V i) (D i)) :
    DRep w Noone (.slice (some a) len cap) (.sl ((List.range len).map D) len none) := by
  have key : len ≠ 0 → a.spot = none := by
    intro h0
    have := World.cell?_spot (hc 0 (by omega))
    simpa [Addr.add] using this
  refine .sl ((List.range len).map V) hl (fun c h => by cases h) (by simp) (fun hne => ⟨key ?_, fun h => h⟩) (fun i v hv => ?_) (fun i v x hv hx => ?_)
  · intro h0
    apply hne
    subst h0; rfl
  · rw [List.getElem?_map] at hv
    by_cases hi : i < len
    · rw [List.getElem?_range hi] at hv
      simp only [Option.map_some, Option.some.injEq] at hv
      subst hv
      have h1 := hc i hi
      obtain ⟨b, off, spot⟩ := a
      obtain rfl : spot = none := key (by omega)
      rwa [add_plain] at h1
    · rw [List.getElem?_eq_none (by simp; omega)] at hv; cases hv
  · rw [List.getElem?_map] at hv hx
    by_cases hi : i < len
    · rw [List.getElem?_range hi] at hv hx
      simp only [Option.map_some, Option.some.injEq] at hv hx
      subst hv hx
      exact hd i hi
    · rw [List.getElem?_eq_none (by simp; omega)] at hv; cases hv

theorem vec_range {α : Type} {R : DV → α → Prop} {n : Nat} {D : Nat → DV} {A : Nat → α} (h : ∀ i, i < n → R (D i) (A i)) : Vec R (.sl ((List.range n).map D) n none) ((List.range n).map A) := by
  have : Vec R (.sl ((List.range n).map D) ((List.range n).map A).length none) ((List.range n).map A) := .sl (by simp) fun i c x hc hx => by
    rw [List.getElem?_map] at hc hx
    by_cases hi : i < n
    · rw [List.getElem?_range hi] at hc hx
      simp only [Option.map_some, Option.some.injEq] at hc hx
      subst hc hx
      exact h i hi
    · rw [List.getElem?_eq_none (by simp; omega)] at hc; cases hc
  simpa using this

theorem maxLen_is : maxLen = 9223372036854775807 := rfl

section
variable {H : Type} {enc : TypeId × Value → H} {P : Program} {w : World} {held : Bool}

/-- A slice of ints. -/
theorem open_deep_ints {t e : TypeId} {a : Option Addr} {len cap : Nat} {d : DataW H} {p : List MemPlace} (ht : P.underlying t = some (.slice e)) (he : P.underlying e = some (.int .i64)) (hc : P.cellsOf e = 1)
    (h : DataW.Trod enc P w 0 (fun _ => true) held t (.slice a len cap) d p) :
    ∃ dv l, DRep w Noone (.slice a len cap) dv ∧ Ints dv l ∧ l.length ≤ 9223372036854775807 := by
  obtain ⟨fuel, hf⟩ := h
  rcases open_ints ht he hc hf with ⟨hcs, _⟩ | ⟨x, l, c, zs, hcs, _, hl, hm, hz, _, hcell, hwz⟩
  · simp [Value.cells] at hcs
    obtain ⟨rfl, rfl, rfl⟩ := hcs
    exact ⟨Dnil, [], .lit _, .nil, by simp⟩
  · simp [Value.cells] at hcs
    obtain ⟨rfl, rfl, rfl⟩ := hcs
    simp only [if_true] at hz
    refine ⟨_, _, rep_cells (fun i => .int .i64 (zs.getD i 0)) (fun i => DI (zs.getD i 0)) hl (fun i hi => hcell i (by omega)) (fun i _ => .lit _), vec_range (A := fun i => zs.getD i 0) fun i _ => rfl, ?_⟩
    have := maxLen_is
    simp; omega

end

theorem DRep.bool {w : World} {M : Nat → Prop} {v : Value} {b : Bool} (h : DRep w M v (DB b)) : v = .bool b := by cases h; rfl

end Go.Vm

end
section
/-
  VALUES WITHOUT ADDRESSES, 20: whatever a statement opens, type by type: integers, booleans, strings, slices, structs, arrays.
-/
namespace Go.Vm
open Go.RowKit Go.ChangeShapes Go.WideShapes Go.Deep

theorem add_add' (a : Addr) (p q : Nat) : (a.add p).add q = a.add (p + q) := by
  unfold Addr.add
  by_cases hp : p = 0
  · subst hp; simp
  · by_cases hq : q = 0
    · subst hq; simp
    · simp [hp, hq, Nat.add_assoc]

/-- Cells stand for deep values. -/
def DReps (w : World) (cs : List Value) (ds : List DV) : Prop := cs.length = ds.length ∧ ∀ (i : Nat) (v : Value) (x : DV), cs[i]? = some v → ds[i]? = some x → DRep w Noone v x

theorem DReps.nil {w : World} : DReps w [] [] := ⟨rfl, fun i v x h => by simp at h⟩
theorem DReps.one {w : World} {v : Value} {x : DV} (h : DRep w Noone v x) : DReps w [v] [x] := ⟨rfl, fun i u y hu hy => by
  cases i with
  | zero => simp at hu hy; subst hu hy; exact h
  | succ i => simp at hu⟩
theorem DReps.append {w : World} {cs cs' : List Value} {ds ds' : List DV} (h : DReps w cs ds) (h' : DReps w cs' ds') : DReps w (cs ++ cs') (ds ++ ds') := by
  refine ⟨by simp [h.1, h'.1], fun i v x hv hx => ?_⟩
  rw [List.getElem?_append] at hv hx
  rw [h.1] at hv
  split at hv
  · rename_i hlt; rw [if_pos hlt] at hx; exact h.2 i v x hv hx
  · rename_i hlt; rw [if_neg hlt] at hx; exact h'.2 _ v x hv hx
theorem DReps.head {w : World} {v : Value} {x : DV} (h : DReps w [v] [x]) : DRep w Noone v x := h.2 0 v x rfl rfl

/-- Whatever reads as of type t stands for deep values of which R holds. -/
def Opn (P : Program) (t : TypeId) (R : List DV → Prop) : Prop :=
  ∀ (H : Type) (enc : TypeId × Value → H) (w : World) (held : Bool) (fuel : Nat) (cs : List Value) (x : DataW H × List MemPlace), DataW.trod enc P w 0 (fun _ => true) held fuel t cs = some x → ∃ ds, DReps w cs ds ∧ R ds

/-- One cell of which R holds. -/
def One (R : DV → Prop) (ds : List DV) : Prop := ∃ d, ds = [d] ∧ R d

section
variable {P : Program} {t e : TypeId}

theorem Opn.mono {R R' : List DV → Prop} (h : Opn P t R) (hr : ∀ ds, R ds → R' ds) : Opn P t R' := fun H enc w held fuel cs x hx => by
  obtain ⟨ds, h1, h2⟩ := h H enc w held fuel cs x hx
  exact ⟨ds, h1, hr _ h2⟩

def IntP (k : IntKind) (d : DV) : Prop := ∃ n, d = .lit (.int k n) ∧ (Lit.int k n).wf = true
def BoolP (d : DV) : Prop := ∃ b, d = DB b
def StrP (d : DV) : Prop := ∃ s : ByteArray, d = .lit (.string s) ∧ s.size ≤ maxLen

theorem Opn.int {k : IntKind} (ht : P.underlying t = some (.int k)) : Opn P t (One (IntP k)) := fun H enc w held fuel cs x h => by
  obtain ⟨n, rfl, _, hw⟩ := DataW.trod_int ht h
  exact ⟨[.lit (.int k n)], .one (.lit _), _, rfl, n, rfl, hw⟩

theorem Opn.bool (ht : P.underlying t = some .bool) : Opn P t (One BoolP) := fun H enc w held fuel cs x h => by
  obtain ⟨b, rfl, _⟩ := DataW.trod_bool ht h
  exact ⟨[DB b], .one (.lit _), _, rfl, b, rfl⟩

theorem Opn.string (ht : P.underlying t = some .string) : Opn P t (One StrP) := fun H enc w held fuel cs x h => by
  obtain ⟨s, rfl, _, hs⟩ := DataW.trod_string ht h
  exact ⟨[.lit (.string s)], .one (.lit _), _, rfl, s, rfl, hs⟩

/-- A slice whose elements take k cells each, of which R holds. -/
inductive VecP (k : Nat) (R : List DV → Prop) : DV → Prop
  | nil : VecP k R Dnil
  | sl {cs : List DV} {len : Nat} {cap : Option Nat} (hn : cs.length = len * k) (hl : len ≤ 9223372036854775807) (h : ∀ i, i < len → R ((cs.drop (i * k)).take k)) : VecP k R (.sl cs len cap)

/-- The cells of a row of variables, one after another. -/
theorem rows_flat {β : Type} (k : Nat) : ∀ (L : List (List β)), (∀ l ∈ L, l.length = k) → (L.flatten).length = L.length * k ∧ ∀ (i : Nat) (l : List β), L[i]? = some l → (L.flatten.drop (i * k)).take k = l
  | [], _ => ⟨by simp, fun i l h => by simp at h⟩
  | l :: L, h => by
    obtain ⟨h1, h2⟩ := rows_flat k L (fun l' hl' => h l' (by simp [hl']))
    have hl := h l (by simp)
    refine ⟨by simp [h1, hl, Nat.add_mul]; omega, fun i l' hi => ?_⟩
    cases i with
    | zero =>
      simp at hi
      subst hi
      simp [hl]
    | succ i =>
      simp at hi
      rw [List.flatten_cons, List.drop_append, hl, Nat.add_mul, Nat.one_mul]
      rw [List.drop_eq_nil_of_le (by omega), List.nil_append, show i * k + k - k = i * k by omega]
      exact h2 i l' hi

theorem Opn.slice {R : List DV → Prop} {k : Nat} (ht : P.underlying t = some (.slice e)) (hk : P.cellsOf e = k) (he : Opn P e R) : Opn P t (One (VecP k R)) := fun H enc w held fuel cs x h => by
  rcases DataW.trod_slice ht h with ⟨rfl, _⟩ | ⟨a, len, cap, elems, rest, n, _, rfl, _, _, hl, hm, hlen, hel, _, _⟩
  · exact ⟨[Dnil], .one (.lit _), _, rfl, .nil⟩
  · have each : ∀ i, i < len → ∃ y : List Value × List DV, w.cells? 0 (a.add (i * k)) k = some y.1 ∧ DReps w y.1 y.2 ∧ R y.2 := by
      intro i hi
      have h1 := hel i hi
      rw [List.getElem?_eq_getElem (by omega), hk] at h1
      obtain ⟨c, hc, hd⟩ := Option.bind_eq_some_iff.1 h1
      obtain ⟨ds, h2, h3⟩ := he H enc w held n c _ hd
      exact ⟨(c, ds), hc, h2, h3⟩
    obtain ⟨y, hy⟩ := choose_lt each
    have hcl : ∀ i, i < len → (y i).1.length = k ∧ (y i).2.length = k := fun i hi => by
      obtain ⟨_, h2, _⟩ := World.cells?_some (hy i hi).1
      exact ⟨h2, by rw [← (hy i hi).2.1.1]; exact h2⟩
    have f2 := rows_flat k ((List.range len).map fun i => (y i).2) (fun l hl' => by
      obtain ⟨i, hi, rfl⟩ := List.mem_map.1 hl'
      exact (hcl i (by simpa using hi)).2)
    have f1 := rows_flat k ((List.range len).map fun i => (y i).1) (fun l hl' => by
      obtain ⟨i, hi, rfl⟩ := List.mem_map.1 hl'
      exact (hcl i (by simpa using hi)).1)
    simp only [List.length_map, List.length_range] at f1 f2
    refine ⟨[.sl ((List.range len).map fun i => (y i).2).flatten len none], .one ?_, _, rfl, .sl f2.1 (by have := maxLen_is; omega) fun i hi => ?_⟩
    · have split : ∀ p, p < len * k → ∃ i j, i < len ∧ j < k ∧ p = i * k + j := fun p hp => by
        have hk0 : 0 < k := by
          cases k with
          | zero => simp at hp
          | succ k => omega
        exact ⟨p / k, p % k, by rw [Nat.div_lt_iff_lt_mul hk0]; exact hp, Nat.mod_lt _ hk0, by rw [Nat.mul_comm]; exact (Nat.div_add_mod p k).symm⟩
      have cellAt : ∀ i j, i < len → j < k → w.cell? (a.add (i * k + j)) = (y i).1[j]? ∧ ((List.range len).map fun i => (y i).1).flatten[i * k + j]? = (y i).1[j]? ∧ ((List.range len).map fun i => (y i).2).flatten[i * k + j]? = (y i).2[j]? := by
        intro i j hi hj
        obtain ⟨_, _, h3⟩ := World.cells?_some (hy i hi).1
        have h4 := f1.2 i (y i).1 (by simp [hi])
        have h5 := f2.2 i (y i).2 (by simp [hi])
        refine ⟨?_, ?_, ?_⟩
        · rw [← h3 j hj, add_add']
        · conv => rhs; rw [← h4]
          rw [List.getElem?_take, if_pos hj, List.getElem?_drop]
        · conv => rhs; rw [← h5]
          rw [List.getElem?_take, if_pos hj, List.getElem?_drop]
      have key : len * k ≠ 0 → a.spot = none := by
        intro h0
        obtain ⟨i, j, hi, hj, he⟩ := split 0 (by omega)
        have h1 := (cellAt i j hi hj).1
        rw [← he, List.getElem?_eq_getElem (by rw [(hcl i hi).1]; exact hj)] at h1
        have := World.cell?_spot h1
        simpa [Addr.add] using this
      refine .sl ((List.range len).map fun i => (y i).1).flatten hl (fun c h => by cases h) (by rw [f1.1, f2.1]) (fun hne => ⟨key ?_, fun h => h⟩) (fun p v hv => ?_) (fun p v x hv hx => ?_)
      · intro h0
        apply hne
        rw [← List.length_eq_zero_iff, f2.1, h0]
      · have hp : p < len * k := by rw [← f1.1]; exact (List.getElem?_eq_some_iff.1 hv).1
        obtain ⟨i, j, hi, hj, rfl⟩ := split p hp
        obtain ⟨c1, c2, c3⟩ := cellAt i j hi hj
        have hs := key (by omega)
        obtain ⟨b, off, spot⟩ := a
        simp only at hs
        subst hs
        rw [c2, ← c1, add_plain] at hv
        exact hv
      · have hp : p < len * k := by rw [← f1.1]; exact (List.getElem?_eq_some_iff.1 hv).1
        obtain ⟨i, j, hi, hj, rfl⟩ := split p hp
        obtain ⟨c1, c2, c3⟩ := cellAt i j hi hj
        rw [c2] at hv
        rw [c3] at hx
        exact (hy i hi).2.1.2 j v x hv hx
    · rw [f2.2 i (y i).2 (by simp [hi])]
      exact (hy i hi).2.2

/-- Parts of so many cells, one after another. -/
def Parts : List (Nat × (List DV → Prop)) → List DV → Prop
  | [], ds => ds = []
  | (k, R) :: ps, ds => ∃ d r, ds = d ++ r ∧ d.length = k ∧ R d ∧ Parts ps r

/-- A struct, field by field. -/
theorem Opn.struct {fs : Array Field} (ht : P.underlying t = some (.struct fs)) (Rs : List (Nat × (List DV → Prop))) (off : Nat → Nat) (h0 : off 0 = 0) (hs : Rs.length = fs.size) (hc : P.cellsOf t = off fs.size)
    (hf : ∀ (i : Nat) (f : Field) (q : Nat × (List DV → Prop)), fs[i]? = some f → Rs[i]? = some q → f.offset = off i ∧ P.cellsOf f.type = q.1 ∧ off (i + 1) = off i + q.1 ∧ Opn P f.type q.2) : Opn P t (Parts Rs) := fun H enc w held fuel cs x h => by
  obtain ⟨xs, n, _, _, hlen, hxl, hx⟩ := DataW.trod_struct ht h
  have go : ∀ (m i : Nat), m = fs.size - i → i ≤ fs.size → ∃ ds, DReps w (cs.drop (off i)) ds ∧ Parts (Rs.drop i) ds := by
    intro m
    induction m with
    | zero =>
      intro i hm hi
      have : i = fs.size := by omega
      subst this
      rw [List.drop_eq_nil_of_le (by omega), List.drop_eq_nil_of_le (by omega)]
      exact ⟨[], .nil, rfl⟩
    | succ m ih =>
      intro i hm hi
      have hlt : i < fs.size := by omega
      have hlt' : i < Rs.length := by omega
      obtain ⟨a1, a2, a3, a4⟩ := hf i fs[i] Rs[i] (Array.getElem?_eq_getElem hlt) (List.getElem?_eq_getElem hlt')
      obtain ⟨ds', b1, b2⟩ := ih (i + 1) (by omega) (by omega)
      have hx' := hx i fs[i] (Array.getElem?_eq_getElem hlt)
      rw [List.getElem?_eq_getElem (by omega)] at hx'
      obtain ⟨d, c1, c2⟩ := a4 H enc w held n _ _ hx'
      rw [a1, a2] at c1
      have hle : off i + Rs[i].1 ≤ cs.length := by
        have mono : ∀ k, i + 1 + k ≤ fs.size → off (i + 1) ≤ off (i + 1 + k) := by
          intro k
          induction k with
          | zero => intro _; exact Nat.le_refl _
          | succ k ihk =>
            intro hk
            have hk1 : i + 1 + k < fs.size := by omega
            obtain ⟨_, _, a3', _⟩ := hf (i + 1 + k) fs[i + 1 + k] Rs[i + 1 + k] (Array.getElem?_eq_getElem hk1) (List.getElem?_eq_getElem (by omega))
            have := ihk (by omega)
            have e : i + 1 + (k + 1) = i + 1 + k + 1 := by omega
            rw [e]; omega
        have := mono (fs.size - (i + 1)) (by omega)
        rw [show i + 1 + (fs.size - (i + 1)) = fs.size by omega] at this
        omega
      refine ⟨d ++ ds', ?_, ?_⟩
      · have e : cs.drop (off i) = (cs.drop (off i)).take Rs[i].1 ++ cs.drop (off (i + 1)) := by
          rw [a3, ← List.drop_drop, List.take_append_drop]
        rw [e]
        exact c1.append b1
      · rw [List.drop_eq_getElem_cons hlt']
        refine ⟨d, ds', rfl, ?_, c2, b2⟩
        rw [← c1.1]; simp; omega
  obtain ⟨ds, h1, h2⟩ := go _ 0 rfl (Nat.zero_le _)
  rw [h0] at h1
  exact ⟨ds, by simpa using h1, by simpa using h2⟩

/-- An array of cells. -/
theorem Opn.array {R : List DV → Prop} {n k : Nat} (ht : P.underlying t = some (.array n e)) (hk : P.cellsOf e = k) (hc : P.cellsOf t = n * k) (he : Opn P e R) : Opn P t (Parts (List.replicate n (k, R))) := fun H enc w held fuel cs x h => by
  obtain ⟨xs, m, _, _, hlen, hxl, hx⟩ := DataW.trod_array ht h
  have go : ∀ (j i : Nat), j = n - i → i ≤ n → ∃ ds, DReps w (cs.drop (i * k)) ds ∧ Parts (List.replicate j (k, R)) ds := by
    intro j
    induction j with
    | zero =>
      intro i hm hi
      have : i = n := by omega
      subst this
      rw [List.drop_eq_nil_of_le (by omega)]
      exact ⟨[], .nil, rfl⟩
    | succ j ih =>
      intro i hm hi
      obtain ⟨ds', b1, b2⟩ := ih (i + 1) (by omega) (by omega)
      have hx' := hx i (by omega)
      rw [List.getElem?_eq_getElem (by omega)] at hx'
      obtain ⟨d, c1, c2⟩ := he H enc w held m _ _ hx'
      rw [hk] at c1
      have hle : i * k + k ≤ cs.length := by
        have : (i + 1) * k ≤ n * k := Nat.mul_le_mul (by omega) (Nat.le_refl _)
        rw [Nat.add_mul] at this
        omega
      refine ⟨d ++ ds', ?_, ?_⟩
      · have e : cs.drop (i * k) = (cs.drop (i * k)).take k ++ cs.drop ((i + 1) * k) := by
          rw [Nat.add_mul, Nat.one_mul, ← List.drop_drop, List.take_append_drop]
        rw [e]
        exact c1.append b1
      · rw [List.replicate_succ]
        refine ⟨d, ds', rfl, ?_, c2, b2⟩
        rw [← c1.1]; simp; omega
  obtain ⟨ds, h1, h2⟩ := go _ 0 rfl (Nat.zero_le _)
  exact ⟨ds, by simpa using h1, by simpa using h2⟩

end

/-- Typed: a slice of cells. -/
theorem VecP.vec {α : Type} {R : DV → α → Prop} {d : DV} (h : VecP 1 (One fun d => ∃ a, R d a) d) : ∃ l, Vec R d l ∧ l.length ≤ 9223372036854775807 := by
  cases h with
  | nil => exact ⟨[], .nil, by simp⟩
  | @sl cs len cap hn hl h =>
    have each : ∀ i, i < len → ∃ a, R (cs.getD i Dnil) a := by
      intro i hi
      obtain ⟨d, hd, a, ha⟩ := h i hi
      have hlt : i < cs.length := by omega
      have e1 : (cs.drop (i * 1)).take 1 = [cs[i]] := by rw [Nat.mul_one, List.drop_eq_getElem_cons hlt]; rfl
      rw [e1] at hd
      simp only [List.cons.injEq, and_true] at hd
      exact ⟨a, by simpa [hlt, hd] using ha⟩
    cases len with
    | zero =>
      have : cs = [] := List.length_eq_zero_iff.1 (by simpa using hn)
      subst this
      exact ⟨[], Vec.sl (cs := []) (l := []) rfl (fun i c x hc => by simp at hc), by simp⟩
    | succ m =>
      obtain ⟨a0, _⟩ := each 0 (by omega)
      haveI : Inhabited α := ⟨a0⟩
      obtain ⟨f, hf⟩ := choose_lt each
      have e : ((List.range (m + 1)).map f).length = m + 1 := by simp
      refine ⟨(List.range (m + 1)).map f, ?_, by simp; omega⟩
      have : Vec R (.sl cs ((List.range (m + 1)).map f).length cap) ((List.range (m + 1)).map f) := .sl (by simp; omega) fun i c x hc hx => by
        rw [List.getElem?_map] at hx
        by_cases hi : i < m + 1
        · rw [List.getElem?_range hi] at hx
          simp only [Option.map_some, Option.some.injEq] at hx
          subst hx
          have := hf i hi
          rwa [List.getD_eq_getElem?_getD, hc, Option.getD_some] at this
        · rw [List.getElem?_eq_none (by simp; omega)] at hx; cases hx
      rwa [e] at this

end Go.Vm

end
section
/-
  VALUES WITHOUT ADDRESSES, 21: more rules: structs, variables of one's own, bits, conversions, calls that write the caller's objects.
-/
namespace Go.Vm
open Go.RowKit

section
variable {P : Program} {n : Nat} {ops : Array Oper} {l : List Oper} {σ : List VObj} {kn : Kn} {dst : Option Tmp} {ty : TypeId} {pos : String} {af : Array Edge} {g : Option (Nat × Bool)}
  {R : List Nat → List VObj → Kn → Prop}

/-- Any operation on plain values. -/
theorem K.lit {o : Oper} {ρ : Operand → Value} {v : Value} (hall : ∀ x ∈ o.op.operands, evK kn x = some (.d (.lit (ρ x)))) (hs : isSelect o.op = false) (hr : pureRun P (execOp ρ o) = some (.value v)) : KEv P o σ kn (.d (.lit v)) σ 0 := ev_lit fun env he => by
  have e1 : ∀ x ∈ o.op.operands, evalX env x = .d (.lit (ρ x)) := fun x hx => evK_evalX he (hall x hx)
  unfold litOp
  rw [if_pos (by
    rw [hs]
    simp only [Bool.not_false, Bool.and_true, Array.all_eq_true_iff_forall_mem]
    intro x hx
    rw [e1 x hx]; rfl)]
  have e2 : execOp (fun x => (litOf (evalX env x)).getD undef) o = execOp ρ o := execOp_congr o (fun cs b h => by rw [h] at hs; cases hs) (fun x hx => by rw [e1 x hx]; rfl)
  rw [e2, hr]

/-- A conversion among integers. -/
theorem K.conv {s d : TypeId} {x : Operand} {k k' : IntKind} {a c : Int} {sd : TypeDesc} (hx : evK kn x = some (.d (.lit (.int k a)))) (hs : P.underlying s = some sd) (hd : P.underlying d = some (.int k')) (hc : k'.wrap a = c) :
    KEv P ⟨dst, .convert s d x, ty, pos, af, g⟩ σ kn (.d (.lit (.int k' c))) σ 0 :=
  K.lit (ρ := fun _ => .int k a) (fun y hy => by simp [Op.operands] at hy; subst hy; exact hx) rfl (by
    subst hc
    simp only [execOp]
    refine pureRun_v ?_
    unfold convert
    rw [pureRun_bind, pureRun_underlying hs]
    simp only [Option.bind_some]
    rw [pureRun_bind, pureRun_underlying hd]
    simp only [Option.bind_some]
    rfl)

section ints
variable {t u : TypeId} {x y : Operand} {k k' : IntKind} {a b : Int} (hx : evK kn x = some (.d (.lit (.int k a))))
include hx
end ints

/-- A field of a struct that is read as a value. -/
theorem K.field {t : TypeId} {x : Operand} {f : Nat} {fd : Field} {ds : List DV} {d : DV} (hx : evK kn x = some (.d (.agg ds))) (hf : fieldT P t f = some fd) (ha : isAggT P fd.type = some false) (hd : ds[fd.offset]? = some d) :
    KEv P ⟨dst, .field t x f, ty, pos, af, g⟩ σ kn (.d d) σ 0 := ev_op fun env he => by
  have e1 := evK_evalX he hx
  unfold evalOp
  rw [litOp_none (x := x) (by simp [Op.operands]) (by rw [e1]; rfl)]
  simp [e1, opField, hf, aggCells, takeVar, ha, List.head?_drop, hd]

theorem allD_map (ds : List DV) : allD (ds.map .d) = some ds := by
  induction ds with
  | nil => rfl
  | cons d ds ih => simp [allD, ih]

theorem aggX_d (ds : List DV) : aggX (ds.map .d) = .d (.agg ds) := by simp [aggX, allD_map]

theorem K.fieldAddrD {t : TypeId} {x : Operand} {f m : Nat} {fd : Field} {cs : List DV} (hx : evK kn x = some (.d (.ptr cs))) (hf : fieldT P t f = some fd) (hs : sizeT P fd.type = some (m + 1)) :
    KEv P ⟨dst, .fieldAddr t x f, ty, pos, af, g⟩ σ kn (.d (.ptr (cs.drop fd.offset))) σ 0 := ev_op fun env he => by
  have e1 := evK_evalX he hx
  unfold evalOp
  rw [litOp_none (x := x) (by simp [Op.operands]) (by rw [e1]; rfl)]
  simp [e1, opFieldAddr, hf, hs]

theorem K.fieldAddrO {t : TypeId} {x : Operand} {f m id off : Nat} {fd : Field} (hx : evK kn x = some (.optr id off)) (hf : fieldT P t f = some fd) (hs : sizeT P fd.type = some (m + 1)) :
    KEv P ⟨dst, .fieldAddr t x f, ty, pos, af, g⟩ σ kn (.optr id (off + fd.offset)) σ 0 := ev_op fun env he => by
  have e1 := evK_evalX he hx
  unfold evalOp
  rw [litOp_none (x := x) (by simp [Op.operands]) (by rw [e1]; rfl)]
  simp [e1, opFieldAddr, hf, hs]

/-- A variable of an array of one's own. -/
theorem K.idxA {x i : Operand} {t e : TypeId} {id off m len k : Nat} (hx : evK kn x = some (.optr id off)) (hi : evK kn i = some (.d (DI m))) (hm : m < len) (ht : P.underlying t = some (.array len e)) (hs : sizeT P e = some k) :
    KEv P ⟨dst, .indexAddr t x i, ty, pos, af, g⟩ σ kn (.optr id (off + m * k)) σ 0 := ev_op fun env he => by
  have e1 := evK_evalX he hx
  have e2 := evK_evalX he hi
  unfold evalOp
  rw [litOp_none (x := x) (by simp [Op.operands]) (by rw [e1]; rfl)]
  have h1 : (m : Int) < (len : Int) := by omega
  simp [e1, e2, opIndexAddr, litOf, ht, hs, h1]

/-- .. of one that is read. -/
theorem K.idxAD {x i : Operand} {t e : TypeId} {cs : List DV} {m len k : Nat} (hx : evK kn x = some (.d (.ptr cs))) (hi : evK kn i = some (.d (DI m))) (hm : m < len) (ht : P.underlying t = some (.array len e)) (hs : sizeT P e = some k) :
    KEv P ⟨dst, .indexAddr t x i, ty, pos, af, g⟩ σ kn (.d (.ptr (cs.drop (m * k)))) σ 0 := ev_op fun env he => by
  have e1 := evK_evalX he hx
  have e2 := evK_evalX he hi
  unfold evalOp
  rw [litOp_none (x := x) (by simp [Op.operands]) (by rw [e1]; rfl)]
  have h1 : (m : Int) < (len : Int) := by omega
  simp [e1, e2, opIndexAddr, litOf, ht, hs, h1]

/-- A struct that is read at an address. -/
theorem K.loadAgg {x : Operand} {t : TypeId} {cs : List DV} {m : Nat} (hx : evK kn x = some (.d (.ptr cs))) (ha : isAggT P t = some true) (hs : sizeT P t = some m) (hm : m ≤ cs.length) :
    KEv P ⟨dst, .load t x, ty, pos, af, g⟩ σ kn (.d (.agg (cs.take m))) σ 0 := ev_op fun env he => by
  have e1 := evK_evalX he hx
  unfold evalOp
  rw [litOp_none (x := x) (by simp [Op.operands]) (by rw [e1]; rfl)]
  have h2 : aggX ((cs.map XV.d).take m) = .d (.agg (cs.take m)) := by rw [← List.map_take, aggX_d]
  simp only [e1, opLoad, takeVar, ha, hs]
  rw [if_pos (by simpa using hm), h2]; rfl

theorem K.loadOAgg {x : Operand} {t : TypeId} {id off m : Nat} {ob : VObj} (hx : evK kn x = some (.optr id off)) (ho : σ[id]? = some ob) (h2 : ob.mode < 2) (ha : isAggT P t = some true) (hs : sizeT P t = some m) (hm : m ≤ (ob.cells.drop off).length) :
    KEv P ⟨dst, .load t x, ty, pos, af, g⟩ σ kn (aggX ((ob.cells.drop off).take m)) σ 1 := ev_op fun env he => by
  have e1 := evK_evalX he hx
  unfold evalOp
  rw [litOp_none (x := x) (by simp [Op.operands]) (by rw [e1]; rfl)]
  simp only [e1, opLoad, takeVar, ha, hs, ho]
  rw [if_neg (fun h => h h2), if_pos hm]; rfl

/-- A variable of one's own. -/
theorem K.alloc {t : TypeId} {z : Value} (hz : zeroT P t = some z) : KEv P ⟨dst, .alloc t, ty, pos, af, g⟩ σ kn (.optr σ.length 0) (σ ++ [⟨z.cells.toList.map fun v => .d (.lit v), 0⟩]) 3 := ev_op fun env he => by
  unfold evalOp
  have : litOp P env ⟨dst, .alloc t, ty, pos, af, g⟩ = none := by
    unfold litOp
    rw [if_pos (by simp [Op.operands, isSelect])]
    have : pureRun P (execOp (fun x => (litOf (evalX env x)).getD undef) ⟨dst, .alloc t, ty, pos, af, g⟩) = none := by
      simp only [execOp]
      rw [pureRun_bind]
      have : pureRun P (Instr.alloc t true (.tuple #[])) = none := by
        unfold Instr.alloc
        refine pureRun_none _ _ fun a => ?_
        rfl
      rw [this]; rfl
    rw [this]
  rw [this]
  simp [opAlloc, hz]

theorem litOp_box {env : Nat → XV} {t : TypeId} {x : Operand} : litOp P env ⟨dst, .box t x, ty, pos, af, g⟩ = none := by
  unfold litOp
  split
  · have : pureRun P (execOp (fun x => (litOf (evalX env x)).getD undef) ⟨dst, .box t x, ty, pos, af, g⟩) = none := by
      simp only [execOp]
      rw [pureRun_bind]
      have : ∀ v, pureRun P (Instr.box t v) = none := fun v => by
        unfold Instr.box
        rw [pureRun_bind]
        rfl
      rw [this]; rfl
    rw [this]
  · rfl

theorem K.box {t : TypeId} {x : Operand} {v : XV} (hx : evK kn x = some v) : KEv P ⟨dst, .box t x, ty, pos, af, g⟩ σ kn (.optr σ.length 0) (σ ++ [⟨cellsX v, 0⟩]) 3 := ev_op fun env he => by
  have e1 := evK_evalX he hx
  unfold evalOp
  rw [litOp_box]
  simp [e1, opBox]

/-- A store of so many cells. -/
theorem K.storeN {x y : Operand} {t : TypeId} {id off : Nat} {cells : List XV} {v : XV} (hx : evK kn x = some (.optr id off)) (hy : evK kn y = some v) (ho : σ[id]? = some ⟨cells, 0⟩) (hof : off + (cellsX v).length ≤ cells.length) (h1 : (cellsX v).all oneX = true)
    (hs : sizeT P t = some (cellsX v).length) : KEv P ⟨dst, .store t x y, ty, pos, af, g⟩ σ kn undefX (σ.set id ⟨splice cells off (cellsX v), 0⟩) 2 := ev_op fun env he => by
  have e1 := evK_evalX he hx
  have e2 := evK_evalX he hy
  unfold evalOp
  rw [litOp_none (x := x) (by simp [Op.operands]) (by rw [e1]; rfl)]
  have h4 : ∀ x ∈ cellsX v, oneX x = true := by simpa using h1
  simp only [e1, e2, opStore, ho, hs]
  rw [if_pos ⟨trivial, trivial, hof, h1⟩]
  rfl

/-- A struct or array that is built; not of plain values alone. -/
theorem K.build {t : TypeId} {parts : Array (Nat × Operand)} {qs : List (Nat × XV)} {x : Operand} {v r : XV} (hp : parts.toList.mapM (fun p => (evK kn p.2).map fun v => (p.1, v)) = some qs) (hx : x ∈ (parts.map (·.2))) (hv : evK kn x = some v) (hl : litOf v = none)
    (hr : opBuild P t qs = some r) : KEv P ⟨dst, .build t parts, ty, pos, af, g⟩ σ kn r σ 0 := ev_op fun env he => by
  have e1 := evK_evalX he hv
  unfold evalOp
  rw [litOp_none (x := x) (by simpa [Op.operands] using hx) (by rw [e1]; exact hl)]
  have e2 : (parts.toList.map fun p => (p.1, evalX env p.2)) = qs := by
    obtain ⟨h1, h2⟩ := mapM_get hp
    refine List.ext_getElem? fun i => ?_
    by_cases hi : i < parts.toList.length
    · have hi' : i < qs.length := by omega
      have h3 := h2 i _ _ (List.getElem?_eq_getElem hi) (List.getElem?_eq_getElem hi')
      rw [List.getElem?_map, List.getElem?_eq_getElem hi, List.getElem?_eq_getElem hi']
      obtain ⟨u, hu, h4⟩ := Option.map_eq_some_iff.1 h3
      simp only [Option.map_some]
      rw [evK_evalX he hu, h4]
    · rw [List.getElem?_eq_none (by simp at hi ⊢; omega), List.getElem?_eq_none (by rw [← h1]; omega)]
  simp only [e2, hr]; rfl

theorem mapM_evK {env : Nat → XV} (he : Agree kn env) {args : List Operand} {xs : List XV} (ha : args.mapM (evK kn) = some xs) : args.map (evalX env) = xs := by
  obtain ⟨h1, h2⟩ := mapM_get ha
  refine List.ext_getElem? fun i => ?_
  by_cases hi : i < args.length
  · have hi' : i < xs.length := by omega
    have := h2 i _ _ (List.getElem?_eq_getElem hi) (List.getElem?_eq_getElem hi')
    rw [List.getElem?_map, List.getElem?_eq_getElem hi, List.getElem?_eq_getElem hi']
    simp only [Option.map_some]
    rw [evK_evalX he this]
  · rw [List.getElem?_eq_none (by simp at hi ⊢; omega), List.getElem?_eq_none (by rw [← h1]; omega)]

/-- What a call among the caller's own objects does: it leaves these objects and gives this value. -/
def OwnCall (P : Program) (f : FuncId) (σ : List VObj) (args : List XV) (σ' : List VObj) (x : XV) : Prop :=
  ∀ (M : Nat → Prop) (W0 : World), InCall P M W0 f σ args (fun σ2 x2 => σ2 = σ' ∧ x2 = x)

/-- A call that may write the caller's objects. -/
theorem K.callO {f : FuncId} {args : Array Operand} {ts : Array TypeId} {xs : List XV} {σ' : List VObj} {x : XV} (ha : args.toList.mapM (evK kn) = some xs) (hp : plainFn P f = true) (hc : OwnCall P f σ xs σ' x) :
    KEv P ⟨dst, .call ⟨.value (.func f), args, ts⟩, ty, pos, af, g⟩ σ kn x σ' 2 := fun env he =>
  .inl (first := []) (caps := []) rfl (by simp [evalX, asFn]) hp (by
    simp only [List.nil_append, List.append_nil]
    rw [mapM_evK he ha]; exact hc)

/-- A call that makes objects and writes none. -/
theorem K.callG {f : FuncId} {args : Array Operand} {ts : Array TypeId} {xs : List XV} {τ : List VObj} {x : XV} (ha : args.toList.mapM (evK kn) = some xs) (hp : plainFn P f = true) (hc : OwnCall P f σ xs (σ ++ τ) x) :
    KEv P ⟨dst, .call ⟨.value (.func f), args, ts⟩, ty, pos, af, g⟩ σ kn x (σ ++ τ) 3 := fun env he =>
  .inlG (first := []) (caps := []) rfl (by simp [evalX, asFn]) hp (by
    simp only [List.nil_append, List.append_nil]
    rw [mapM_evK he ha]; exact hc)

/-- .. of a function value. -/
theorem K.callV {c : Operand} {v : XV} {f : FuncId} {first caps : List XV} {args : Array Operand} {ts : Array TypeId} {xs : List XV} {σ' : List VObj} {x : XV} (hv : evK kn c = some v) (hf : asFn v = some (f, first, caps)) (ha : args.toList.mapM (evK kn) = some xs)
    (hp : plainFn P f = true) (hc : OwnCall P f σ (first ++ xs ++ caps) σ' x) : KEv P ⟨dst, .call ⟨.value c, args, ts⟩, ty, pos, af, g⟩ σ kn x σ' 2 := fun env he =>
  .inl (first := first) (caps := caps) rfl (by rw [evK_evalX he hv]; exact hf) hp (by rw [mapM_evK he ha]; exact hc)

/-- A result that lies in a variable: a struct or an array. -/
theorem resK_agg {fn : Func} {a t : Nat} {id off m : Nat} {ob : VObj} (hr : fn.results = #[.cell a t]) (hl : look kn a = some (.optr id off)) (ho : σ[id]? = some ob) (h2 : ob.mode < 2) (ha : isAggT P t = some true) (hs : sizeT P t = some m)
    (hm : m ≤ (ob.cells.drop off).length) : resK P fn σ kn = some (aggX ((ob.cells.drop off).take m)) := by
  have h3 : opLoad P σ t (.optr id off) = some (aggX ((ob.cells.drop off).take m), 1) := by
    simp only [opLoad, takeVar, ha, hs, ho]
    rw [if_neg (fun h => h h2), if_pos hm]; rfl
  simp [resK, hr, resVarK, hl, h3]

/-- .. or one cell. -/
theorem resK_one {fn : Func} {a t : Nat} {id off : Nat} {ob : VObj} {y : XV} (hr : fn.results = #[.cell a t]) (hl : look kn a = some (.optr id off)) (ho : σ[id]? = some ob) (h2 : ob.mode < 2) (ha : isAggT P t = some false) (hy : ob.cells[off]? = some y) :
    resK P fn σ kn = some y := by
  have h3 : opLoad P σ t (.optr id off) = some (y, 1) := by
    have : (ob.cells.drop off).head? = some y := by rw [List.head?_drop]; exact hy
    simp [opLoad, takeVar, ha, ho, h2, this]
  simp [resK, hr, resVarK, hl, h3]

/-- A call of a function without a body. -/
theorem K.ext {f : FuncId} {args : Array Operand} {ts : Array TypeId} {us : List Value} {v : Value} (ha : args.toList.mapM (evK kn) = some (us.map fun u => .d (.lit u))) (hr : pureRun P (callFunc f us.toArray) = some (.value v)) :
    KEv P ⟨dst, .call ⟨.value (.func f), args, ts⟩, ty, pos, af, g⟩ σ kn (.d (.lit v)) σ 0 := ev_op fun env he => by
  have e1 := mapM_evK he ha
  unfold evalOp
  rw [litOp_none (x := .func f) (by simp [Op.operands, Call.operands]) rfl]
  have e2 : args.map (fun x => (fnLit env x).getD undef) = us.toArray ∧ ∀ x ∈ args, (fnLit env x).isSome = true := by
    have key : ∀ (i : Nat) (x : Operand), args[i]? = some x → ∃ u, us[i]? = some u ∧ fnLit env x = some u := by
      intro i x hx
      have h1 : (args.toList.map (evalX env))[i]? = some (evalX env x) := by simp [hx]
      rw [e1, List.getElem?_map, Option.map_eq_some_iff] at h1
      obtain ⟨u, hu, h2⟩ := h1
      refine ⟨u, hu, ?_⟩
      cases x with
      | func g => simp [evalX] at h2
      | tmp t => simp only [fnLit, ← h2]; rfl
      | const c => simp only [fnLit, ← h2]; rfl
      | global c => simp only [fnLit, ← h2]; rfl
    refine ⟨?_, fun x hx => ?_⟩
    · have hlen : args.size = us.length := by
        have := congrArg List.length e1
        simpa using this
      apply Array.ext
      · simp [hlen]
      · intro i h1 h2
        have hi : i < args.size := by simpa using h1
        obtain ⟨u, hu, h3⟩ := key i args[i] (Array.getElem?_eq_getElem hi)
        have hiu : i < us.length := by simpa using h2
        rw [List.getElem?_eq_getElem hiu] at hu
        simp only [Option.some.injEq] at hu
        simp [h3, hu]
    · obtain ⟨i, hi, rfl⟩ := Array.getElem_of_mem hx
      obtain ⟨u, _, h3⟩ := key i args[i] (Array.getElem?_eq_getElem hi)
      rw [h3]; rfl
  have e3 : opExt P env ⟨dst, .call ⟨.value (.func f), args, ts⟩, ty, pos, af, g⟩ = some v := by
    unfold opExt
    rw [if_pos (by
      simp only [isSelect, Bool.not_false, Bool.and_true, Array.all_eq_true_iff_forall_mem]
      intro x hx
      simp only [Op.operands, Call.operands, Array.mem_append] at hx
      rcases hx with hx | hx
      · simp at hx; subst hx; rfl
      · exact e2.2 x hx)]
    have e4 : pureRun P (execOp (fun x => (fnLit env x).getD undef) ⟨dst, .call ⟨.value (.func f), args, ts⟩, ty, pos, af, g⟩) = some (.value v) := by
      simp only [execOp, resolve, e2.1]
      rw [pureRun_bind]
      show (some _).bind _ = _
      simp only [Option.bind_some, invoke]
      have : (#[] ++ us.toArray ++ #[] : Array Value) = us.toArray := by simp
      first | exact hr | (rw [this]; exact hr) | simpa using hr
    rw [e4]
  simp [e3]

/-- A call of a function value, on deep values. -/
theorem K.callW {c : Operand} {v : XV} {f : FuncId} {args : Array Operand} {ts : Array TypeId} {ds : List DV} {res : DV} (hv : evK kn c = some v) (hf : asFn v = some (f, [], [])) (ha : args.toList.mapM (evK kn) = some (ds.map .d))
    (hp : plainFn P f = true) (hc : DeepCall P f ds res) : KEv P ⟨dst, .call ⟨.value c, args, ts⟩, ty, pos, af, g⟩ σ kn (.d res) σ 0 := fun env he =>
  .call (first := []) (caps := []) rfl (by rw [evK_evalX he hv]; exact hf) hp (by rw [mapM_evK he ha]; simp) hc

/-- A call that gets some of the caller's objects, which are not written from here on. -/
theorem K.callZ {f : FuncId} {args : Array Operand} {ts : Array TypeId} {xs : List XV} {ds : List DV} {res : DV} (ids : List Nat) (m : Nat) (ha : args.toList.mapM (evK kn) = some xs) (hp : plainFn P f = true) (hd : xs.mapM (deepen (freezeIds σ ids) m) = some ds)
    (hc : DeepCall P f ds res) : KEv P ⟨dst, .call ⟨.value (.func f), args, ts⟩, ty, pos, af, g⟩ σ kn (.d res) (freezeIds σ ids) 3 := fun env he =>
  .callF (first := []) (caps := []) ids m rfl (by simp [evalX, asFn]) hp (by
    simp only [List.nil_append, List.append_nil]
    rw [mapM_evK he ha]; exact hd) hc

/-- THE CONTRACT OF A FUNCTION among its caller's objects, by a walk over its body. -/
theorem ownCall_K {f : FuncId} {fn : Func} {c : Code} {args : List XV} {σ' : List VObj} {x : XV} (hf : P.funcs[f]? = some fn) (hb : fn.body = some c) (hn : args.length ≤ fn.ntmps)
    (h : ∀ (M : Nat → Prop) (W0 : World), KC P M W0 fn.ntmps c σ (enterK 0 args) (fun e σ2 kn => (e = .ret ∨ e = .normal) ∧ resK P fn σ2 kn = some x ∧ σ2 = σ')) : OwnCall P f σ args σ' x := fun M W0 =>
  inCall_of hf hb hn ((h M W0 _ (agree_enter σ args)).mono fun _ _ ⟨_, h1, h2, h3, h4⟩ => ⟨h2, x, resK_X h1 h3, h4, rfl⟩)

/-- A contract on deep values, from one among objects. -/
theorem OwnCall.deep {f : FuncId} {args : List DV} {σ' : List VObj} {x : XV} {res : DV} (k : Nat) (h : OwnCall P f [] (args.map .d) σ' x) (hd : deepen (freezeAll σ') k x = some res) : DeepCall P f args res :=
  deepCall_of_inCall k fun M W0 ι w vs hm hl hx => (h M W0 ι w vs hm hl hx).mono fun e w' => by
    rintro ⟨ι', σ2, x2, v, h1, h2, h3, h4, rfl, rfl⟩
    exact ⟨ι', _, _, v, h1, h2, h3, h4, hd⟩

end
end Go.Vm

end
section
/-
  VALUES WITHOUT ADDRESSES, 22: words of 64 bits.
-/
namespace Go.Vm
open Go.RowKit

section
variable {P : Program} {n : Nat} {ops : Array Oper} {l : List Oper} {σ : List VObj} {kn : Kn} {dst : Option Tmp} {ty : TypeId} {pos : String} {af : Array Edge} {g : Option (Nat × Bool)}
variable {t u : TypeId} {x y : Operand} {a b : Nat}

end

section
variable {P : Program} {n : Nat} {ops : Array Oper} {l : List Oper} {σ : List VObj} {kn : Kn} {dst : Option Tmp} {ty : TypeId} {pos : String} {af : Array Edge} {g : Option (Nat × Bool)}
/-- A struct or array of plain values that is built. -/
theorem K.buildL {t : TypeId} {parts : Array (Nat × Operand)} {us : List (Nat × Value)} {v : Value} (ha : parts.toList.mapM (fun p => ((evK kn p.2).bind litOf).map fun v => (p.1, v)) = some us) (hr : pureRun P (Instr.build t us.toArray) = some v) :
    KEv P ⟨dst, .build t parts, ty, pos, af, g⟩ σ kn (.d (.lit v)) σ 0 := by
  obtain ⟨h1, h2⟩ := mapM_get ha
  have la : ∀ z w, litOf z = some w → z = .d (.lit w) := fun z w hz => by
    unfold litOf at hz
    split at hz
    · cases hz; rfl
    · cases hz
  refine K.lit (ρ := fun x => ((evK kn x).bind litOf).getD undef) (fun x hx => ?_) rfl ?_
  · simp only [Op.operands, List.mem_toArray, List.mem_map] at hx
    have hx' : x ∈ (parts.map (·.2)) := by simpa [Op.operands] using hx
    obtain ⟨i, hi, he⟩ := Array.getElem_of_mem hx'
    have hi' : i < parts.toList.length := by simpa using hi
    have hiu : i < us.length := by omega
    have h3 := h2 i _ _ (List.getElem?_eq_getElem hi') (List.getElem?_eq_getElem hiu)
    obtain ⟨w, hw, _⟩ := Option.map_eq_some_iff.1 h3
    have e1 : parts.toList[i].2 = x := by simpa using he
    rw [e1] at hw
    rw [hw, Option.getD_some]
    obtain ⟨z, hz, hzw⟩ := Option.bind_eq_some_iff.1 hw
    rw [hz, la z w hzw]
  · simp only [execOp]
    refine pureRun_v ?_
    have e : (parts.map fun p => (p.1, ((evK kn p.2).bind litOf).getD undef)) = us.toArray := by
      apply Array.ext
      · simpa using h1
      · intro i hi hj
        have hi' : i < parts.toList.length := by simpa using hi
        have hiu : i < us.length := by omega
        have h3 := h2 i _ _ (List.getElem?_eq_getElem hi') (List.getElem?_eq_getElem hiu)
        obtain ⟨w, hw, h4⟩ := Option.map_eq_some_iff.1 h3
        simp only [Array.getElem_toList] at hw h4
        simp [hw, ← h4]
    rw [e]; exact hr
end

end Go.Vm

end
section
/-
  VALUES WITHOUT ADDRESSES, 23: room for appends: slices.Grow and appends into it.
-/
namespace Go.Vm
open Go.RowKit
section
variable {P : Program} {n : Nat} {ops : Array Oper} {l : List Oper} {σ : List VObj} {kn : Kn} {dst : Option Tmp} {ty : TypeId} {pos : String} {af : Array Edge} {g : Option (Nat × Bool)}

end
end Go.Vm

end
section
/-
  VALUES WITHOUT ADDRESSES, 24: sets of small numbers as bits of an int.
-/
namespace Go.Vm
open Go.RowKit

/-- The bits of a that b has not. -/
def diffN (a b : Nat) : Nat := a ^^^ (a &&& b)
theorem testBit_diffN (a b i : Nat) : (diffN a b).testBit i = (a.testBit i && !b.testBit i) := by
  unfold diffN
  rw [Nat.testBit_xor, Nat.testBit_and]
  cases a.testBit i <;> cases b.testBit i <;> rfl
theorem ints_cells {cs : List DV} {l : List Int} (hn : cs.length = l.length) (h : ∀ (i : Nat) (c : DV) (x : Int), cs[i]? = some c → l[i]? = some x → IsI c x) : cs = l.map DI := by
  apply List.ext_getElem? 
  intro i
  rw [List.getElem?_map]
  by_cases hi : i < l.length
  · have h1 := List.getElem?_eq_getElem (show i < cs.length by omega)
    have h2 := List.getElem?_eq_getElem hi
    rw [h1, h2, h i _ _ h1 h2]; rfl
  · rw [List.getElem?_eq_none (by omega), List.getElem?_eq_none (by omega)]; rfl

theorem all_oneX (l : List Int) : (l.map fun n => XV.d (DI n)).all oneX = true := by
  rw [List.all_map, List.all_eq_true]
  intro x _
  rfl

/-- What is copied or appended from integers. -/
theorem srcCells_ints {σ : List VObj} {d : DV} {l : List Int} (hd : Ints d l) : ∃ fl, srcCells σ 1 (.d d) = some (l.map (fun n => XV.d (DI n)), l.length, fl) := by
  cases hd with
  | nil => exact ⟨0, rfl⟩
  | @sl cs _ cap hn h =>
    have e := ints_cells hn h
    subst e
    refine ⟨0, ?_⟩
    simp only [srcCells]
    rw [if_pos (by simp), List.take_of_length_le (by simp), List.map_map]
    rfl

section
variable {P : Program} {σ : List VObj} {kn : Kn} {dst : Option Tmp} {ty : TypeId} {pos : String} {af : Array Edge} {g : Option (Nat × Bool)}

/-- a[:] of an array of the call's own. -/
theorem K.sliceA {t e : TypeId} {x : Operand} {id off n k : Nat} {ob : VObj} (hx : evK kn x = some (.optr id off)) (ht : P.underlying t = some (.array n e)) (hs : sizeT P e = some k) (ho : σ[id]? = some ob) (h2 : ob.mode < 2) (hn : 0 < n) (hf : off + n * k ≤ ob.cells.length) :
    KEv P ⟨dst, .slice t x none none none, ty, pos, af, g⟩ σ kn (.osl id off n k n true) σ 1 := ev_op fun env he => by
  have e1 := evK_evalX he hx
  unfold evalOp
  rw [litOp_none (x := x) (by simp [Op.operands]) (by rw [e1]; rfl)]
  have h0 : opSlice P t (.optr id off) none none none = none := by
    unfold opSlice; rw [ht]
  simp only [e1, Option.map_none, h0, opSliceA, ht, ho, hs, boundOf]
  rw [if_pos ⟨h2, Nat.zero_le _, Nat.le_refl _, hn, hf⟩]
  simp

/-- a[:n]. -/
theorem K.sliceAh {t e : TypeId} {x h : Operand} {id off n k m : Nat} {ob : VObj} (hx : evK kn x = some (.optr id off)) (hh : evK kn h = some (.d (DI (m : Int)))) (ht : P.underlying t = some (.array n e)) (hs : sizeT P e = some k) (ho : σ[id]? = some ob) (h2 : ob.mode < 2) (hn : 0 < n) (hm : m ≤ n) (hf : off + n * k ≤ ob.cells.length) :
    KEv P ⟨dst, .slice t x none (some h) none, ty, pos, af, g⟩ σ kn (.osl id off m k n true) σ 1 := ev_op fun env he => by
  have e1 := evK_evalX he hx
  have e2 := evK_evalX he hh
  unfold evalOp
  rw [litOp_none (x := x) (by simp [Op.operands]) (by rw [e1]; rfl)]
  have h0 : opSlice P t (.optr id off) none (some (.d (DI (m : Int)))) none = none := by
    unfold opSlice; rw [ht]
  simp only [e1, e2, Option.map_none, Option.map_some, h0, opSliceA, ht, ho, hs, boundOf, litOf]
  rw [if_pos (Int.natCast_nonneg m)]
  simp only [Int.toNat_natCast]
  rw [if_pos ⟨h2, Nat.zero_le _, hm, hn, hf⟩]
  simp

/-- copy of integers into an own slice. -/
theorem K.copyI {a x : Operand} {ts : Array TypeId} {t e : TypeId} {d : DV} {l : List Int} {id off len lo : Nat} {ex : Bool} {ob : VObj} (ha : evK kn a = some (.osl id off len 1 lo ex)) (hx : evK kn x = some (.d d)) (hd : Ints d l) (h0 : ts[0]? = some t)
    (ht : P.underlying t = some (.slice e)) (hs : sizeT P e = some 1) (ho : σ[id]? = some ob) (hm : ob.mode = 0) (hf : off + min l.length len ≤ ob.cells.length) (hl : 0 < l.length) :
    KEv P ⟨dst, .call ⟨.builtin .copy, #[a, x], ts⟩, ty, pos, af, g⟩ σ kn (.d (DI (min l.length len : Nat))) (σ.set id ⟨splice ob.cells off ((l.take (min l.length len)).map fun n => .d (DI n)), 0⟩) 2 := ev_op fun env he => by
  have e1 := evK_evalX he ha
  have e2 := evK_evalX he hx
  unfold evalOp
  rw [litOp_none (x := a) (by simp [Op.operands, Call.operands]) (by rw [e1]; rfl)]
  obtain ⟨fl, hsrc⟩ := srcCells_ints (σ := σ) hd
  simp only [e1, e2, opCopy, h0, Option.bind_some, ht, hs, ho, hsrc]
  rw [if_pos ⟨trivial, hm, by simpa using hf, all_oneX l, hl⟩]
  simp [List.map_take]

/-- One cell that is a slice. -/
inductive SlD : DV → Prop
  | nil : SlD Dnil
  | sl (cs : List DV) (len : Nat) (cap : Option Nat) : SlD (.sl cs len cap)
theorem SlD.of {α : Type} {R : DV → α → Prop} {d : DV} {l : List α} (h : Vec R d l) : SlD d := by cases h with | nil => exact .nil | sl => exact .sl _ _ _
theorem SlD.cells {d : DV} (h : SlD d) : cellsX (.d d) = [.d d] := by cases h <;> rfl
theorem SlD.one {d : DV} (h : SlD d) : oneX (.d d) = true := by cases h <;> rfl
def isNilD : DV → Bool
  | .lit _ => true
  | _ => false
/-- A struct of three slices, just built. -/
def mk3 (a b c : DV) : DV := if isNilD a && isNilD b && isNilD c then .lit (.agg #[.slice none 0 0, .slice none 0 0, .slice none 0 0]) else .agg [a, b, c]
theorem mk3_cells {a b c : DV} (ha : SlD a) (hb : SlD b) (hc : SlD c) : cellsX (.d (mk3 a b c)) = [.d a, .d b, .d c] := by
  cases ha <;> cases hb <;> cases hc <;> rfl
theorem mk3_build {a b c : DV} {t : TypeId} {fs : Array Field} (ha : SlD a) (hb : SlD b) (hc : SlD c) (hz : zeroT P t = some (.agg #[.slice none 0 0, .slice none 0 0, .slice none 0 0])) (hu : P.underlying t = some (.struct fs))
    (hp : placesT P fs = some #[(0, 1), (1, 1), (2, 1)]) : opBuild P t [(0, .d a), (1, .d b), (2, .d c)] = some (.d (.agg [a, b, c])) := by
  have e1 : ((#[(0, 1), (1, 1), (2, 1)] : Array (Nat × Nat))[0]?) = some (0, 1) := rfl
  have e2 : ((#[(0, 1), (1, 1), (2, 1)] : Array (Nat × Nat))[1]?) = some (1, 1) := rfl
  have e3 : ((#[(0, 1), (1, 1), (2, 1)] : Array (Nat × Nat))[2]?) = some (2, 1) := rfl
  simp [opBuild, hz, hu, hp, fillP, ha.cells, hb.cells, hc.cells, splice, Value.cells, aggX, allD]
theorem K.build3 {t : TypeId} {x y z : Operand} {a b c : DV} {fs : Array Field} (hx : evK kn x = some (.d a)) (hy : evK kn y = some (.d b)) (hzz : evK kn z = some (.d c)) (ha : SlD a) (hb : SlD b) (hc : SlD c)
    (hz : zeroT P t = some (.agg #[.slice none 0 0, .slice none 0 0, .slice none 0 0])) (hu : P.underlying t = some (.struct fs)) (hp : (match P.underlying t with | some (.struct fs) => placesT P fs | _ => none) = some #[(0, 1), (1, 1), (2, 1)])
    (hnil : pureRun P (Instr.build t #[(0, .slice none 0 0), (1, .slice none 0 0), (2, .slice none 0 0)]) = some (.agg #[.slice none 0 0, .slice none 0 0, .slice none 0 0])) :
    KEv P ⟨dst, .build t #[(0, x), (1, y), (2, z)], ty, pos, af, g⟩ σ kn (.d (mk3 a b c)) σ 0 := by
  rw [hu] at hp
  have key := mk3_build ha hb hc hz hu hp
  have hm : (#[(0, x), (1, y), (2, z)] : Array (Nat × Operand)).toList.mapM (fun p => (evK kn p.2).map fun v => (p.1, v)) = some [(0, .d a), (1, .d b), (2, .d c)] := by
    simp [hx, hy, hzz]
  by_cases hall : isNilD a && isNilD b && isNilD c
  · cases ha <;> simp [isNilD] at hall
    cases hb <;> simp at hall
    cases hc <;> simp at hall
    exact K.buildL (us := [(0, .slice none 0 0), (1, .slice none 0 0), (2, .slice none 0 0)]) (by simp [hx, hy, hzz, litOf]) hnil
  · have e : mk3 a b c = .agg [a, b, c] := by unfold mk3; rw [if_neg hall]
    rw [e]
    by_cases h1 : isNilD a = true
    · by_cases h2 : isNilD b = true
      · have h3 : isNilD c = false := by simpa [h1, h2] using hall
        cases hc with
        | nil => cases h3
        | sl cs len cap => exact K.build (x := z) hm (by simp) hzz rfl key
      · cases hb with
        | nil => exact absurd rfl h2
        | sl cs len cap => exact K.build (x := y) hm (by simp) hy rfl key
    · cases ha with
      | nil => exact absurd rfl h1
      | sl cs len cap => exact K.build (x := x) hm (by simp) hx rfl key

/-- The object behind an own slice. -/
def idX : XV → Option Nat
  | .osl id _ _ _ _ _ => some id
  | _ => none
/-- A slice that is appended to, of variables of k cells. -/
inductive OwnK (k : Nat) (σ : List VObj) : XV → List XV → Prop
  | nil : OwnK k σ (.d Dnil) []
  | sl {id n : Nat} {cells : List XV} (h : σ[id]? = some ⟨cells, 0⟩) (hn : cells.length = n * k) : OwnK k σ (.osl id 0 n k n false) cells
theorem OwnK.cells {k : Nat} {x : XV} {cells : List XV} (h : OwnK k σ x cells) : cellsX x = [x] ∧ oneX x = true := by cases h <;> exact ⟨rfl, rfl⟩
theorem OwnK.keep {k : Nat} {σ' : List VObj} {x : XV} {cells : List XV} (h : OwnK k σ x cells) (hk : ∀ j, idX x = some j → σ'[j]? = σ[j]?) : OwnK k σ' x cells := by
  cases h with
  | nil => exact .nil
  | sl h hn => exact .sl (by rw [hk _ rfl]; exact h) hn
theorem OwnK.lt {k : Nat} {x : XV} {cells : List XV} (h : OwnK k σ x cells) {j : Nat} (hj : idX x = some j) : j < σ.length := by
  cases h with
  | nil => cases hj
  | sl h hn => cases hj; exact (List.getElem?_eq_some_iff.1 h).1
theorem OwnK.pushed {k : Nat} {x : XV} {cells : List XV} (h : OwnK k σ x cells) (o : VObj) : OwnK k (σ ++ [o]) x cells := by
  cases h with
  | nil => exact .nil
  | sl h hn => exact .sl (getElem?_pre _ _ _ _ h) hn

theorem zeroRow_len (z : Value) (n : Nat) : (zeroRow z n).length = n := by simp [zeroRow]

/-- A literal of one variable of k cells. -/
theorem K.buildK {t e : TypeId} {x : Operand} {k : Nat} {ds : List DV} {z : Value} (hx : evK kn x = some (.d (.agg ds))) (hk : ds.length = k) (ht : P.underlying t = some (.slice e)) (hs : sizeT P e = some k) (hz : zeroT P e = some z) (hk2 : k ≤ 16777216) :
    KEv P ⟨dst, .buildSlice t 1 #[(0, x)], ty, pos, af, g⟩ σ kn (.osl σ.length 0 1 k 1 true) (σ ++ [⟨ds.map .d, 0⟩]) 3 := ev_op fun env he => by
  have e1 := evK_evalX he hx
  unfold evalOp
  rw [litOp_buildSlice]
  have h3 : splice (zeroRow z k) 0 (ds.map XV.d) = ds.map XV.d := by
    simp [splice, zeroRow, hk]
  simp [e1, opBuildSlice, ht, hs, hz, fillX, cellsX, zeroRow_len, hk, h3, hk2]

section
variable {n : Nat} {ops : Array Oper} {l : List Oper} {R : List Nat → List VObj → Kn → Prop}
theorem KT.appK {t e : TypeId} {x y : Operand} {k : Nat} {sx : XV} {cells vs : List XV} {id : Nat} (hg : guardK ops kn ⟨dst, .call ⟨.builtin .append, #[x, y], #[t, t]⟩, ty, pos, af, g⟩ = some true) (hd : dstOk n dst = true)
    (hx : evK kn x = some sx) (hy : evK kn y = some (.osl id 0 1 k 1 true)) (hown : OwnK k σ sx cells) (hid : σ[id]? = some ⟨vs, 0⟩) (hvs : vs.length = k) (h1v : vs.all oneX = true) (hlen : cells.length < 1073741823)
    (ht : P.underlying t = some (.slice e)) (hs : sizeT P e = some k) (hb : bytesT P e ≤ 65536) (hz : (zeroT P e).map (·.cells.size) = some k) (hk : 0 < k)
    (h : ∀ σ' x', OwnK k σ' x' (cells ++ vs) → (∀ j, idX sx ≠ some j → j < σ.length → σ'[j]? = σ[j]?) → (∃ j, idX x' = some j ∧ σ.length ≤ j) → KT P n ops l σ' (extK dst x' kn) (fun fls τ k => R (2 :: fls) τ k)) :
    KT P n ops (⟨dst, .call ⟨.builtin .append, #[x, y], #[t, t]⟩, ty, pos, af, g⟩ :: l) σ kn R := by
  have hsrc : srcCells σ k (.osl id 0 1 k 1 true) = some (vs, 1, 1) := by
    simp [srcCells, hid, hvs]
    rw [List.take_of_length_le (by omega)]
  cases hown with
  | nil =>
    refine KT.step hg hd (x := .osl σ.length 0 1 k 1 false) (σ' := σ ++ [⟨vs, 0⟩]) (fl := 2) (ev_op fun env he => ?_) (h _ _ (.sl (by simp) (by simp [hvs])) (fun j _ hj => by rw [List.getElem?_append_left hj]) ⟨_, rfl, Nat.le_refl _⟩)
    have e1 := evK_evalX he hx
    have e2 := evK_evalX he hy
    unfold evalOp
    rw [litOp_none (x := y) (by simp [Op.operands, Call.operands]) (by rw [e2]; rfl)]
    simp [e1, e2, opAppend, ht, hs, hsrc, h1v, growTo, hb, hz]
  | @sl oid m cells ho hn =>
    have hm : m < 1073741823 := by
      have : m * 1 ≤ m * k := Nat.mul_le_mul_left _ hk
      omega
    refine KT.step hg hd (x := .osl σ.length 0 (m + 1) k (m + 1) false) (σ' := (σ.set oid ⟨cells, 2⟩) ++ [⟨cells ++ vs, 0⟩]) (fl := 2) (ev_op fun env he => ?_)
      (h _ _ (.sl (by rw [List.getElem?_append_right (by simp)]; simp) (by simp [hn, hvs, Nat.add_mul])) (fun j hj hlt => by
        rw [List.getElem?_append_left (by simpa using hlt), List.getElem?_set]
        rw [if_neg (fun e => hj (by rw [e]; rfl))]) ⟨_, rfl, Nat.le_refl _⟩)
    have e1 := evK_evalX he hx
    have e2 := evK_evalX he hy
    unfold evalOp
    rw [litOp_none (x := x) (by simp [Op.operands, Call.operands]) (by rw [e1]; rfl)]
    have h3 : m + 1 ≤ 1073741824 := by omega
    have h4 : ¬ m + 1 ≤ m := by omega
    simp [e1, e2, opAppend, ht, hs, hsrc, h1v, ho, hb, hz, h3, h4, hn]

theorem KT.storeG {x y : Operand} {t : TypeId} {id off : Nat} {cells : List XV} {v : XV} (hg : guardK ops kn ⟨dst, .store t x y, ty, pos, af, g⟩ = some true) (hd : dstOk n dst = true) (hx : evK kn x = some (.optr id off)) (hy : evK kn y = some v)
    (ho : σ[id]? = some ⟨cells, 0⟩) (hof : off < cells.length) (hc : cellsX v = [v]) (h1 : oneX v = true) (hs : sizeT P t = some 1)
    (h : ∀ σ', σ'.length = σ.length → σ'[id]? = some ⟨cells.set off v, 0⟩ → (∀ j, j ≠ id → σ'[j]? = σ[j]?) → KT P n ops l σ' (extK dst undefX kn) (fun fls τ k => R (2 :: fls) τ k)) :
    KT P n ops (⟨dst, .store t x y, ty, pos, af, g⟩ :: l) σ kn R := by
  refine KT.step hg hd (K.storeO hx hy ho hof hc h1 hs) (h _ (by simp) ?_ fun j hj => ?_)
  · rw [List.getElem?_set, if_pos rfl, if_pos (List.getElem?_eq_some_iff.1 ho).1]
  · rw [List.getElem?_set, if_neg (fun e => hj e.symm)]
end

theorem K.lenO {x : Operand} {t e : TypeId} {id off len k lo : Nat} {ex : Bool} (hx : evK kn x = some (.osl id off len k lo ex)) (ht : P.underlying t = some (.slice e)) :
    KEv P ⟨dst, .call ⟨.builtin .len, #[x], #[t]⟩, ty, pos, af, g⟩ σ kn (.d (DI len)) σ 0 := ev_op fun env he => by
  have e1 := evK_evalX he hx
  unfold evalOp
  rw [litOp_none (x := x) (by simp [Op.operands, Call.operands]) (by rw [e1]; rfl)]
  simp [e1, opLen, isSliceT, ht]
end

end Go.Vm

end
section
/-
  Nets, without a program: what is reachable, breadth first, with words.
-/
namespace Go.Nt

/-- A node: its marking, the transition and the node by which it was found, its word. -/
abbrev Ent := List Int × Nat × Nat × List Nat

def marks (fs : List Ent) : List (List Int) := fs.map (·.1)

theorem marks_len (fs : List Ent) : (marks fs).length = fs.length := by simp [marks]
theorem marks_append (a b : List Ent) : marks (a ++ b) = marks a ++ marks b := by simp [marks]

/-- Where a marking stands. -/
def place : List (List Int) → List Int → Nat
  | [], _ => 0
  | a :: l, m => if a = m then 0 else place l m + 1

section
variable (nx : List Int → Nat → Option (List Int)) (T L : Nat)

/-- A marking that is found. -/
def addE (fs : List Ent) (m : List Int) (t a : Nat) (w : List Nat) : List Ent := if m ∈ marks fs then fs else fs ++ [(m, t, a, w ++ [t])]
def stepE (fs : List Ent) (e : Ent) (a t : Nat) : List Ent :=
  match nx e.1 t with
  | none => fs
  | some m => addE fs m t a e.2.2.2
/-- The firings of node a. -/
def rowE (fs : List Ent) (e : Ent) (a : Nat) : Nat → List Ent
  | 0 => fs
  | t + 1 => stepE nx (rowE fs e a t) e a t
theorem stepE_grow (fs : List Ent) (e : Ent) (a t : Nat) : ∃ l, stepE nx fs e a t = fs ++ l := by
  unfold stepE
  split
  · exact ⟨[], by simp⟩
  · unfold addE
    split
    · exact ⟨[], by simp⟩
    · exact ⟨_, rfl⟩
theorem rowE_grow (fs : List Ent) (e : Ent) (a : Nat) : ∀ t, ∃ l, rowE nx fs e a t = fs ++ l
  | 0 => ⟨[], by simp [rowE]⟩
  | t + 1 => by
    obtain ⟨l, h⟩ := rowE_grow fs e a t
    obtain ⟨l2, h2⟩ := stepE_grow nx (rowE nx fs e a t) e a t
    exact ⟨l ++ l2, by rw [rowE, h2, h, List.append_assoc]⟩
theorem rowE_get (fs : List Ent) (e : Ent) (a : Nat) {t i : Nat} {x : Ent} (h : fs[i]? = some x) : (rowE nx fs e a t)[i]? = some x := by
  obtain ⟨l, h2⟩ := rowE_grow nx fs e a t
  rw [h2, List.getElem?_append_left (List.getElem?_eq_some_iff.1 h).1]; exact h
theorem stepE_len (fs : List Ent) (e : Ent) (a t : Nat) : (stepE nx fs e a t).length ≤ fs.length + 1 := by
  unfold stepE addE
  split
  · omega
  · split
    · omega
    · simp
theorem rowE_len (fs : List Ent) (e : Ent) (a : Nat) : ∀ t, (rowE nx fs e a t).length ≤ fs.length + t
  | 0 => by simp [rowE]
  | t + 1 => by
    have := rowE_len fs e a t
    have := stepE_len nx (rowE nx fs e a t) e a t
    rw [rowE]; omega

/-- What holds of the nodes that are found. -/
structure InvE (n : Nat) (s0 : List Int) (fs : List Ent) : Prop where
  nd : (marks fs).Nodup
  hd : fs[0]? = some (s0, 0, 0, [])
  ok : ∀ (i : Nat) (e : Ent), fs[i]? = some e → e.1.length = n ∧ ∀ x ∈ e.1, 0 ≤ x ∧ x ≤ 5 + 3 * (i : Int)
  ch : ∀ (i : Nat) (e : Ent), fs[i]? = some e → 0 < i → e.2.2.1 < i ∧ e.2.1 < T ∧ ∃ p, fs[e.2.2.1]? = some p ∧ nx p.1 e.2.1 = some e.1 ∧ e.2.2.2 = p.2.2.2 ++ [e.2.1]

variable {nx T L} {n : Nat} {s0 : List Int}

theorem InvE.start (h1 : s0.length = n) (h2 : ∀ x ∈ s0, 0 ≤ x ∧ x ≤ 5) : InvE nx T n s0 [(s0, 0, 0, [])] := by
  refine ⟨by simp [marks], rfl, fun i e h => ?_, fun i e h hi => ?_⟩
  · match i with
    | 0 => simp at h; subst h; exact ⟨h1, fun x hx => by have := h2 x hx; omega⟩
    | i + 1 => simp at h
  · match i with
    | 0 => omega
    | i + 1 => simp at h

/-- Firing keeps markings markings. -/
def NxOk (nx : List Int → Nat → Option (List Int)) (T n : Nat) : Prop := ∀ (m : List Int) (t : Nat) (m' : List Int) (b : Int), t < T → m.length = n → b ≤ 1000000000 → (∀ x ∈ m, 0 ≤ x ∧ x ≤ b) → nx m t = some m' → m'.length = n ∧ ∀ x ∈ m', 0 ≤ x ∧ x ≤ b + 3

theorem InvE.step (hN : NxOk nx T n) {fs : List Ent} (h : InvE nx T n s0 fs) {a t : Nat} {e : Ent} (he : fs[a]? = some e) (ht : t < T) (hl : fs.length ≤ 100000000) : InvE nx T n s0 (stepE nx fs e a t) := by
  unfold stepE
  split
  · exact h
  · rename_i m hm
    unfold addE
    split
    · exact h
    · rename_i hno
      have hal := (List.getElem?_eq_some_iff.1 he).1
      have hpos : 0 < fs.length := (List.getElem?_eq_some_iff.1 h.hd).1
      obtain ⟨o1, o2⟩ := h.ok a e he
      obtain ⟨p1, p2⟩ := hN e.1 t m (5 + 3 * (a : Int)) ht o1 (by omega) o2 hm
      refine ⟨?_, ?_, fun i x hx => ?_, fun i x hx hi => ?_⟩
      · rw [marks_append]
        refine List.nodup_append.2 ⟨h.nd, by simp [marks], fun x hx y hy => ?_⟩
        simp [marks] at hy
        rintro rfl
        exact hno (by rw [← hy]; exact hx)
      · rw [List.getElem?_append_left hpos]; exact h.hd
      · by_cases hlt : i < fs.length
        · rw [List.getElem?_append_left hlt] at hx; exact h.ok i x hx
        · rw [List.getElem?_append_right (by omega)] at hx
          have : i - fs.length = 0 := by
            by_cases h0 : i - fs.length = 0
            · exact h0
            · rw [List.getElem?_eq_none (by simp; omega)] at hx; cases hx
          rw [this] at hx; simp at hx; subst hx
          refine ⟨p1, fun x hx => ?_⟩
          have := p2 x hx
          omega
      · by_cases hlt : i < fs.length
        · rw [List.getElem?_append_left hlt] at hx
          obtain ⟨q1, q2, p, q3, q4, q5⟩ := h.ch i x hx hi
          exact ⟨q1, q2, p, by rw [List.getElem?_append_left (by omega)]; exact q3, q4, q5⟩
        · rw [List.getElem?_append_right (by omega)] at hx
          have : i - fs.length = 0 := by
            by_cases h0 : i - fs.length = 0
            · exact h0
            · rw [List.getElem?_eq_none (by simp; omega)] at hx; cases hx
          rw [this] at hx; simp at hx; subst hx
          exact ⟨by simp only; omega, ht, e, by simp only; rw [List.getElem?_append_left hal]; exact he, hm, rfl⟩

theorem InvE.row (hN : NxOk nx T n) {fs : List Ent} (h : InvE nx T n s0 fs) {a : Nat} {e : Ent} (he : fs[a]? = some e) (hl : fs.length + T ≤ 100000000) : ∀ t, t ≤ T → InvE nx T n s0 (rowE nx fs e a t)
  | 0, _ => h
  | t + 1, ht => by
    have := rowE_len nx fs e a t
    exact (InvE.row hN h he hl t (by omega)).step hN (rowE_get nx fs e a he) (by omega) (by omega)

/-- All that is fired at m before t is found. -/
def Closed (nx : List Int → Nat → Option (List Int)) (fs : List Ent) (m : List Int) (T : Nat) : Prop := ∀ t m', t < T → nx m t = some m' → m' ∈ marks fs

theorem Closed.grow {fs : List Ent} {m : List Int} {t : Nat} (h : Closed nx fs m t) (l : List Ent) : Closed nx (fs ++ l) m t := fun u m' hu hm => by
  rw [marks_append]; exact List.mem_append.2 (.inl (h u m' hu hm))

end
end Go.Nt

end
section
/-
  Controllers, without a program: words by length and letter by letter; the states that words lead to, each with its first word.
-/
namespace Go.Sc

/-- The number of a word: those of fewer letters come first, those of equal length letter by letter. -/
def codeF (A : Nat) (a : Nat) (w : List Nat) : Nat := w.foldl (fun c i => c * A + i + 1) a
def code (A : Nat) (w : List Nat) : Nat := codeF A 0 w
def OkW (A : Nat) (w : List Nat) : Prop := ∀ i ∈ w, i < A

theorem code_nil (A : Nat) : code A [] = 0 := rfl
theorem code_snoc (A : Nat) (w : List Nat) (i : Nat) : code A (w ++ [i]) = code A w * A + i + 1 := by
  unfold code codeF; rw [List.foldl_append]; rfl
theorem codeF_cons (A a i : Nat) (w : List Nat) : codeF A a (i :: w) = codeF A (a * A + i + 1) w := rfl
theorem codeF_append (A a : Nat) (u v : List Nat) : codeF A a (u ++ v) = codeF A (codeF A a u) v := by
  unfold codeF; rw [List.foldl_append]
theorem OkW.nil {A : Nat} : OkW A [] := fun _ h => by cases h
theorem OkW.snoc {A : Nat} {w : List Nat} {i : Nat} (h : OkW A w) (hi : i < A) : OkW A (w ++ [i]) := fun j hj => by
  rcases List.mem_append.1 hj with h' | h'
  · exact h j h'
  · rw [List.mem_singleton.1 h']; exact hi
theorem OkW.init {A : Nat} {w : List Nat} {i : Nat} (h : OkW A (w ++ [i])) : OkW A w ∧ i < A := ⟨fun j hj => h j (List.mem_append.2 (.inl hj)), h i (List.mem_append.2 (.inr (.head _)))⟩

theorem step_lt {A c d i j : Nat} (h : c < d) (hi : i < A) : c * A + i + 1 < d * A + j + 1 := by
  have h1 : (c + 1) * A ≤ d * A := Nat.mul_le_mul_right A h
  have h2 : (c + 1) * A = c * A + A := Nat.succ_mul c A
  omega
theorem step_le {A c d i j : Nat} (h : c ≤ d) (hi : i < A) (hij : i ≤ j) : c * A + i + 1 ≤ d * A + j + 1 := by
  rcases Nat.lt_or_eq_of_le h with h | h
  · exact Nat.le_of_lt (step_lt h hi)
  · subst h; omega

/-- Of words of equal length. -/
theorem codeF_lt {A : Nat} : ∀ {u v : List Nat} {a b : Nat}, a < b → u.length = v.length → OkW A u → codeF A a u < codeF A b v
  | [], [], a, b, h, _, _ => h
  | i :: u, j :: v, a, b, h, hl, hu => by
    rw [codeF_cons, codeF_cons]
    exact codeF_lt (step_lt h (hu i (.head _))) (by simpa using hl) fun k hk => hu k (.tail _ hk)
  | [], _ :: _, _, _, _, hl, _ => by simp at hl
  | _ :: _, [], _, _, _, hl, _ => by simp at hl
theorem len_lt {A : Nat} {u v : List Nat} (hu : OkW A u) (_ : OkW A v) (h : u.length < v.length) : code A u < code A v := by
  have e : v = v.take (v.length - u.length) ++ v.drop (v.length - u.length) := (List.take_append_drop _ _).symm
  unfold code
  rw [e, codeF_append]
  refine codeF_lt ?_ (by simp; omega) hu
  have hne : v.take (v.length - u.length) ≠ [] := by
    intro e
    have := congrArg List.length e
    simp at this; omega
  generalize hw : v.take (v.length - u.length) = w at hne
  rcases List.eq_nil_or_concat w with h0 | ⟨w', i, h0⟩
  · exact absurd h0 hne
  · rw [h0, List.concat_eq_append]
    show 0 < code A (w' ++ [i])
    rw [code_snoc]; omega
theorem len_le {A : Nat} {u v : List Nat} (hu : OkW A u) (hv : OkW A v) (h : code A u ≤ code A v) : u.length ≤ v.length := by
  by_cases hl : v.length < u.length
  · have := len_lt hv hu hl; omega
  · omega
theorem codeF_inj {A : Nat} : ∀ {u v : List Nat} {a : Nat}, u.length = v.length → OkW A u → OkW A v → codeF A a u = codeF A a v → u = v
  | [], [], _, _, _, _, _ => rfl
  | i :: u, j :: v, a, hl, hu, hv, h => by
    rw [codeF_cons, codeF_cons] at h
    have hl' : u.length = v.length := by simpa using hl
    rcases Nat.lt_trichotomy i j with hij | hij | hij
    · have := codeF_lt (A := A) (a := a * A + i + 1) (b := a * A + j + 1) (by omega) hl' (fun k hk => hu k (.tail _ hk))
      omega
    · subst hij
      rw [codeF_inj hl' (fun k hk => hu k (.tail _ hk)) (fun k hk => hv k (.tail _ hk)) h]
    · have := codeF_lt (A := A) (a := a * A + j + 1) (b := a * A + i + 1) (by omega) hl'.symm (fun k hk => hv k (.tail _ hk))
      omega
  | [], _ :: _, _, hl, _, _, _ => by simp at hl
  | _ :: _, [], _, hl, _, _, _ => by simp at hl
theorem code_inj {A : Nat} {u v : List Nat} (hu : OkW A u) (hv : OkW A v) (h : code A u = code A v) : u = v :=
  codeF_inj (Nat.le_antisymm (len_le hu hv (Nat.le_of_eq h)) (len_le hv hu (Nat.le_of_eq h.symm))) hu hv h

section
variable {S : Type} (nx : S → Nat → S) (A : Nat)

/-- Where a word leads. -/
def runW (s : S) (w : List Nat) : S := w.foldl nx s
theorem runW_snoc (s : S) (w : List Nat) (i : Nat) : runW nx s (w ++ [i]) = nx (runW nx s w) i := by
  unfold runW; rw [List.foldl_append]; rfl
def addF [DecidableEq S] (fs : List (S × List Nat)) (s : S) (w : List Nat) : List (S × List Nat) := if s ∈ fs.map Prod.fst then fs else fs ++ [(s, w)]
def rowF [DecidableEq S] (fs : List (S × List Nat)) (s : S) (w : List Nat) (i : Nat) : List (S × List Nat) := (List.range i).foldl (fun fs j => addF fs (nx s j) (w ++ [j])) fs
theorem rowF_succ [DecidableEq S] (fs : List (S × List Nat)) (s : S) (w : List Nat) (i : Nat) : rowF nx fs s w (i + 1) = addF (rowF nx fs s w i) (nx s i) (w ++ [i]) := by
  unfold rowF; rw [List.range_succ, List.foldl_append]; rfl
theorem addF_pre [DecidableEq S] (fs : List (S × List Nat)) (s : S) (w : List Nat) : fs <+: addF fs s w := by
  unfold addF; split
  · exact List.prefix_refl _
  · exact List.prefix_append _ _
theorem rowF_pre [DecidableEq S] (fs : List (S × List Nat)) (s : S) (w : List Nat) : ∀ i, fs <+: rowF nx fs s w i
  | 0 => List.prefix_refl _
  | i + 1 => by rw [rowF_succ]; exact (rowF_pre fs s w i).trans (addF_pre _ _ _)

/-- What is known when letter i of the k-th state is looked at. -/
structure Inv (s0 : S) (k i : Nat) (fs : List (S × List Nat)) : Prop where
  fst : fs[0]? = some (s0, [])
  nd : (fs.map Prod.fst).Nodup
  inc : fs.Pairwise fun p q => code A p.2 < code A q.2
  bd : ∀ p, fs[k]? = some p → ∀ q ∈ fs, code A q.2 < code A p.2 * A + i + 1
  cov : ∀ (k' j : Nat) (p : S × List Nat), fs[k']? = some p → j < A → (k' < k ∨ k' = k ∧ j < i) → ∃ q ∈ fs, q.1 = nx p.1 j ∧ code A q.2 ≤ code A p.2 * A + j + 1
  run : ∀ p ∈ fs, runW nx s0 p.2 = p.1 ∧ OkW A p.2

variable {nx A}
theorem Inv.start (s0 : S) : Inv nx A s0 0 0 [(s0, [])] where
  fst := rfl
  nd := by simp
  inc := by simp
  bd p hp q hq := by simp at hp hq; subst hp hq; show code A [] < code A [] * A + 0 + 1; rw [code_nil]; omega
  cov k' j p hp hj h := by omega
  run p hp := by simp at hp; subst hp; exact ⟨rfl, .nil⟩
theorem Inv.letter [DecidableEq S] {s0 : S} {k i : Nat} {fs : List (S × List Nat)} {s : S} {w : List Nat} (h : Inv nx A s0 k i fs) (hk : fs[k]? = some (s, w)) (hi : i < A) : Inv nx A s0 k (i + 1) (addF fs (nx s i) (w ++ [i])) := by
  have hw := h.run _ (List.mem_of_getElem? hk)
  have hb := h.bd _ hk
  unfold addF
  split
  · rename_i hm
    refine ⟨h.fst, h.nd, h.inc, fun p hp q hq => ?_, fun k' j p hp hj hc => ?_, h.run⟩
    · rw [hk] at hp; cases hp; have := hb q hq; simp only at this ⊢; omega
    · by_cases hlast : k' = k ∧ j = i
      · obtain ⟨rfl, rfl⟩ := hlast
        rw [hk] at hp; cases hp
        obtain ⟨q, hq, e⟩ := List.mem_map.1 hm
        exact ⟨q, hq, e, Nat.le_of_lt (hb q hq)⟩
      · exact h.cov k' j p hp hj (by omega)
  · rename_i hm
    have hlt : k < fs.length := (List.getElem?_eq_some_iff.1 hk).1
    refine ⟨?_, ?_, ?_, fun p hp q hq => ?_, fun k' j p hp hj hc => ?_, fun p hp => ?_⟩
    · rw [List.getElem?_append_left (by omega)]; exact h.fst
    · rw [List.map_append, List.nodup_append]
      refine ⟨h.nd, by simp, fun a ha b hb' => ?_⟩
      simp at hb'; subst hb'
      intro e; subst e; exact hm ha
    · rw [List.pairwise_append]
      refine ⟨h.inc, by simp, fun p hp q hq => ?_⟩
      simp at hq; subst hq
      rw [code_snoc]; exact hb p hp
    · rw [List.getElem?_append_left hlt, hk] at hp; cases hp
      rcases List.mem_append.1 hq with hq | hq
      · have := hb q hq; simp only at this ⊢; omega
      · simp at hq; subst hq; rw [code_snoc]; simp only; omega
    · by_cases hlast : k' = k ∧ j = i
      · obtain ⟨rfl, rfl⟩ := hlast
        rw [List.getElem?_append_left hlt, hk] at hp; cases hp
        exact ⟨(nx s j, w ++ [j]), by simp, rfl, by rw [code_snoc]; exact Nat.le_refl _⟩
      · rw [List.getElem?_append_left (by omega)] at hp
        obtain ⟨q, hq, e1, e2⟩ := h.cov k' j p hp hj (by omega)
        exact ⟨q, List.mem_append.2 (.inl hq), e1, e2⟩
    · rcases List.mem_append.1 hp with hp | hp
      · exact h.run p hp
      · simp at hp; subst hp
        exact ⟨by rw [runW_snoc, hw.1], hw.2.snoc hi⟩
theorem Inv.row [DecidableEq S] {s0 : S} {k : Nat} {fs : List (S × List Nat)} {s : S} {w : List Nat} (h : Inv nx A s0 k 0 fs) (hk : fs[k]? = some (s, w)) : ∀ i, i ≤ A → Inv nx A s0 k i (rowF nx fs s w i)
  | 0, _ => h
  | i + 1, hi => by
    rw [rowF_succ]
    refine (h.row hk i (by omega)).letter ?_ hi
    obtain ⟨t, ht⟩ := rowF_pre nx fs s w i
    rw [← ht, List.getElem?_append_left (List.getElem?_eq_some_iff.1 hk).1]; exact hk
theorem Inv.next {s0 : S} {k : Nat} {fs : List (S × List Nat)} (h : Inv nx A s0 k A fs) (hk : k < fs.length) : Inv nx A s0 (k + 1) 0 fs := by
  refine ⟨h.fst, h.nd, h.inc, fun p hp q hq => ?_, fun k' j p hp hj hc => ?_, h.run⟩
  · have h1 := h.bd _ (List.getElem?_eq_getElem hk) q hq
    have hlt : k + 1 < fs.length := (List.getElem?_eq_some_iff.1 hp).1
    have h2 := List.pairwise_iff_getElem.1 h.inc k (k + 1) hk hlt (by omega)
    have e : fs[k + 1] = p := (List.getElem?_eq_some_iff.1 hp).2
    rw [e] at h2
    have h3 : (code A fs[k].2 + 1) * A ≤ code A p.2 * A := Nat.mul_le_mul_right A h2
    rw [Nat.succ_mul] at h3
    omega
  · exact h.cov k' j p hp hj (by omega)

/-- All is found. -/
structure Found (nx : S → Nat → S) (A : Nat) (s0 : S) (fs : List (S × List Nat)) : Prop where
  fst : fs[0]? = some (s0, [])
  nd : (fs.map Prod.fst).Nodup
  inc : fs.Pairwise fun p q => code A p.2 < code A q.2
  run : ∀ p ∈ fs, runW nx s0 p.2 = p.1 ∧ OkW A p.2
  all : ∀ w, OkW A w → ∃ q ∈ fs, q.1 = runW nx s0 w ∧ code A q.2 ≤ code A w
theorem Inv.found {s0 : S} {k : Nat} {fs : List (S × List Nat)} (h : Inv nx A s0 k 0 fs) (hk : fs.length ≤ k) : Found nx A s0 fs := by
  refine ⟨h.fst, h.nd, h.inc, h.run, fun w => ?_⟩
  have key : ∀ (n : Nat) (w : List Nat), w.length = n → OkW A w → ∃ q ∈ fs, q.1 = runW nx s0 w ∧ code A q.2 ≤ code A w := by
    intro n
    induction n with
    | zero =>
      intro w hl _
      obtain rfl := List.length_eq_zero_iff.1 hl
      exact ⟨(s0, []), List.mem_of_getElem? h.fst, rfl, Nat.le_refl _⟩
    | succ n ih =>
      intro w hl hw
      rcases List.eq_nil_or_concat w with h0 | ⟨u, i, h0⟩
      · subst h0; simp at hl
      · rw [List.concat_eq_append] at h0; subst h0
        obtain ⟨hu, hi⟩ := hw.init
        obtain ⟨q, hq, e1, e2⟩ := ih u (by simpa using hl) hu
        obtain ⟨k', hk'⟩ := List.getElem?_of_mem hq
        obtain ⟨r, hr, e3, e4⟩ := h.cov k' i q hk' hi (.inl (by have := (List.getElem?_eq_some_iff.1 hk').1; omega))
        refine ⟨r, hr, by rw [e3, e1, runW_snoc], ?_⟩
        rw [code_snoc]
        exact Nat.le_trans e4 (step_le e2 hi (Nat.le_refl _))
  exact key w.length w rfl

/-- The word of a state is the first of those that lead to it. -/
theorem Found.least {s0 : S} {fs : List (S × List Nat)} (h : Found nx A s0 fs) {p : S × List Nat} (hp : p ∈ fs) {w : List Nat} (hw : OkW A w) (hr : runW nx s0 w = p.1) : code A p.2 ≤ code A w := by
  obtain ⟨q, hq, e1, e2⟩ := h.all w hw
  have : p = q := by
    obtain ⟨i, hi⟩ := List.getElem?_of_mem hp
    obtain ⟨j, hj⟩ := List.getElem?_of_mem hq
    have h1 : (fs.map Prod.fst)[i]? = some p.1 := by simp [hi]
    have h2 : (fs.map Prod.fst)[j]? = some p.1 := by simp [hj, e1, hr]
    have hij : i = j := (List.getElem?_inj (List.getElem?_eq_some_iff.1 h1).1 h.nd).1 (h1.trans h2.symm)
    subst hij
    rw [hi] at hj; exact Option.some.inj hj
  rw [this]; exact e2
end
end Go.Sc

end
section
/-
  Controllers, without a program: the first word after which something is so; two searches that find it.
-/
namespace Go.Sc
section
variable {S : Type} {nx : S → Nat → S} {A : Nat}

/-- r is the first word whose last letter is D's, of those that lead on from s0. -/
def FirstD (nx : S → Nat → S) (A : Nat) (s0 : S) (D : S → Nat → Prop) : Option (List Nat) → Prop
  | none => ∀ w i, OkW A w → i < A → ¬ D (runW nx s0 w) i
  | some v => ∃ w i, v = w ++ [i] ∧ OkW A w ∧ i < A ∧ D (runW nx s0 w) i ∧ ∀ w' i', OkW A w' → i' < A → D (runW nx s0 w') i' → code A v ≤ code A (w' ++ [i'])
theorem FirstD.ok {s0 : S} {D : S → Nat → Prop} {v : List Nat} (h : FirstD nx A s0 D (some v)) : OkW A v := by
  obtain ⟨w, i, rfl, h1, h2, _⟩ := h; exact h1.snoc h2
theorem FirstD.uniq {s0 : S} {D : S → Nat → Prop} {r r' : Option (List Nat)} (h : FirstD nx A s0 D r) (h' : FirstD nx A s0 D r') : r = r' := by
  cases r with
  | none => cases r' with
    | none => rfl
    | some v => obtain ⟨w, i, _, h1, h2, h3, _⟩ := h'; exact absurd h3 (h w i h1 h2)
  | some v => cases r' with
    | none => obtain ⟨w, i, _, h1, h2, h3, _⟩ := h; exact absurd h3 (h' w i h1 h2)
    | some v' =>
      have o1 := h.ok
      have o2 := h'.ok
      obtain ⟨w, i, e, h1, h2, h3, h4⟩ := h
      obtain ⟨w', i', e', h1', h2', h3', h4'⟩ := h'
      have a := h4 w' i' h1' h2' h3'
      have b := h4' w i h1 h2 h3
      rw [← e'] at a
      rw [← e] at b
      rw [code_inj o1 o2 (Nat.le_antisymm a b)]
/-- The same in another system. -/
theorem FirstD.map {S' : Type} {nx' : S' → Nat → S'} {s0 : S} {s0' : S'} {D : S → Nat → Prop} {D' : S' → Nat → Prop} (hD : ∀ w i, OkW A w → i < A → (D (runW nx s0 w) i ↔ D' (runW nx' s0' w) i)) {r : Option (List Nat)} (h : FirstD nx A s0 D r) : FirstD nx' A s0' D' r := by
  cases r with
  | none => exact fun w i h1 h2 h3 => h w i h1 h2 ((hD w i h1 h2).2 h3)
  | some v =>
    obtain ⟨w, i, e, h1, h2, h3, h4⟩ := h
    exact ⟨w, i, e, h1, h2, (hD w i h1 h2).1 h3, fun w' i' a b c => h4 w' i' a b ((hD w' i' a b).2 c)⟩

/-- Looking through what was found: nothing so far. -/
def NoD (D : S → Nat → Prop) (A : Nat) (fs : List (S × List Nat)) (k i : Nat) : Prop := ∀ (k' j : Nat) (p : S × List Nat), fs[k']? = some p → j < A → (k' < k ∨ k' = k ∧ j < i) → ¬ D p.1 j
theorem NoD.zero {D : S → Nat → Prop} {fs : List (S × List Nat)} : NoD D A fs 0 0 := fun _ _ _ _ _ h => by omega
theorem NoD.letter {D : S → Nat → Prop} {fs : List (S × List Nat)} {k i : Nat} {p : S × List Nat} (h : NoD D A fs k i) (hk : fs[k]? = some p) (hd : ¬ D p.1 i) : NoD D A fs k (i + 1) := fun k' j q hq hj hc => by
  by_cases e : k' = k ∧ j = i
  · obtain ⟨rfl, rfl⟩ := e; rw [hk] at hq; cases hq; exact hd
  · exact h k' j q hq hj (by omega)
theorem NoD.next {D : S → Nat → Prop} {fs : List (S × List Nat)} {k i : Nat} (h : NoD D A fs k i) (hi : A ≤ i) : NoD D A fs (k + 1) 0 := fun k' j q hq hj hc => h k' j q hq hj (by omega)

/-- The reference's search: the first state is not marked. -/
def addR [DecidableEq S] (fs : List (S × List Nat)) (s : S) (w : List Nat) : List (S × List Nat) := if s ∈ (fs.drop 1).map Prod.fst then fs else fs ++ [(s, w)]
variable (nx A)
structure InvR (D : S → Nat → Prop) (s0 : S) (k i : Nat) (fs : List (S × List Nat)) : Prop where
  fst : fs[0]? = some (s0, [])
  nd : ((fs.drop 1).map Prod.fst).Nodup
  inc : fs.Pairwise fun p q => code A p.2 < code A q.2
  bd : ∀ p, fs[k]? = some p → ∀ q ∈ fs, code A q.2 < code A p.2 * A + i + 1
  cov : ∀ (k' j : Nat) (p : S × List Nat), fs[k']? = some p → j < A → (k' < k ∨ k' = k ∧ j < i) → ∃ q ∈ fs, q.1 = nx p.1 j ∧ code A q.2 ≤ code A p.2 * A + j + 1
  run : ∀ p ∈ fs, runW nx s0 p.2 = p.1 ∧ OkW A p.2
  non : NoD D A fs k i
variable {nx A}
theorem InvR.start (D : S → Nat → Prop) (s0 : S) : InvR nx A D s0 0 0 [(s0, [])] where
  fst := rfl
  nd := by simp
  inc := by simp
  bd p hp q hq := by simp at hp hq; subst hp hq; show code A [] < code A [] * A + 0 + 1; rw [code_nil]; omega
  cov k' j p hp hj h := by omega
  run p hp := by simp at hp; subst hp; exact ⟨rfl, .nil⟩
  non := .zero
theorem InvR.letter [DecidableEq S] {D : S → Nat → Prop} {s0 : S} {k i : Nat} {fs : List (S × List Nat)} {s : S} {w : List Nat} (h : InvR nx A D s0 k i fs) (hk : fs[k]? = some (s, w)) (hi : i < A) (hd : ¬ D s i) : InvR nx A D s0 k (i + 1) (addR fs (nx s i) (w ++ [i])) := by
  have hw := h.run _ (List.mem_of_getElem? hk)
  have hb := h.bd _ hk
  have hlt : k < fs.length := (List.getElem?_eq_some_iff.1 hk).1
  unfold addR
  split
  · rename_i hm
    refine ⟨h.fst, h.nd, h.inc, fun p hp q hq => ?_, fun k' j p hp hj hc => ?_, h.run, h.non.letter hk hd⟩
    · rw [hk] at hp; cases hp; have := hb q hq; simp only at this ⊢; omega
    · by_cases hlast : k' = k ∧ j = i
      · obtain ⟨rfl, rfl⟩ := hlast
        rw [hk] at hp; cases hp
        obtain ⟨q, hq, e⟩ := List.mem_map.1 hm
        have hq' := List.mem_of_mem_drop hq
        exact ⟨q, hq', e, Nat.le_of_lt (hb q hq')⟩
      · exact h.cov k' j p hp hj (by omega)
  · rename_i hm
    refine ⟨?_, ?_, ?_, fun p hp q hq => ?_, fun k' j p hp hj hc => ?_, fun p hp => ?_, fun k' j p hp hj hc => ?_⟩
    · rw [List.getElem?_append_left (by omega)]; exact h.fst
    · rw [List.drop_append_of_le_length (by omega), List.map_append, List.nodup_append]
      refine ⟨h.nd, by simp, fun a ha b hb' => ?_⟩
      simp at hb'; subst hb'
      intro e; subst e; exact hm ha
    · rw [List.pairwise_append]
      refine ⟨h.inc, by simp, fun p hp q hq => ?_⟩
      simp at hq; subst hq
      rw [code_snoc]; exact hb p hp
    · rw [List.getElem?_append_left hlt, hk] at hp; cases hp
      rcases List.mem_append.1 hq with hq | hq
      · have := hb q hq; simp only at this ⊢; omega
      · simp at hq; subst hq; rw [code_snoc]; simp only; omega
    · by_cases hlast : k' = k ∧ j = i
      · obtain ⟨rfl, rfl⟩ := hlast
        rw [List.getElem?_append_left hlt, hk] at hp; cases hp
        exact ⟨(nx s j, w ++ [j]), by simp, rfl, by rw [code_snoc]; exact Nat.le_refl _⟩
      · rw [List.getElem?_append_left (by omega)] at hp
        obtain ⟨q, hq, e1, e2⟩ := h.cov k' j p hp hj (by omega)
        exact ⟨q, List.mem_append.2 (.inl hq), e1, e2⟩
    · rcases List.mem_append.1 hp with hp | hp
      · exact h.run p hp
      · simp at hp; subst hp
        exact ⟨by rw [runW_snoc, hw.1], hw.2.snoc hi⟩
    · by_cases hlast : k' = k ∧ j = i
      · obtain ⟨rfl, rfl⟩ := hlast
        rw [List.getElem?_append_left hlt, hk] at hp; cases hp
        exact hd
      · rw [List.getElem?_append_left (by omega)] at hp
        exact h.non k' j p hp hj (by omega)
theorem InvR.next {D : S → Nat → Prop} {s0 : S} {k : Nat} {fs : List (S × List Nat)} (h : InvR nx A D s0 k A fs) (hk : k < fs.length) : InvR nx A D s0 (k + 1) 0 fs := by
  refine ⟨h.fst, h.nd, h.inc, fun p hp q hq => ?_, fun k' j p hp hj hc => ?_, h.run, h.non.next (Nat.le_refl _)⟩
  · have h1 := h.bd _ (List.getElem?_eq_getElem hk) q hq
    have hlt : k + 1 < fs.length := (List.getElem?_eq_some_iff.1 hp).1
    have h2 := List.pairwise_iff_getElem.1 h.inc k (k + 1) hk hlt (by omega)
    have e : fs[k + 1] = p := (List.getElem?_eq_some_iff.1 hp).2
    rw [e] at h2
    have h3 : (code A fs[k].2 + 1) * A ≤ code A p.2 * A := Nat.mul_le_mul_right A h2
    rw [Nat.succ_mul] at h3
    omega
  · exact h.cov k' j p hp hj (by omega)
/-- Nothing comes before what is looked at now. -/
theorem InvR.reach {D : S → Nat → Prop} {s0 : S} {k i : Nat} {fs : List (S × List Nat)} {s : S} {w : List Nat} (h : InvR nx A D s0 k i fs) (hk : fs[k]? = some (s, w)) (hi : i < A) : ∀ (n : Nat) (u : List Nat), u.length = n → OkW A u → ∀ j, j < A → code A (u ++ [j]) < code A (w ++ [i]) →
    ∃ k' q, fs[k']? = some q ∧ q.1 = runW nx s0 u ∧ code A q.2 ≤ code A u ∧ (k' < k ∨ k' = k ∧ j < i) := by
  have hcons : ∀ (k' : Nat) (q : S × List Nat) (j : Nat), fs[k']? = some q → j < A → code A q.2 * A + j + 1 < code A w * A + i + 1 → (k' < k ∨ k' = k ∧ j < i) := by
    intro k' q j hq hj hlt
    rcases Nat.lt_trichotomy k k' with h1 | h1 | h1
    · exfalso
      have h2 := List.pairwise_iff_getElem.1 h.inc k k' (List.getElem?_eq_some_iff.1 hk).1 (List.getElem?_eq_some_iff.1 hq).1 h1
      rw [(List.getElem?_eq_some_iff.1 hk).2, (List.getElem?_eq_some_iff.1 hq).2] at h2
      have := step_lt (j := j) h2 hi
      simp only at this; omega
    · subst h1; rw [hk] at hq; cases hq; simp only at hlt; exact .inr ⟨rfl, by omega⟩
    · exact .inl h1
  intro n
  induction n with
  | zero =>
    intro u hl hu j hj hlt
    obtain rfl := List.length_eq_zero_iff.1 hl
    exact ⟨0, (s0, []), h.fst, rfl, Nat.le_refl _, hcons 0 (s0, []) j h.fst hj (by rw [code_snoc, code_snoc] at hlt; exact hlt)⟩
  | succ n ih =>
    intro u hl hu j hj hlt
    rcases List.eq_nil_or_concat u with h0 | ⟨v, l, h0⟩
    · subst h0; simp at hl
    · rw [List.concat_eq_append] at h0; subst h0
      obtain ⟨hv, hl'⟩ := hu.init
      have hlt0 := hlt
      rw [code_snoc (i := j)] at hlt
      have h1 : code A (v ++ [l]) < code A (w ++ [i]) := by
        have : code A (v ++ [l]) ≤ code A (v ++ [l]) * A := Nat.le_mul_of_pos_right _ (by omega)
        omega
      obtain ⟨k', q, hq, e1, e2, hc⟩ := ih v (by simpa using hl) hv l hl' h1
      obtain ⟨r, hr, e3, e4⟩ := h.cov k' l q hq hl' hc
      obtain ⟨m, hm⟩ := List.getElem?_of_mem hr
      have e5 : code A r.2 ≤ code A (v ++ [l]) := by rw [code_snoc]; exact Nat.le_trans e4 (step_le e2 hl' (Nat.le_refl _))
      refine ⟨m, r, hm, by rw [e3, e1, runW_snoc], e5, hcons m r j hm hj ?_⟩
      rw [code_snoc (w := w)] at hlt
      exact Nat.lt_of_le_of_lt (step_le e5 hj (Nat.le_refl _)) hlt
theorem InvR.some {D : S → Nat → Prop} {s0 : S} {k i : Nat} {fs : List (S × List Nat)} {s : S} {w : List Nat} (h : InvR nx A D s0 k i fs) (hk : fs[k]? = some (s, w)) (hi : i < A) (hd : D s i) : FirstD nx A s0 D (some (w ++ [i])) := by
  have hp := h.run _ (List.mem_of_getElem? hk)
  refine ⟨w, i, rfl, hp.2, hi, by rw [hp.1]; exact hd, fun w' i' hw' hi' hd' => ?_⟩
  refine Nat.le_of_not_lt fun hlt => ?_
  obtain ⟨k', q, hq, e1, e2, hc⟩ := h.reach hk hi w'.length w' rfl hw' i' hi' hlt
  exact h.non k' i' q hq hi' hc (by rw [e1]; exact hd')
theorem InvR.none {D : S → Nat → Prop} {s0 : S} {k : Nat} {fs : List (S × List Nat)} (h : InvR nx A D s0 k 0 fs) (hk : fs.length ≤ k) : FirstD nx A s0 D none := by
  have key : ∀ (n : Nat) (w : List Nat), w.length = n → OkW A w → ∃ q ∈ fs, q.1 = runW nx s0 w := by
    intro n
    induction n with
    | zero =>
      intro w hl _
      obtain rfl := List.length_eq_zero_iff.1 hl
      exact ⟨(s0, []), List.mem_of_getElem? h.fst, rfl⟩
    | succ n ih =>
      intro w hl hw
      rcases List.eq_nil_or_concat w with h0 | ⟨u, i, h0⟩
      · subst h0; simp at hl
      · rw [List.concat_eq_append] at h0; subst h0
        obtain ⟨hu, hi⟩ := hw.init
        obtain ⟨q, hq, e1⟩ := ih u (by simpa using hl) hu
        obtain ⟨k', hk'⟩ := List.getElem?_of_mem hq
        obtain ⟨r, hr, e3, _⟩ := h.cov k' i q hk' hi (.inl (by have := (List.getElem?_eq_some_iff.1 hk').1; omega))
        exact ⟨r, hr, by rw [e3, e1, runW_snoc]⟩
  intro w i hw hi hd
  obtain ⟨q, hq, e1⟩ := key _ w rfl hw
  obtain ⟨k', hk'⟩ := List.getElem?_of_mem hq
  exact h.non k' i q hk' hi (.inl (by have := (List.getElem?_eq_some_iff.1 hk').1; omega)) (by rw [e1]; exact hd)
end
end Go.Sc

end
section
/-
  Controllers, without a program: machines that are valid.
-/
namespace Go.Sc
open Classical

/-- A machine. -/
structure VM (a : Int) (nx ou : List (List Int)) : Prop where
  a1 : 1 ≤ a
  a8 : a ≤ 8
  n1 : 1 ≤ nx.length
  n16 : nx.length ≤ 16
  oul : ou.length = nx.length
  nr : ∀ r ∈ nx, (r.length : Int) = a ∧ ∀ x ∈ r, 0 ≤ x ∧ x < nx.length
  or : ∀ r ∈ ou, (r.length : Int) = a ∧ ∀ x ∈ r, 0 ≤ x ∧ x ≤ 7
/-- Where a letter leads, and what it gives. -/
def nxF (nx : List (List Int)) (s i : Nat) : Nat := ((nx.getD s []).getD i 0).toNat
def ouF (ou : List (List Int)) (s i : Nat) : Int := (ou.getD s []).getD i 0
theorem VM.next {a : Int} {nx ou : List (List Int)} (h : VM a nx ou) {s i : Nat} (hs : s < nx.length) (hi : (i : Int) < a) : nxF nx s i < nx.length ∧ (nx.getD s []).getD i 0 = (nxF nx s i : Int) ∧ (nx.getD s []).length = a.toNat := by
  have e : nx.getD s [] = nx[s] := by simp [hs]
  obtain ⟨h1, h2⟩ := h.nr nx[s] (List.getElem_mem hs)
  have hi' : i < nx[s].length := by omega
  have e2 : (nx[s]).getD i 0 = nx[s][i] := by simp [hi']
  have h3 := h2 _ (List.getElem_mem hi')
  unfold nxF
  rw [e, e2]
  exact ⟨by omega, by omega, by omega⟩
theorem VM.out {a : Int} {nx ou : List (List Int)} (h : VM a nx ou) {s i : Nat} (hs : s < nx.length) (hi : (i : Int) < a) : 0 ≤ ouF ou s i ∧ ouF ou s i ≤ 7 ∧ (ou.getD s []).length = a.toNat := by
  have hs' : s < ou.length := by rw [h.oul]; exact hs
  have e : ou.getD s [] = ou[s] := by simp [hs']
  obtain ⟨h1, h2⟩ := h.or ou[s] (List.getElem_mem hs')
  have hi' : i < ou[s].length := by omega
  have e2 : (ou[s]).getD i 0 = ou[s][i] := by simp [hi']
  have h3 := h2 _ (List.getElem_mem hi')
  unfold ouF
  rw [e, e2]
  exact ⟨h3.1, h3.2, by omega⟩
end Go.Sc

end
section
/-
  VALUES WITHOUT ADDRESSES: statements whose order is open, where a call writes only such objects as the others do not read.
-/
namespace Go.Vm
open Go.RowKit

/-- All but some objects are as they were. -/
def KeepsZ (Z : Nat → Prop) (σ σ2 : List VObj) : Prop := ∀ (id : Nat) (ob : VObj), ¬ Z id → σ[id]? = some ob → ∃ ob', σ2[id]? = some ob' ∧ ob'.cells = ob.cells ∧ (ob'.mode < 2 ↔ ob.mode < 2)
theorem Keeps.z {Z : Nat → Prop} {σ σ2 : List VObj} (h : Keeps σ σ2) : KeepsZ Z σ σ2 := fun id ob _ ho => h id ob ho
theorem KeepsZ.refl {Z : Nat → Prop} (σ : List VObj) : KeepsZ Z σ σ := (Keeps.refl σ).z
theorem KeepsZ.trans {Z : Nat → Prop} {σ σ2 σ3 : List VObj} (h : KeepsZ Z σ σ2) (k : KeepsZ Z σ2 σ3) : KeepsZ Z σ σ3 := fun id ob hz ho => by
  obtain ⟨o2, a1, a2, a3⟩ := h id ob hz ho
  obtain ⟨o3, b1, b2, b3⟩ := k id o2 hz a1
  exact ⟨o3, b1, b2.trans a2, b3.trans a3⟩

def okPairZ (ops : Array Oper) (fl g : Nat → Nat) (i j : Nat) (o p : Oper) : Bool :=
  (match p.dst with
    | some d => (o.dst != some d) && (!(o.looksAt ops).contains d || ordB ops i j)
    | none => true) && (decide (fl j < 2) || fl i == 0 || (fl j == 3 && fl i == 1) || (g j == 2 && g i == 1) || ordB ops i j)
def okDrawZ (ops : Array Oper) (fl g : Nat → Nat) : Bool :=
  (List.range ops.size).all fun i => match ops[i]? with
    | none => true
    | some o => o.after.all (fun e => !bindsA e || e.on < i) && (List.range ops.size).all fun j => j == i || match ops[j]? with
      | none => true
      | some p => okPairZ ops fl g i j o p

structure StepsZ (P : Program) (n : Nat) (ops : Array Oper) (Z : Nat → Prop) (S : Nat → St) (X : Nat → XV) (F G : Nat → Nat) (i : Nat) (o : Oper) : Prop where
  st : Steps' P n ops S X F i o
  rd : G i = 1 → ∀ y ∈ o.op.operands, ∀ id off, evalX (S i).env y = .optr id off → ¬ Z id
  one : G i = 1 → F i = 1
  wr : G i = 2 → KeepsZ Z (S i).σ (S (i + 1)).σ

section
variable {P : Program} {ops : Array Oper}
theorem okDrawZ_edges {F G : Nat → Nat} (h : okDrawZ ops F G = true) {i : Nat} {o : Oper} (ho : ops[i]? = some o) : ∀ e ∈ o.after, bindsA e = true → e.on < i := by
  intro e he hb
  have hi := (Array.getElem?_eq_some_iff.1 ho).1
  have := List.all_eq_true.1 h i (by simpa using hi)
  simp only [ho, Bool.and_eq_true] at this
  have h1 := Array.all_eq_true_iff_forall_mem.1 this.1 e he
  simpa [hb] using h1
theorem okDrawZ_pair {F G : Nat → Nat} (h : okDrawZ ops F G = true) {i j : Nat} {o p : Oper} (ho : ops[i]? = some o) (hp : ops[j]? = some p) (hne : j ≠ i) : okPairZ ops F G i j o p = true := by
  have hi := (Array.getElem?_eq_some_iff.1 ho).1
  have hj := (Array.getElem?_eq_some_iff.1 hp).1
  have h1 := List.all_eq_true.1 h i (by simpa using hi)
  simp only [ho, Bool.and_eq_true] at h1
  have h2 := List.all_eq_true.1 h1.2 j (by simpa using hj)
  simp only [hp, Bool.or_eq_true, beq_iff_eq] at h2
  exact h2.resolve_left hne
theorem okDrawZ_dst {F G : Nat → Nat} (h : okDrawZ ops F G = true) {i j : Nat} {o p : Oper} {t : Nat} (ho : ops[i]? = some o) (hp : ops[j]? = some p) (h1 : o.dst = some t) (h2 : p.dst = some t) : i = j := by
  by_cases e : j = i
  · exact e.symm
  · have := okDrawZ_pair h ho hp e
    simp only [okPairZ, h2, Bool.and_eq_true] at this
    simp [h1] at this
theorem envL_someZ {F G : Nat → Nat} (h : okDrawZ ops F G = true) {e0 X : Nat → XV} {listed : Nat → Bool} {t j : Nat} {p : Oper} (hp : ops[j]? = some p) (hd : p.dst = some t) (hl : listed j = true) : envL ops e0 X listed t = X j := by
  unfold envL
  have hj := (Array.getElem?_eq_some_iff.1 hp).1
  cases hf : (List.range ops.size).find? (writes ops listed t) with
  | none =>
    have := List.find?_eq_none.1 hf j (by simpa using hj)
    simp [writes, hp, hd, hl] at this
  | some k =>
    have h1 := List.find?_some hf
    simp only [writes, Bool.and_eq_true, beq_iff_eq] at h1
    cases hk : ops[k]? with
    | none => rw [hk] at h1; simp at h1
    | some q =>
      rw [hk] at h1
      simp only [Option.bind_some] at h1
      rw [okDrawZ_dst h hk hp h1.2 hd]
section
variable {Z : Nat → Prop} {n : Nat} {S : Nat → St} {X : Nat → XV} {F G : Nat → Nat} (hst : ∀ (i : Nat) (o : Oper), ops[i]? = some o → StepsZ P n ops Z S X F G i o)
include hst
theorem stepsZ : ∀ (i : Nat) (o : Oper), ops[i]? = some o → Steps' P n ops S X F i o := fun i o h => (hst i o h).st
theorem env_someZ (hok : okDrawZ ops F G = true) {t j : Nat} {p : Oper} (hp : ops[j]? = some p) (hd : p.dst = some t) : ∀ i, i ≤ ops.size → j < i → (S i).env t = X j
  | 0, _, h => by omega
  | i + 1, hi, h => by
    have ho := Array.getElem?_eq_getElem (show i < ops.size by omega)
    rw [(hst i _ ho).st.env]
    by_cases e : j = i
    · subst e
      have : ops[j] = p := by rw [ho] at hp; simpa using hp
      rw [this, hd]
      simp [putE, upd]
    · have ih := env_someZ hok hp hd i (by omega) (by omega)
      cases hd' : ops[i].dst with
      | none => simpa [putE] using ih
      | some d =>
        simp only [putE, upd]
        rw [if_neg (fun e' => e (okDrawZ_dst hok hp ho hd (by rw [hd', e'])))]
        exact ih
theorem σ_growZ : ∀ (k i : Nat), i + k ≤ ops.size → (∀ j, i ≤ j → j < i + k → F j ≠ 2 ∨ G j = 2) → KeepsZ Z (S i).σ (S (i + k)).σ
  | 0, _, _, _ => .refl _
  | k + 1, i, hi, h => by
    have ho := Array.getElem?_eq_getElem (show i + k < ops.size by omega)
    refine (σ_growZ k i (by omega) (fun j h1 h2 => h j h1 (by omega))).trans ?_
    rcases h (i + k) (by omega) (by omega) with h1 | h1
    · exact ((hst (i + k) _ ho).st.grow h1).z
    · exact (hst (i + k) _ ho).wr h1
theorem σ_nearZ {p q i : Nat} (hp : p ≤ ops.size) (hq : q ≤ ops.size) (h : ∀ j, F j = 2 → ¬ (G j = 2 ∧ G i = 1) → j < ops.size → (j < p ↔ j < q)) {id : Nat} {ob : VObj} (hz : G i = 1 → ¬ Z id) (hid : id < (S p).σ.length) (ho : (S q).σ[id]? = some ob) : ∃ ob', (S p).σ[id]? = some ob' ∧ ob'.cells = ob.cells ∧ (ob'.mode < 2 ↔ ob.mode < 2) := by
  by_cases hg : G i = 1
  · have hz := hz hg
    rcases Nat.le_total p q with hle | hle
    · have e := σ_growZ hst (q - p) p (by omega) (fun j h1 h2 => Classical.byContradiction fun h3 => by
        have := h j (by omega) (fun h4 => h3 (.inr h4.1)) (by omega); omega)
      rw [show p + (q - p) = q by omega] at e
      obtain ⟨o2, a1, a2, a3⟩ := e id _ hz (List.getElem?_eq_getElem hid)
      rw [ho] at a1
      cases a1
      exact ⟨_, List.getElem?_eq_getElem hid, a2.symm, a3.symm⟩
    · have e := σ_growZ hst (p - q) q (by omega) (fun j h1 h2 => Classical.byContradiction fun h3 => by
        have := h j (by omega) (fun h4 => h3 (.inr h4.1)) (by omega); omega)
      rw [show q + (p - q) = p by omega] at e
      exact e id ob hz ho
  · exact σ_near (stepsZ hst) hp hq (fun j h1 h2 => h j h1 (fun h3 => hg h3.2) h2) hid ho
end
variable {M : Nat → Prop} {W0 : World} {C : Ctx} {n : Nat} {Z : Nat → Prop} {G : Nat → Nat}

theorem InvL.nextZ {S : Nat → St} {X : Nat → XV} {F : Nat → Nat} (hst : ∀ (i : Nat) (o : Oper), ops[i]? = some o → StepsZ P n ops Z S X F G i o) (hok : okDrawZ ops F G = true)
    {ι0 : List Nat} {w0 : World} {listed : Array Bool} {ι : List Nat} {p : Nat} {a : Act} {w : World} (hI : InvL P M W0 C n ops S X F ι0 w0 listed ι p a w)
    {i : Nat} {o : Oper} (ho : ops[i]? = some o) (hun : listed.getD i false = false) (hready : ∀ e ∈ o.after, bindsA e = true → listed.getD e.on false = true) {Q : Exit → Act → World → Prop} {K : Act → World → Prop}
    (hK : ∀ (ι' : List Nat) (p' : Nat) (a' : Act) (w' : World), InvL P M W0 C n ops S X F ι0 w0 (listed.setIfInBounds i true) ι' p' a' w' → K a' w') : wpOpIn (FR C.ro) 0 P ops Q i K a w := by
  have hi := (Array.getElem?_eq_some_iff.1 ho).1
  have hil : i < listed.size := by rw [hI.size]; exact hi
  have hcl : ∀ (j : Nat) (q : Oper), listed.getD j false = true → ops[j]? = some q → ∀ e ∈ q.after, bindsA e = true → listed.getD e.on false = true := fun j q hj hq => hI.closed j q (by
    rw [getD_bool listed j (by rw [hI.size]; exact (Array.getElem?_eq_some_iff.1 hq).1) true false]; exact hj) hq
  -- what comes before i has been done, what comes behind i has not
  have before : ∀ j, reachB ops 8 i j = true → listed.getD j false = true := fun j h => reach_closed (ops := ops) (C := fun k => listed.getD k false = true) hcl 8 i j o ho hready h
  have behind : ∀ (j : Nat) (q : Oper), ops[j]? = some q → reachB ops 8 j i = true → listed.getD j false = false := fun j q hq h => by
    cases hl : listed.getD j false with
    | false => rfl
    | true =>
      have := reach_closed (ops := ops) (C := fun k => listed.getD k false = true) hcl 8 j i q hq (hcl j q hl hq) h
      rw [hun] at this; cases this
  have hlook : ∀ t ∈ o.looksAt ops, envL ops (S 0).env X (fun j => listed.getD j false) t = (S i).env t := by
    intro t ht
    by_cases hex : ∃ (j : Nat) (q : Oper), ops[j]? = some q ∧ q.dst = some t
    · obtain ⟨j, q, hq, hd⟩ := hex
      have uniq : ∀ (k : Nat) (r : Oper), ops[k]? = some r → r.dst = some t → k = j := fun k r hr hrd => okDrawZ_dst hok hr hq hrd hd
      by_cases e : j = i
      · rw [envL_none (fun k r hr hl hrd => by have := uniq k r hr hrd; subst this; subst e; simp [hun] at hl)]
        rw [env_none (stepsZ hst) i (by omega) (fun k r hk hr hrd => by have := uniq k r hr hrd; omega)]
      · have hpr := okDrawZ_pair hok ho hq e
        simp only [okPairZ, hd, Bool.and_eq_true, Bool.or_eq_true, Bool.not_eq_true'] at hpr
        have hord : ordB ops i j = true := by
          rcases hpr.1.2 with h | h
          · rw [List.contains_iff_mem.2 ht] at h; cases h
          · exact h
        unfold ordB at hord
        split at hord
        · rename_i hlt
          rw [envL_someZ hok hq hd (by exact before j hord), env_someZ hst hok hq hd i (by omega) hlt]
        · rename_i hge
          have hnl := behind j q hq hord
          rw [envL_none (fun k r hr hl hrd => by have := uniq k r hr hrd; subst this; simp [hnl] at hl)]
          rw [env_none (stepsZ hst) i (by omega) (fun k r hk hr hrd => by have := uniq k r hr hrd; omega)]
    · rw [envL_none (fun k r hr hl hrd => hex ⟨k, r, hr, hrd⟩), env_none (stepsZ hst) i (by omega) (fun k r hk hr hrd => hex ⟨k, r, hr, hrd⟩)]
  have hs := hst i o ho
  have hlist : ∀ j, (listed.setIfInBounds i true).getD j false = if j = i then true else listed.getD j false := by
    intro j
    simp only [Array.getD_eq_getD_getElem?]
    by_cases e : j = i
    · subst e; simp [hil]
    · rw [Array.getElem?_setIfInBounds_ne (by omega), if_neg e]
  -- the invariant behind the operation
  have close : ∀ (ι' : List Nat) (p' : Nat) (v : Value) (w' : World), p' ≤ ops.size → (∀ j, 2 ≤ F j → j < ops.size → ((listed.setIfInBounds i true).getD j false = true ↔ j < p')) → Mem M W0 ι' (S p').σ w' → Ext M ι (S p).σ w ι' (S p').σ w' →
      XRep w' ι' (Forb M ι' (S p').σ) v (X i) → InvL P M W0 C n ops S X F ι0 w0 (listed.setIfInBounds i true) ι' p' (a.put o.dst v) w' := by
    intro ι' p' v w' h1 h2 h3 h4 h5
    refine ⟨by simp [hI.size], fun j q hj hq e he hb => ?_, h1, h2, h3, hI.ext.trans h4, fun t => ?_, by cases o.dst <;> simp [Act.put, hI.tsize], by cases o.dst <;> exact hI.defers.ext h4, fun l hl => let ⟨r, hr⟩ := hI.round l hl; h4.loops l r hr⟩
    · rw [hlist]
      split
      · rfl
      · by_cases e' : j = i
        · subst e'; rw [ho] at hq; cases hq; exact hready e he hb
        · refine hcl j q ?_ hq e he hb
          have hjl : j < listed.size := by rw [hI.size]; exact (Array.getElem?_eq_some_iff.1 hq).1
          rw [getD_bool _ j (by simpa using hjl) true false, hlist, if_neg e'] at hj
          exact hj
    · by_cases hd : o.dst = some t
      · have e1 : envL ops (S 0).env X (fun j => (listed.setIfInBounds i true).getD j false) t = X i := envL_someZ hok ho hd (by simp only [hlist, if_pos])
        rw [e1]
        have hdo := hs.st.dst
        rw [hd] at hdo
        simp only [dstOk, decide_eq_true_eq] at hdo
        have e2 : (a.put o.dst v).tmps.getD t undef = v := by rw [hd]; simp [Act.put, hI.tsize, hdo]
        rw [e2]; exact h5
      · have e1 : envL ops (S 0).env X (fun j => (listed.setIfInBounds i true).getD j false) t = envL ops (S 0).env X (fun j => listed.getD j false) t := by
          by_cases hex : ∃ (j : Nat) (q : Oper), ops[j]? = some q ∧ q.dst = some t ∧ listed.getD j false = true
          · obtain ⟨j, q, hq, hqd, hl⟩ := hex
            rw [envL_someZ hok hq hqd (by simp only [hlist]; split <;> first | rfl | exact hl), envL_someZ hok hq hqd hl]
          · rw [envL_none (fun k r hr hl hrd => ?_), envL_none (fun k r hr hl hrd => hex ⟨k, r, hr, hrd, hl⟩)]
            simp only [hlist] at hl
            split at hl
            · rename_i e; subst e; rw [ho] at hr; cases hr; exact hd hrd
            · exact hex ⟨k, r, hr, hrd, hl⟩
        rw [e1]
        have e2 : (a.put o.dst v).tmps.getD t undef = a.tmps.getD t undef := by
          cases hod : o.dst with
          | none => rfl
          | some d =>
            have hne : d ≠ t := fun e => hd (by rw [hod, e])
            simp only [Act.put, Array.getD_eq_getD_getElem?]
            rw [Array.getElem?_setIfInBounds_ne hne]
        rw [e2]; exact (hI.env t).ext h4
  have same : ∀ j, 2 ≤ F j → j < ops.size → F i < 2 → ((listed.setIfInBounds i true).getD j false = true ↔ j < p) := by
    intro j hj hjl hf
    rw [hlist, if_neg (fun e => by subst e; omega)]
    exact hI.mods j hj hjl
  unfold wpOpIn
  rw [ho]
  simp only
  rcases hs.st.ev with ⟨hg, hev⟩ | ⟨hg, hx, hf, hσ⟩
  · rw [← guardX_congr hlook] at hg
    rw [if_pos (by rw [guardX_sound hI.env hg])]
    have hops : ∀ y ∈ o.op.operands, evalX (envL ops (S 0).env X (fun j => listed.getD j false)) y = evalX (S i).env y := by
      intro y hy
      cases y with
      | tmp t => exact hlook t (mem_looks hy)
      | _ => rfl
    have hev' := hev.congr hops
    by_cases hf0 : F i = 0
    · rw [hf0] at hev'
      have hev'' := hev'.pure (S p).σ
      exact hev''.wp (s := ⟨(S p).σ, envL ops (S 0).env X (fun j => listed.getD j false)⟩) hI.mem hI.env fun ι' v w' h1 h2 h3 =>
        hK ι' p _ w' (close ι' p v w' hI.le (fun j hj hjl => same j hj hjl (by omega)) h1 h2 h3)
    · -- what is written has been done as in the text's order
      have hbef : ∀ j, 2 ≤ F j → (F j = 3 → F i ≠ 1) → ¬ (G j = 2 ∧ G i = 1) → j < ops.size → j ≠ i → (j < p ↔ j < i) := by
        intro j hj hj3 hg2 hjl hne
        have hq := Array.getElem?_eq_getElem hjl
        have hpr := okDrawZ_pair hok ho hq hne
        simp only [okPairZ, Bool.and_eq_true, Bool.or_eq_true] at hpr
        have hord : ordB ops i j = true := by
          rcases hpr.2 with (((h | h) | h) | h) | h
          · simp at h; omega
          · simp at h; exact absurd h hf0
          · simp at h; exact absurd h.2 (hj3 h.1)
          · simp at h; exact absurd h hg2
          · exact h
        rw [← hI.mods j hj hjl]
        unfold ordB at hord
        split at hord
        · rename_i hlt
          exact ⟨fun _ => hlt, fun _ => before j hord⟩
        · rename_i hge
          have := behind j _ hq hord
          rw [this]
          exact ⟨(fun h => by cases h), (fun h => by omega)⟩
      by_cases hf1 : F i = 1
      · have hev1 : Ev P o ⟨(S p).σ, envL ops (S 0).env X (fun j => listed.getD j false)⟩ (X i) (S p).σ (F i) := by
          rw [hf1] at hev' ⊢
          refine hev'.one (σ2 := (S p).σ) fun y hy id off he ob hob => ?_
          refine σ_nearZ hst hI.le (by omega) (fun j hj hgj hjl => hbef j (by omega) (by omega) hgj hjl (fun e => by subst e; omega)) (fun hgi => hs.rd hgi y hy id off (by rw [← hops y hy]; exact he)) ?_ hob
          have hr := evalX_rep hI.env y
          simp only at he
          rw [he] at hr
          generalize a.eval y = vy at hr
          cases hr with
          | optr hb =>
            rw [← hI.mem.len]
            exact (List.getElem?_eq_some_iff.1 hb).1
        exact hev1.wp hI.mem hI.env fun ι' v w' h1 h2 h3 => hK ι' p _ w' (close ι' p v w' hI.le (fun j hj hjl => same j hj hjl (by omega)) h1 h2 h3)
      · have hσ : (S p).σ = (S i).σ := by
          refine σ_eq (stepsZ hst) hI.le (by omega) (fun j hj hjl => ?_)
          by_cases e : j = i
          · subst e
            have := hI.mods j hj hjl
            rw [hun] at this
            constructor
            · intro h; exact absurd (this.2 h) (by simp)
            · intro h; omega
          · exact hbef j hj (fun _ => hf1) (fun h => hf1 (hs.one h.2)) hjl e
        have hev2 : Ev P o ⟨(S p).σ, envL ops (S 0).env X (fun j => listed.getD j false)⟩ (X i) (S (i + 1)).σ (F i) := by rw [hσ]; exact hev'
        exact hev2.wp hI.mem hI.env fun ι' v w' h1 h2 h3 => hK ι' (i + 1) _ w' (close ι' (i + 1) v w' (by omega) (fun j hj hjl => by
          rw [hlist]
          by_cases e : j = i
          · subst e; simp
          · rw [if_neg e, hI.mods j hj hjl, hbef j hj (fun _ => hf1) (fun h => hf1 (hs.one h.2)) hjl e]; omega) h1 h2 h3)
  · rw [← guardX_congr hlook] at hg
    rw [if_neg (by rw [guardX_sound hI.env hg]; simp)]
    refine ⟨fun _ _ => trivial, ?_⟩
    exact hK ι p _ w (close ι p undef w hI.le (fun j hj hjl => same j hj hjl (by omega)) hI.mem (.refl _ _ _ _) (by rw [hx]; exact .d (.lit _)))


theorem InvL.doneZ {S : Nat → St} {X : Nat → XV} {F : Nat → Nat} (hst : ∀ (i : Nat) (o : Oper), ops[i]? = some o → StepsZ P n ops Z S X F G i o) (hok : okDrawZ ops F G = true)
    {ι0 : List Nat} {w0 : World} {listed : Array Bool} {ι : List Nat} {p : Nat} {a : Act} {w : World} (hI : InvL P M W0 C n ops S X F ι0 w0 listed ι p a w) (hall : ∀ i, i < ops.size → listed.getD i false = true) :
    Fr M W0 C n ι (S ops.size) a w ∧ Ext M ι0 (S 0).σ w0 ι (S ops.size).σ w := by
  have hσ : (S p).σ = (S ops.size).σ := σ_eq (stepsZ hst) hI.le (Nat.le_refl _) (fun j hj hjl => by
    have := (hI.mods j hj hjl).1 (hall j hjl)
    exact ⟨fun _ => hjl, fun _ => this⟩)
  refine ⟨⟨hσ ▸ hI.mem, fun t => ?_, hI.tsize, hσ ▸ hI.defers, hI.round⟩, hσ ▸ hI.ext⟩
  rw [← hσ]
  have e : envL ops (S 0).env X (fun j => listed.getD j false) t = (S ops.size).env t := by
    by_cases hex : ∃ (j : Nat) (q : Oper), ops[j]? = some q ∧ q.dst = some t
    · obtain ⟨j, q, hq, hd⟩ := hex
      have hj := (Array.getElem?_eq_some_iff.1 hq).1
      rw [envL_someZ hok hq hd (hall j hj), env_someZ hst hok hq hd _ (Nat.le_refl _) hj]
    · rw [envL_none (fun k r hr hl hrd => hex ⟨k, r, hr, hrd⟩), env_none (stepsZ hst) _ (Nat.le_refl _) (fun k r hk hr hrd => hex ⟨k, r, hr, hrd⟩)]
  rw [← e]; exact hI.env t


theorem ready_nilZ {F G : Nat → Nat} (hok : okDrawZ ops F G = true) {listed : Array Bool} (hs : listed.size = ops.size) (h : Region.ready .any ops listed = []) : ∀ i, i < ops.size → listed.getD i false = true := by
  intro i
  induction i using Nat.strongRecOn with
  | _ i ih =>
    intro hi
    cases hl : listed.getD i false with
    | true => rfl
    | false =>
      exfalso
      have ho := Array.getElem?_eq_getElem hi
      have : i ∈ Region.ready .any ops listed := by
        unfold Region.ready
        rw [List.mem_filter]
        refine ⟨by simpa using hi, ?_⟩
        simp only [Bool.and_eq_true, Bool.not_eq_true']
        refine ⟨by rw [getD_bool listed i (by omega) true false]; exact hl, ?_⟩
        rw [ho]
        simp only [Option.map_some, Option.getD_some]
        refine Array.all_eq_true_iff_forall_mem.2 fun e he => ?_
        by_cases hb : bindsA e = true
        · have hlt := okDrawZ_edges hok ho e he hb
          simp [ih e.on hlt (by omega)]
        · have hb' : Region.binds .any e = false := by simpa [bindsA] using hb
          simp [hb']
      rw [h] at this; cases this


theorem wpAny_ofZ {S : Nat → St} {X : Nat → XV} {F : Nat → Nat} (hst : ∀ (i : Nat) (o : Oper), ops[i]? = some o → StepsZ P n ops Z S X F G i o) (hok : okDrawZ ops F G = true)
    {ι0 : List Nat} {w0 : World} {Q : Exit → Act → World → Prop}
    (hq : ∀ (ι : List Nat) (a : Act) (w : World), Fr M W0 C n ι (S ops.size) a w → Ext M ι0 (S 0).σ w0 ι (S ops.size).σ w → Q .normal a w) :
    ∀ (fuel : Nat) (listed : Array Bool) (ι : List Nat) (p : Nat) (a : Act) (w : World), InvL P M W0 C n ops S X F ι0 w0 listed ι p a w → ops.size ≤ fuel + (List.range ops.size).countP (fun j => listed.getD j false) →
      wpAnyIn (FR C.ro) 0 P .any ops Q fuel listed a w
  | 0, listed, ι, p, a, w, hI, hc => by
    have hall := getElem?_range_all (N := ops.size) (f := fun j => listed.getD j false) (by omega)
    obtain ⟨h1, h2⟩ := hI.doneZ hst hok hall
    refine ⟨?_, hq ι a w h1 h2⟩
    cases hr : Region.ready .any ops listed with
    | nil => rfl
    | cons x xs =>
      obtain ⟨o, ho, hu, _⟩ := mem_ready (i := x) (by rw [hr]; simp) hI.size
      have := hall x (Array.getElem?_eq_some_iff.1 ho).1
      rw [this] at hu; cases hu
  | fuel + 1, listed, ι, p, a, w, hI, hc => by
    refine ⟨fun hr => ?_, fun i hi => ?_⟩
    · obtain ⟨h1, h2⟩ := hI.doneZ hst hok (ready_nilZ hok hI.size hr)
      exact hq ι a w h1 h2
    · obtain ⟨o, ho, hu, hre⟩ := mem_ready hi hI.size
      have hil := (Array.getElem?_eq_some_iff.1 ho).1
      refine hI.nextZ hst hok ho hu hre fun ι' p' a' w' hI' => ?_
      refine wpAny_ofZ hst hok hq fuel _ ι' p' a' w' hI' ?_
      have := countP_set (fun j => listed.getD j false) (fun j => (listed.setIfInBounds i true).getD j false) i hu (by
        have : i < listed.size := by rw [hI.size]; exact hil
        simp [this]) (fun j hj => by
        simp only [Array.getD_eq_getD_getElem?]
        rw [Array.getElem?_setIfInBounds_ne (by omega)]) (List.range ops.size) List.nodup_range (by simpa using hil)
      omega


/-- A list of operations; which of them read what is kept, and which write only what is not. -/
inductive TrZ (P : Program) (n : Nat) (ops : Array Oper) (Z : Nat → Prop) : List Oper → St → List Nat → List Nat → St → Prop
  | nil {s : St} : TrZ P n ops Z [] s [] [] s
  | step {o : Oper} {l : List Oper} {s s' : St} {x : XV} {σ' : List VObj} {fl g : Nat} {fls gs : List Nat} (hg : guardX ops s.env o = some true) (he : Ev P o s x σ' fl) (hd : dstOk n o.dst = true)
      (hr : g = 1 → ∀ y ∈ o.op.operands, ∀ id off, evalX s.env y = .optr id off → ¬ Z id) (h1 : g = 1 → fl = 1) (hw : g = 2 → KeepsZ Z s.σ σ')
      (h : TrZ P n ops Z l ⟨σ', putE s.env o.dst x⟩ fls gs s') : TrZ P n ops Z (o :: l) s (fl :: fls) (g :: gs) s'
theorem TrZ.fns {l : List Oper} {s s' : St} {fls gs : List Nat} (h : TrZ P n ops Z l s fls gs s') : ∃ (S : Nat → St) (X : Nat → XV), S 0 = s ∧ S l.length = s' ∧ ∀ (i : Nat) (o : Oper), l[i]? = some o → StepsZ P n ops Z S X (fun i => fls.getD i 0) (fun i => gs.getD i 0) i o := by
  induction h with
  | @nil s => exact ⟨fun _ => s, fun _ => undefX, rfl, rfl, fun i o h => by simp at h⟩
  | @step o l s s' x σ' fl g fls gs hg he hd hr h1 hw h ih =>
    obtain ⟨S, X, h0, h2, h3⟩ := ih
    refine ⟨consF s S, consF x X, rfl, h2, fun i o' hi => ?_⟩
    cases i with
    | zero =>
      simp at hi; subst hi
      exact ⟨⟨hd, by show (S 0).env = _; rw [h0]; rfl, .inl ⟨hg, by show Ev P o s x (S 0).σ fl; rw [h0]; exact he⟩⟩, fun hg => hr (by simpa using hg), fun hg => by simpa using h1 (by simpa using hg),
        fun hg => by show KeepsZ Z s.σ (S 0).σ; rw [h0]; exact hw (by simpa using hg)⟩
    | succ i =>
      have := h3 i o' (by simpa using hi)
      exact ⟨⟨this.st.dst, this.st.env, this.st.ev⟩, fun hg => this.rd (by simpa using hg), fun hg => by simpa using this.one (by simpa using hg), fun hg => this.wr (by simpa using hg)⟩

theorem Wp.drawZ {id : Nat} {s s' : St} {fls gs : List Nat} {T : Exit → St → Prop} (hm : P.follows .mixedOrders = true) (h : TrZ P n ops Z ops.toList s fls gs s') (hok : okDrawZ ops (fun i => fls.getD i 0) (fun i => gs.getD i 0) = true) (hT : T .normal s') :
    Wp P M W0 n (.region id ops true) s T := by
  obtain ⟨S, X, h0, h1, h2⟩ := h.fns
  have hst : ∀ (i : Nat) (o : Oper), ops[i]? = some o → StepsZ P n ops Z S X (fun i => fls.getD i 0) (fun i => gs.getD i 0) i o := fun i o ho => h2 i o (by simpa using ho)
  intro C ι a w hf Q hq
  have hlen : S ops.size = s' := by rw [← h1]; simp
  have hmem : Mem M W0 ι s.σ { w with drawn := w.drawn + 1 } ∧ Ext M ι s.σ w ι s.σ { w with drawn := w.drawn + 1 } := hf.mem.grown (Below.drew (Below.refl _ _))
  refine wpIn_region_any hm (wpAny_ofZ (M := M) (W0 := W0) (ι0 := ι) (w0 := { w with drawn := w.drawn + 1 }) hst hok (fun ι' a' w' k1 k2 => hq .normal ι' s' a' w' hT (hlen ▸ k1) (hmem.2.trans (by rw [← h0, ← hlen]; exact k2))) ops.size _ ι 0 a _ ?_ (by omega))
  refine ⟨by simp, fun i o hi ho e he hb => ?_, Nat.zero_le _, fun j hj hjl => by simp [hjl], by rw [h0]; exact hmem.1, by rw [h0]; exact .refl _ _ _ _, fun t => ?_, hf.size, h0 ▸ hf.defers.ext hmem.2, hf.round⟩
  · have hil := (Array.getElem?_eq_some_iff.1 ho).1
    simp [hil] at hi
  · rw [envL_none (fun j p hp hl _ => by have := (Array.getElem?_eq_some_iff.1 hp).1; simp [this] at hl), h0]
    exact (hf.env t).ext hmem.2

/-- The walk over such a statement. -/
def KTZ (P : Program) (n : Nat) (ops : Array Oper) (Z : Nat → Prop) (l : List Oper) (σ : List VObj) (kn : Kn) (R : List Nat → List Nat → List VObj → Kn → Prop) : Prop :=
  ∀ env, Agree kn env → ∃ (fls gs : List Nat) (s' : St) (kn' : Kn), TrZ P n ops Z l ⟨σ, env⟩ fls gs s' ∧ Agree kn' s'.env ∧ R fls gs s'.σ kn'
variable {l : List Oper} {o : Oper} {σ σ' : List VObj} {kn : Kn}
theorem KTZ.nil {R : List Nat → List Nat → List VObj → Kn → Prop} (h : R [] [] σ kn) : KTZ P n ops Z [] σ kn R := fun _ he => ⟨[], [], _, kn, .nil, he, h⟩
theorem KTZ.step {R : List Nat → List Nat → List VObj → Kn → Prop} {x : XV} {fl : Nat} (hg : guardK ops kn o = some true) (hd : dstOk n o.dst = true) (he : KEv P o σ kn x σ' fl)
    (h : KTZ P n ops Z l σ' (extK o.dst x kn) (fun fls gs τ k => R (fl :: fls) (0 :: gs) τ k)) : KTZ P n ops Z (o :: l) σ kn R := by
  intro env ha
  obtain ⟨fls, gs, s', kn', h1, h2, h3⟩ := h (putE env o.dst x) (ha.ext o.dst x)
  exact ⟨fl :: fls, 0 :: gs, s', kn', .step (s := ⟨σ, env⟩) (guardK_X ha hg) (he env ha) hd (fun h => by cases h) (fun h => by cases h) (fun h => by cases h) h1, h2, h3⟩
/-- A load of what no other operation writes. -/
theorem KTZ.load {R : List Nat → List Nat → List VObj → Kn → Prop} {x : XV} {t : TypeId} {y : Operand} {dst : Option Tmp} {ty : TypeId} {pos : String} {af : Array Edge} {gd : Option (Nat × Bool)} {id off : Nat}
    (hg : guardK ops kn ⟨dst, .load t y, ty, pos, af, gd⟩ = some true) (hd : dstOk n dst = true) (hy : evK kn y = some (.optr id off)) (hz : ¬ Z id) (he : KEv P ⟨dst, .load t y, ty, pos, af, gd⟩ σ kn x σ 1)
    (h : KTZ P n ops Z l σ (extK dst x kn) (fun fls gs τ k => R (1 :: fls) (1 :: gs) τ k)) : KTZ P n ops Z (⟨dst, .load t y, ty, pos, af, gd⟩ :: l) σ kn R := by
  intro env ha
  obtain ⟨fls, gs, s', kn', h1, h2, h3⟩ := h (putE env dst x) (ha.ext dst x)
  refine ⟨1 :: fls, 1 :: gs, s', kn', .step (s := ⟨σ, env⟩) (guardK_X ha hg) (he env ha) hd (fun _ z hz' i o hi => ?_) (fun _ => rfl) (fun h => by cases h) h1, h2, h3⟩
  simp [Op.operands] at hz'
  subst hz'
  rw [evK_evalX ha hy] at hi
  cases hi
  exact hz
/-- A call that writes only such objects. -/
theorem KTZ.write {R : List Nat → List Nat → List VObj → Kn → Prop} {x : XV} (hg : guardK ops kn o = some true) (hd : dstOk n o.dst = true) (hk : KeepsZ Z σ σ') (he : KEv P o σ kn x σ' 2)
    (h : KTZ P n ops Z l σ' (extK o.dst x kn) (fun fls gs τ k => R (2 :: fls) (2 :: gs) τ k)) : KTZ P n ops Z (o :: l) σ kn R := by
  intro env ha
  obtain ⟨fls, gs, s', kn', h1, h2, h3⟩ := h (putE env o.dst x) (ha.ext o.dst x)
  exact ⟨2 :: fls, 2 :: gs, s', kn', .step (s := ⟨σ, env⟩) (guardK_X ha hg) (he env ha) hd (fun h => by cases h) (fun h => by cases h) (fun _ => hk) h1, h2, h3⟩
theorem KC.drawZ (Z : Nat → Prop) (hm : P.follows .mixedOrders = true) {id : Nat} {T : Exit → List VObj → Kn → Prop} (h : KTZ P n ops Z ops.toList σ kn (fun fls gs τ k => okDrawZ ops (fun i => fls.getD i 0) (fun i => gs.getD i 0) = true ∧ T .normal τ k)) :
    KC P M W0 n (.region id ops true) σ kn T := by
  intro env he
  obtain ⟨fls, gs, s', kn', h1, h2, h3, h4⟩ := h env he
  exact .drawZ hm h1 h3 ⟨kn', h2, h4⟩
end
end Go.Vm

end
section
/-
  Whole numbers as digits to the base 2^32: the values of sums, differences, products.
-/
namespace Go.Big

abbrev B : Nat := 4294967296
def val : List Nat → Nat
  | [] => 0
  | d :: ds => d + B * val ds
def Dig (l : List Nat) : Prop := ∀ d ∈ l, d < B
/-- No zero at the end. -/
def Can (l : List Nat) : Prop := ∀ h : 0 < l.length, l[l.length - 1] ≠ 0

theorem val_append : ∀ (l r : List Nat), val (l ++ r) = val l + B ^ l.length * val r
  | [], r => by simp [val]
  | d :: l, r => by
    have := val_append l r
    simp only [List.cons_append, val, this, List.length_cons, Nat.pow_succ]
    grind
theorem Dig.take {l : List Nat} (h : Dig l) (k : Nat) : Dig (l.take k) := fun d hd => h d (List.mem_of_mem_take hd)
theorem Dig.drop {l : List Nat} (h : Dig l) (k : Nat) : Dig (l.drop k) := fun d hd => h d (List.mem_of_mem_drop hd)
theorem val_split (l : List Nat) (i : Nat) (h : i < l.length) : val l = val (l.take i) + B ^ i * (l[i] + B * val (l.drop (i + 1))) := by
  have e : l = l.take i ++ (l[i] :: l.drop (i + 1)) := by rw [← List.drop_eq_getElem_cons h, List.take_append_drop]
  conv => lhs; rw [e]
  rw [val_append, List.length_take, Nat.min_eq_left (by omega)]
  rfl
theorem val_ge {l : List Nat} (h : Can l) (h0 : 0 < l.length) : B ^ (l.length - 1) ≤ val l := by
  rw [val_split l (l.length - 1) (by omega)]
  have := h h0
  have h1 : 1 ≤ l[l.length - 1] := by omega
  have : B ^ (l.length - 1) * 1 ≤ B ^ (l.length - 1) * (l[l.length - 1] + B * val (l.drop (l.length - 1 + 1))) := Nat.mul_le_mul_left _ (by omega)
  omega
theorem len_le {l : List Nat} (h : Can l) {k : Nat} (hk : val l < B ^ k) : l.length ≤ k := by
  rcases Nat.lt_or_ge k l.length with h1 | h1
  · have h2 := val_ge h (by omega)
    have h3 : B ^ k ≤ B ^ (l.length - 1) := Nat.pow_le_pow_right (by decide) (by omega)
    omega
  · exact h1
def upd (o : Nat → Nat) (j v : Nat) : Nat → Nat := fun k => if k = j then v else o k
end Go.Big

end
section
/-
  Big numbers as deep values; rules for words of 32 bits, for parts of slices and for appends of slices.
-/
namespace Go.Vm
open Go.RowKit Go.Big

abbrev U32 (n : Nat) : DV := .lit (.int .u32 n)
abbrev IsU (c : DV) (n : Nat) : Prop := c = U32 n
abbrev Mag : DV → List Nat → Prop := Vec IsU

/-- d stands for a big number of this sign and these digits. -/
inductive BigV : DV → Bool → List Nat → Prop
  | mk {m : DV} {neg : Bool} {l : List Nat} (hm : Mag m l) (hd : Dig l) (hc : Big.Can l) : BigV (.agg [DB neg, m]) neg l
def sgnV (neg : Bool) (l : List Nat) : Int := if neg then -(val l : Int) else (val l : Int)
theorem BigV.len {d : DV} {neg : Bool} {l : List Nat} (h : BigV d neg l) {k : Nat} (hk : (sgnV neg l).natAbs < B ^ k) : l.length ≤ k := by
  cases h with
  | mk hm hd hc =>
    refine len_le hc ?_
    unfold sgnV at hk
    split at hk <;> omega
/-- One's own slice up to its end; ex: its capacity is known. -/
inductive OwnE (σ : List VObj) : Bool → XV → List XV → Prop
  | sl {id n : Nat} {cells : List XV} {ex : Bool} (h : σ[id]? = some ⟨cells, 0⟩) (hn : cells.length = n) : OwnE σ ex (.osl id 0 n 1 n ex) cells
theorem OwnE.keep {σ σ' : List VObj} {ex : Bool} {x : XV} {cells : List XV} (h : OwnE σ ex x cells) (hk : ∀ j, idX x = some j → σ'[j]? = σ[j]?) : OwnE σ' ex x cells := by
  cases h with
  | sl h hn => exact .sl (by rw [hk _ rfl]; exact h) hn
theorem OwnE.lt {σ : List VObj} {ex : Bool} {x : XV} {cells : List XV} (h : OwnE σ ex x cells) {j : Nat} (hj : idX x = some j) : j < σ.length := by
  cases h with
  | sl h hn => cases hj; exact (List.getElem?_eq_some_iff.1 h).1

section
variable {P : Program} {n : Nat} {ops : Array Oper} {l : List Oper} {σ : List VObj} {kn : Kn} {dst : Option Tmp} {ty : TypeId} {pos : String} {af : Array Edge} {g : Option (Nat × Bool)} {R : List Nat → List VObj → Kn → Prop}
end
end Go.Vm

end
section
/-
  VALUES WITHOUT ADDRESSES, 25: the end of a slice; own slices that are only read from here on; stores told by what is there afterwards; sequences of results.
-/
namespace Go.Vm
open Go.RowKit

section
variable {P : Program} {M : Nat → Prop} {W0 : World} {n : Nat} {ops : Array Oper} {l : List Oper} {σ : List VObj} {kn : Kn} {dst : Option Tmp} {ty : TypeId} {pos : String} {af : Array Edge} {g : Option (Nat × Bool)} {R : List Nat → List VObj → Kn → Prop}

/-- From here on some objects are only read: what stands for a part of them is a deep value. -/
theorem KC.ghost {c : Code} {T : Exit → List VObj → Kn → Prop} (ids : List Nat) (m : Nat) {t : Nat} {x : XV} {d : DV} (hl : look kn t = some x) (hd : deepen (freezeIds σ ids) m x = some d)
    (h : KC P M W0 n c (freezeIds σ ids) (extK (some t) (.d d) kn) T) : KC P M W0 n c σ kn T := by
  intro env he C ι a w hF Q hQ
  obtain ⟨f1, f2⟩ := freezeIds_tamed hF.mem ids
  refine h (putE env (some t) (.d d)) (he.ext (some t) (.d d)) C ι a w ⟨f1, fun s => ?_, hF.size, hF.defers.ext f2, hF.round⟩ Q fun e ι' s' a' w' hT hFr hE => hQ e ι' s' a' w' hT hFr (f2.trans hE)
  have hs := (hF.env s).ext f2
  simp only [putE, upd]
  split
  · rename_i e
    subst e
    have he' : env s = x := he s x hl
    simp only [he'] at hs
    exact .d (deepen_sound f1 m _ x d hs hd)
  · exact hs

def dropV (m : Nat) (d : DV) : DV :=
  match d with
  | .sl cs len cap => .sl ((cs.drop m).take (len - m)) (len - m) (cap.map (· - m))
  | x => x
theorem dropV_vec {α : Type} {Q : DV → α → Prop} {d : DV} {xs : List α} (h : Vec Q d xs) {m : Nat} (hm : m ≤ xs.length) : Vec Q (dropV m d) (xs.drop m) := by
  cases h with
  | nil => simp; exact .nil
  | @sl cs _ cap hn h =>
    have hlen : (xs.drop m).length = xs.length - m := by simp
    have e : (cs.drop m).take (xs.length - m) = cs.drop m := List.take_of_length_le (by simp; omega)
    have : Vec Q (.sl ((cs.drop m).take (xs.length - m)) (xs.drop m).length (cap.map (· - m))) (xs.drop m) := .sl (by rw [e]; simp [hn]) fun i c x hc hx => by
      rw [e, List.getElem?_drop] at hc
      rw [List.getElem?_drop] at hx
      exact h _ c x hc hx
    rw [hlen] at this
    exact this
theorem K.dropV {α : Type} {Q : DV → α → Prop} {x h : Operand} {t e : TypeId} {d : DV} {xs : List α} {m : Nat} (hx : evK kn x = some (.d d)) (hv : Vec Q d xs) (hh : evK kn h = some (.d (DI (m : Int)))) (hm : m ≤ xs.length) (h0 : 0 < xs.length)
    (ht : P.underlying t = some (.slice e)) (hs : sizeT P e = some 1) : KEv P ⟨dst, .slice t x (some h) none none, ty, pos, af, g⟩ σ kn (.d (dropV m d)) σ 0 := by
  cases hv with
  | nil => simp at h0
  | @sl cs _ cap hn hq =>
    refine ev_op fun env he => ?_
    have e1 := evK_evalX he hx
    have e2 := evK_evalX he hh
    unfold evalOp
    rw [litOp_none (x := x) (by simp [Op.operands]) (by rw [e1]; rfl)]
    have h3 : xs.length ≤ cs.length := by omega
    simp [e1, e2, opSlice, litOf, ht, hs, boundOf, hm, h3, Go.Vm.dropV]

end

end Go.Vm

end
