import Derived.Test.YthbnnffmhnjpjaaVmM
/-
  VALUES WITHOUT ADDRESSES, 14: a frame of which some slots are known: the rules by which a body is walked.
-/
namespace Go.Vm
open Go.RowKit

abbrev Kn := List (Nat × XV)

def look : Kn → Nat → Option XV
  | [], _ => none
  | (s, x) :: kn, t => if t = s then some x else look kn t

def Agree (kn : Kn) (env : Nat → XV) : Prop := ∀ (t : Nat) (x : XV), look kn t = some x → env t = x

def evK (kn : Kn) : Operand → Option XV
  | .tmp t => look kn t
  | .const v => some (.d (.lit v))
  | .global g => some (.d (.lit (.pointer (some ⟨g, 0, none⟩))))
  | .func f => some (.d (.fn (.func f) [] []))

theorem evK_evalX {kn : Kn} {env : Nat → XV} (h : Agree kn env) {x : Operand} {v : XV} (hx : evK kn x = some v) : evalX env x = v := by
  cases x with
  | tmp t => exact h t v hx
  | const c => simp [evK] at hx; exact hx
  | global g => simp [evK] at hx; exact hx
  | func f => simp [evK] at hx; exact hx

def extK (dst : Option Tmp) (x : XV) (kn : Kn) : Kn :=
  match dst with
  | some d => (d, x) :: kn
  | none => kn

theorem Agree.ext {kn : Kn} {env : Nat → XV} (h : Agree kn env) (dst : Option Tmp) (x : XV) : Agree (extK dst x kn) (putE env dst x) := by
  cases dst with
  | none => exact h
  | some d =>
    intro t y hy
    simp only [extK, look] at hy
    simp only [putE, upd]
    split at hy
    · rename_i e; rw [if_pos e]; cases hy; rfl
    · rename_i e; rw [if_neg e]; exact h t y hy

/-- Some of what is known. -/
theorem Agree.weaken {kn kn' : Kn} {env : Nat → XV} (h : Agree kn env) (hk : ∀ p ∈ kn', look kn p.1 = some p.2) : Agree kn' env := by
  intro t x hx
  have : ∀ (l : Kn), (∀ p ∈ l, look kn p.1 = some p.2) → look l t = some x → look kn t = some x := by
    intro l
    induction l with
    | nil => intro _ h; simp [look] at h
    | cons p l ih =>
      intro hl hx
      obtain ⟨s, y⟩ := p
      simp only [look] at hx
      split at hx
      · rename_i e; cases hx; subst e; exact hl (t, x) (by simp)
      · exact ih (fun q hq => hl q (by simp [hq])) hx
  exact h t x (this kn' hk hx)

/-- An operation on what is known. -/
def KEv (P : Program) (o : Oper) (σ : List VObj) (kn : Kn) (x : XV) (σ' : List VObj) (fl : Nat) : Prop := ∀ env, Agree kn env → Ev P o ⟨σ, env⟩ x σ' fl

def guardK (ops : Array Oper) (kn : Kn) (o : Oper) : Option Bool :=
  match o.guard with
  | none => some true
  | some (j, want) => match (ops[j]?).bind (·.dst) with
    | some d => match (look kn d).bind litOf with
      | some (.bool b) => some (b == want)
      | some _ => some false
      | none => none
    | none => some false

theorem guardK_X {ops : Array Oper} {kn : Kn} {env : Nat → XV} (h : Agree kn env) {o : Oper} {b : Bool} (hg : guardK ops kn o = some b) : guardX ops env o = some b := by
  unfold guardK at hg
  unfold guardX
  cases ho : o.guard with
  | none => rw [ho] at hg; exact hg
  | some q =>
    obtain ⟨j, want⟩ := q
    rw [ho] at hg
    simp only at hg ⊢
    cases hd : (ops[j]?).bind (·.dst) with
    | none => rw [hd] at hg; exact hg
    | some d =>
      rw [hd] at hg
      simp only at hg ⊢
      cases hl : look kn d with
      | none => rw [hl] at hg; simp at hg
      | some x =>
        rw [hl] at hg
        rw [h d x hl]
        simp only [Option.bind_some] at hg
        cases hx : litOf x with
        | none => rw [hx] at hg; cases hg
        | some v => rw [hx] at hg; cases v <;> exact hg

/-- A list of operations on what is known. -/
def KT (P : Program) (n : Nat) (ops : Array Oper) (l : List Oper) (σ : List VObj) (kn : Kn) (R : List Nat → List VObj → Kn → Prop) : Prop :=
  ∀ env, Agree kn env → ∃ (fls : List Nat) (s' : St) (kn' : Kn), Tr P n ops l ⟨σ, env⟩ fls s' ∧ Agree kn' s'.env ∧ R fls s'.σ kn'

def KC (P : Program) (M : Nat → Prop) (W0 : World) (n : Nat) (c : Code) (σ : List VObj) (kn : Kn) (T : Exit → List VObj → Kn → Prop) : Prop :=
  ∀ env, Agree kn env → Wp P M W0 n c ⟨σ, env⟩ (fun e s => ∃ kn', Agree kn' s.env ∧ T e s.σ kn')

section
variable {P : Program} {M : Nat → Prop} {W0 : World} {n : Nat} {ops : Array Oper} {l : List Oper} {o : Oper} {σ σ' : List VObj} {kn : Kn}

theorem KT.nil {R : List Nat → List VObj → Kn → Prop} (h : R [] σ kn) : KT P n ops [] σ kn R := fun env he => ⟨[], _, kn, .nil, he, h⟩

theorem KT.step {R : List Nat → List VObj → Kn → Prop} {x : XV} {fl : Nat} (hg : guardK ops kn o = some true) (hd : dstOk n o.dst = true) (he : KEv P o σ kn x σ' fl)
    (h : KT P n ops l σ' (extK o.dst x kn) (fun fls τ k => R (fl :: fls) τ k)) : KT P n ops (o :: l) σ kn R := by
  intro env ha
  obtain ⟨fls, s', kn', h1, h2, h3⟩ := h (putE env o.dst x) (ha.ext o.dst x)
  exact ⟨fl :: fls, s', kn', .step (s := ⟨σ, env⟩) (guardK_X ha hg) (he env ha) hd h1, h2, h3⟩

theorem KT.skip {R : List Nat → List VObj → Kn → Prop} (hg : guardK ops kn o = some false) (hd : dstOk n o.dst = true)
    (h : KT P n ops l σ (extK o.dst undefX kn) (fun fls τ k => R (0 :: fls) τ k)) : KT P n ops (o :: l) σ kn R := by
  intro env ha
  obtain ⟨fls, s', kn', h1, h2, h3⟩ := h (putE env o.dst undefX) (ha.ext o.dst undefX)
  exact ⟨0 :: fls, s', kn', .skip (s := ⟨σ, env⟩) (guardK_X ha hg) hd h1, h2, h3⟩

theorem KC.mono {c : Code} {T T' : Exit → List VObj → Kn → Prop} (h : KC P M W0 n c σ kn T) (ht : ∀ e σ k, T e σ k → T' e σ k) : KC P M W0 n c σ kn T' :=
  fun env he => (h env he).mono fun e s ⟨k, h1, h2⟩ => ⟨k, h1, ht _ _ _ h2⟩

/-- Less is known. -/
theorem KC.weaken {c : Code} {T : Exit → List VObj → Kn → Prop} {kn' : Kn} (h : KC P M W0 n c σ kn' T) (hk : ∀ p ∈ kn', look kn p.1 = some p.2) : KC P M W0 n c σ kn T :=
  fun env he => h env (he.weaken hk)

theorem KC.region {id : Nat} {T : Exit → List VObj → Kn → Prop} (h : KT P n ops ops.toList σ kn (fun _ τ k => T .normal τ k)) : KC P M W0 n (.region id ops false) σ kn T := by
  intro env he
  obtain ⟨fls, s', kn', h1, h2, h3⟩ := h env he
  exact .plain h1 ⟨kn', h2, h3⟩

theorem KC.draw (hm : P.follows .mixedOrders = true) {id : Nat} {T : Exit → List VObj → Kn → Prop} (h : KT P n ops ops.toList σ kn (fun fls τ k => okDraw ops (fun i => fls.getD i 0) = true ∧ T .normal τ k)) :
    KC P M W0 n (.region id ops true) σ kn T := by
  intro env he
  obtain ⟨fls, s', kn', h1, h2, h3, h4⟩ := h env he
  exact .draw hm h1 h3 ⟨kn', h2, h4⟩

def thenK (A : List VObj → Kn → Prop) (T : Exit → List VObj → Kn → Prop) : Exit → List VObj → Kn → Prop
  | .normal, σ, k => A σ k
  | e, σ, k => T e σ k

theorem KC.seq {x y : Code} {T : Exit → List VObj → Kn → Prop} (h : KC P M W0 n x σ kn (thenK (fun τ k => KC P M W0 n y τ k T) T)) : KC P M W0 n (.seq x y) σ kn T := by
  intro env he
  refine .seq ((h env he).mono fun e s hs => ?_)
  obtain ⟨k, h1, h2⟩ := hs
  cases e with
  | normal => exact h2 s.env h1
  | exit id => exact ⟨k, h1, h2⟩
  | goto j => exact ⟨k, h1, h2⟩
  | ret => exact ⟨k, h1, h2⟩
  | panic c => exact ⟨k, h1, h2⟩
  | outgrown => exact ⟨k, h1, h2⟩

/-- A region and what follows. -/
theorem KC.regionS {id : Nat} {y : Code} {T : Exit → List VObj → Kn → Prop} (h : KT P n ops ops.toList σ kn (fun _ τ k => KC P M W0 n y τ k T)) : KC P M W0 n (.seq (.region id ops false) y) σ kn T :=
  .seq (.region h)

theorem KC.drawS (hm : P.follows .mixedOrders = true) {id : Nat} {y : Code} {T : Exit → List VObj → Kn → Prop} (h : KT P n ops ops.toList σ kn (fun fls τ k => okDraw ops (fun i => fls.getD i 0) = true ∧ KC P M W0 n y τ k T)) :
    KC P M W0 n (.seq (.region id ops true) y) σ kn T :=
  .seq (.draw hm h)

theorem KC.skip {T : Exit → List VObj → Kn → Prop} (h : T .normal σ kn) : KC P M W0 n .skip σ kn T := fun _ he => .skip ⟨kn, he, h⟩

theorem KC.skipS {y : Code} {T : Exit → List VObj → Kn → Prop} (h : KC P M W0 n y σ kn T) : KC P M W0 n (.seq .skip y) σ kn T := .seq (.skip h)

theorem KC.ret {T : Exit → List VObj → Kn → Prop} (h : T .ret σ kn) : KC P M W0 n .ret σ kn T := fun _ he => .ret ⟨kn, he, h⟩

theorem KC.exit {id : Nat} {T : Exit → List VObj → Kn → Prop} (h : T (.exit id) σ kn) : KC P M W0 n (.exit id) σ kn T := fun _ he => .exit ⟨kn, he, h⟩

/-- A branch: either way under its condition. -/
theorem KC.cond {c : Operand} {x y : Code} {t : Bool} {T : Exit → List VObj → Kn → Prop} (hc : evK kn c = some (.d (.lit (.bool t)))) (h1 : t = true → KC P M W0 n x σ kn T) (h2 : t = false → KC P M W0 n y σ kn T) :
    KC P M W0 n (.cond c x y) σ kn T := by
  intro env he
  refine .cond (t := t) (by show litOf (evalX env c) = _; rw [evK_evalX he hc]; rfl) ?_
  cases t with
  | true => exact h1 rfl env he
  | false => exact h2 rfl env he

def blockK (id : Nat) (T : Exit → List VObj → Kn → Prop) : Exit → List VObj → Kn → Prop
  | .exit id', σ, k => if id' = id then T .normal σ k else T (.exit id') σ k
  | e, σ, k => T e σ k

theorem KC.block {id : Nat} {c : Code} {T : Exit → List VObj → Kn → Prop} (h : KC P M W0 n c σ kn (blockK id T)) : KC P M W0 n (.block id c) σ kn T := by
  intro env he
  refine .block ((h env he).mono fun e s hs => ?_)
  obtain ⟨k, h1, h2⟩ := hs
  cases e with
  | exit j =>
    simp only [blockK] at h2
    simp only [blockT]
    split at h2
    · rename_i e; rw [if_pos e]; exact ⟨k, h1, h2⟩
    · rename_i e; rw [if_neg e]; exact ⟨k, h1, h2⟩
  | normal => exact ⟨k, h1, h2⟩
  | goto j => exact ⟨k, h1, h2⟩
  | ret => exact ⟨k, h1, h2⟩
  | panic c => exact ⟨k, h1, h2⟩
  | outgrown => exact ⟨k, h1, h2⟩

/-- A LOOP: at every round's head the objects and the known slots are those of some index; a measure of the index gets less. -/
theorem KC.loop {α : Type} {c : Code} {T : Exit → List VObj → Kn → Prop} (Sg : α → List VObj) (Kf : α → Kn) (I : α → Prop) (μ : α → Nat) (a0 : α) (h0 : I a0) (hσ : σ = Sg a0) (hk : ∀ p ∈ Kf a0, look kn p.1 = some p.2)
    (h : ∀ a, I a → KC P M W0 n c (Sg a) (Kf a) (thenK (fun τ k => ∃ b, I b ∧ μ b < μ a ∧ τ = Sg b ∧ ∀ p ∈ Kf b, look k p.1 = some p.2) T)) : KC P M W0 n (.loop c) σ kn T := by
  intro env he
  have key : ∀ (m : Nat) (a : α), μ a < m → I a → ∀ env, Agree (Kf a) env → ∀ (ι : List Nat) (ac : Act) (w : World), Fr M W0 n ι ⟨Sg a, env⟩ ac w → ∀ Q : Exit → Act → World → Prop,
      (∀ (e : Exit) (ι' : List Nat) (s' : St) (a' : Act) (w' : World), (∃ k, Agree k s'.env ∧ T e s'.σ k) → Fr M W0 n ι' s' a' w' → Ext M ι (Sg a) w ι' s'.σ w' → Q e a' w') → Code.rounds P c Q m ac w := by
    intro m
    induction m with
    | zero => intro a hm; omega
    | succ m ih =>
      intro a hm hI env he ι ac w hf Q hq
      rw [rounds_succ]
      refine h a hI env he ι ac w hf _ fun e ι' s' a' w' hs h2 h3 => ?_
      obtain ⟨k, k1, k2⟩ := hs
      cases e with
      | normal =>
        obtain ⟨b, b1, b2, b3, b4⟩ := k2
        obtain ⟨σ', env'⟩ := s'
        simp only at b3 k1
        subst b3
        exact ih b (by omega) b1 env' (k1.weaken b4) ι' a' w' h2 Q fun e ι'' s'' a'' w'' q1 q2 q3 => hq e ι'' s'' a'' w'' q1 q2 (h3.trans q3)
      | exit id => exact hq (.exit id) ι' s' a' w' ⟨k, k1, k2⟩ h2 h3
      | goto j => exact hq (.goto j) ι' s' a' w' ⟨k, k1, k2⟩ h2 h3
      | ret => exact hq .ret ι' s' a' w' ⟨k, k1, k2⟩ h2 h3
      | panic c => exact hq (.panic c) ι' s' a' w' ⟨k, k1, k2⟩ h2 h3
      | outgrown => exact hq .outgrown ι' s' a' w' ⟨k, k1, k2⟩ h2 h3
  subst hσ
  exact fun ι ac w hf Q hq => wp_loop_rounds (μ a0 + 1) (key _ a0 (Nat.lt_succ_self _) h0 env (he.weaken hk) ι ac w hf Q hq)

end

/-- The known slots of a call's frame. -/
def enterK : Nat → List XV → Kn
  | _, [] => []
  | i, x :: xs => (i, x) :: enterK (i + 1) xs

theorem look_enterK : ∀ (xs : List XV) (i t : Nat) (x : XV), look (enterK i xs) t = some x → i ≤ t ∧ xs[t - i]? = some x
  | [], _, _, _, h => by simp [enterK, look] at h
  | y :: xs, i, t, x, h => by
    simp only [enterK, look] at h
    split at h
    · rename_i e; subst e; cases h; simp
    · rename_i e
      obtain ⟨h1, h2⟩ := look_enterK xs (i + 1) t x h
      refine ⟨by omega, ?_⟩
      rw [show t - i = (t - (i + 1)) + 1 by omega]
      exact h2

theorem agree_enter (σ : List VObj) (args : List XV) : Agree (enterK 0 args) (enter σ args).env := by
  intro t x h
  obtain ⟨_, h2⟩ := look_enterK args 0 t x h
  simp only [Nat.sub_zero] at h2
  simp [enter, h2]

/-- What is known of one result. -/
def resVarK (P : Program) (σ : List VObj) (kn : Kn) : ResultVar → Option XV
  | .tmp t => look kn t
  | .cell a t => (look kn a).bind fun x => (opLoad P σ t x).map (·.1)

def resK (P : Program) (fn : Func) (σ : List VObj) (kn : Kn) : Option XV :=
  match fn.results.toList.mapM (resVarK P σ kn) with
  | some [x] => some x
  | some xs => some (.tup xs)
  | none => none

theorem mapM_mono {α β : Type} {f g : α → Option β} (h : ∀ x y, f x = some y → g x = some y) : ∀ {l : List α} {r : List β}, l.mapM f = some r → l.mapM g = some r
  | [], r, hr => by simpa using hr
  | x :: l, r, hr => by
    rw [List.mapM_cons] at hr ⊢
    cases hf : f x with
    | none => rw [hf] at hr; simp at hr
    | some y =>
      cases hl : l.mapM f with
      | none => rw [hf, hl] at hr; simp at hr
      | some ys =>
        rw [hf, hl] at hr
        rw [h x y hf, mapM_mono h hl]
        exact hr

theorem resK_X {P : Program} {fn : Func} {s : St} {kn : Kn} (h : Agree kn s.env) {x : XV} (hx : resK P fn s.σ kn = some x) : resX P fn s = some x := by
  have key : ∀ xs, fn.results.toList.mapM (resVarK P s.σ kn) = some xs → fn.results.toList.mapM (resVar P s) = some xs := fun xs hxs => mapM_mono (fun r y hr => by
    cases r with
    | tmp t => simp [resVar]; exact h t y hr
    | cell a t =>
      simp only [resVarK, Option.bind_eq_some_iff] at hr
      obtain ⟨z, hz, hr⟩ := hr
      simp only [resVar]
      rw [h a z hz]; exact hr) hxs
  unfold resK at hx
  unfold resX
  split at hx
  · rename_i y hy; rw [key _ hy]; exact hx
  · rename_i xs hne hxs
    rw [key _ hxs]
    split
    · rename_i y hy; cases hy; exact absurd rfl (hne y)
    · rename_i ys _ hys; cases hys; exact hx
    · rename_i hn; cases hn
  · cases hx

/-- THE CONTRACT OF A FUNCTION, by a walk over its body. -/
theorem deepCall_K {P : Program} {f : FuncId} {fn : Func} {c : Code} {args : List DV} {res : DV} (k : Nat) (hf : P.funcs[f]? = some fn) (hb : fn.body = some c) (hn : args.length ≤ fn.ntmps)
    (h : ∀ (M : Nat → Prop) (W0 : World), KC P M W0 fn.ntmps c [] (enterK 0 (args.map .d)) (fun e σ kn => (e = .ret ∨ e = .normal) ∧ ∃ x, resK P fn σ kn = some x ∧ deepen (freezeAll σ) k x = some res)) : DeepCall P f args res :=
  deepCall_of k hf hb hn fun M W0 => (h M W0 _ (agree_enter [] _)).mono fun e s ⟨kn, h1, h2, x, h3, h4⟩ => ⟨h2, x, resK_X h1 h3, h4⟩

/-- .. whose result has a property. -/
def DeepSome (P : Program) (f : FuncId) (args : List DV) (R : DV → Prop) : Prop :=
  ∀ (M : Nat → Prop) (w : World) (vs : List Value), (∀ b, M b → b < w.heap.size) → vs.length = args.length → (∀ (i : Nat) (v : Value) (x : DV), vs[i]? = some v → args[i]? = some x → DRep w M v x) →
    Calls P f vs.toArray w fun e w' => ∃ v res, e = .returned v ∧ R res ∧ DRep w' M v res ∧ Below w.heap.size w w'

end Go.Vm

