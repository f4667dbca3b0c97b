import Derived.Test.YthbnnffmhnjpjaaVmH
/-
  VALUES WITHOUT ADDRESSES, 9: calls, and lists of operations in the text's order.
-/
namespace Go.Vm
open Go.RowKit

/-- THE CONTRACT OF A FUNCTION ON DEEP VALUES: in whatever world the arguments stand for args, the call returns what stands for res, and nothing that was there has turned. -/
def DeepCall (P : Program) (f : FuncId) (args : List DV) (res : DV) : Prop :=
  ∀ (M : Nat → Prop) (w : World) (vs : List Value), (∀ b, M b → b < w.heap.size) → vs.length = args.length → (∀ (i : Nat) (v : Value) (x : DV), vs[i]? = some v → args[i]? = some x → DRep w M v x) →
    Calls P f vs.toArray w fun e w' => ∃ v, e = .returned v ∧ DRep w' M v res ∧ Below w.heap.size w w'

/-- The same among objects of the caller's own, which the call may write. -/
def InCall (P : Program) (M : Nat → Prop) (W0 : World) (f : FuncId) (σ : List VObj) (args : List XV) (Q : List VObj → XV → Prop) : Prop :=
  ∀ (ι : List Nat) (w : World) (vs : List Value), Mem M W0 ι σ w → vs.length = args.length → (∀ (i : Nat) (v : Value) (x : XV), vs[i]? = some v → args[i]? = some x → XRep w ι (Forb M ι σ) v x) →
    Calls P f vs.toArray w fun e w' => ∃ (ι' : List Nat) (σ' : List VObj) (x : XV) (v : Value), e = .returned v ∧ Mem M W0 ι' σ' w' ∧ Ext M ι σ w ι' σ' w' ∧ XRep w' ι' (Forb M ι' σ') v x ∧ Q σ' x

def freezeIds (σ : List VObj) (ids : List Nat) : List VObj := σ.mapIdx fun i o => if ids.contains i && o.mode == 0 then ⟨o.cells, 1⟩ else o

def freezeAll (σ : List VObj) : List VObj := σ.map fun o => if o.mode == 0 then ⟨o.cells, 1⟩ else o

/-- A value with the objects that it refers to written out: they are no longer written. -/
def deepen (σ : List VObj) : Nat → XV → Option DV
  | 0, _ => none
  | n + 1, x => match x with
    | .d x => some x
    | .osl id off len k lo ex => match σ[id]? with
      | some ob => if ob.mode = 1 ∧ off + len * k ≤ ob.cells.length then
          (((ob.cells.drop off).take (len * k)).mapM (deepen σ n)).map fun cs => .sl cs len (if ex then some lo else none) else none
      | none => none
    | .optr id off => match σ[id]? with
      | some ob => if ob.mode = 1 then ((ob.cells.drop off).mapM (deepen σ n)).map .ptr else none
      | none => none
    | .tup xs => (xs.mapM (deepen σ n)).map .tup
    | .agg xs => (xs.mapM (deepen σ n)).map .agg
    | .fn f a b => match a.mapM (deepen σ n), b.mapM (deepen σ n) with
      | some a, some b => some (.fn f a b)
      | _, _ => none
    | .ifc t x => (deepen σ n x).map (.ifc t)

theorem mapM_get {α β : Type} {f : α → Option β} : ∀ {l : List α} {r : List β}, l.mapM f = some r → l.length = r.length ∧ ∀ (i : Nat) (x : α) (y : β), l[i]? = some x → r[i]? = some y → f x = some y
  | [], r, h => by simp at h; subst h; exact ⟨rfl, fun i x y h => by simp at h⟩
  | a :: l, r, h => by
    rw [List.mapM_cons] at h
    cases hfa : f a with
    | none => rw [hfa] at h; simp at h
    | some b =>
      cases hl : l.mapM f with
      | none => rw [hfa, hl] at h; simp at h
      | some bs =>
        rw [hfa, hl] at h
        simp at h
        subst h
        obtain ⟨h1, h2⟩ := mapM_get hl
        refine ⟨by simp [h1], fun i x y hx hy => ?_⟩
        cases i with
        | zero => simp at hx hy; subst hx; subst hy; exact hfa
        | succ i => exact h2 i x y (by simpa using hx) (by simpa using hy)

section
variable {P : Program} {M : Nat → Prop} {W0 w : World} {ι : List Nat} {σ : List VObj}

theorem Mem.calm (hm : Mem M W0 ι σ w) {id b : Nat} {ob : VObj} (ho : σ[id]? = some ob) (hb : ι[id]? = some b) (h1 : ob.mode = 1) : ¬ Forb M ι σ b := by
  rintro (h | ⟨j, oj, h2, h3, h4⟩)
  · have := hm.outer b h; have := (hm.fresh _ _ hb).1; omega
  · by_cases e : j = id
    · subst e; rw [ho] at h2; cases h2; omega
    · exact hm.apart j id oj ob b b e h2 ho h3 hb h4 (by omega) rfl

theorem deepen_sound (hm : Mem M W0 ι σ w) : ∀ (n : Nat) (v : Value) (x : XV) (y : DV), XRep w ι (Forb M ι σ) v x → deepen σ n x = some y → DRep w (Forb M ι σ) v y
  | 0, _, _, _, _, h => by simp [deepen] at h
  | n + 1, v, x, y, hx, h => by
    have ih := deepen_sound hm n
    cases hx with
    | d hx => simp [deepen] at h; subst h; exact hx
    | @osl b off len cap id k lo ex hb hl hlo hex hs =>
      simp only [deepen] at h
      split at h
      · rename_i ob ho
        split at h
        · rename_i hc
          simp only [Option.map_eq_some_iff] at h
          obtain ⟨cs, hcs, rfl⟩ := h
          obtain ⟨h1, h2⟩ := mapM_get hcs
          obtain ⟨cur, ty, k1, k2, hce⟩ := hm.cells ho hb (by omega)
          have hce' := (hce.drop off).take (len * k)
          refine .sl _ (by omega) (fun c hc' => ?_) (hce'.len.trans h1) (fun _ => ⟨rfl, hm.calm ho hb hc.1⟩) (fun i v hv => by simpa using hce'.cell i v hv) (fun i v x hv hx => ?_)
          · cases ex with
            | true => simp at hc'; rw [hex rfl, hc']
            | false => simp at hc'
          · have hlt : i < ((ob.cells.drop off).take (len * k)).length := by rw [h1]; exact (List.getElem?_eq_some_iff.1 hx).1
            exact ih _ _ _ (hce'.rep i v _ hv (List.getElem?_eq_getElem hlt)) (h2 i _ x (List.getElem?_eq_getElem hlt) hx)
        · cases h
      · cases h
    | @optr b off id hb =>
      simp only [deepen] at h
      split at h
      · rename_i ob ho
        split at h
        · rename_i hc
          simp only [Option.map_eq_some_iff] at h
          obtain ⟨cs, hcs, rfl⟩ := h
          obtain ⟨h1, h2⟩ := mapM_get hcs
          obtain ⟨cur, ty, k1, k2, hce⟩ := hm.cells ho hb (by omega)
          have hce' := hce.drop off
          refine .ptr _ (hce'.len.trans h1) (fun _ => ⟨rfl, hm.calm ho hb hc⟩) (fun i v hv => by simpa using hce'.cell i v hv) (fun i v x hv hx => ?_)
          have hlt : i < (ob.cells.drop off).length := by rw [h1]; exact (List.getElem?_eq_some_iff.1 hx).1
          exact ih _ _ _ (hce'.rep i v _ hv (List.getElem?_eq_getElem hlt)) (h2 i _ x (List.getElem?_eq_getElem hlt) hx)
        · cases h
      · cases h
    | tup hn hxx =>
      simp only [deepen, Option.map_eq_some_iff] at h
      obtain ⟨cs, hcs, rfl⟩ := h
      obtain ⟨h1, h2⟩ := mapM_get hcs
      refine .tup (hn.trans h1) (fun i v x hv hx => ?_)
      have hlt : i < _ := (List.getElem?_eq_some_iff.1 hx).1
      rw [← h1] at hlt
      exact ih _ _ _ (hxx i v _ hv (List.getElem?_eq_getElem hlt)) (h2 i _ x (List.getElem?_eq_getElem hlt) hx)
    | agg hn hxx =>
      simp only [deepen, Option.map_eq_some_iff] at h
      obtain ⟨cs, hcs, rfl⟩ := h
      obtain ⟨h1, h2⟩ := mapM_get hcs
      refine .agg (hn.trans h1) (fun i v x hv hx => ?_)
      have hlt : i < _ := (List.getElem?_eq_some_iff.1 hx).1
      rw [← h1] at hlt
      exact ih _ _ _ (hxx i v _ hv (List.getElem?_eq_getElem hlt)) (h2 i _ x (List.getElem?_eq_getElem hlt) hx)
    | fn hn hxx hm' hyy =>
      simp only [deepen] at h
      split at h
      · rename_i a' b' ha hb
        cases h
        obtain ⟨h1, h2⟩ := mapM_get ha
        obtain ⟨h3, h4⟩ := mapM_get hb
        refine .fn (hn.trans h1) (fun i v x hv hx => ?_) (hm'.trans h3) (fun i v x hv hx => ?_)
        · have hlt : i < _ := (List.getElem?_eq_some_iff.1 hx).1
          rw [← h1] at hlt
          exact ih _ _ _ (hxx i v _ hv (List.getElem?_eq_getElem hlt)) (h2 i _ x (List.getElem?_eq_getElem hlt) hx)
        · have hlt : i < _ := (List.getElem?_eq_some_iff.1 hx).1
          rw [← h3] at hlt
          exact ih _ _ _ (hyy i v _ hv (List.getElem?_eq_getElem hlt)) (h4 i _ x (List.getElem?_eq_getElem hlt) hx)
      · cases h
    | ifc hxx =>
      simp only [deepen, Option.map_eq_some_iff] at h
      obtain ⟨cs, hcs, rfl⟩ := h
      exact .ifc (ih _ _ _ hxx hcs)

theorem freezeIds_tamed (hm : Mem M W0 ι σ w) (ids : List Nat) : Mem M W0 ι (freezeIds σ ids) w ∧ Ext M ι σ w ι (freezeIds σ ids) w :=
  hm.tamed (by simp [freezeIds]) (fun id o' h => by
    simp only [freezeIds, List.getElem?_mapIdx, Option.map_eq_some_iff] at h
    obtain ⟨o, ho, rfl⟩ := h
    refine ⟨o, ho, ?_⟩
    split
    · rename_i hc
      simp at hc
      exact ⟨rfl, fun h => absurd h (by simp), fun _ => by omega⟩
    · exact ⟨rfl, fun h => h, fun h => h⟩)

theorem freezeAll_tamed (hm : Mem M W0 ι σ w) : Mem M W0 ι (freezeAll σ) w ∧ Ext M ι σ w ι (freezeAll σ) w :=
  hm.tamed (by simp [freezeAll]) (fun id o' h => by
    simp only [freezeAll, List.getElem?_map, Option.map_eq_some_iff] at h
    obtain ⟨o, ho, rfl⟩ := h
    refine ⟨o, ho, ?_⟩
    split
    · rename_i hc
      simp at hc
      exact ⟨rfl, fun h => absurd h (by simp), fun _ => by omega⟩
    · exact ⟨rfl, fun h => h, fun h => h⟩)

/-- A world that has grown by a call. -/
theorem Mem.grown (hm : Mem M W0 ι σ w) {w' : World} (hb : Below w.heap.size w w') : Mem M W0 ι σ w' ∧ Ext M ι σ w ι σ w' := by
  have hext : Ext M ι σ w ι σ w' := ext_of_grown (fun _ _ h => h) (fun b h => hb.block b h) hb.size (fun _ _ h => h)
  refine ⟨⟨hm.len, fun id o b h1 h2 h3 => ?_, fun id b h => ?_, hm.apart, hm.below.trans (hb.mono hm.below.size), hm.outer⟩, hext⟩
  · obtain ⟨cur, ty, k1, k2, k3⟩ := hm.objs id o b h1 h2 h3
    refine ⟨cur, ty, (hb.block b (hm.fresh _ _ h2).2).trans k1, k2, fun i x hi => ?_⟩
    obtain ⟨v, kv, kx⟩ := k3 i x hi
    exact ⟨v, kv, kx.ext hext⟩
  · have := hm.fresh id b h; have := hb.size; omega

theorem Mem.forb_lt (hm : Mem M W0 ι σ w) : ∀ b, Forb M ι σ b → b < w.heap.size := by
  rintro b (h | ⟨j, oj, _, h3, _⟩)
  · have := hm.outer b h; have := hm.below.size; omega
  · exact (hm.fresh _ _ h3).2

end

def plainFn (P : Program) (f : FuncId) : Bool :=
  match P.funcs[f]? with
  | some fn => !(fn.name == "runtime.NumGoroutine") && fn.body.isSome
  | none => false

/-- The function that a value is, and what it brings of its own. -/
def asFn : XV → Option (FuncId × List XV × List XV)
  | .d (.fn (.func f) a b) => some (f, a.map .d, b.map .d)
  | .d (.lit (.func (.func f) a b)) => some (f, a.toList.map (fun v => .d (.lit v)), b.toList.map (fun v => .d (.lit v)))
  | .fn (.func f) a b => some (f, a, b)
  | _ => none

/-- An operation gives a value, leaves objects, and did something with them. -/
inductive Ev (P : Program) (o : Oper) (s : St) : XV → List VObj → Nat → Prop
  | op {x : XV} {σ' : List VObj} {fl : Nat} (h : evalOp P o s = some (x, σ', fl)) : Ev P o s x σ' fl
  | call {callee : Operand} {args : Array Operand} {ts : Array TypeId} {f : FuncId} {first caps : List XV} {dargs : List DV} {res : DV} (ho : o.op = .call ⟨.value callee, args, ts⟩)
      (hf : asFn (evalX s.env callee) = some (f, first, caps)) (hp : plainFn P f = true) (hd : first ++ args.toList.map (evalX s.env) ++ caps = dargs.map .d) (hc : DeepCall P f dargs res) : Ev P o s (.d res) s.σ 0
  | callF {callee : Operand} {args : Array Operand} {ts : Array TypeId} {f : FuncId} {first caps : List XV} {dargs : List DV} {res : DV} (ids : List Nat) (n : Nat) (ho : o.op = .call ⟨.value callee, args, ts⟩)
      (hf : asFn (evalX s.env callee) = some (f, first, caps)) (hp : plainFn P f = true) (hd : (first ++ args.toList.map (evalX s.env) ++ caps).mapM (deepen (freezeIds s.σ ids) n) = some dargs) (hc : DeepCall P f dargs res) :
      Ev P o s (.d res) (freezeIds s.σ ids) 3
  | inl {callee : Operand} {args : Array Operand} {ts : Array TypeId} {f : FuncId} {first caps : List XV} {x : XV} {σ' : List VObj} (ho : o.op = .call ⟨.value callee, args, ts⟩)
      (hf : asFn (evalX s.env callee) = some (f, first, caps)) (hp : plainFn P f = true)
      (hc : ∀ (M : Nat → Prop) (W0 : World), InCall P M W0 f s.σ (first ++ args.toList.map (evalX s.env) ++ caps) (fun σ2 x2 => σ2 = σ' ∧ x2 = x)) : Ev P o s x σ' 2
  | inlG {callee : Operand} {args : Array Operand} {ts : Array TypeId} {f : FuncId} {first caps : List XV} {x : XV} {τ : List VObj} (ho : o.op = .call ⟨.value callee, args, ts⟩)
      (hf : asFn (evalX s.env callee) = some (f, first, caps)) (hp : plainFn P f = true)
      (hc : ∀ (M : Nat → Prop) (W0 : World), InCall P M W0 f s.σ (first ++ args.toList.map (evalX s.env) ++ caps) (fun σ2 x2 => σ2 = s.σ ++ τ ∧ x2 = x)) : Ev P o s x (s.σ ++ τ) 3

/-- A frame of the machine and one of the model. -/
structure Fr (M : Nat → Prop) (W0 : World) (n : Nat) (ι : List Nat) (s : St) (a : Act) (w : World) : Prop where
  mem : Mem M W0 ι s.σ w
  env : ∀ t, XRep w ι (Forb M ι s.σ) (a.tmps.getD t undef) (s.env t)
  size : a.tmps.size = n
  defers : a.defers = []

def undefX : XV := .d (.lit undef)

def putE (env : Nat → XV) (dst : Option Tmp) (x : XV) : Nat → XV :=
  match dst with
  | some d => upd env d x
  | none => env

def dstOk (n : Nat) (dst : Option Tmp) : Bool :=
  match dst with
  | some d => decide (d < n)
  | none => true

def guardX (ops : Array Oper) (env : Nat → XV) (o : Oper) : Option Bool :=
  match o.guard with
  | none => some true
  | some (j, want) => match (ops[j]?).bind (·.dst) with
    | some d => match litOf (env d) with
      | some (.bool b) => some (b == want)
      | some _ => some false
      | none => none
    | none => some false

section
variable {P : Program} {M : Nat → Prop} {W0 w : World} {ι : List Nat} {σ : List VObj} {n : Nat}

theorem guardX_sound {F : Nat → Prop} {ops : Array Oper} {a : Act} {env : Nat → XV} {o : Oper} {b : Bool} (he : ∀ t, XRep w ι F (a.tmps.getD t undef) (env t)) (h : guardX ops env o = some b) :
    Region.wanted o (yielded ops a.tmps) = b := by
  unfold guardX at h
  unfold Region.wanted
  split at h
  · rename_i hg; rw [hg]; cases h; rfl
  · rename_i j want hg
    rw [hg]
    simp only [yielded]
    cases hd : (ops[j]?).bind (·.dst) with
    | none => rw [hd] at h; cases h; simp
    | some d =>
      rw [hd] at h
      simp only [Option.bind_some]
      simp only at h
      cases hl : litOf (env d) with
      | none => rw [hl] at h; cases h
      | some v =>
        rw [hl] at h
        have hv := litOf_rep (he d) hl
        by_cases hlt : d < a.tmps.size
        · have e : a.tmps[d]? = some v := by rw [← hv]; simp [hlt]
          rw [e]
          cases v <;> simp at h <;> subst h <;> simp
        · have e : a.tmps[d]? = none := Array.getElem?_eq_none (Nat.le_of_not_lt hlt)
          rw [e]
          have hu : v = undef := by rw [← hv]; simp [hlt]
          subst hu
          simp [undef] at h
          subst h
          simp

theorem put_env {F : Nat → Prop} {a : Act} {env : Nat → XV} {dst : Option Tmp} {v : Value} {x : XV} (hd : dstOk a.tmps.size dst = true) (he : ∀ t, XRep w ι F (a.tmps.getD t undef) (env t)) (hx : XRep w ι F v x) :
    ∀ t, XRep w ι F ((a.put dst v).tmps.getD t undef) (putE env dst x t) := by
  intro t
  cases dst with
  | none => exact he t
  | some d =>
    simp only [dstOk, decide_eq_true_eq] at hd
    simp only [Act.put, putE, upd]
    by_cases e : t = d
    · subst e; rw [if_pos rfl]; simpa [hd] using hx
    · rw [if_neg e]
      have : (a.tmps.setIfInBounds d v).getD t undef = a.tmps.getD t undef := by
        simp only [Array.getD_eq_getD_getElem?]
        rw [Array.getElem?_setIfInBounds_ne (by omega)]
      rw [this]; exact he t

theorem Fr.put {s : St} {a : Act} (h : Fr M W0 n ι s a w) {dst : Option Tmp} (hd : dstOk n dst = true) {ι' : List Nat} {σ' : List VObj} {w' : World} {v : Value} {x : XV} (hm : Mem M W0 ι' σ' w') (hext : Ext M ι s.σ w ι' σ' w')
    (hx : XRep w' ι' (Forb M ι' σ') v x) : Fr M W0 n ι' ⟨σ', putE s.env dst x⟩ (a.put dst v) w' :=
  ⟨hm, put_env (by rw [h.size]; exact hd) (fun t => (h.env t).ext hext) hx, by cases dst <;> simp [Act.put, h.size], by cases dst <;> simp [Act.put, h.defers]⟩

theorem asFn_rep {F : Nat → Prop} {v : Value} {x : XV} {f : FuncId} {first caps : List XV} (hx : XRep w ι F v x) (h : asFn x = some (f, first, caps)) :
    ∃ vs us : Array Value, v = .func (.func f) vs us ∧ vs.size = first.length ∧ us.size = caps.length ∧ (∀ (i : Nat) (v : Value) (x : XV), vs[i]? = some v → first[i]? = some x → XRep w ι F v x) ∧
      ∀ (i : Nat) (v : Value) (x : XV), us[i]? = some v → caps[i]? = some x → XRep w ι F v x := by
  unfold asFn at h
  split at h
  · cases h
    cases hx with
    | d hx => cases hx with
      | fn hn hxx hm hyy =>
        refine ⟨_, _, rfl, by simpa using hn, by simpa using hm, fun i v x hv hx => ?_, fun i v x hv hx => ?_⟩
        · simp only [List.getElem?_map, Option.map_eq_some_iff] at hx
          obtain ⟨z, hz, rfl⟩ := hx
          exact .d (hxx i v z hv hz)
        · simp only [List.getElem?_map, Option.map_eq_some_iff] at hx
          obtain ⟨z, hz, rfl⟩ := hx
          exact .d (hyy i v z hv hz)
  · cases h
    cases hx with
    | d hx => cases hx with
      | lit =>
        refine ⟨_, _, rfl, by simp, by simp, fun i v x hv hx => ?_, fun i v x hv hx => ?_⟩
        · simp only [List.getElem?_map, Option.map_eq_some_iff] at hx
          obtain ⟨z, hz, rfl⟩ := hx
          rw [Array.getElem?_toList, hv] at hz; cases hz; exact .d (.lit _)
        · simp only [List.getElem?_map, Option.map_eq_some_iff] at hx
          obtain ⟨z, hz, rfl⟩ := hx
          rw [Array.getElem?_toList, hv] at hz; cases hz; exact .d (.lit _)
  · cases h
    cases hx with
    | fn hn hxx hm hyy => exact ⟨_, _, rfl, hn, hm, hxx, hyy⟩
  · cases h

/-- What a call of a Go function asks. -/
theorem call_run {a : Act} {o : Oper} {callee : Operand} {args : Array Operand} {ts : Array TypeId} {f : FuncId} {vs us : Array Value} (ho : o.op = .call ⟨.value callee, args, ts⟩)
    (hv : a.eval callee = .func (.func f) vs us) (hp : plainFn P f = true) : (execOp a.eval o).run P w = .ok (.enter f (vs ++ args.map a.eval ++ us)) w := by
  unfold plainFn at hp
  split at hp
  · rename_i fn hfn
    simp only [Bool.and_eq_true, Bool.not_eq_true'] at hp
    obtain ⟨h1, h2⟩ := hp
    have h3 : ¬ fn.body = none := by intro e; rw [e] at h2; simp at h2
    have h4 : ¬ fn.name = "runtime.NumGoroutine" := by simpa using h1
    simp [execOp, ho, resolve, hv, Deferred.ofValue, invoke, callFunc, hfn, h4, h3]
  · cases hp

theorem args_rep {F : Nat → Prop} {a : Act} {env : Nat → XV} (he : ∀ t, XRep w ι F (a.tmps.getD t undef) (env t)) {args : Array Operand} {vs us : Array Value} {first caps : List XV} (h1 : vs.size = first.length)
    (h2 : us.size = caps.length) (h3 : ∀ (i : Nat) (v : Value) (x : XV), vs[i]? = some v → first[i]? = some x → XRep w ι F v x) (h4 : ∀ (i : Nat) (v : Value) (x : XV), us[i]? = some v → caps[i]? = some x → XRep w ι F v x) :
    (vs ++ args.map a.eval ++ us).toList.length = (first ++ args.toList.map (evalX env) ++ caps).length ∧
    ∀ (i : Nat) (v : Value) (x : XV), (vs ++ args.map a.eval ++ us).toList[i]? = some v → (first ++ args.toList.map (evalX env) ++ caps)[i]? = some x → XRep w ι F v x := by
  refine ⟨by simp [h1, h2], fun i v x hv hx => ?_⟩
  have e1 : (vs ++ args.map a.eval).toList.length = (first ++ args.toList.map (evalX env)).length := by simp [h1]
  rw [Array.toList_append] at hv
  by_cases hi : i < (first ++ args.toList.map (evalX env)).length
  · rw [List.getElem?_append_left (by omega)] at hv
    rw [List.getElem?_append_left hi] at hx
    rw [Array.toList_append] at hv
    by_cases hj : i < first.length
    · rw [List.getElem?_append_left (by simp; omega)] at hv
      rw [List.getElem?_append_left hj] at hx
      exact h3 i v x (by simpa using hv) hx
    · rw [List.getElem?_append_right (by simp; omega)] at hv
      rw [List.getElem?_append_right (by omega)] at hx
      simp only [Array.toList_map, List.getElem?_map, Option.map_eq_some_iff, Array.length_toList, h1] at hv hx
      obtain ⟨p, hp, rfl⟩ := hv
      obtain ⟨q, hq, rfl⟩ := hx
      rw [hp] at hq; cases hq
      exact evalX_rep he p
  · rw [List.getElem?_append_right (by omega)] at hv
    rw [List.getElem?_append_right (by omega)] at hx
    rw [e1] at hv
    exact h4 _ v x (by simpa using hv) hx

/-- AN OPERATION, IN THE MODEL. -/
theorem Ev.wp {o : Oper} {s : St} {x : XV} {σ' : List VObj} {fl : Nat} (h : Ev P o s x σ' fl) {a : Act} (hm : Mem M W0 ι s.σ w) (he : ∀ t, XRep w ι (Forb M ι s.σ) (a.tmps.getD t undef) (s.env t))
    {K : Act → World → Prop} {Q : Exit → Act → World → Prop}
    (hk : ∀ (ι' : List Nat) (v : Value) (w' : World), Mem M W0 ι' σ' w' → Ext M ι s.σ w ι' σ' w' → XRep w' ι' (Forb M ι' σ') v x → K (a.put o.dst v) w') : o.wp P a w K Q := by
  cases h with
  | op h =>
    obtain ⟨ι', w', v, hr, h1, h2, h3⟩ := evalOp_sound hm he h
    unfold Oper.wp
    rcases hr with hr | ⟨hr, rfl⟩
    · rw [hr]; exact hk ι' v w' h1 h2 h3
    · rw [hr]; exact hk ι' undef w' h1 h2 h3
  | call ho hf hp hd hc =>
    rename_i callee args ts f first caps dargs res
    obtain ⟨vs, us, e1, e2, e3, e4, e5⟩ := asFn_rep (evalX_rep he callee) hf
    obtain ⟨a1, a2⟩ := args_rep (args := args) he e2 e3 e4 e5
    unfold Oper.wp
    rw [call_run ho e1 hp]
    have hcall := hc (Forb M ι s.σ) w (vs ++ args.map a.eval ++ us).toList hm.forb_lt (by rw [a1, hd]; simp) (fun i v x hv hx => by
      have hx' : (first ++ args.toList.map (evalX s.env) ++ caps)[i]? = some (.d x) := by rw [hd]; simp [hx]
      cases a2 i v _ hv hx' with
      | d h => exact h)
    rw [Array.toArray_toList] at hcall
    refine hcall.mono fun e w' => ?_
    rintro ⟨v, rfl, h1, h2⟩
    obtain ⟨g1, g2⟩ := hm.grown h2
    exact hk ι v w' g1 g2 (.d h1)
  | callF ids n ho hf hp hd hc =>
    rename_i callee args ts f first caps dargs res
    obtain ⟨f1, f2⟩ := freezeIds_tamed hm ids
    obtain ⟨vs, us, e1, e2, e3, e4, e5⟩ := asFn_rep (evalX_rep he callee) hf
    obtain ⟨a1, a2⟩ := args_rep (args := args) he e2 e3 e4 e5
    obtain ⟨d1, d2⟩ := mapM_get hd
    unfold Oper.wp
    rw [call_run ho e1 hp]
    have hcall := hc (Forb M ι (freezeIds s.σ ids)) w (vs ++ args.map a.eval ++ us).toList f1.forb_lt (by rw [a1, d1]) (fun i v x hv hx => by
      have hlt : i < (first ++ args.toList.map (evalX s.env) ++ caps).length := by rw [d1]; exact (List.getElem?_eq_some_iff.1 hx).1
      exact deepen_sound f1 n v _ x ((a2 i v _ hv (List.getElem?_eq_getElem hlt)).ext f2) (d2 i _ x (List.getElem?_eq_getElem hlt) hx))
    rw [Array.toArray_toList] at hcall
    refine hcall.mono fun e w' => ?_
    rintro ⟨v, rfl, h1, h2⟩
    obtain ⟨g1, g2⟩ := f1.grown h2
    exact hk ι v w' g1 (f2.trans g2) (.d h1)
  | inl ho hf hp hc =>
    rename_i callee args ts f first caps
    obtain ⟨vs, us, e1, e2, e3, e4, e5⟩ := asFn_rep (evalX_rep he callee) hf
    obtain ⟨a1, a2⟩ := args_rep (args := args) he e2 e3 e4 e5
    unfold Oper.wp
    rw [call_run ho e1 hp]
    have hcall := hc M W0 ι w (vs ++ args.map a.eval ++ us).toList hm a1 a2
    rw [Array.toArray_toList] at hcall
    refine hcall.mono fun e w' => ?_
    rintro ⟨ι', σ2, x2, v, rfl, h1, h2, h3, rfl, rfl⟩
    exact hk ι' v w' h1 h2 h3
  | inlG ho hf hp hc =>
    rename_i callee args ts f first caps τ
    obtain ⟨vs, us, e1, e2, e3, e4, e5⟩ := asFn_rep (evalX_rep he callee) hf
    obtain ⟨a1, a2⟩ := args_rep (args := args) he e2 e3 e4 e5
    unfold Oper.wp
    rw [call_run ho e1 hp]
    have hcall := hc M W0 ι w (vs ++ args.map a.eval ++ us).toList hm a1 a2
    rw [Array.toArray_toList] at hcall
    refine hcall.mono fun e w' => ?_
    rintro ⟨ι', σ2, x2, v, rfl, h1, h2, h3, rfl, rfl⟩
    exact hk ι' v w' h1 h2 h3

end
end Go.Vm

