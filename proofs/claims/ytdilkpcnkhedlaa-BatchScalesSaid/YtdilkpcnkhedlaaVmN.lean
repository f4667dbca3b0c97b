import Derived.Test.YtdilkpcnkhedlaaVmH
import Derived.RangeFuncRecord
import Derived.OrdersIn
import Derived.LoopNIn
import Derived.TacticsIn
section
/-
  VALUES WITHOUT ADDRESSES, 9: calls, and lists of operations in the text's order.
-/
namespace Go.Vm
open Go.RowKit

/-- THE CONTRACT OF A FUNCTION ON DEEP VALUES: in whatever world the arguments stand for args, the call returns what stands for res, and nothing that was there has turned. -/
def DeepCall (P : Program) (f : FuncId) (args : List DV) (res : DV) : Prop :=
  ∀ (M : Nat → Prop) (w : World) (vs : List Value), (∀ b, M b → b < w.heap.size) → vs.length = args.length → (∀ (i : Nat) (v : Value) (x : DV), vs[i]? = some v → args[i]? = some x → DRep w M v x) →
    Calls P f vs.toArray w fun e w' => ∃ v, e = .returned v ∧ DRep w' M v res ∧ Below w.heap.size w w'

/-- The same among objects of the caller's own, which the call may write. -/
def InCall (P : Program) (M : Nat → Prop) (W0 : World) (f : FuncId) (σ : List VObj) (args : List XV) (Q : List VObj → XV → Prop) : Prop :=
  ∀ (ι : List Nat) (w : World) (vs : List Value), Mem M W0 ι σ w → vs.length = args.length → (∀ (i : Nat) (v : Value) (x : XV), vs[i]? = some v → args[i]? = some x → XRep w ι (Forb M ι σ) v x) →
    Calls P f vs.toArray w fun e w' => ∃ (ι' : List Nat) (σ' : List VObj) (x : XV) (v : Value), e = .returned v ∧ Mem M W0 ι' σ' w' ∧ Ext M ι σ w ι' σ' w' ∧ XRep w' ι' (Forb M ι' σ') v x ∧ Q σ' x

def freezeIds (σ : List VObj) (ids : List Nat) : List VObj := σ.mapIdx fun i o => if ids.contains i && o.mode == 0 then ⟨o.cells, 1⟩ else if ids.contains i && o.mode == 3 then ⟨o.cells, 4⟩ else o

def freezeAll (σ : List VObj) : List VObj := σ.map fun o => if o.mode == 0 then ⟨o.cells, 1⟩ else if o.mode == 3 then ⟨o.cells, 4⟩ else o

/-- The key and the value of an entry. -/
def entOf : XV → Option (Value × XV)
  | .tup [.d (.lit k), x] => some (k, x)
  | _ => none

/-- A value with the objects that it refers to written out: they are no longer written. -/
def deepen (σ : List VObj) : Nat → XV → Option DV
  | 0, _ => none
  | n + 1, x => match x with
    | .d x => some x
    | .osl id off len k lo ex => match σ[id]? with
      | some ob => if ob.mode = 1 ∧ off + len * k ≤ ob.cells.length then
          (((ob.cells.drop off).take (len * k)).mapM (deepen σ n)).map fun cs => .sl cs len (if ex then some lo else none) else none
      | none => none
    | .optr id off => match σ[id]? with
      | some ob => if ob.mode = 1 then ((ob.cells.drop off).mapM (deepen σ n)).map .ptr else none
      | none => none
    | .tup xs => (xs.mapM (deepen σ n)).map .tup
    | .agg xs => (xs.mapM (deepen σ n)).map .agg
    | .fn f a b => match a.mapM (deepen σ n), b.mapM (deepen σ n) with
      | some a, some b => some (.fn f a b)
      | _, _ => none
    | .ifc t x => (deepen σ n x).map (.ifc t)
    | .omp id => match σ[id]? with
      | some ob => if ob.mode = 4 then match ob.cells.mapM entOf with
          | some es => ((es.map (·.2)).mapM (deepen σ n)).map (.mp (es.map (·.1)))
          | none => none
        else none
      | none => none
    | .yl _ => none
    | .lp _ => none

theorem mapM_get {α β : Type} {f : α → Option β} : ∀ {l : List α} {r : List β}, l.mapM f = some r → l.length = r.length ∧ ∀ (i : Nat) (x : α) (y : β), l[i]? = some x → r[i]? = some y → f x = some y
  | [], r, h => by simp at h; subst h; exact ⟨rfl, fun i x y h => by simp at h⟩
  | a :: l, r, h => by
    rw [List.mapM_cons] at h
    cases hfa : f a with
    | none => rw [hfa] at h; simp at h
    | some b =>
      cases hl : l.mapM f with
      | none => rw [hfa, hl] at h; simp at h
      | some bs =>
        rw [hfa, hl] at h
        simp at h
        subst h
        obtain ⟨h1, h2⟩ := mapM_get hl
        refine ⟨by simp [h1], fun i x y hx hy => ?_⟩
        cases i with
        | zero => simp at hx hy; subst hx; subst hy; exact hfa
        | succ i => exact h2 i x y (by simpa using hx) (by simpa using hy)

section
variable {P : Program} {M : Nat → Prop} {W0 w : World} {ι : List Nat} {σ : List VObj}

theorem Mem.calm (hm : Mem M W0 ι σ w) {id b : Nat} {ob : VObj} (ho : σ[id]? = some ob) (hb : ι[id]? = some b) (h1 : ob.mode = 1 ∨ ob.mode = 4) : ¬ Forb M ι σ b := by
  rintro (h | ⟨j, oj, h2, h3, h4⟩)
  · have := hm.outer b h; have := (hm.fresh _ _ hb).1; omega
  · by_cases e : j = id
    · subst e; rw [ho] at h2; cases h2; simp only [Wr] at h4; omega
    · exact hm.apart j id oj ob b b e h2 ho h3 hb h4 (by omega) rfl

theorem deepen_sound (hm : Mem M W0 ι σ w) : ∀ (n : Nat) (v : Value) (x : XV) (y : DV), XRep w ι (Forb M ι σ) v x → deepen σ n x = some y → DRep w (Forb M ι σ) v y
  | 0, _, _, _, _, h => by simp [deepen] at h
  | n + 1, v, x, y, hx, h => by
    have ih := deepen_sound hm n
    cases hx with
    | d hx => simp [deepen] at h; subst h; exact hx
    | @osl b off len cap id k lo ex hb hl hlo hex hs =>
      simp only [deepen] at h
      split at h
      · rename_i ob ho
        split at h
        · rename_i hc
          simp only [Option.map_eq_some_iff] at h
          obtain ⟨cs, hcs, rfl⟩ := h
          obtain ⟨h1, h2⟩ := mapM_get hcs
          obtain ⟨cur, ty, k1, k2, hce⟩ := hm.cells ho hb (by omega)
          have hce' := (hce.drop off).take (len * k)
          refine .sl _ (by omega) (fun c hc' => ?_) (hce'.len.trans h1) (fun _ => ⟨rfl, hm.calm ho hb (.inl hc.1)⟩) (fun i v hv => by simpa using hce'.cell i v hv) (fun i v x hv hx => ?_)
          · cases ex with
            | true => simp at hc'; rw [hex rfl, hc']
            | false => simp at hc'
          · have hlt : i < ((ob.cells.drop off).take (len * k)).length := by rw [h1]; exact (List.getElem?_eq_some_iff.1 hx).1
            exact ih _ _ _ (hce'.rep i v _ hv (List.getElem?_eq_getElem hlt)) (h2 i _ x (List.getElem?_eq_getElem hlt) hx)
        · cases h
      · cases h
    | @optr b off id hb =>
      simp only [deepen] at h
      split at h
      · rename_i ob ho
        split at h
        · rename_i hc
          simp only [Option.map_eq_some_iff] at h
          obtain ⟨cs, hcs, rfl⟩ := h
          obtain ⟨h1, h2⟩ := mapM_get hcs
          obtain ⟨cur, ty, k1, k2, hce⟩ := hm.cells ho hb (by omega)
          have hce' := hce.drop off
          refine .ptr _ (hce'.len.trans h1) (fun _ => ⟨rfl, hm.calm ho hb (.inl hc)⟩) (fun i v hv => by simpa using hce'.cell i v hv) (fun i v x hv hx => ?_)
          have hlt : i < (ob.cells.drop off).length := by rw [h1]; exact (List.getElem?_eq_some_iff.1 hx).1
          exact ih _ _ _ (hce'.rep i v _ hv (List.getElem?_eq_getElem hlt)) (h2 i _ x (List.getElem?_eq_getElem hlt) hx)
        · cases h
      · cases h
    | tup hn hxx =>
      simp only [deepen, Option.map_eq_some_iff] at h
      obtain ⟨cs, hcs, rfl⟩ := h
      obtain ⟨h1, h2⟩ := mapM_get hcs
      refine .tup (hn.trans h1) (fun i v x hv hx => ?_)
      have hlt : i < _ := (List.getElem?_eq_some_iff.1 hx).1
      rw [← h1] at hlt
      exact ih _ _ _ (hxx i v _ hv (List.getElem?_eq_getElem hlt)) (h2 i _ x (List.getElem?_eq_getElem hlt) hx)
    | agg hn hxx =>
      simp only [deepen, Option.map_eq_some_iff] at h
      obtain ⟨cs, hcs, rfl⟩ := h
      obtain ⟨h1, h2⟩ := mapM_get hcs
      refine .agg (hn.trans h1) (fun i v x hv hx => ?_)
      have hlt : i < _ := (List.getElem?_eq_some_iff.1 hx).1
      rw [← h1] at hlt
      exact ih _ _ _ (hxx i v _ hv (List.getElem?_eq_getElem hlt)) (h2 i _ x (List.getElem?_eq_getElem hlt) hx)
    | fn hn hxx hm' hyy =>
      simp only [deepen] at h
      split at h
      · rename_i a' b' ha hb
        cases h
        obtain ⟨h1, h2⟩ := mapM_get ha
        obtain ⟨h3, h4⟩ := mapM_get hb
        refine .fn (hn.trans h1) (fun i v x hv hx => ?_) (hm'.trans h3) (fun i v x hv hx => ?_)
        · have hlt : i < _ := (List.getElem?_eq_some_iff.1 hx).1
          rw [← h1] at hlt
          exact ih _ _ _ (hxx i v _ hv (List.getElem?_eq_getElem hlt)) (h2 i _ x (List.getElem?_eq_getElem hlt) hx)
        · have hlt : i < _ := (List.getElem?_eq_some_iff.1 hx).1
          rw [← h3] at hlt
          exact ih _ _ _ (hyy i v _ hv (List.getElem?_eq_getElem hlt)) (h4 i _ x (List.getElem?_eq_getElem hlt) hx)
      · cases h
    | ifc hxx =>
      simp only [deepen, Option.map_eq_some_iff] at h
      obtain ⟨cs, hcs, rfl⟩ := h
      exact .ifc (ih _ _ _ hxx hcs)
    | @omp b id hb =>
      simp only [deepen] at h
      split at h
      · rename_i ob ho
        split at h
        · rename_i hc
          split at h
          · rename_i es hes
            simp only [Option.map_eq_some_iff] at h
            obtain ⟨cs, hcs, rfl⟩ := h
            obtain ⟨h1, h2⟩ := mapM_get hes
            obtain ⟨h3, h4⟩ := mapM_get hcs
            rcases hm.spec id ob b ho hb (by omega) with ⟨_, en, clock, k1, k2, k3⟩ | ⟨e, _⟩ | ⟨e, _⟩
            · have hent : ∀ (i : Nat) (e : MapEntry), en[i]? = some e → ∃ p, es[i]? = some p ∧ p.1 = e.key ∧ XRep w ι (Forb M ι σ) e.val p.2 := fun i e he => by
                have hlt : i < ob.cells.length := by rw [← k2]; exact (Array.getElem?_eq_some_iff.1 he).1
                obtain ⟨x, e1, e2⟩ := k3 i e _ he (List.getElem?_eq_getElem hlt)
                have hlt2 : i < es.length := by rw [← h1]; exact hlt
                have e3 := h2 i _ _ (List.getElem?_eq_getElem hlt) (List.getElem?_eq_getElem hlt2)
                rw [e1] at e3
                simp only [entOf, Option.some.injEq] at e3
                exact ⟨_, List.getElem?_eq_getElem hlt2, by rw [← e3], by rw [← e3]; exact e2⟩
              refine .mp (es := en) (clock := clock) _ (hm.calm ho hb (.inr hc)) k1 ?_ (by simp at h3; omega) (fun i e x he hx => ?_)
              · apply List.ext_getElem?
                intro i
                cases he : en[i]? with
                | none =>
                  have : en.size ≤ i := by simpa using he
                  rw [List.getElem?_eq_none (by simp; omega), List.getElem?_eq_none (by simp; omega)]
                | some e =>
                  obtain ⟨p, p1, p2, _⟩ := hent i e he
                  simp [he, p1, p2]
              · obtain ⟨p, p1, p2, p3⟩ := hent i e he
                exact ih _ _ _ p3 (h4 i p.2 x (by simp [p1]) hx)
            · omega
            · omega
          · cases h
        · cases h
      · cases h
    | yl hb => simp [deepen] at h

theorem freezeIds_tamed (hm : Mem M W0 ι σ w) (ids : List Nat) : Mem M W0 ι (freezeIds σ ids) w ∧ Ext M ι σ w ι (freezeIds σ ids) w :=
  hm.tamed (by simp [freezeIds]) (fun id o' h => by
    simp only [freezeIds, List.getElem?_mapIdx, Option.map_eq_some_iff] at h
    obtain ⟨o, ho, rfl⟩ := h
    refine ⟨o, ho, ?_⟩
    split
    · rename_i hc
      simp at hc
      refine ⟨rfl, .inr (.inr (.inl ⟨by omega, rfl⟩))⟩
    · split
      · rename_i hc
        simp at hc
        refine ⟨rfl, .inr (.inr (.inr ⟨by omega, rfl⟩))⟩
      · exact ⟨rfl, .inl rfl⟩)

theorem freezeAll_tamed (hm : Mem M W0 ι σ w) : Mem M W0 ι (freezeAll σ) w ∧ Ext M ι σ w ι (freezeAll σ) w :=
  hm.tamed (by simp [freezeAll]) (fun id o' h => by
    simp only [freezeAll, List.getElem?_map, Option.map_eq_some_iff] at h
    obtain ⟨o, ho, rfl⟩ := h
    refine ⟨o, ho, ?_⟩
    split
    · rename_i hc
      simp at hc
      refine ⟨rfl, .inr (.inr (.inl ⟨by omega, rfl⟩))⟩
    · split
      · rename_i hc
        simp at hc
        refine ⟨rfl, .inr (.inr (.inr ⟨by omega, rfl⟩))⟩
      · exact ⟨rfl, .inl rfl⟩)

/-- A world that has grown by a call. -/
theorem Mem.grown (hm : Mem M W0 ι σ w) {w' : World} (hb : Below w.heap.size w w') : Mem M W0 ι σ w' ∧ Ext M ι σ w ι σ w' := by
  have hext : Ext M ι σ w ι σ w' := ext_of_grown (fun _ _ h => h) (fun b h => hb.block b h) hb.size (fun _ _ h => h)
  refine ⟨⟨hm.len, fun id o b h1 h2 h3 => ?_, fun id o b h1 h2 h3 => (hm.spec id o b h1 h2 h3).ext hext (hb.block b (hm.fresh _ _ h2).2), fun id b h => ?_, hm.apart, hm.below.trans (hb.mono hm.below.size), hm.outer⟩, hext⟩
  · obtain ⟨cur, ty, k1, k2, k3⟩ := hm.objs id o b h1 h2 h3
    refine ⟨cur, ty, (hb.block b (hm.fresh _ _ h2).2).trans k1, k2, fun i x hi => ?_⟩
    obtain ⟨v, kv, kx⟩ := k3 i x hi
    exact ⟨v, kv, kx.ext hext⟩
  · have := hm.fresh id b h; have := hb.size; omega

theorem Mem.forb_lt (hm : Mem M W0 ι σ w) : ∀ b, Forb M ι σ b → b < w.heap.size := by
  rintro b (h | ⟨j, oj, _, h3, _⟩)
  · have := hm.outer b h; have := hm.below.size; omega
  · exact (hm.fresh _ _ h3).2

end

def plainFn (P : Program) (f : FuncId) : Bool :=
  match P.funcs[f]? with
  | some fn => !(fn.name == "runtime.NumGoroutine") && fn.body.isSome
  | none => false

/-- The function that a value is, and what it brings of its own. -/
def asFn : XV → Option (FuncId × List XV × List XV)
  | .d (.fn (.func f) a b) => some (f, a.map .d, b.map .d)
  | .d (.lit (.func (.func f) a b)) => some (f, a.toList.map (fun v => .d (.lit v)), b.toList.map (fun v => .d (.lit v)))
  | .fn (.func f) a b => some (f, a, b)
  | _ => none

/-- A call of a loop's yield: one round. -/
def InRound (P : Program) (M : Nat → Prop) (W0 : World) (id : Nat) (σ : List VObj) (args : List XV) (Q : List VObj → Bool → Prop) : Prop :=
  ∀ (ι : List Nat) (w : World) (l : Nat) (vs : List Value), Mem M W0 ι σ w → ι[id]? = some l → vs.length = args.length → (∀ (i : Nat) (v : Value) (x : XV), vs[i]? = some v → args[i]? = some x → XRep w ι (Forb M ι σ) v x) →
    ∃ fn tmps assign body, (Instr.yield l vs.toArray).run P w = .ok (.round l fn tmps assign body) w ∧
      RoundIn Fence.wide 0 P l fn tmps assign body w fun e w' => ∃ (ι' : List Nat) (σ' : List VObj) (b : Bool), e = .returned (.bool b) ∧ Mem M W0 ι' σ' w' ∧ Ext M ι σ w ι' σ' w' ∧ Q σ' b

/-- An operation gives a value, leaves objects, and did something with them. -/
inductive Ev (P : Program) (o : Oper) (s : St) : XV → List VObj → Nat → Prop
  | op {x : XV} {σ' : List VObj} {fl : Nat} (h : evalOp P o s = some (x, σ', fl)) : Ev P o s x σ' fl
  | call {callee : Operand} {args : Array Operand} {ts : Array TypeId} {f : FuncId} {first caps : List XV} {dargs : List DV} {res : DV} (ho : o.op = .call ⟨.value callee, args, ts⟩)
      (hf : asFn (evalX s.env callee) = some (f, first, caps)) (hp : plainFn P f = true) (hd : first ++ args.toList.map (evalX s.env) ++ caps = dargs.map .d) (hc : DeepCall P f dargs res) : Ev P o s (.d res) s.σ 0
  | callF {callee : Operand} {args : Array Operand} {ts : Array TypeId} {f : FuncId} {first caps : List XV} {dargs : List DV} {res : DV} (ids : List Nat) (n : Nat) (ho : o.op = .call ⟨.value callee, args, ts⟩)
      (hf : asFn (evalX s.env callee) = some (f, first, caps)) (hp : plainFn P f = true) (hd : (first ++ args.toList.map (evalX s.env) ++ caps).mapM (deepen (freezeIds s.σ ids) n) = some dargs) (hc : DeepCall P f dargs res) :
      Ev P o s (.d res) (freezeIds s.σ ids) 3
  | inl {callee : Operand} {args : Array Operand} {ts : Array TypeId} {f : FuncId} {first caps : List XV} {x : XV} {σ' : List VObj} (ho : o.op = .call ⟨.value callee, args, ts⟩)
      (hf : asFn (evalX s.env callee) = some (f, first, caps)) (hp : plainFn P f = true)
      (hc : ∀ (M : Nat → Prop) (W0 : World), InCall P M W0 f s.σ (first ++ args.toList.map (evalX s.env) ++ caps) (fun σ2 x2 => σ2 = σ' ∧ x2 = x)) : Ev P o s x σ' 2
  | inlG {callee : Operand} {args : Array Operand} {ts : Array TypeId} {f : FuncId} {first caps : List XV} {x : XV} {τ : List VObj} (ho : o.op = .call ⟨.value callee, args, ts⟩)
      (hf : asFn (evalX s.env callee) = some (f, first, caps)) (hp : plainFn P f = true)
      (hc : ∀ (M : Nat → Prop) (W0 : World), InCall P M W0 f s.σ (first ++ args.toList.map (evalX s.env) ++ caps) (fun σ2 x2 => σ2 = s.σ ++ τ ∧ x2 = x)) : Ev P o s x (s.σ ++ τ) 3
  | yld {callee : Operand} {args : Array Operand} {ts : Array TypeId} {id : Nat} {b : Bool} {σ' : List VObj} (ho : o.op = .call ⟨.value callee, args, ts⟩) (hv : evalX s.env callee = .yl id)
      (hc : ∀ (M : Nat → Prop) (W0 : World), InRound P M W0 id s.σ (args.toList.map (evalX s.env)) (fun σ2 b2 => σ2 = σ' ∧ b2 = b)) : Ev P o s (.d (.lit (.bool b))) σ' 2
  | semP {x : XV} (hs : ∀ (F : Nat → Prop) (ι : List Nat) (w : World) (ev : Operand → Value), (∀ y ∈ o.op.operands, XRep w ι F (ev y) (evalX s.env y)) → ∃ v, (execOp ev o).run P w = .ok (.value v) w ∧ XRep w ι F v x) : Ev P o s x s.σ 0
  | hid {x : DV} (hs : ∀ (F : Nat → Prop) (ι : List Nat) (w : World) (ev : Operand → Value), (∀ b, F b → b < w.heap.size) → (∀ y ∈ o.op.operands, XRep w ι F (ev y) (evalX s.env y)) → ∃ v w', (execOp ev o).run P w = .ok (.value v) w' ∧ Below w.heap.size w w' ∧ DRep w' F v x) : Ev P o s (.d x) s.σ 0
  | semG {x : XV} {τ : List VObj} (hs : ∀ (M : Nat → Prop) (W0 : World) (ι : List Nat) (w : World) (ev : Operand → Value), Mem M W0 ι s.σ w → (∀ y ∈ o.op.operands, XRep w ι (Forb M ι s.σ) (ev y) (evalX s.env y)) → Good P M W0 ι s.σ w (execOp ev o) x (s.σ ++ τ)) : Ev P o s x (s.σ ++ τ) 3
  | semW {x : XV} {σ' : List VObj} (hs : ∀ (M : Nat → Prop) (W0 : World) (ι : List Nat) (w : World) (ev : Operand → Value), Mem M W0 ι s.σ w → (∀ y ∈ o.op.operands, XRep w ι (Forb M ι s.σ) (ev y) (evalX s.env y)) → Good P M W0 ι s.σ w (execOp ev o) x σ') : Ev P o s x σ' 2

/-- What stands around a frame: where its call began to make blocks; whether it is a round of a loop over a function, and of which. -/
structure Ctx where
  B : Nat
  ro : Option Nat

/-- No bound on the machine; a frame of a function, or of a round. -/
abbrev FR (ro : Option Nat) : Fence := { Fence.wide with round := ro }

/-- The marks that loops over functions have left behind. -/
def Marks (M : Nat → Prop) (B : Nat) (ι : List Nat) (σ : List VObj) (w : World) (ds : List Deferred) : Prop :=
  B ≤ w.heap.size ∧ ∃ Ds : List Nat, ds = Ds.map (fun D => { target := .collected D, args := #[] }) ∧ Ds.Nodup ∧ ∀ D ∈ Ds, B ≤ D ∧ ¬ Forb M ι σ D ∧ w.heap[D]? = some (.deferred (some []))

theorem Marks.ext {M : Nat → Prop} {B : Nat} {ι ι' : List Nat} {σ σ' : List VObj} {w w' : World} {ds : List Deferred} (h : Marks M B ι σ w ds) (e : Ext M ι σ w ι' σ' w') : Marks M B ι' σ' w' ds := by
  obtain ⟨h0, Ds, h1, h2, h3⟩ := h
  refine ⟨Nat.le_trans h0 e.size, Ds, h1, h2, fun D hD => ?_⟩
  obtain ⟨k1, k2, k3⟩ := h3 D hD
  have hlt := (Array.getElem?_eq_some_iff.1 k3).1
  exact ⟨k1, fun hf => k2 (e.forb D hlt hf), (e.heap D hlt k2).trans k3⟩

/-- A frame of the machine and one of the model. -/
structure Fr (M : Nat → Prop) (W0 : World) (C : Ctx) (n : Nat) (ι : List Nat) (s : St) (a : Act) (w : World) : Prop where
  mem : Mem M W0 ι s.σ w
  env : ∀ t, XRep w ι (Forb M ι s.σ) (a.tmps.getD t undef) (s.env t)
  size : a.tmps.size = n
  defers : Marks M C.B ι s.σ w a.defers
  round : ∀ l, C.ro = some l → ∃ r : Loop, w.heap[l]? = some (Obj.loop r)

theorem callsIn_FR {P : Program} {ro : Option Nat} {n : Nat} {f : FuncId} {args : Array Value} {w : World} {R : Ending → World → Prop} (h : Calls P f args w R) : CallsIn (FR ro) n P f args w R :=
  (callsIn_wide.2 h : CallsIn Fence.wide n P f args w R)

theorem calls_FR {P : Program} {ro : Option Nat} {n : Nat} {f : FuncId} {args : Array Value} {w : World} {R : Ending → World → Prop} (h : CallsIn (FR ro) n P f args w R) : Calls P f args w R :=
  callsIn_wide.1 (show CallsIn Fence.wide n P f args w R from h)

theorem semAt_of {P : Program} {ro : Option Nat} {ρ : Operand → Value} {o : Oper} {w w' : World} {nx : Next} (h : (execOp ρ o).run P w = .ok nx w') (hn : ∀ d, nx ≠ .defer d) : (o.semAt ro ρ).run P w = .ok nx w' := by
  rw [Oper.semAt_eq]
  · exact h
  · intro c hc
    unfold execOp at h
    rw [hc] at h
    simp only [Sem.run_bind] at h
    cases hr : (resolve ρ c o.type).run P w with
    | ok d w2 => rw [hr] at h; simp [Result.andThen] at h; exact hn d h.1.symm
    | halt x w2 => rw [hr] at h; simp [Result.andThen] at h

def undefX : XV := .d (.lit undef)

def putE (env : Nat → XV) (dst : Option Tmp) (x : XV) : Nat → XV :=
  match dst with
  | some d => upd env d x
  | none => env

def dstOk (n : Nat) (dst : Option Tmp) : Bool :=
  match dst with
  | some d => decide (d < n)
  | none => true

def guardX (ops : Array Oper) (env : Nat → XV) (o : Oper) : Option Bool :=
  match o.guard with
  | none => some true
  | some (j, want) => match (ops[j]?).bind (·.dst) with
    | some d => match litOf (env d) with
      | some (.bool b) => some (b == want)
      | some _ => some false
      | none => none
    | none => some false

section
variable {P : Program} {M : Nat → Prop} {W0 w : World} {ι : List Nat} {σ : List VObj} {n : Nat}

theorem guardX_sound {F : Nat → Prop} {ops : Array Oper} {a : Act} {env : Nat → XV} {o : Oper} {b : Bool} (he : ∀ t, XRep w ι F (a.tmps.getD t undef) (env t)) (h : guardX ops env o = some b) :
    Region.wanted o (yielded ops a.tmps) = b := by
  unfold guardX at h
  unfold Region.wanted
  split at h
  · rename_i hg; rw [hg]; cases h; rfl
  · rename_i j want hg
    rw [hg]
    simp only [yielded]
    cases hd : (ops[j]?).bind (·.dst) with
    | none => rw [hd] at h; cases h; simp
    | some d =>
      rw [hd] at h
      simp only [Option.bind_some]
      simp only at h
      cases hl : litOf (env d) with
      | none => rw [hl] at h; cases h
      | some v =>
        rw [hl] at h
        have hv := litOf_rep (he d) hl
        by_cases hlt : d < a.tmps.size
        · have e : a.tmps[d]? = some v := by rw [← hv]; simp [hlt]
          rw [e]
          cases v <;> simp at h <;> subst h <;> simp
        · have e : a.tmps[d]? = none := Array.getElem?_eq_none (Nat.le_of_not_lt hlt)
          rw [e]
          have hu : v = undef := by rw [← hv]; simp [hlt]
          subst hu
          simp [undef] at h
          subst h
          simp

theorem put_env {F : Nat → Prop} {a : Act} {env : Nat → XV} {dst : Option Tmp} {v : Value} {x : XV} (hd : dstOk a.tmps.size dst = true) (he : ∀ t, XRep w ι F (a.tmps.getD t undef) (env t)) (hx : XRep w ι F v x) :
    ∀ t, XRep w ι F ((a.put dst v).tmps.getD t undef) (putE env dst x t) := by
  intro t
  cases dst with
  | none => exact he t
  | some d =>
    simp only [dstOk, decide_eq_true_eq] at hd
    simp only [Act.put, putE, upd]
    by_cases e : t = d
    · subst e; rw [if_pos rfl]; simpa [hd] using hx
    · rw [if_neg e]
      have : (a.tmps.setIfInBounds d v).getD t undef = a.tmps.getD t undef := by
        simp only [Array.getD_eq_getD_getElem?]
        rw [Array.getElem?_setIfInBounds_ne (by omega)]
      rw [this]; exact he t

theorem Fr.put {C : Ctx} {s : St} {a : Act} (h : Fr M W0 C n ι s a w) {dst : Option Tmp} (hd : dstOk n dst = true) {ι' : List Nat} {σ' : List VObj} {w' : World} {v : Value} {x : XV} (hm : Mem M W0 ι' σ' w') (hext : Ext M ι s.σ w ι' σ' w')
    (hx : XRep w' ι' (Forb M ι' σ') v x) : Fr M W0 C n ι' ⟨σ', putE s.env dst x⟩ (a.put dst v) w' :=
  ⟨hm, put_env (by rw [h.size]; exact hd) (fun t => (h.env t).ext hext) hx, by cases dst <;> simp [Act.put, h.size], by cases dst <;> exact h.defers.ext hext, fun l hl => let ⟨r, hr⟩ := h.round l hl; hext.loops l r hr⟩

theorem asFn_rep {F : Nat → Prop} {v : Value} {x : XV} {f : FuncId} {first caps : List XV} (hx : XRep w ι F v x) (h : asFn x = some (f, first, caps)) :
    ∃ vs us : Array Value, v = .func (.func f) vs us ∧ vs.size = first.length ∧ us.size = caps.length ∧ (∀ (i : Nat) (v : Value) (x : XV), vs[i]? = some v → first[i]? = some x → XRep w ι F v x) ∧
      ∀ (i : Nat) (v : Value) (x : XV), us[i]? = some v → caps[i]? = some x → XRep w ι F v x := by
  unfold asFn at h
  split at h
  · cases h
    cases hx with
    | d hx => cases hx with
      | fn hn hxx hm hyy =>
        refine ⟨_, _, rfl, by simpa using hn, by simpa using hm, fun i v x hv hx => ?_, fun i v x hv hx => ?_⟩
        · simp only [List.getElem?_map, Option.map_eq_some_iff] at hx
          obtain ⟨z, hz, rfl⟩ := hx
          exact .d (hxx i v z hv hz)
        · simp only [List.getElem?_map, Option.map_eq_some_iff] at hx
          obtain ⟨z, hz, rfl⟩ := hx
          exact .d (hyy i v z hv hz)
  · cases h
    cases hx with
    | d hx => cases hx with
      | lit =>
        refine ⟨_, _, rfl, by simp, by simp, fun i v x hv hx => ?_, fun i v x hv hx => ?_⟩
        · simp only [List.getElem?_map, Option.map_eq_some_iff] at hx
          obtain ⟨z, hz, rfl⟩ := hx
          rw [Array.getElem?_toList, hv] at hz; cases hz; exact .d (.lit _)
        · simp only [List.getElem?_map, Option.map_eq_some_iff] at hx
          obtain ⟨z, hz, rfl⟩ := hx
          rw [Array.getElem?_toList, hv] at hz; cases hz; exact .d (.lit _)
  · cases h
    cases hx with
    | fn hn hxx hm hyy => exact ⟨_, _, rfl, hn, hm, hxx, hyy⟩
  · cases h

/-- What a call of a Go function asks. -/
theorem call_run {a : Act} {o : Oper} {callee : Operand} {args : Array Operand} {ts : Array TypeId} {f : FuncId} {vs us : Array Value} (ho : o.op = .call ⟨.value callee, args, ts⟩)
    (hv : a.eval callee = .func (.func f) vs us) (hp : plainFn P f = true) : (execOp a.eval o).run P w = .ok (.enter f (vs ++ args.map a.eval ++ us)) w := by
  unfold plainFn at hp
  split at hp
  · rename_i fn hfn
    simp only [Bool.and_eq_true, Bool.not_eq_true'] at hp
    obtain ⟨h1, h2⟩ := hp
    have h3 : ¬ fn.body = none := by intro e; rw [e] at h2; simp at h2
    have h4 : ¬ fn.name = "runtime.NumGoroutine" := by simpa using h1
    simp [execOp, ho, resolve, hv, Deferred.ofValue, invoke, callFunc, hfn, h4, h3]
  · cases hp

theorem args_rep {F : Nat → Prop} {a : Act} {env : Nat → XV} (he : ∀ t, XRep w ι F (a.tmps.getD t undef) (env t)) {args : Array Operand} {vs us : Array Value} {first caps : List XV} (h1 : vs.size = first.length)
    (h2 : us.size = caps.length) (h3 : ∀ (i : Nat) (v : Value) (x : XV), vs[i]? = some v → first[i]? = some x → XRep w ι F v x) (h4 : ∀ (i : Nat) (v : Value) (x : XV), us[i]? = some v → caps[i]? = some x → XRep w ι F v x) :
    (vs ++ args.map a.eval ++ us).toList.length = (first ++ args.toList.map (evalX env) ++ caps).length ∧
    ∀ (i : Nat) (v : Value) (x : XV), (vs ++ args.map a.eval ++ us).toList[i]? = some v → (first ++ args.toList.map (evalX env) ++ caps)[i]? = some x → XRep w ι F v x := by
  refine ⟨by simp [h1, h2], fun i v x hv hx => ?_⟩
  have e1 : (vs ++ args.map a.eval).toList.length = (first ++ args.toList.map (evalX env)).length := by simp [h1]
  rw [Array.toList_append] at hv
  by_cases hi : i < (first ++ args.toList.map (evalX env)).length
  · rw [List.getElem?_append_left (by omega)] at hv
    rw [List.getElem?_append_left hi] at hx
    rw [Array.toList_append] at hv
    by_cases hj : i < first.length
    · rw [List.getElem?_append_left (by simp; omega)] at hv
      rw [List.getElem?_append_left hj] at hx
      exact h3 i v x (by simpa using hv) hx
    · rw [List.getElem?_append_right (by simp; omega)] at hv
      rw [List.getElem?_append_right (by omega)] at hx
      simp only [Array.toList_map, List.getElem?_map, Option.map_eq_some_iff, Array.length_toList, h1] at hv hx
      obtain ⟨p, hp, rfl⟩ := hv
      obtain ⟨q, hq, rfl⟩ := hx
      rw [hp] at hq; cases hq
      exact evalX_rep he p
  · rw [List.getElem?_append_right (by omega)] at hv
    rw [List.getElem?_append_right (by omega)] at hx
    rw [e1] at hv
    exact h4 _ v x (by simpa using hv) hx

/-- AN OPERATION, IN THE MODEL. -/
theorem Ev.wp {ro : Option Nat} {o : Oper} {s : St} {x : XV} {σ' : List VObj} {fl : Nat} (h : Ev P o s x σ' fl) {a : Act} (hm : Mem M W0 ι s.σ w) (he : ∀ t, XRep w ι (Forb M ι s.σ) (a.tmps.getD t undef) (s.env t))
    {K : Act → World → Prop} {Q : Exit → Act → World → Prop}
    (hk : ∀ (ι' : List Nat) (v : Value) (w' : World), Mem M W0 ι' σ' w' → Ext M ι s.σ w ι' σ' w' → XRep w' ι' (Forb M ι' σ') v x → K (a.put o.dst v) w') : o.wpIn (FR ro) 0 P a w K Q := by
  cases h with
  | op h =>
    obtain ⟨ι', w', v, hr, h1, h2, h3⟩ := evalOp_sound hm he h
    refine ⟨fun _ _ => trivial, ?_⟩
    rcases hr with hr | ⟨hr, rfl⟩
    · rw [semAt_of hr (by simp)]; exact hk ι' v w' h1 h2 h3
    · rw [semAt_of hr (by simp)]; exact hk ι' undef w' h1 h2 h3
  | call ho hf hp hd hc =>
    rename_i callee args ts f first caps dargs res
    obtain ⟨vs, us, e1, e2, e3, e4, e5⟩ := asFn_rep (evalX_rep he callee) hf
    obtain ⟨a1, a2⟩ := args_rep (args := args) he e2 e3 e4 e5
    refine ⟨fun _ _ => trivial, ?_⟩
    rw [semAt_of (call_run ho e1 hp) (by simp)]
    refine ⟨fun h => Bool.noConfusion (show false = true from h), callsIn_FR ?_⟩
    have hcall := hc (Forb M ι s.σ) w (vs ++ args.map a.eval ++ us).toList hm.forb_lt (by rw [a1, hd]; simp) (fun i v x hv hx => by
      have hx' : (first ++ args.toList.map (evalX s.env) ++ caps)[i]? = some (.d x) := by rw [hd]; simp [hx]
      cases a2 i v _ hv hx' with
      | d h => exact h)
    rw [Array.toArray_toList] at hcall
    refine hcall.mono fun e w' => ?_
    rintro ⟨v, rfl, h1, h2⟩
    obtain ⟨g1, g2⟩ := hm.grown h2
    exact hk ι v w' g1 g2 (.d h1)
  | callF ids n ho hf hp hd hc =>
    rename_i callee args ts f first caps dargs res
    obtain ⟨f1, f2⟩ := freezeIds_tamed hm ids
    obtain ⟨vs, us, e1, e2, e3, e4, e5⟩ := asFn_rep (evalX_rep he callee) hf
    obtain ⟨a1, a2⟩ := args_rep (args := args) he e2 e3 e4 e5
    obtain ⟨d1, d2⟩ := mapM_get hd
    refine ⟨fun _ _ => trivial, ?_⟩
    rw [semAt_of (call_run ho e1 hp) (by simp)]
    refine ⟨fun h => Bool.noConfusion (show false = true from h), callsIn_FR ?_⟩
    have hcall := hc (Forb M ι (freezeIds s.σ ids)) w (vs ++ args.map a.eval ++ us).toList f1.forb_lt (by rw [a1, d1]) (fun i v x hv hx => by
      have hlt : i < (first ++ args.toList.map (evalX s.env) ++ caps).length := by rw [d1]; exact (List.getElem?_eq_some_iff.1 hx).1
      exact deepen_sound f1 n v _ x ((a2 i v _ hv (List.getElem?_eq_getElem hlt)).ext f2) (d2 i _ x (List.getElem?_eq_getElem hlt) hx))
    rw [Array.toArray_toList] at hcall
    refine hcall.mono fun e w' => ?_
    rintro ⟨v, rfl, h1, h2⟩
    obtain ⟨g1, g2⟩ := f1.grown h2
    exact hk ι v w' g1 (f2.trans g2) (.d h1)
  | inl ho hf hp hc =>
    rename_i callee args ts f first caps
    obtain ⟨vs, us, e1, e2, e3, e4, e5⟩ := asFn_rep (evalX_rep he callee) hf
    obtain ⟨a1, a2⟩ := args_rep (args := args) he e2 e3 e4 e5
    refine ⟨fun _ _ => trivial, ?_⟩
    rw [semAt_of (call_run ho e1 hp) (by simp)]
    refine ⟨fun h => Bool.noConfusion (show false = true from h), callsIn_FR ?_⟩
    have hcall := hc M W0 ι w (vs ++ args.map a.eval ++ us).toList hm a1 a2
    rw [Array.toArray_toList] at hcall
    refine hcall.mono fun e w' => ?_
    rintro ⟨ι', σ2, x2, v, rfl, h1, h2, h3, rfl, rfl⟩
    exact hk ι' v w' h1 h2 h3
  | inlG ho hf hp hc =>
    rename_i callee args ts f first caps τ
    obtain ⟨vs, us, e1, e2, e3, e4, e5⟩ := asFn_rep (evalX_rep he callee) hf
    obtain ⟨a1, a2⟩ := args_rep (args := args) he e2 e3 e4 e5
    refine ⟨fun _ _ => trivial, ?_⟩
    rw [semAt_of (call_run ho e1 hp) (by simp)]
    refine ⟨fun h => Bool.noConfusion (show false = true from h), callsIn_FR ?_⟩
    have hcall := hc M W0 ι w (vs ++ args.map a.eval ++ us).toList hm a1 a2
    rw [Array.toArray_toList] at hcall
    refine hcall.mono fun e w' => ?_
    rintro ⟨ι', σ2, x2, v, rfl, h1, h2, h3, rfl, rfl⟩
    exact hk ι' v w' h1 h2 h3
  | yld ho hv hc =>
    rename_i callee args ts id b
    have e1 := evalX_rep he callee
    rw [hv] at e1
    generalize hcv : a.eval callee = cv at e1
    cases e1 with
    | yl hb =>
      rename_i l
      obtain ⟨a1, a2⟩ := args_rep (args := args) (vs := #[]) (us := #[]) (first := []) (caps := []) he rfl rfl (by simp) (by simp)
      obtain ⟨fn, tmps, assign, body, k1, k2⟩ := hc M W0 ι w l (args.map a.eval).toList hm hb (by simp) (fun i v x h1 h2 => a2 i v x (by simpa using h1) (by simpa using h2))
      rw [Array.toArray_toList] at k1
      have hrun : (execOp a.eval o).run P w = .ok (.round l fn tmps assign body) w := by
        simp [execOp, ho, resolve, hcv, Deferred.ofValue, invoke, k1]
      refine ⟨fun _ _ => trivial, ?_⟩
      rw [semAt_of hrun (by simp)]
      refine ⟨fun h => Bool.noConfusion (show false = true from h), ?_⟩
      refine RoundIn.mono (show RoundIn (FR ro) 0 P l fn tmps assign body w _ from k2) fun e w' => ?_
      rintro ⟨ι', σ2, b2, rfl, h1, h2, rfl, rfl⟩
      exact hk ι' _ w' h1 h2 (.d (.lit _))
  | semP hs =>
    obtain ⟨v, h1, h2⟩ := hs (Forb M ι s.σ) ι w a.eval (fun y _ => evalX_rep he y)
    refine ⟨fun _ _ => trivial, ?_⟩
    rw [semAt_of h1 (by simp)]; exact hk ι v w hm (.refl _ _ _ _) h2
  | hid hs =>
    obtain ⟨v, w', h1, h2, h3⟩ := hs (Forb M ι s.σ) ι w a.eval hm.forb_lt (fun y _ => evalX_rep he y)
    refine ⟨fun _ _ => trivial, ?_⟩
    rw [semAt_of h1 (by simp)]
    obtain ⟨g1, g2⟩ := hm.grown h2
    exact hk ι v w' g1 g2 (.d h3)
  | semG hs =>
    obtain ⟨ι', w', v, hr, h1, h2, h3⟩ := hs M W0 ι w a.eval hm (fun y _ => evalX_rep he y)
    refine ⟨fun _ _ => trivial, ?_⟩
    rcases hr with hr | ⟨hr, rfl⟩
    · rw [semAt_of hr (by simp)]; exact hk ι' v w' h1 h2 h3
    · rw [semAt_of hr (by simp)]; exact hk ι' undef w' h1 h2 h3
  | semW hs =>
    obtain ⟨ι', w', v, hr, h1, h2, h3⟩ := hs M W0 ι w a.eval hm (fun y _ => evalX_rep he y)
    refine ⟨fun _ _ => trivial, ?_⟩
    rcases hr with hr | ⟨hr, rfl⟩
    · rw [semAt_of hr (by simp)]; exact hk ι' v w' h1 h2 h3
    · rw [semAt_of hr (by simp)]; exact hk ι' undef w' h1 h2 h3

end
end Go.Vm

end
section
/-
  VALUES WITHOUT ADDRESSES, 10: code: lists of operations in the text's order, branches, blocks, loops; from a body to a contract.
-/
namespace Go.Vm
open Go.RowKit

/-- A list of operations, in the text's order. -/
def WpL (P : Program) (M : Nat → Prop) (W0 : World) (n : Nat) (ops : Array Oper) (l : List Oper) (s : St) (T : St → Prop) : Prop :=
  ∀ (C : Ctx) (ι : List Nat) (a : Act) (w : World), Fr M W0 C n ι s a w → ∀ Q : Exit → Act → World → Prop,
    (∀ (ι' : List Nat) (s' : St) (a' : Act) (w' : World), T s' → Fr M W0 C n ι' s' a' w' → Ext M ι s.σ w ι' s'.σ w' → Q .normal a' w') → wpListIn (FR C.ro) 0 P ops Q l a w

def Wp (P : Program) (M : Nat → Prop) (W0 : World) (n : Nat) (c : Code) (s : St) (T : Exit → St → Prop) : Prop :=
  ∀ (C : Ctx) (ι : List Nat) (a : Act) (w : World), Fr M W0 C n ι s a w → ∀ Q : Exit → Act → World → Prop,
    (∀ (e : Exit) (ι' : List Nat) (s' : St) (a' : Act) (w' : World), T e s' → Fr M W0 C n ι' s' a' w' → Ext M ι s.σ w ι' s'.σ w' → Q e a' w') → c.wpIn (FR C.ro) 0 P Q a w

/-- What follows a piece of code. -/
def thenT (T1 : St → Prop) (T : Exit → St → Prop) : Exit → St → Prop
  | .normal, s => T1 s
  | e, s => T e s

def blockT (id : Nat) (T : Exit → St → Prop) : Exit → St → Prop
  | .exit id', s => if id' = id then T .normal s else T (.exit id') s
  | e, s => T e s

section
variable {P : Program} {M : Nat → Prop} {W0 : World} {n : Nat} {ops : Array Oper} {l : List Oper} {o : Oper} {s : St}

theorem WpL.mono {T T' : St → Prop} (h : WpL P M W0 n ops l s T) (ht : ∀ s, T s → T' s) : WpL P M W0 n ops l s T' :=
  fun C ι a w hf Q hq => h C ι a w hf Q fun ι' s' a' w' h1 h2 h3 => hq ι' s' a' w' (ht _ h1) h2 h3

theorem WpL.nil {T : St → Prop} (h : T s) : WpL P M W0 n ops [] s T :=
  fun _ ι a w hf _ hq => hq ι s a w h hf (.refl _ _ _ _)

theorem WpL.skip {T : St → Prop} (hg : guardX ops s.env o = some false) (hd : dstOk n o.dst = true) (h : WpL P M W0 n ops l ⟨s.σ, putE s.env o.dst undefX⟩ T) : WpL P M W0 n ops (o :: l) s T := by
  intro C ι a w hf Q hq
  unfold wpListIn
  rw [if_neg (by rw [guardX_sound hf.env hg]; simp)]
  refine ⟨fun _ _ => trivial, ?_⟩
  exact h C ι _ w (hf.put hd hf.mem (.refl _ _ _ _) (.d (.lit _))) Q hq

theorem WpL.step {T : St → Prop} {x : XV} {σ' : List VObj} {fl : Nat} (hg : guardX ops s.env o = some true) (he : Ev P o s x σ' fl) (hd : dstOk n o.dst = true)
    (h : WpL P M W0 n ops l ⟨σ', putE s.env o.dst x⟩ T) : WpL P M W0 n ops (o :: l) s T := by
  intro C ι a w hf Q hq
  unfold wpListIn
  rw [if_pos (by rw [guardX_sound hf.env hg])]
  refine he.wp hf.mem hf.env fun ι' v w' h1 h2 h3 => ?_
  exact h C ι' _ w' (hf.put hd h1 h2 h3) Q fun ι'' s' a' w'' k1 k2 k3 => hq ι'' s' a' w'' k1 k2 (h2.trans k3)

/-- A call that shares the caller's objects. -/
theorem WpL.inl {T : St → Prop} {callee : Operand} {args : Array Operand} {ts : Array TypeId} {f : FuncId} {first caps : List XV} {R : List VObj → XV → Prop} (hg : guardX ops s.env o = some true)
    (ho : o.op = .call ⟨.value callee, args, ts⟩) (hf : asFn (evalX s.env callee) = some (f, first, caps)) (hp : plainFn P f = true) (hc : InCall P M W0 f s.σ (first ++ args.toList.map (evalX s.env) ++ caps) R)
    (hd : dstOk n o.dst = true) (h : ∀ σ' x, R σ' x → WpL P M W0 n ops l ⟨σ', putE s.env o.dst x⟩ T) : WpL P M W0 n ops (o :: l) s T := by
  intro C ι a w hfr Q hq
  unfold wpListIn
  rw [if_pos (by rw [guardX_sound hfr.env hg])]
  obtain ⟨vs, us, e1, e2, e3, e4, e5⟩ := asFn_rep (evalX_rep hfr.env callee) hf
  obtain ⟨a1, a2⟩ := args_rep (args := args) hfr.env e2 e3 e4 e5
  refine ⟨fun _ _ => trivial, ?_⟩
  rw [semAt_of (call_run ho e1 hp) (by simp)]
  refine ⟨fun h => Bool.noConfusion (show false = true from h), callsIn_FR ?_⟩
  have hcall := hc ι w (vs ++ args.map a.eval ++ us).toList hfr.mem a1 a2
  rw [Array.toArray_toList] at hcall
  refine hcall.mono fun e w' => ?_
  rintro ⟨ι', σ', x, v, rfl, h1, h2, h3, h4⟩
  exact h σ' x h4 C ι' _ w' (hfr.put hd h1 h2 h3) Q fun ι'' s' a' w'' k1 k2 k3 => hq ι'' s' a' w'' k1 k2 (h2.trans k3)

theorem Wp.mono {c : Code} {T T' : Exit → St → Prop} (h : Wp P M W0 n c s T) (ht : ∀ e s, T e s → T' e s) : Wp P M W0 n c s T' :=
  fun C ι a w hf Q hq => h C ι a w hf Q fun e ι' s' a' w' h1 h2 h3 => hq e ι' s' a' w' (ht _ _ h1) h2 h3

theorem Wp.region {id : Nat} {T : Exit → St → Prop} (h : WpL P M W0 n ops ops.toList s (T .normal)) : Wp P M W0 n (.region id ops false) s T :=
  fun C ι a w hf Q hq => wpIn_region_list (h C ι a w hf Q fun ι' s' a' w' h1 h2 h3 => hq .normal ι' s' a' w' h1 h2 h3)

theorem Wp.skip {T : Exit → St → Prop} (h : T .normal s) : Wp P M W0 n .skip s T :=
  fun _ ι a w hf _ hq => wpIn_skip (hq .normal ι s a w h hf (.refl _ _ _ _))

theorem Wp.label {k : Nat} {T : Exit → St → Prop} (h : T .normal s) : Wp P M W0 n (.label k) s T :=
  fun _ ι a w hf _ hq => wpIn_label (hq .normal ι s a w h hf (.refl _ _ _ _))

theorem Wp.ret {T : Exit → St → Prop} (h : T .ret s) : Wp P M W0 n .ret s T :=
  fun _ ι a w hf _ hq => wpIn_ret (hq .ret ι s a w h hf (.refl _ _ _ _))

theorem Wp.exit {id : Nat} {T : Exit → St → Prop} (h : T (.exit id) s) : Wp P M W0 n (.exit id) s T :=
  fun _ ι a w hf _ hq => wpIn_exit (hq (.exit id) ι s a w h hf (.refl _ _ _ _))

theorem Wp.seq {x y : Code} {T : Exit → St → Prop} (h : Wp P M W0 n x s (thenT (fun s' => Wp P M W0 n y s' T) T)) : Wp P M W0 n (.seq x y) s T := by
  intro C ι a w hf Q hq
  refine wpIn_seq (h C ι a w hf _ fun e ι' s' a' w' h1 h2 h3 => ?_)
  cases e with
  | normal => exact h1 C ι' a' w' h2 Q fun e ι'' s'' a'' w'' k1 k2 k3 => hq e ι'' s'' a'' w'' k1 k2 (h3.trans k3)
  | exit id => exact hq (.exit id) ι' s' a' w' h1 h2 h3
  | goto k => exact hq (.goto k) ι' s' a' w' h1 h2 h3
  | ret => exact hq .ret ι' s' a' w' h1 h2 h3
  | panic c => exact hq (.panic c) ι' s' a' w' h1 h2 h3
  | outgrown => exact hq .outgrown ι' s' a' w' h1 h2 h3

theorem Wp.cond {c : Operand} {x y : Code} {t : Bool} {T : Exit → St → Prop} (hc : litOf (evalX s.env c) = some (.bool t)) (h : Wp P M W0 n (if t then x else y) s T) : Wp P M W0 n (.cond c x y) s T :=
  fun C ι a w hf Q hq => wpIn_cond (litOf_rep (evalX_rep hf.env c) hc) (h C ι a w hf Q hq)

theorem Wp.block {id : Nat} {c : Code} {T : Exit → St → Prop} (h : Wp P M W0 n c s (blockT id T)) : Wp P M W0 n (.block id c) s T := by
  intro C ι a w hf Q hq
  refine wpIn_block (h C ι a w hf _ fun e ι' s' a' w' h1 h2 h3 => ?_)
  cases e with
  | exit k =>
    simp only [blockT] at h1
    simp only [Exit.inBlock]
    split at h1
    · rename_i e; rw [if_pos e]; exact hq .normal ι' s' a' w' h1 h2 h3
    · rename_i e; rw [if_neg e]; exact hq (.exit k) ι' s' a' w' h1 h2 h3
  | normal => exact hq .normal ι' s' a' w' h1 h2 h3
  | goto k => exact hq (.goto k) ι' s' a' w' h1 h2 h3
  | ret => exact hq .ret ι' s' a' w' h1 h2 h3
  | panic c => exact hq (.panic c) ι' s' a' w' h1 h2 h3
  | outgrown => exact hq .outgrown ι' s' a' w' h1 h2 h3

/-- A loop: I holds at every round's head, μ gets less. -/
theorem Wp.loop {c : Code} {T : Exit → St → Prop} (I : St → Prop) (μ : St → Nat) (hI : I s) (h : ∀ s, I s → Wp P M W0 n c s (thenT (fun s' => I s' ∧ μ s' < μ s) T)) : Wp P M W0 n (.loop c) s T := by
  have key : ∀ (k : Nat) (s : St), μ s < k → I s → ∀ (C : Ctx) (ι : List Nat) (a : Act) (w : World), Fr M W0 C n ι s a w → ∀ Q : Exit → Act → World → Prop,
      (∀ (e : Exit) (ι' : List Nat) (s' : St) (a' : Act) (w' : World), T e s' → Fr M W0 C n ι' s' a' w' → Ext M ι s.σ w ι' s'.σ w' → Q e a' w') → Code.roundsIn (FR C.ro) 0 P c Q k a w := by
    intro k
    induction k with
    | zero => intro s hk; omega
    | succ k ih =>
      intro s hk hs C ι a w hf Q hq
      rw [roundsIn_succ]
      refine h s hs C ι a w hf _ fun e ι' s' a' w' h1 h2 h3 => ?_
      cases e with
      | normal =>
        obtain ⟨k1, k2⟩ := h1
        exact ih s' (by omega) k1 C ι' a' w' h2 Q fun e ι'' s'' a'' w'' q1 q2 q3 => hq e ι'' s'' a'' w'' q1 q2 (h3.trans q3)
      | exit id => exact hq (.exit id) ι' s' a' w' h1 h2 h3
      | goto k => exact hq (.goto k) ι' s' a' w' h1 h2 h3
      | ret => exact hq .ret ι' s' a' w' h1 h2 h3
      | panic c => exact hq (.panic c) ι' s' a' w' h1 h2 h3
      | outgrown => exact hq .outgrown ι' s' a' w' h1 h2 h3
  exact fun C ι a w hf Q hq => wpIn_loop_rounds (μ s + 1) (key _ s (Nat.lt_succ_self _) hI C ι a w hf Q hq)

/-- One result of a function. -/
def resVar (P : Program) (s : St) : ResultVar → Option XV
  | .tmp t => some (s.env t)
  | .cell a t => (opLoad P s.σ t (s.env a)).map (·.1)

/-- What a function hands back. -/
def resX (P : Program) (fn : Func) (s : St) : Option XV :=
  match fn.results.toList.mapM (resVar P s) with
  | some [x] => some x
  | some xs => some (.tup xs)
  | none => none

def resOne (tmps : Array Value) (r : ResultVar) : Sem Value :=
  match r with
  | .tmp t => pure (tmps.getD t undef)
  | .cell a t => do loadVar t (← asAddr (tmps.getD a undef))

theorem results_eq (fn : Func) (tmps : Array Value) : results fn tmps = (do
    let vs ← fn.results.mapM (resOne tmps)
    pure (if h : vs.size = 1 then vs[0] else .tuple vs)) := by
  unfold results
  congr 1

theorem resVar_run {ι : List Nat} {w : World} (hm : Mem M W0 ι s.σ w) {a : Act} (he : ∀ t, XRep w ι (Forb M ι s.σ) (a.tmps.getD t undef) (s.env t)) : ∀ (l : List ResultVar) (xs : List XV), l.mapM (resVar P s) = some xs →
    ∃ vs : List Value, (l.mapM (resOne a.tmps)).run P w = .ok vs w ∧ vs.length = xs.length ∧
      ∀ (i : Nat) (v : Value) (x : XV), vs[i]? = some v → xs[i]? = some x → XRep w ι (Forb M ι s.σ) v x
  | [], xs, h => by simp at h; subst h; exact ⟨[], by simp, rfl, fun i v x h => by simp at h⟩
  | r :: l, xs, h => by
    rw [List.mapM_cons] at h
    cases hr : resVar P s r with
    | none => rw [hr] at h; simp at h
    | some y =>
      cases hl : l.mapM (resVar P s) with
      | none => rw [hr, hl] at h; simp at h
      | some ys =>
        rw [hr, hl] at h
        simp at h
        subst h
        obtain ⟨vs, h1, h2, h3⟩ := resVar_run hm he l ys hl
        have hone : ∃ v, (resOne a.tmps r).run P w = .ok v w ∧ XRep w ι (Forb M ι s.σ) v y := by
          cases r with
          | tmp t => simp [resVar] at hr; subst hr; exact ⟨a.tmps.getD t undef, rfl, he t⟩
          | cell b t =>
            simp only [resVar, Option.map_eq_some_iff] at hr
            obtain ⟨q, hq, rfl⟩ := hr
            obtain ⟨u, k1, k2⟩ := opLoad_sound hm (he b) hq
            refine ⟨u, ?_, k2⟩
            simp only [resOne, Instr.loadAt, Sem.run_bind] at k1 ⊢
            revert k1
            generalize a.tmps.getD b undef = v0
            intro k1
            cases v0 <;> first | (simp [Instr.sureAddr, stuck] at k1; done) | skip
            rename_i ad
            cases ad with
            | none => simp [Instr.sureAddr, stuck] at k1
            | some ad => simpa [Instr.sureAddr, asAddr] using k1
        obtain ⟨v, k1, k2⟩ := hone
        refine ⟨v :: vs, ?_, by simp [h2], fun i u x hv hx => ?_⟩
        · rw [List.mapM_cons]
          simp only [Sem.run_bind, k1, Result.andThen_ok, h1, Sem.run_pure]
        · cases i with
          | zero => simp at hv hx; subst hv; subst hx; exact k2
          | succ i => exact h3 i u x (by simpa using hv) (by simpa using hx)

theorem resX_run {ι : List Nat} {w : World} (hm : Mem M W0 ι s.σ w) {a : Act} (he : ∀ t, XRep w ι (Forb M ι s.σ) (a.tmps.getD t undef) (s.env t)) {fn : Func} {x : XV} (h : resX P fn s = some x) :
    ∃ v, (results fn a.tmps).run P w = .ok v w ∧ XRep w ι (Forb M ι s.σ) v x := by
  have key : ∀ xs, fn.results.toList.mapM (resVar P s) = some xs → ∃ vs : List Value, (results fn a.tmps).run P w = .ok (if h : vs.toArray.size = 1 then vs.toArray[0] else .tuple vs.toArray) w ∧ vs.length = xs.length ∧
      ∀ (i : Nat) (v : Value) (x : XV), vs[i]? = some v → xs[i]? = some x → XRep w ι (Forb M ι s.σ) v x := by
    intro xs hxs
    obtain ⟨vs, h1, h2, h3⟩ := resVar_run hm he _ xs hxs
    refine ⟨vs, ?_, h2, h3⟩
    rw [results_eq, Sem.run_bind, Array.mapM_eq_mapM_toList]
    have e : (List.toArray <$> fn.results.toList.mapM (resOne a.tmps)) = (fn.results.toList.mapM (resOne a.tmps) >>= fun l => pure l.toArray) := by simp
    rw [e, Sem.run_bind, h1]
    simp only [Result.andThen_ok, Sem.run_pure]
  unfold resX at h
  split at h
  · rename_i y hy
    cases h
    obtain ⟨vs, h1, h2, h3⟩ := key _ hy
    match vs, h2 with
    | [v], _ => exact ⟨v, by simpa using h1, h3 0 v x rfl rfl⟩
  · rename_i xs hne hxs
    cases h
    obtain ⟨vs, h1, h2, h3⟩ := key _ hxs
    have hn1 : ¬ vs.toArray.size = 1 := by
      intro e
      rw [List.size_toArray, h2] at e
      match xs, e with
      | [y], _ => exact hne y rfl
    rw [dif_neg hn1] at h1
    exact ⟨_, h1, .tup (by simpa using h2) (fun i v x hv hx => h3 i v x (by simpa using hv) hx)⟩
  · cases h

/-- The frame of a call. -/
def enter (σ : List VObj) (args : List XV) : St := ⟨σ, fun t => (args[t]?).getD undefX⟩

/-- Block D, which no value looks at, is shut. -/
structure Shut (D : Nat) (w w' : World) : Prop where
  was : w.heap[D]? = some (.deferred (some []))
  now : w'.heap[D]? = some (.deferred none)
  same : ∀ c, c ≠ D → w'.heap[c]? = w.heap[c]?
  size : w'.heap.size = w.heap.size
  os : w'.os = w.os
  tape : w'.tape = w.tape
  output : w'.output = w.output

theorem DRep.shut {D : Nat} {w w' : World} (hs : Shut D w w') {F : Nat → Prop} {v : Value} {x : DV} (h : DRep w F v x) : DRep w' F v x := by
  have cell : ∀ (a : Addr) (i : Nat) (v : Value), w.cell? ⟨a.block, a.off + i, none⟩ = some v → w'.cell? ⟨a.block, a.off + i, none⟩ = some v := fun a i v hv => by
    by_cases e : a.block = D
    · exfalso
      unfold World.cell? at hv
      simp only [e, hs.was] at hv
      cases hv
    · rw [cell?_of_heap (w := w) (p := ⟨a.block, a.off + i, none⟩) (hs.same _ e)]; exact hv
  induction h with
  | lit v => exact .lit v
  | sl vs hl hc hn ha hcell hx ih => exact .sl vs hl hc hn ha (fun i v hv => cell _ i v (hcell i v hv)) ih
  | ptr vs hn ha hcell hx ih => exact .ptr vs hn ha (fun i v hv => cell _ i v (hcell i v hv)) ih
  | tup hn _ ih => exact .tup hn ih
  | agg hn _ ih => exact .agg hn ih
  | fn hn _ hm _ ih1 ih2 => exact .fn hn ih1 hm ih2
  | ifc _ ih => exact .ifc ih
  | mp ks hb hh hk hn _ ih => exact .mp ks hb ((hs.same _ (fun e => by rw [e, hs.was] at hh; cases hh)).trans hh) hk hn ih

theorem Shut.shape {D : Nat} {w w' : World} (hs : Shut D w w') {b : Nat} {s : TypeId × Nat} (h : w.shape? b = some s) : w'.shape? b = some s := by
  rw [shape_congr (hs.same _ (fun e => by
    unfold World.shape? at h
    rw [e, hs.was] at h; cases h))]; exact h

theorem XRep.shut {D : Nat} {w w' : World} (hs : Shut D w w') {ι : List Nat} {F : Nat → Prop} {v : Value} {x : XV} (h : XRep w ι F v x) : XRep w' ι F v x := by
  induction h with
  | d h => exact .d (h.shut hs)
  | osl hb hl hlo hex hsh =>
    obtain ⟨ty, sz, h1, h2⟩ := hsh
    exact .osl hb hl hlo hex ⟨ty, sz, hs.shape h1, h2⟩
  | optr hb => exact .optr hb
  | tup hn _ ih => exact .tup hn ih
  | agg hn _ ih => exact .agg hn ih
  | fn hn _ hm _ ih1 ih2 => exact .fn hn ih1 hm ih2
  | ifc _ ih => exact .ifc ih
  | omp hb => exact .omp hb
  | yl hb => exact .yl hb

theorem Mem.shut {M : Nat → Prop} {W0 w w' : World} {ι : List Nat} {σ : List VObj} {D : Nat} (hm : Mem M W0 ι σ w) (hs : Shut D w w') (hD : W0.heap.size ≤ D) : Mem M W0 ι σ w' := by
  refine ⟨hm.len, fun id o b h1 h2 h3 => ?_, fun id o b h1 h2 h3 => ?_, fun id b h => by rw [hs.size]; exact hm.fresh id b h, hm.apart, ?_, hm.outer⟩
  · obtain ⟨cu, ty, q1, q2, q3⟩ := hm.objs id o b h1 h2 h3
    refine ⟨cu, ty, (hs.same b (fun e => by rw [e, hs.was] at q1; cases q1)).trans q1, q2, fun i x hi => ?_⟩
    obtain ⟨v, kv, kx⟩ := q3 i x hi
    exact ⟨v, kv, kx.shut hs⟩
  · rcases hm.spec id o b h1 h2 h3 with ⟨k1, es, clock, k2, k3, k4⟩ | ⟨k1, t, pos, k2, k3⟩ | ⟨k1, r, L, env, k2, k3, k4, k5, k6⟩
    · refine .inl ⟨k1, es, clock, (hs.same b (fun e => by rw [e, hs.was] at k2; cases k2)).trans k2, k3, fun i en c hi hc => ?_⟩
      obtain ⟨x, e1, e2⟩ := k4 i en c hi hc
      exact ⟨x, e1, e2.shut hs⟩
    · exact .inr (.inl ⟨k1, t, pos, (hs.same b (fun e => by rw [e, hs.was] at k2; cases k2)).trans k2, k3⟩)
    · exact .inr (.inr ⟨k1, r, L, env, (hs.same b (fun e => by rw [e, hs.was] at k2; cases k2)).trans k2, k3, k4, k5, fun i v x hv hx => (k6 i v x hv hx).shut hs⟩)
  · exact hm.below.trans ⟨hs.os, hs.tape, hs.output, Nat.le_of_eq hs.size.symm, fun k hk => hs.same k (by omega)⟩

theorem shut_of {w : World} {D : Nat} (h : w.heap[D]? = some (.deferred (some []))) : Shut D w (w.putObj D (.deferred none)) :=
  ⟨h, World.putObj_heap_same (Array.getElem?_eq_some_iff.1 h).1, fun _ hc => World.putObj_heap_other hc, World.putObj_size, rfl, rfl, rfl⟩

theorem Ext.shut {M : Nat → Prop} {ι ι' : List Nat} {σ σ' : List VObj} {w w1 w2 : World} {D : Nat} (e : Ext M ι σ w ι' σ' w1) (hs : Shut D w1 w2) (hD : w.heap.size ≤ D) : Ext M ι σ w ι' σ' w2 :=
  ⟨e.pre, fun b hb hf => (hs.same b (by omega)).trans (e.heap b hb hf), by rw [hs.size]; exact e.size, e.mt, fun b s h => hs.shape (e.shape b s h), fun b r h => by
    obtain ⟨r', h'⟩ := e.loops b r h
    exact ⟨r', (hs.same b (fun e => by rw [e, hs.was] at h'; cases h')).trans h'⟩⟩

/-- The way out of a function: its marks are come to, one after the other. -/
theorem leaves_marks {P : Program} {M : Nat → Prop} {W0 w0 : World} {ι0 ι : List Nat} {σ0 σ : List VObj} {fn : Func} {tmps : Array Value} {env : Nat → XV} {R : Ending → World → Prop} (hW : W0.heap.size ≤ w0.heap.size)
    (hres : ∀ w, Mem M W0 ι σ w → Ext M ι0 σ0 w0 ι σ w → (∀ t, XRep w ι (Forb M ι σ) (tmps.getD t undef) (env t)) → ∃ v, (results fn tmps).run P w = .ok v w ∧ R (.returned v) w) :
    ∀ (Ds : List Nat) (w : World), Ds.Nodup → (∀ D ∈ Ds, w0.heap.size ≤ D ∧ w.heap[D]? = some (.deferred (some []))) → Mem M W0 ι σ w → Ext M ι0 σ0 w0 ι σ w → (∀ t, XRep w ι (Forb M ι σ) (tmps.getD t undef) (env t)) →
      LeavesInM Fence.wide 0 P fn tmps R (Ds.map fun D => { target := .collected D, args := #[] }) .returning w
  | [], w, _, _, hm, he, hx => hres w hm he hx
  | D :: Ds, w, hn, hd, hm, he, hx => by
    obtain ⟨d1, d2⟩ := hd D (by simp)
    rw [List.nodup_cons] at hn
    have hs := shut_of d2
    refine ⟨by simp, .inl ⟨D, _, rfl, run_takeDeferred d2, leaves_marks hW hres Ds _ hn.2 (fun E hE => ?_) (hm.shut hs (by omega)) (he.shut hs d1) (fun t => (hx t).shut hs)⟩⟩
    obtain ⟨k1, k2⟩ := hd E (by simp [hE])
    exact ⟨k1, (hs.same E (fun e => hn.1 (e ▸ hE))).trans k2⟩

/-- FROM A BODY TO A CONTRACT, among the caller's objects. -/
theorem inCall_of {f : FuncId} {fn : Func} {c : Code} {σ : List VObj} {args : List XV} {R : List VObj → XV → Prop} (hf : P.funcs[f]? = some fn) (hb : fn.body = some c) (hn : args.length ≤ fn.ntmps)
    (h : Wp P M W0 fn.ntmps c (enter σ args) (fun e s => (e = .ret ∨ e = .normal) ∧ ∃ x, resX P fn s = some x ∧ R s.σ x)) : InCall P M W0 f σ args R := by
  intro ι w vs hm hl hx
  refine calls_FR (ro := none) (n := 0) (callsIn_of_wp_marks hf hb trivial (h ⟨w.heap.size, none⟩ ι _ w ⟨hm, fun t => ?_, by simp [hl]; omega, ⟨Nat.le_refl _, [], rfl, List.nodup_nil, fun D h => by simp at h⟩, fun l h => by simp at h⟩ _ fun e ι' s' a' w' h1 h2 h3 => ?_))
  · simp only [enter]
    by_cases ht : t < vs.length
    · have e1 : (vs.toArray ++ Array.replicate (fn.ntmps - vs.toArray.size) undef).getD t undef = vs[t] := by
        simp only [Array.getD_eq_getD_getElem?]
        rw [Array.getElem?_append_left (by simpa using ht)]; simp [ht]
      rw [e1]
      have ht' : t < args.length := by omega
      rw [List.getElem?_eq_getElem ht', Option.getD_some]
      exact hx t _ _ (List.getElem?_eq_getElem ht) (List.getElem?_eq_getElem ht')
    · have e1 : (vs.toArray ++ Array.replicate (fn.ntmps - vs.toArray.size) undef).getD t undef = undef := by
        simp only [Array.getD_eq_getD_getElem?]
        rw [Array.getElem?_append_right (by simp; omega), Array.getElem?_replicate]
        split <;> rfl
      rw [e1, List.getElem?_eq_none (by omega)]
      exact .d (.lit _)
  · obtain ⟨he, x, hr, hR⟩ := h1
    obtain ⟨_, Ds, e1, e2, e3⟩ := h2.defers
    have key := leaves_marks (P := P) (M := M) (W0 := W0) (w0 := w) (ι0 := ι) (ι := ι') (σ0 := σ) (σ := s'.σ) (fn := fn) (tmps := a'.tmps) (env := s'.env) (R := fun e w' => ∃ (ι' : List Nat) (σ' : List VObj) (x : XV) (v : Value), e = .returned v ∧ Mem M W0 ι' σ' w' ∧ Ext M ι σ w ι' σ' w' ∧ XRep w' ι' (Forb M ι' σ') v x ∧ R σ' x) hm.below.size
      (fun w2 q1 q2 q3 => by
        obtain ⟨v, k1, k2⟩ := resX_run q1 q3 hr
        exact ⟨v, k1, ι', s'.σ, x, v, rfl, q1, q2, k2, hR⟩) Ds w' e2 (fun D hD => ⟨(e3 D hD).1, (e3 D hD).2.2⟩) h2.mem h3 h2.env
    rcases he with rfl | rfl
    · show LeavesInM Fence.wide 0 P fn a'.tmps _ a'.defers .returning w'
      rw [e1]; exact key
    · show LeavesInM Fence.wide 0 P fn a'.tmps _ a'.defers .returning w'
      rw [e1]; exact key

/-- What a deep call's result is, at the end of its body. -/
def deepRes (P : Program) (fn : Func) (k : Nat) (s : St) (res : DV) : Prop := ∃ x, resX P fn s = some x ∧ deepen (freezeAll s.σ) k x = some res

theorem Mem.start (M : Nat → Prop) (w : World) (h : ∀ b, M b → b < w.heap.size) : Mem M w [] [] w :=
  ⟨rfl, fun id o b h => by simp at h, fun id o b h => by simp at h, fun id b h => by simp at h, fun i j oi oj bi bj _ h => by simp at h, Below.refl _ _, h⟩

theorem forb_nil (M : Nat → Prop) : ∀ b, Forb M [] [] b → M b := by
  rintro b (h | ⟨id, o, h, _⟩)
  · exact h
  · simp at h

theorem deepCall_of_inCall {f : FuncId} {args : List DV} {res : DV} (k : Nat) (h : ∀ (M : Nat → Prop) (W0 : World), InCall P M W0 f [] (args.map .d) (fun σ' x => deepen (freezeAll σ') k x = some res)) : DeepCall P f args res := by
  intro M w vs hM hl hx
  have hrep : ∀ (i : Nat) (v : Value) (x : XV), vs[i]? = some v → (args.map XV.d)[i]? = some x → XRep w [] (Forb M [] []) v x := by
    intro i v x hv hx'
    simp only [List.getElem?_map, Option.map_eq_some_iff] at hx'
    obtain ⟨z, hz, rfl⟩ := hx'
    exact .d ((hx i v z hv hz).ext (fun _ _ _ => rfl) (fun b _ h => forb_nil M b h))
  refine (h M w [] w vs (Mem.start M w hM) (by simpa using hl) hrep).mono fun e w' => ?_
  rintro ⟨ι', σ', x, v, rfl, h1, h2, h3, h4⟩
  obtain ⟨f1, f2⟩ := freezeAll_tamed h1
  exact ⟨v, rfl, (deepen_sound f1 k v x res (h3.ext f2) h4).ext (fun _ _ _ => rfl) (fun b _ h => .inl h), h1.below⟩

/-- FROM A BODY TO A CONTRACT ON DEEP VALUES. -/
theorem deepCall_of {f : FuncId} {fn : Func} {c : Code} {args : List DV} {res : DV} (k : Nat) (hf : P.funcs[f]? = some fn) (hb : fn.body = some c) (hn : args.length ≤ fn.ntmps)
    (h : ∀ (M : Nat → Prop) (W0 : World), Wp P M W0 fn.ntmps c (enter [] (args.map .d)) (fun e s => (e = .ret ∨ e = .normal) ∧ deepRes P fn k s res)) : DeepCall P f args res :=
  deepCall_of_inCall k fun M W0 => inCall_of hf hb (by simpa using hn) ((h M W0).mono fun e s ⟨h1, x, h2, h3⟩ => ⟨h1, x, h2, h3⟩)

end
end Go.Vm

end
section
/-
  VALUES WITHOUT ADDRESSES, 11: a statement that leaves its order open: where the order does not matter, the text's order tells what it does.
-/
namespace Go.Vm
open Go.RowKit

theorem evalOp_congr {P : Program} {o : Oper} {σ : List VObj} {env env2 : Nat → XV} (h : ∀ x ∈ o.op.operands, evalX env2 x = evalX env x) : evalOp P o ⟨σ, env2⟩ = evalOp P o ⟨σ, env⟩ := by
  have hl : litOp P env2 o = litOp P env o := by
    unfold litOp
    have e1 : o.op.operands.all (fun x => (litOf (evalX env2 x)).isSome) = o.op.operands.all (fun x => (litOf (evalX env x)).isSome) := by
      rw [Bool.eq_iff_iff, Array.all_eq_true_iff_forall_mem, Array.all_eq_true_iff_forall_mem]
      exact ⟨fun hh x hx => by rw [← h x hx]; exact hh x hx, fun hh x hx => by rw [h x hx]; exact hh x hx⟩
    rw [e1]
    by_cases hs : isSelect o.op = true
    · simp [hs]
    · have e2 : execOp (fun x => (litOf (evalX env2 x)).getD undef) o = execOp (fun x => (litOf (evalX env x)).getD undef) o :=
        execOp_congr o (fun cs b e => hs (by rw [e]; rfl)) (fun x hx => by simp only [h x hx])
      rw [e2]
  have hx : opExt P env2 o = opExt P env o := by
    have hf : ∀ x ∈ o.op.operands, fnLit env2 x = fnLit env x := fun x hx => by cases x <;> first | rfl | (simp only [fnLit]; rw [h _ hx])
    unfold opExt
    have e1 : o.op.operands.all (fun x => (fnLit env2 x).isSome) = o.op.operands.all (fun x => (fnLit env x).isSome) := by
      rw [Bool.eq_iff_iff, Array.all_eq_true_iff_forall_mem, Array.all_eq_true_iff_forall_mem]
      exact ⟨fun hh x hx => by rw [← hf x hx]; exact hh x hx, fun hh x hx => by rw [hf x hx]; exact hh x hx⟩
    rw [e1]
    by_cases hs : isSelect o.op = true
    · simp [hs]
    · have e2 : execOp (fun x => (fnLit env2 x).getD undef) o = execOp (fun x => (fnLit env x).getD undef) o :=
        execOp_congr o (fun cs b e => hs (by rw [e]; rfl)) (fun x hx => by simp only [hf x hx])
      rw [e2]
  unfold evalOp
  simp only [hl, hx]
  clear hx
  obtain ⟨dst, op, type, pos, after, guard⟩ := o
  simp only at h ⊢
  have hmap : ∀ ps : Array (Nat × Operand), (∀ x ∈ (ps.toList.map (·.2)).toArray, evalX env2 x = evalX env x) → (ps.toList.map fun p => (p.1, evalX env2 p.2)) = ps.toList.map fun p => (p.1, evalX env p.2) := by
    intro ps hp
    refine List.map_congr_left fun p hpm => ?_
    rw [hp p.2 (by simp; exact ⟨p.1, by simpa using hpm⟩)]
  split
  · rfl
  · cases op with
    | move x => simp [h x (by simp [Op.operands])]
    | assign x => simp [h x (by simp [Op.operands])]
    | pick c a b => simp [h c (by simp [Op.operands]), h a (by simp [Op.operands]), h b (by simp [Op.operands])]
    | alloc t => rfl
    | box t x => simp [h x (by simp [Op.operands])]
    | load t a => simp [h a (by simp [Op.operands])]
    | store t a x => simp [h a (by simp [Op.operands]), h x (by simp [Op.operands])]
    | binOp op t x y u => simp [h x (by simp [Op.operands]), h y (by simp [Op.operands])]
    | makeFunc f first caps =>
      have e1 : first.toList.map (evalX env2) = first.toList.map (evalX env) := List.map_congr_left fun x hx => h x (by simp [Op.operands]; exact .inl (by simpa using hx))
      have e2 : caps.toList.map (evalX env2) = caps.toList.map (evalX env) := List.map_congr_left fun x hx => h x (by simp [Op.operands]; exact .inr (by simpa using hx))
      simp only [e1, e2]
    | makeSlice t l c => simp [h l (by simp [Op.operands]), h c (by simp [Op.operands])]
    | slice t x lo hi mx =>
      have e0 := h x (by simp [Op.operands])
      have e1 : lo.map (evalX env2) = lo.map (evalX env) := by cases lo with | none => rfl | some y => simp [h y (by simp [Op.operands])]
      have e2 : hi.map (evalX env2) = hi.map (evalX env) := by cases hi with | none => rfl | some y => simp [h y (by simp [Op.operands])]
      have e3 : mx.map (evalX env2) = mx.map (evalX env) := by cases mx with | none => rfl | some y => simp [h y (by simp [Op.operands])]
      simp only [e0, e1, e2, e3]
    | indexAddr t x i => simp [h x (by simp [Op.operands]), h i (by simp [Op.operands])]
    | extract x i => simp [h x (by simp [Op.operands])]
    | field t x f => simp [h x (by simp [Op.operands])]
    | index t x i => simp [h x (by simp [Op.operands]), h i (by simp [Op.operands])]
    | fieldAddr t x f => simp [h x (by simp [Op.operands])]
    | build t parts => simp only [hmap parts (fun x hx => h x (by simpa [Op.operands] using hx))]
    | buildSlice t n parts => simp only [hmap parts (fun x hx => h x (by simpa [Op.operands] using hx))]
    | call c =>
      obtain ⟨callee, args, ts⟩ := c
      cases callee with
      | builtin b =>
        have hargs : ∀ x ∈ args.toList, evalX env2 x = evalX env x := fun x hx => h x (by simp [Op.operands, Call.operands]; simpa using hx)
        cases b <;> first | rfl | skip
        all_goals
          simp only
          cases hal : args.toList with
          | nil => rfl
          | cons y ys =>
            rw [hal] at hargs
            cases ys with
            | nil => simp [hargs y (by simp)]
            | cons z zs => cases zs with
              | nil => simp [hargs y (by simp), hargs z (by simp)]
              | cons _ _ => rfl
      | value f => rfl
      | invoke r m => rfl
    | _ => rfl

theorem opLoad_pure {P : Program} {σ σ2 : List VObj} {t : TypeId} {x y : XV} (h : opLoad P σ t x = some (y, 0)) : opLoad P σ2 t x = some (y, 0) := by
  unfold opLoad at h ⊢
  cases x with
  | d x => cases x <;> simp_all
  | optr id off =>
    simp only at h
    split at h
    · split at h
      · cases h
      · simp at h
    · cases h
  | _ => simp at h

theorem opLoad_read {P : Program} {σ : List VObj} {t : TypeId} {x y : XV} {fl : Nat} (h : opLoad P σ t x = some (y, fl)) : fl ≠ 2 := by
  unfold opLoad at h
  cases x with
  | d x => cases x <;> simp at h; omega
  | optr id off =>
    simp only at h
    split at h
    · split at h
      · cases h
      · simp at h; omega
    · cases h
  | _ => simp at h

theorem evalOp_pure {P : Program} {o : Oper} {σ σ' : List VObj} {env : Nat → XV} {x : XV} (h : evalOp P o ⟨σ, env⟩ = some (x, σ', 0)) : ∀ σ2, evalOp P o ⟨σ2, env⟩ = some (x, σ2, 0) := by
  intro σ2
  unfold evalOp at h ⊢
  simp only at h ⊢
  split at h
  · simp at h ⊢; exact h.1
  · rename_i hn
    obtain ⟨dst, op, type, pos, after, guard⟩ := o
    simp only at h ⊢
    cases op with
    | move y => simp at h ⊢; exact h.1
    | assign y => simp at h ⊢; exact h.1
    | pick c a b =>
      simp only at h ⊢
      split at h
      · simp at h ⊢; exact h.1
      · cases h
    | alloc t => simp at h
    | box t y => simp at h
    | load t a =>
      simp only [Option.map_eq_some_iff, Prod.mk.injEq] at h ⊢
      obtain ⟨r, hr, h1, h2, h3⟩ := h
      obtain ⟨r1, r2⟩ := r
      simp at h1 h3
      subst h1; subst h3
      exact ⟨_, opLoad_pure hr, rfl, trivial, rfl⟩
    | store t a y => simp at h
    | binOp op t a b u =>
      simp only at h ⊢
      split at h
      · rename_i q hq
        simp only [Option.some.injEq, Prod.mk.injEq] at h
        obtain ⟨h1, _⟩ := h
        subst h1
        rfl
      · simp at h ⊢; obtain ⟨r, hr, h1, _⟩ := h; subst h1; exact ⟨_, hr, rfl⟩
    | makeFunc f first caps => simp at h ⊢; exact h.1
    | makeSlice t l c => simp at h
    | slice t a lo hi mx =>
      simp only at h ⊢
      split at h
      · rename_i q hq
        simp only [Option.some.injEq, Prod.mk.injEq] at h
        obtain ⟨h1, _⟩ := h
        subst h1
        rfl
      · simp at h
    | indexAddr t a i => simp at h ⊢; obtain ⟨r, hr, h1, _⟩ := h; subst h1; exact hr
    | extract a i => simp at h ⊢; obtain ⟨r, hr, h1, _⟩ := h; subst h1; exact hr
    | field t a f => simp at h ⊢; obtain ⟨r, hr, h1, _⟩ := h; subst h1; exact hr
    | index t a i => simp at h ⊢; obtain ⟨r, hr, h1, _⟩ := h; subst h1; exact hr
    | fieldAddr t a f => simp at h ⊢; obtain ⟨r, hr, h1, _⟩ := h; subst h1; exact hr
    | build t parts => simp at h ⊢; obtain ⟨r, hr, h1, _⟩ := h; subst h1; exact hr
    | buildSlice t n parts => simp at h
    | call c =>
      obtain ⟨callee, args, ts⟩ := c
      cases callee with
      | builtin b =>
        cases b <;> simp only at h ⊢ <;> first | (cases h; done) | skip
        all_goals
          revert h
          cases args.toList with
          | nil => simp
          | cons y ys => cases ys with
            | nil => first | (simp; done) | (simp; intro r hr h1 _; subst h1; exact hr)
            | cons z zs => cases zs with
              | nil => first | (simp; done) | (simp only; intro h; split at h <;> simp at h)
              | cons _ _ => simp
      | value f => simp at h ⊢; obtain ⟨r, hr, h1, _⟩ := h; subst h1; exact ⟨_, hr, rfl⟩
      | invoke r m => simp at h
    | _ => simp at h

theorem evalOp_read {P : Program} {o : Oper} {s : St} {σ' : List VObj} {x : XV} {fl : Nat} (h : evalOp P o s = some (x, σ', fl)) (hf : fl < 2) : σ' = s.σ := by
  unfold evalOp at h
  split at h
  · simp at h; exact h.2.1.symm
  · obtain ⟨dst, op, type, pos, after, guard⟩ := o
    simp only at h
    cases op with
    | call c =>
      obtain ⟨callee, args, ts⟩ := c
      cases callee with
      | builtin b =>
        cases b <;> simp only at h <;> first | (cases h; done) | skip
        all_goals
          revert h
          cases args.toList with
          | nil => simp
          | cons y ys => cases ys with
            | nil => simp <;> (intros; simp_all)
            | cons z zs => cases zs with
              | nil => first | (simp; done) | (simp only; intro h; simp only [Option.map_eq_some_iff, Prod.mk.injEq] at h; obtain ⟨_, _, _, _, h⟩ := h; omega) | (simp only; intro h; split at h <;> simp at h <;> first | (exfalso; obtain ⟨_, _, h3⟩ := h; omega) | (obtain ⟨_, _, _, _, _, h⟩ := h; omega))
              | cons _ _ => simp
      | value f => simp at h; obtain ⟨_, _, _, h2, _⟩ := h; exact h2.symm
      | invoke r m => simp at h
    | binOp op t a b u =>
      simp only at h
      split at h
      · simp at h; exact h.2.1.symm
      · simp at h; obtain ⟨_, _, _, h2, _⟩ := h; exact h2.symm
    | pick c a b =>
      simp only at h
      split at h
      · simp at h; exact h.2.1.symm
      · cases h
    | slice t a lo hi mx =>
      simp only at h
      split at h
      · simp at h; exact h.2.1.symm
      · simp at h; obtain ⟨_, _, _, h2, _⟩ := h; exact h2.symm
    | _ => simp at h <;> first | exact h.2.1.symm | (exfalso; obtain ⟨_, _, h3⟩ := h; omega) | (obtain ⟨_, _, _, h2, h3⟩ := h; first | exact h2.symm | (exfalso; omega)) | (obtain ⟨_, _, _, _, h2, h3⟩ := h; first | exact h2.symm | (exfalso; omega)) | (simp_all; done)

/-- What only makes new objects. -/
theorem evalOp_grow {P : Program} {o : Oper} {s : St} {σ' : List VObj} {x : XV} {fl : Nat} (h : evalOp P o s = some (x, σ', fl)) (hf : fl ≠ 2) : ∃ τ, σ' = s.σ ++ τ := by
  by_cases hf2 : fl < 2
  · exact ⟨[], by rw [evalOp_read h hf2, List.append_nil]⟩
  unfold evalOp at h
  split at h
  · simp at h; exact ⟨[], by rw [List.append_nil]; exact h.2.1.symm⟩
  · obtain ⟨dst, op, type, pos, after, guard⟩ := o
    simp only at h
    cases op with
    | alloc t =>
      simp only [Option.map_eq_some_iff, Prod.mk.injEq] at h
      obtain ⟨r, hr, _, h2, _⟩ := h
      simp only [opAlloc, Option.map_eq_some_iff] at hr
      obtain ⟨z, _, rfl⟩ := hr
      exact ⟨_, h2.symm⟩
    | box t y =>
      simp only [Option.some.injEq, Prod.mk.injEq] at h
      exact ⟨_, h.2.1.symm⟩
    | makeSlice t l c =>
      simp only [Option.map_eq_some_iff, Prod.mk.injEq] at h
      obtain ⟨r, hr, _, h2, _⟩ := h
      unfold opMakeSlice at hr
      split at hr
      · split at hr
        · split at hr
          · cases hr; exact ⟨_, h2.symm⟩
          · cases hr
        · cases hr
      · cases hr
    | buildSlice t n parts =>
      simp only [Option.map_eq_some_iff, Prod.mk.injEq] at h
      obtain ⟨r, hr, _, h2, _⟩ := h
      unfold opBuildSlice at hr
      split at hr
      · split at hr
        · split at hr
          · simp only [Option.map_eq_some_iff] at hr
            obtain ⟨cs, _, rfl⟩ := hr
            exact ⟨_, h2.symm⟩
          · cases hr
        · cases hr
      · cases hr
    | call c =>
      obtain ⟨callee, args, ts⟩ := c
      cases callee with
      | builtin b =>
        cases b <;> simp only at h <;> first | (cases h; done) | skip
        all_goals
          revert h
          cases args.toList with
          | nil => simp
          | cons y ys => cases ys with
            | nil => first | (simp; done) | (simp only; intro h; simp only [Option.map_eq_some_iff, Prod.mk.injEq] at h; obtain ⟨_, _, _, _, h⟩ := h; omega)
            | cons z zs => cases zs with
              | nil => first | (simp; done) | (simp only; intro h; simp only [Option.map_eq_some_iff, Prod.mk.injEq] at h; obtain ⟨_, _, _, _, h⟩ := h; omega) | (simp only; intro h; split at h <;> simp at h <;> first | (exfalso; obtain ⟨_, _, h3⟩ := h; omega) | (obtain ⟨_, _, _, _, _, h⟩ := h; omega))
              | cons _ _ => simp
      | value f => simp at h; obtain ⟨_, _, _, _, h⟩ := h; omega
      | invoke r m => simp at h
    | binOp op t a b u =>
      simp only at h
      split at h
      · simp at h; omega
      · simp at h; obtain ⟨_, _, _, _, h⟩ := h; omega
    | pick c a b =>
      simp only at h
      split at h
      · simp at h; omega
      · cases h
    | slice t a lo hi mx =>
      simp only at h
      split at h
      · simp at h; omega
      · simp at h; obtain ⟨_, _, _, _, h⟩ := h; omega
    | load t a =>
      simp only [Option.map_eq_some_iff, Prod.mk.injEq] at h
      obtain ⟨r, hr, _, h2, _⟩ := h
      exact ⟨[], by rw [List.append_nil]; exact h2.symm⟩
    | _ => simp at h <;> first | (exfalso; obtain ⟨_, _, h3⟩ := h; omega) | (obtain ⟨_, _, _, h2, h3⟩ := h; exfalso; omega) | (obtain ⟨_, _, _, _, h2, h3⟩ := h; exfalso; omega) | (simp_all; done)

/-- What reads reads the same where the objects that it looks at are there. -/
theorem evalOp_one {P : Program} {o : Oper} {σ σ' σ2 : List VObj} {env : Nat → XV} {x : XV} (h : evalOp P o ⟨σ, env⟩ = some (x, σ', 1))
    (h2 : ∀ y ∈ o.op.operands, ∀ id off, evalX env y = .optr id off → ∀ ob, σ[id]? = some ob → ∃ ob', σ2[id]? = some ob' ∧ ob'.cells = ob.cells ∧ (ob'.mode < 2 ↔ ob.mode < 2)) : evalOp P o ⟨σ2, env⟩ = some (x, σ2, 1) := by
  unfold evalOp at h ⊢
  simp only at h ⊢
  split at h
  · simp at h
  · rename_i hn
    obtain ⟨dst, op, type, pos, after, guard⟩ := o
    simp only at h h2 ⊢
    cases op with
    | load t a =>
      simp only [Option.map_eq_some_iff, Prod.mk.injEq] at h ⊢
      obtain ⟨r, hr, e1, _, e3⟩ := h
      have hl := h2 a (by simp [Op.operands])
      refine ⟨r, ?_, e1, trivial, e3⟩
      revert hr hl
      generalize evalX env a = xa
      intro hr hl
      unfold opLoad at hr ⊢
      cases xa with
      | d y => cases y <;> exact hr
      | optr id off =>
        simp only at hr ⊢
        split at hr
        · rename_i ob ho
          obtain ⟨ob', q1, q2, q3⟩ := hl id off rfl ob ho
          rw [q1]
          simp only [q2, q3]
          exact hr
        · cases hr
      | _ => cases hr
    | slice t a lo hi mx =>
      simp only at h ⊢
      split at h
      · simp at h
      · rename_i hns
        simp only [Option.map_eq_some_iff, Prod.mk.injEq] at h ⊢
        obtain ⟨r, hr, e1, _, e3⟩ := h
        have hl := h2 a (by simp [Op.operands])
        refine ⟨r, ?_, e1, by first | trivial | exact ⟨rfl, rfl⟩ | simp⟩
        revert hr hl
        generalize evalX env a = xa
        intro hr hl
        unfold opSliceA at hr ⊢
        cases xa with
        | optr id off =>
          simp only at hr ⊢
          split at hr
          · split at hr
            · rename_i ob ho
              obtain ⟨ob', q1, q2, q3⟩ := hl id off rfl ob ho
              rw [q1]
              simp only [q2, q3]
              exact hr
            · cases hr
          · cases hr
        | _ => cases hr
    | binOp op t a b u =>
      simp only at h
      split at h
      · simp at h
      · simp at h
    | pick c a b =>
      simp only at h
      split at h
      · simp at h
      · cases h
    | call c =>
      obtain ⟨callee, args, ts⟩ := c
      cases callee with
      | builtin b =>
        exfalso
        cases b <;> simp only at h <;> first | (cases h; done) | skip
        all_goals
          revert h
          cases args.toList with
          | nil => simp
          | cons y ys => cases ys with
            | nil => simp
            | cons z zs => cases zs with
              | nil => first | (simp; done) | (simp only; intro h; split at h <;> simp at h)
              | cons _ _ => simp
      | value f => simp at h
      | invoke r m => simp at h
    | _ => simp at h

end Go.Vm

end
section
/-
  VALUES WITHOUT ADDRESSES, 12: statements that leave their order open.
-/
namespace Go.Vm
open Go.RowKit

def bindsA (e : Edge) : Bool := Region.binds .any e

/-- What some operations come right after. -/
def stepF (ops : Array Oper) (xs : List Nat) : List Nat := (xs.flatMap fun i => match ops[i]? with
  | some o => (o.after.toList.filter bindsA).map (·.on)
  | none => []).eraseDups

def reachL (ops : Array Oper) : Nat → List Nat → Nat → Bool
  | 0, _, _ => false
  | d + 1, xs, k => (stepF ops xs).contains k || reachL ops d (stepF ops xs) k

/-- Operation i comes after operation k in whatever order. -/
def reachB (ops : Array Oper) (d i k : Nat) : Bool := reachL ops d [i] k

def ordB (ops : Array Oper) (i j : Nat) : Bool := if j < i then reachB ops 8 i j else reachB ops 8 j i

def okPair (ops : Array Oper) (fl : Nat → Nat) (i j : Nat) (o p : Oper) : Bool :=
  (match p.dst with
    | some d => (o.dst != some d) && (!(o.looksAt ops).contains d || ordB ops i j)
    | none => true) && (decide (fl j < 2) || fl i == 0 || (fl j == 3 && fl i == 1) || ordB ops i j)

/-- The order does not matter. -/
def okDraw (ops : Array Oper) (fl : Nat → Nat) : Bool :=
  (List.range ops.size).all fun i => match ops[i]? with
    | none => true
    | some o => o.after.all (fun e => !bindsA e || e.on < i) && (List.range ops.size).all fun j => j == i || match ops[j]? with
      | none => true
      | some p => okPair ops fl i j o p

section
variable {P : Program} {ops : Array Oper}

theorem mem_stepF {xs : List Nat} {k : Nat} (h : k ∈ stepF ops xs) : ∃ i o, i ∈ xs ∧ ops[i]? = some o ∧ ∃ e ∈ o.after, bindsA e = true ∧ e.on = k := by
  unfold stepF at h
  rw [List.mem_eraseDups, List.mem_flatMap] at h
  obtain ⟨i, hi, hk⟩ := h
  cases ho : ops[i]? with
  | none => rw [ho] at hk; simp at hk
  | some o =>
    rw [ho] at hk
    simp only [List.mem_map, List.mem_filter] at hk
    obtain ⟨e, ⟨he, hb⟩, rfl⟩ := hk
    exact ⟨i, o, hi, ho, e, Array.mem_toList_iff.1 he, hb, rfl⟩

theorem reachL_closed {C : Nat → Prop} (hC : ∀ (i : Nat) (o : Oper), C i → ops[i]? = some o → ∀ e ∈ o.after, bindsA e = true → C e.on) : ∀ (d : Nat) (xs : List Nat) (k : Nat),
    (∀ i ∈ xs, ∀ o, ops[i]? = some o → ∀ e ∈ o.after, bindsA e = true → C e.on) → reachL ops d xs k = true → C k
  | 0, _, _, _, h => by simp [reachL] at h
  | d + 1, xs, k, hx, h => by
    have key : ∀ y ∈ stepF ops xs, C y := fun y hy => by
      obtain ⟨i, o, hi, ho, e, he, hb, rfl⟩ := mem_stepF hy
      exact hx i hi o ho e he hb
    simp only [reachL, Bool.or_eq_true] at h
    rcases h with h | h
    · exact key k (List.contains_iff_mem.1 h)
    · exact reachL_closed hC d _ k (fun i hi o ho e he hb => hC i o (key i hi) ho e he hb) h

theorem reach_closed {C : Nat → Prop} (hC : ∀ (i : Nat) (o : Oper), C i → ops[i]? = some o → ∀ e ∈ o.after, bindsA e = true → C e.on) (d i k : Nat) (o : Oper) (ho : ops[i]? = some o) (hi : ∀ e ∈ o.after, bindsA e = true → C e.on) (h : reachB ops d i k = true) : C k :=
  reachL_closed hC d [i] k (fun j hj q hq e he hb => by
    simp at hj; subst hj; rw [ho] at hq; cases hq; exact hi e he hb) h

/-- Where the operands read alike and nothing was done with the objects. -/
theorem Ev.congr {o : Oper} {s : St} {x : XV} {σ' : List VObj} {fl : Nat} (h : Ev P o s x σ' fl) {env2 : Nat → XV} (he : ∀ y ∈ o.op.operands, evalX env2 y = evalX s.env y) : Ev P o ⟨s.σ, env2⟩ x σ' fl := by
  cases h with
  | op h => exact .op (by rw [evalOp_congr (env := s.env) he]; exact h)
  | call ho hf hp hd hc =>
    rename_i callee args ts f first caps dargs res
    have hargs : args.toList.map (evalX env2) = args.toList.map (evalX s.env) := List.map_congr_left fun y hy => he y (by rw [ho]; simp [Op.operands, Call.operands]; exact .inr (by simpa using hy))
    exact Ev.call (s := ⟨s.σ, env2⟩) ho (by show asFn (evalX env2 callee) = _; rw [he callee (by rw [ho]; simp [Op.operands, Call.operands])]; exact hf) hp (by show first ++ args.toList.map (evalX env2) ++ caps = _; rw [hargs]; exact hd) hc
  | callF ids n ho hf hp hd hc =>
    rename_i callee args ts f first caps dargs res
    have hargs : args.toList.map (evalX env2) = args.toList.map (evalX s.env) := List.map_congr_left fun y hy => he y (by rw [ho]; simp [Op.operands, Call.operands]; exact .inr (by simpa using hy))
    exact Ev.callF (s := ⟨s.σ, env2⟩) ids n ho (by show asFn (evalX env2 callee) = _; rw [he callee (by rw [ho]; simp [Op.operands, Call.operands])]; exact hf) hp (by show (first ++ args.toList.map (evalX env2) ++ caps).mapM _ = _; rw [hargs]; exact hd) hc
  | inl ho hf hp hc =>
    rename_i callee args ts f first caps
    have hargs : args.toList.map (evalX env2) = args.toList.map (evalX s.env) := List.map_congr_left fun y hy => he y (by rw [ho]; simp [Op.operands, Call.operands]; exact .inr (by simpa using hy))
    exact Ev.inl (s := ⟨s.σ, env2⟩) ho (by show asFn (evalX env2 callee) = _; rw [he callee (by rw [ho]; simp [Op.operands, Call.operands])]; exact hf) hp (by
      intro M W0; have := hc M W0; rw [← hargs] at this; exact this)
  | inlG ho hf hp hc =>
    rename_i callee args ts f first caps τ
    have hargs : args.toList.map (evalX env2) = args.toList.map (evalX s.env) := List.map_congr_left fun y hy => he y (by rw [ho]; simp [Op.operands, Call.operands]; exact .inr (by simpa using hy))
    exact Ev.inlG (s := ⟨s.σ, env2⟩) ho (by show asFn (evalX env2 callee) = _; rw [he callee (by rw [ho]; simp [Op.operands, Call.operands])]; exact hf) hp (by
      intro M W0; have := hc M W0; rw [← hargs] at this; exact this)
  | yld ho hv hc =>
    rename_i callee args ts id b
    have hargs : args.toList.map (evalX env2) = args.toList.map (evalX s.env) := List.map_congr_left fun y hy => he y (by rw [ho]; simp [Op.operands, Call.operands]; exact .inr (by simpa using hy))
    exact Ev.yld (s := ⟨s.σ, env2⟩) ho (by show evalX env2 callee = _; rw [he callee (by rw [ho]; simp [Op.operands, Call.operands])]; exact hv) (by
      intro M W0; have := hc M W0; rw [← hargs] at this; exact this)
  | semP hs => exact Ev.semP (s := ⟨s.σ, env2⟩) fun F ι w ev h => hs F ι w ev fun y hy => by have := h y hy; rwa [he y hy] at this
  | hid hs => exact Ev.hid (s := ⟨s.σ, env2⟩) fun F ι w ev hF h => hs F ι w ev hF fun y hy => by have := h y hy; rwa [he y hy] at this
  | semG hs => exact Ev.semG (s := ⟨s.σ, env2⟩) fun M W0 ι w ev hm h => hs M W0 ι w ev hm fun y hy => by have := h y hy; rwa [he y hy] at this
  | semW hs => exact Ev.semW (s := ⟨s.σ, env2⟩) fun M W0 ι w ev hm h => hs M W0 ι w ev hm fun y hy => by have := h y hy; rwa [he y hy] at this

theorem Ev.pure {o : Oper} {s : St} {x : XV} {σ' : List VObj} (h : Ev P o s x σ' 0) (σ2 : List VObj) : Ev P o ⟨σ2, s.env⟩ x σ2 0 := by
  cases h with
  | op h => exact .op (evalOp_pure h σ2)
  | call ho hf hp hd hc => exact Ev.call (s := ⟨σ2, s.env⟩) ho hf hp hd hc
  | semP hs => exact Ev.semP (s := ⟨σ2, s.env⟩) hs
  | hid hs => exact Ev.hid (s := ⟨σ2, s.env⟩) hs

theorem Ev.read {o : Oper} {s : St} {x : XV} {σ' : List VObj} {fl : Nat} (h : Ev P o s x σ' fl) (hf : fl < 2) : σ' = s.σ := by
  cases h with
  | op h => exact evalOp_read h hf
  | call => rfl
  | callF => omega
  | inl => omega
  | inlG => omega
  | yld => omega
  | semP => rfl
  | hid => rfl
  | semG => omega
  | semW => omega

/-- What is there is still there, with the same cells. -/
def Keeps (σ σ2 : List VObj) : Prop := ∀ (id : Nat) (ob : VObj), σ[id]? = some ob → ∃ ob', σ2[id]? = some ob' ∧ ob'.cells = ob.cells ∧ (ob'.mode < 2 ↔ ob.mode < 2)
theorem Keeps.refl (σ : List VObj) : Keeps σ σ := fun _ ob h => ⟨ob, h, rfl, Iff.rfl⟩
theorem Keeps.trans {σ σ2 σ3 : List VObj} (h : Keeps σ σ2) (k : Keeps σ2 σ3) : Keeps σ σ3 := fun id ob ho => by
  obtain ⟨o2, a1, a2, a3⟩ := h id ob ho
  obtain ⟨o3, b1, b2, b3⟩ := k id o2 a1
  exact ⟨o3, b1, b2.trans a2, b3.trans a3⟩
theorem Keeps.append (σ τ : List VObj) : Keeps σ (σ ++ τ) := fun id ob ho => ⟨ob, by rw [List.getElem?_append_left (List.getElem?_eq_some_iff.1 ho).1]; exact ho, rfl, Iff.rfl⟩
theorem Keeps.freeze (σ : List VObj) (ids : List Nat) : Keeps σ (freezeIds σ ids) := fun id ob ho => by
  simp only [freezeIds, List.getElem?_mapIdx, ho, Option.map_some]
  split
  · rename_i h
    simp only [Bool.and_eq_true, beq_iff_eq] at h
    exact ⟨_, rfl, rfl, by simp [h.2]⟩
  · split
    · rename_i h
      simp only [Bool.and_eq_true, beq_iff_eq] at h
      exact ⟨_, rfl, rfl, by simp [h.2]⟩
    · exact ⟨_, rfl, rfl, Iff.rfl⟩

theorem Ev.grow {o : Oper} {s : St} {x : XV} {σ' : List VObj} {fl : Nat} (h : Ev P o s x σ' fl) (hf : fl ≠ 2) : Keeps s.σ σ' := by
  cases h with
  | op h => obtain ⟨τ, rfl⟩ := evalOp_grow h hf; exact .append _ _
  | call => exact .refl _
  | callF ids => exact .freeze _ ids
  | inl => exact absurd rfl hf
  | inlG => exact .append _ _
  | yld => exact absurd rfl hf
  | semP => exact .refl _
  | hid => exact .refl _
  | semG => exact .append _ _
  | semW => exact absurd rfl hf

theorem Ev.one {o : Oper} {s : St} {x : XV} {σ' σ2 : List VObj} (h : Ev P o s x σ' 1) (h2 : ∀ y ∈ o.op.operands, ∀ id off, evalX s.env y = .optr id off → ∀ ob, s.σ[id]? = some ob → ∃ ob', σ2[id]? = some ob' ∧ ob'.cells = ob.cells ∧ (ob'.mode < 2 ↔ ob.mode < 2)) : Ev P o ⟨σ2, s.env⟩ x σ2 1 := by
  cases h with
  | op h => exact .op (evalOp_one h h2)

/-- What each operation does, in the text's order. -/
structure Steps' (P : Program) (n : Nat) (ops : Array Oper) (S : Nat → St) (X : Nat → XV) (F : Nat → Nat) (i : Nat) (o : Oper) : Prop where
  dst : dstOk n o.dst = true
  env : (S (i + 1)).env = putE (S i).env o.dst (X i)
  ev : (guardX ops (S i).env o = some true ∧ Ev P o (S i) (X i) (S (i + 1)).σ (F i)) ∨ (guardX ops (S i).env o = some false ∧ X i = undefX ∧ F i = 0 ∧ (S (i + 1)).σ = (S i).σ)

theorem Steps'.same {n : Nat} {S : Nat → St} {X : Nat → XV} {F : Nat → Nat} {i : Nat} {o : Oper} (h : Steps' P n ops S X F i o) (hf : F i < 2) : (S (i + 1)).σ = (S i).σ := by
  rcases h.ev with ⟨_, h⟩ | ⟨_, _, _, h⟩
  · exact h.read hf
  · exact h

theorem Steps'.grow {n : Nat} {S : Nat → St} {X : Nat → XV} {F : Nat → Nat} {i : Nat} {o : Oper} (h : Steps' P n ops S X F i o) (hf : F i ≠ 2) : Keeps (S i).σ (S (i + 1)).σ := by
  rcases h.ev with ⟨_, h⟩ | ⟨_, _, _, h⟩
  · exact h.grow hf
  · rw [h]; exact .refl _

def writes (ops : Array Oper) (listed : Nat → Bool) (t : Nat) (j : Nat) : Bool := listed j && ((ops[j]?).bind (·.dst)) == some t

/-- The frame when the listed operations have been done. -/
def envL (ops : Array Oper) (e0 : Nat → XV) (X : Nat → XV) (listed : Nat → Bool) (t : Nat) : XV :=
  match (List.range ops.size).find? (writes ops listed t) with
  | some j => X j
  | none => e0 t

theorem okDraw_edges {F : Nat → Nat} (h : okDraw ops F = true) {i : Nat} {o : Oper} (ho : ops[i]? = some o) : ∀ e ∈ o.after, bindsA e = true → e.on < i := by
  intro e he hb
  have hi := (Array.getElem?_eq_some_iff.1 ho).1
  have := List.all_eq_true.1 h i (by simpa using hi)
  simp only [ho, Bool.and_eq_true] at this
  have h1 := Array.all_eq_true_iff_forall_mem.1 this.1 e he
  simpa [hb] using h1

theorem okDraw_pair {F : Nat → Nat} (h : okDraw ops F = true) {i j : Nat} {o p : Oper} (ho : ops[i]? = some o) (hp : ops[j]? = some p) (hne : j ≠ i) : okPair ops F i j o p = true := by
  have hi := (Array.getElem?_eq_some_iff.1 ho).1
  have hj := (Array.getElem?_eq_some_iff.1 hp).1
  have h1 := List.all_eq_true.1 h i (by simpa using hi)
  simp only [ho, Bool.and_eq_true] at h1
  have h2 := List.all_eq_true.1 h1.2 j (by simpa using hj)
  simp only [hp, Bool.or_eq_true, beq_iff_eq] at h2
  exact h2.resolve_left hne

theorem okDraw_dst {F : Nat → Nat} (h : okDraw ops F = true) {i j : Nat} {o p : Oper} {t : Nat} (ho : ops[i]? = some o) (hp : ops[j]? = some p) (h1 : o.dst = some t) (h2 : p.dst = some t) : i = j := by
  by_cases e : j = i
  · exact e.symm
  · have := okDraw_pair h ho hp e
    simp only [okPair, h2, Bool.and_eq_true] at this
    simp [h1] at this

theorem envL_some {F : Nat → Nat} (h : okDraw ops F = true) {e0 X : Nat → XV} {listed : Nat → Bool} {t j : Nat} {p : Oper} (hp : ops[j]? = some p) (hd : p.dst = some t) (hl : listed j = true) : envL ops e0 X listed t = X j := by
  unfold envL
  have hj := (Array.getElem?_eq_some_iff.1 hp).1
  cases hf : (List.range ops.size).find? (writes ops listed t) with
  | none =>
    have := List.find?_eq_none.1 hf j (by simpa using hj)
    simp [writes, hp, hd, hl] at this
  | some k =>
    have h1 := List.find?_some hf
    simp only [writes, Bool.and_eq_true, beq_iff_eq] at h1
    cases hk : ops[k]? with
    | none => rw [hk] at h1; simp at h1
    | some q =>
      rw [hk] at h1
      simp only [Option.bind_some] at h1
      rw [okDraw_dst h hk hp h1.2 hd]

theorem envL_none {e0 X : Nat → XV} {listed : Nat → Bool} {t : Nat} (h : ∀ (j : Nat) (p : Oper), ops[j]? = some p → listed j = true → p.dst ≠ some t) : envL ops e0 X listed t = e0 t := by
  unfold envL
  cases hf : (List.range ops.size).find? (writes ops listed t) with
  | none => rfl
  | some k =>
    have h1 := List.find?_some hf
    simp only [writes, Bool.and_eq_true, beq_iff_eq] at h1
    cases hk : ops[k]? with
    | none => rw [hk] at h1; simp at h1
    | some q =>
      rw [hk] at h1
      exact absurd h1.2 (h k q hk h1.1)

section
variable {n : Nat} {S : Nat → St} {X : Nat → XV} {F : Nat → Nat} (hst : ∀ (i : Nat) (o : Oper), ops[i]? = some o → Steps' P n ops S X F i o)
include hst

theorem env_none {t : Nat} : ∀ i, i ≤ ops.size → (∀ (j : Nat) (p : Oper), j < i → ops[j]? = some p → p.dst ≠ some t) → (S i).env t = (S 0).env t
  | 0, _, _ => rfl
  | i + 1, hi, h => by
    have ho := Array.getElem?_eq_getElem (show i < ops.size by omega)
    rw [(hst i _ ho).env]
    have hne := h i _ (Nat.lt_succ_self i) ho
    have ih := env_none i (by omega) (fun j p hj hp => h j p (by omega) hp)
    cases hd : ops[i].dst with
    | none => simpa [putE] using ih
    | some d =>
      simp only [putE, upd]
      rw [if_neg (fun e => hne (by rw [hd, e]))]
      exact ih

theorem env_some (hok : okDraw ops F = true) {t j : Nat} {p : Oper} (hp : ops[j]? = some p) (hd : p.dst = some t) : ∀ i, i ≤ ops.size → j < i → (S i).env t = X j
  | 0, _, h => by omega
  | i + 1, hi, h => by
    have ho := Array.getElem?_eq_getElem (show i < ops.size by omega)
    rw [(hst i _ ho).env]
    by_cases e : j = i
    · subst e
      have : ops[j] = p := by rw [ho] at hp; simpa using hp
      rw [this, hd]
      simp [putE, upd]
    · have ih := env_some hok hp hd i (by omega) (by omega)
      cases hd' : ops[i].dst with
      | none => simpa [putE] using ih
      | some d =>
        simp only [putE, upd]
        rw [if_neg (fun e' => e (okDraw_dst hok hp ho hd (by rw [hd', e'])))]
        exact ih

theorem σ_same : ∀ (k i : Nat), i + k ≤ ops.size → (∀ j, i ≤ j → j < i + k → F j < 2) → (S (i + k)).σ = (S i).σ
  | 0, _, _, _ => rfl
  | k + 1, i, hi, h => by
    have ho := Array.getElem?_eq_getElem (show i + k < ops.size by omega)
    rw [← σ_same k i (by omega) (fun j h1 h2 => h j h1 (by omega))]
    exact (hst (i + k) _ ho).same (h _ (by omega) (by omega))

theorem σ_grow : ∀ (k i : Nat), i + k ≤ ops.size → (∀ j, i ≤ j → j < i + k → F j ≠ 2) → Keeps (S i).σ (S (i + k)).σ
  | 0, _, _, _ => .refl _
  | k + 1, i, hi, h => by
    have ho := Array.getElem?_eq_getElem (show i + k < ops.size by omega)
    exact (σ_grow k i (by omega) (fun j h1 h2 => h j h1 (by omega))).trans ((hst (i + k) _ ho).grow (h _ (by omega) (by omega)))

theorem σ_eq {p q : Nat} (hp : p ≤ ops.size) (hq : q ≤ ops.size) (h : ∀ j, 2 ≤ F j → j < ops.size → (j < p ↔ j < q)) : (S p).σ = (S q).σ := by
  rcases Nat.le_total p q with hle | hle
  · have := σ_same hst (q - p) p (by omega) (fun j h1 h2 => Nat.lt_of_not_le fun h3 => by have := h j h3 (by omega); omega)
    rw [show p + (q - p) = q by omega] at this
    exact this.symm
  · have := σ_same hst (p - q) q (by omega) (fun j h1 h2 => Nat.lt_of_not_le fun h3 => by have := h j h3 (by omega); omega)
    rw [show q + (p - q) = p by omega] at this
    exact this

/-- Between two points where all that is written has been done alike, one has what the other has, and perhaps more. -/
theorem σ_near {p q : Nat} (hp : p ≤ ops.size) (hq : q ≤ ops.size) (h : ∀ j, F j = 2 → j < ops.size → (j < p ↔ j < q)) {id : Nat} {ob : VObj} (hid : id < (S p).σ.length) (ho : (S q).σ[id]? = some ob) : ∃ ob', (S p).σ[id]? = some ob' ∧ ob'.cells = ob.cells ∧ (ob'.mode < 2 ↔ ob.mode < 2) := by
  rcases Nat.le_total p q with hle | hle
  · have e := σ_grow hst (q - p) p (by omega) (fun j h1 h2 h3 => by have := h j h3 (by omega); omega)
    rw [show p + (q - p) = q by omega] at e
    obtain ⟨o2, a1, a2, a3⟩ := e id _ (List.getElem?_eq_getElem hid)
    rw [ho] at a1
    cases a1
    exact ⟨_, List.getElem?_eq_getElem hid, a2.symm, a3.symm⟩
  · have e := σ_grow hst (p - q) q (by omega) (fun j h1 h2 h3 => by have := h j h3 (by omega); omega)
    rw [show q + (p - q) = p by omega] at e
    exact e id ob ho

end

/-- What holds when some operations have been done. -/
structure InvL (P : Program) (M : Nat → Prop) (W0 : World) (C : Ctx) (n : Nat) (ops : Array Oper) (S : Nat → St) (X : Nat → XV) (F : Nat → Nat) (ι0 : List Nat) (w0 : World) (listed : Array Bool) (ι : List Nat) (p : Nat) (a : Act) (w : World) : Prop where
  size : listed.size = ops.size
  closed : ∀ (i : Nat) (o : Oper), listed.getD i true = true → ops[i]? = some o → ∀ e ∈ o.after, bindsA e = true → listed.getD e.on false = true
  le : p ≤ ops.size
  mods : ∀ j, 2 ≤ F j → j < ops.size → (listed.getD j false = true ↔ j < p)
  mem : Mem M W0 ι (S p).σ w
  ext : Ext M ι0 (S 0).σ w0 ι (S p).σ w
  env : ∀ t, XRep w ι (Forb M ι (S p).σ) (a.tmps.getD t undef) (envL ops (S 0).env X (fun j => listed.getD j false) t)
  tsize : a.tmps.size = n
  defers : Marks M C.B ι (S p).σ w a.defers
  round : ∀ l, C.ro = some l → ∃ r : Loop, w.heap[l]? = some (Obj.loop r)

theorem mem_looks {o : Oper} {t : Tmp} (h : Operand.tmp t ∈ o.op.operands) : t ∈ o.looksAt ops := by
  unfold Oper.looksAt
  refine List.mem_append_left _ (List.mem_filterMap.2 ⟨.tmp t, by simpa using h, rfl⟩)

theorem guard_looks {o : Oper} {j d : Nat} {want : Bool} (hg : o.guard = some (j, want)) (hd : (ops[j]?).bind (·.dst) = some d) : d ∈ o.looksAt ops := by
  unfold Oper.looksAt
  refine List.mem_append_right _ ?_
  rw [hg]
  simp [hd]

theorem guardX_congr {o : Oper} {e1 e2 : Nat → XV} (h : ∀ t ∈ o.looksAt ops, e1 t = e2 t) : guardX ops e1 o = guardX ops e2 o := by
  unfold guardX
  cases hg : o.guard with
  | none => rfl
  | some q =>
    obtain ⟨j, want⟩ := q
    simp only
    cases hd : (ops[j]?).bind (·.dst) with
    | none => rfl
    | some d => simp only; rw [h d (guard_looks hg hd)]

theorem getD_bool (a : Array Bool) (i : Nat) (hi : i < a.size) (x y : Bool) : a.getD i x = a.getD i y := by simp [hi]

variable {M : Nat → Prop} {W0 : World} {C : Ctx} {n : Nat}

theorem InvL.next {S : Nat → St} {X : Nat → XV} {F : Nat → Nat} (hst : ∀ (i : Nat) (o : Oper), ops[i]? = some o → Steps' P n ops S X F i o) (hok : okDraw ops F = true)
    {ι0 : List Nat} {w0 : World} {listed : Array Bool} {ι : List Nat} {p : Nat} {a : Act} {w : World} (hI : InvL P M W0 C n ops S X F ι0 w0 listed ι p a w)
    {i : Nat} {o : Oper} (ho : ops[i]? = some o) (hun : listed.getD i false = false) (hready : ∀ e ∈ o.after, bindsA e = true → listed.getD e.on false = true) {Q : Exit → Act → World → Prop} {K : Act → World → Prop}
    (hK : ∀ (ι' : List Nat) (p' : Nat) (a' : Act) (w' : World), InvL P M W0 C n ops S X F ι0 w0 (listed.setIfInBounds i true) ι' p' a' w' → K a' w') : wpOpIn (FR C.ro) 0 P ops Q i K a w := by
  have hi := (Array.getElem?_eq_some_iff.1 ho).1
  have hil : i < listed.size := by rw [hI.size]; exact hi
  have hcl : ∀ (j : Nat) (q : Oper), listed.getD j false = true → ops[j]? = some q → ∀ e ∈ q.after, bindsA e = true → listed.getD e.on false = true := fun j q hj hq => hI.closed j q (by
    rw [getD_bool listed j (by rw [hI.size]; exact (Array.getElem?_eq_some_iff.1 hq).1) true false]; exact hj) hq
  -- what comes before i has been done, what comes behind i has not
  have before : ∀ j, reachB ops 8 i j = true → listed.getD j false = true := fun j h => reach_closed (ops := ops) (C := fun k => listed.getD k false = true) hcl 8 i j o ho hready h
  have behind : ∀ (j : Nat) (q : Oper), ops[j]? = some q → reachB ops 8 j i = true → listed.getD j false = false := fun j q hq h => by
    cases hl : listed.getD j false with
    | false => rfl
    | true =>
      have := reach_closed (ops := ops) (C := fun k => listed.getD k false = true) hcl 8 j i q hq (hcl j q hl hq) h
      rw [hun] at this; cases this
  have hlook : ∀ t ∈ o.looksAt ops, envL ops (S 0).env X (fun j => listed.getD j false) t = (S i).env t := by
    intro t ht
    by_cases hex : ∃ (j : Nat) (q : Oper), ops[j]? = some q ∧ q.dst = some t
    · obtain ⟨j, q, hq, hd⟩ := hex
      have uniq : ∀ (k : Nat) (r : Oper), ops[k]? = some r → r.dst = some t → k = j := fun k r hr hrd => okDraw_dst hok hr hq hrd hd
      by_cases e : j = i
      · rw [envL_none (fun k r hr hl hrd => by have := uniq k r hr hrd; subst this; subst e; simp [hun] at hl)]
        rw [env_none hst i (by omega) (fun k r hk hr hrd => by have := uniq k r hr hrd; omega)]
      · have hpr := okDraw_pair hok ho hq e
        simp only [okPair, hd, Bool.and_eq_true, Bool.or_eq_true, Bool.not_eq_true'] at hpr
        have hord : ordB ops i j = true := by
          rcases hpr.1.2 with h | h
          · rw [List.contains_iff_mem.2 ht] at h; cases h
          · exact h
        unfold ordB at hord
        split at hord
        · rename_i hlt
          rw [envL_some hok hq hd (by exact before j hord), env_some hst hok hq hd i (by omega) hlt]
        · rename_i hge
          have hnl := behind j q hq hord
          rw [envL_none (fun k r hr hl hrd => by have := uniq k r hr hrd; subst this; simp [hnl] at hl)]
          rw [env_none hst i (by omega) (fun k r hk hr hrd => by have := uniq k r hr hrd; omega)]
    · rw [envL_none (fun k r hr hl hrd => hex ⟨k, r, hr, hrd⟩), env_none hst i (by omega) (fun k r hk hr hrd => hex ⟨k, r, hr, hrd⟩)]
  have hs := hst i o ho
  have hlist : ∀ j, (listed.setIfInBounds i true).getD j false = if j = i then true else listed.getD j false := by
    intro j
    simp only [Array.getD_eq_getD_getElem?]
    by_cases e : j = i
    · subst e; simp [hil]
    · rw [Array.getElem?_setIfInBounds_ne (by omega), if_neg e]
  -- the invariant behind the operation
  have close : ∀ (ι' : List Nat) (p' : Nat) (v : Value) (w' : World), p' ≤ ops.size → (∀ j, 2 ≤ F j → j < ops.size → ((listed.setIfInBounds i true).getD j false = true ↔ j < p')) → Mem M W0 ι' (S p').σ w' → Ext M ι (S p).σ w ι' (S p').σ w' →
      XRep w' ι' (Forb M ι' (S p').σ) v (X i) → InvL P M W0 C n ops S X F ι0 w0 (listed.setIfInBounds i true) ι' p' (a.put o.dst v) w' := by
    intro ι' p' v w' h1 h2 h3 h4 h5
    refine ⟨by simp [hI.size], fun j q hj hq e he hb => ?_, h1, h2, h3, hI.ext.trans h4, fun t => ?_, by cases o.dst <;> simp [Act.put, hI.tsize], by cases o.dst <;> exact hI.defers.ext h4, fun l hl => let ⟨r, hr⟩ := hI.round l hl; h4.loops l r hr⟩
    · rw [hlist]
      split
      · rfl
      · by_cases e' : j = i
        · subst e'; rw [ho] at hq; cases hq; exact hready e he hb
        · refine hcl j q ?_ hq e he hb
          have hjl : j < listed.size := by rw [hI.size]; exact (Array.getElem?_eq_some_iff.1 hq).1
          rw [getD_bool _ j (by simpa using hjl) true false, hlist, if_neg e'] at hj
          exact hj
    · by_cases hd : o.dst = some t
      · have e1 : envL ops (S 0).env X (fun j => (listed.setIfInBounds i true).getD j false) t = X i := envL_some hok ho hd (by simp only [hlist, if_pos])
        rw [e1]
        have hdo := hs.dst
        rw [hd] at hdo
        simp only [dstOk, decide_eq_true_eq] at hdo
        have e2 : (a.put o.dst v).tmps.getD t undef = v := by rw [hd]; simp [Act.put, hI.tsize, hdo]
        rw [e2]; exact h5
      · have e1 : envL ops (S 0).env X (fun j => (listed.setIfInBounds i true).getD j false) t = envL ops (S 0).env X (fun j => listed.getD j false) t := by
          by_cases hex : ∃ (j : Nat) (q : Oper), ops[j]? = some q ∧ q.dst = some t ∧ listed.getD j false = true
          · obtain ⟨j, q, hq, hqd, hl⟩ := hex
            rw [envL_some hok hq hqd (by simp only [hlist]; split <;> first | rfl | exact hl), envL_some hok hq hqd hl]
          · rw [envL_none (fun k r hr hl hrd => ?_), envL_none (fun k r hr hl hrd => hex ⟨k, r, hr, hrd, hl⟩)]
            simp only [hlist] at hl
            split at hl
            · rename_i e; subst e; rw [ho] at hr; cases hr; exact hd hrd
            · exact hex ⟨k, r, hr, hrd, hl⟩
        rw [e1]
        have e2 : (a.put o.dst v).tmps.getD t undef = a.tmps.getD t undef := by
          cases hod : o.dst with
          | none => rfl
          | some d =>
            have hne : d ≠ t := fun e => hd (by rw [hod, e])
            simp only [Act.put, Array.getD_eq_getD_getElem?]
            rw [Array.getElem?_setIfInBounds_ne hne]
        rw [e2]; exact (hI.env t).ext h4
  have same : ∀ j, 2 ≤ F j → j < ops.size → F i < 2 → ((listed.setIfInBounds i true).getD j false = true ↔ j < p) := by
    intro j hj hjl hf
    rw [hlist, if_neg (fun e => by subst e; omega)]
    exact hI.mods j hj hjl
  unfold wpOpIn
  rw [ho]
  simp only
  rcases hs.ev with ⟨hg, hev⟩ | ⟨hg, hx, hf, hσ⟩
  · rw [← guardX_congr hlook] at hg
    rw [if_pos (by rw [guardX_sound hI.env hg])]
    have hops : ∀ y ∈ o.op.operands, evalX (envL ops (S 0).env X (fun j => listed.getD j false)) y = evalX (S i).env y := by
      intro y hy
      cases y with
      | tmp t => exact hlook t (mem_looks hy)
      | _ => rfl
    have hev' := hev.congr hops
    by_cases hf0 : F i = 0
    · rw [hf0] at hev'
      have hev'' := hev'.pure (S p).σ
      exact hev''.wp (s := ⟨(S p).σ, envL ops (S 0).env X (fun j => listed.getD j false)⟩) hI.mem hI.env fun ι' v w' h1 h2 h3 =>
        hK ι' p _ w' (close ι' p v w' hI.le (fun j hj hjl => same j hj hjl (by omega)) h1 h2 h3)
    · -- what is written has been done as in the text's order
      have hbef : ∀ j, 2 ≤ F j → (F j = 3 → F i ≠ 1) → j < ops.size → j ≠ i → (j < p ↔ j < i) := by
        intro j hj hj3 hjl hne
        have hq := Array.getElem?_eq_getElem hjl
        have hpr := okDraw_pair hok ho hq hne
        simp only [okPair, Bool.and_eq_true, Bool.or_eq_true] at hpr
        have hord : ordB ops i j = true := by
          rcases hpr.2 with ((h | h) | h) | h
          · simp at h; omega
          · simp at h; exact absurd h hf0
          · simp at h; exact absurd h.2 (hj3 h.1)
          · exact h
        rw [← hI.mods j hj hjl]
        unfold ordB at hord
        split at hord
        · rename_i hlt
          exact ⟨fun _ => hlt, fun _ => before j hord⟩
        · rename_i hge
          have := behind j _ hq hord
          rw [this]
          exact ⟨(fun h => by cases h), (fun h => by omega)⟩
      by_cases hf1 : F i = 1
      · have hev1 : Ev P o ⟨(S p).σ, envL ops (S 0).env X (fun j => listed.getD j false)⟩ (X i) (S p).σ (F i) := by
          rw [hf1] at hev' ⊢
          refine hev'.one (σ2 := (S p).σ) fun y hy id off he ob hob => ?_
          refine σ_near hst hI.le (by omega) (fun j hj hjl => hbef j (by omega) (by omega) hjl (fun e => by subst e; omega)) ?_ hob
          have hr := evalX_rep hI.env y
          simp only at he
          rw [he] at hr
          generalize a.eval y = vy at hr
          cases hr with
          | optr hb =>
            rw [← hI.mem.len]
            exact (List.getElem?_eq_some_iff.1 hb).1
        exact hev1.wp hI.mem hI.env fun ι' v w' h1 h2 h3 => hK ι' p _ w' (close ι' p v w' hI.le (fun j hj hjl => same j hj hjl (by omega)) h1 h2 h3)
      · have hσ : (S p).σ = (S i).σ := by
          refine σ_eq hst hI.le (by omega) (fun j hj hjl => ?_)
          by_cases e : j = i
          · subst e
            have := hI.mods j hj hjl
            rw [hun] at this
            constructor
            · intro h; exact absurd (this.2 h) (by simp)
            · intro h; omega
          · exact hbef j hj (fun _ => hf1) hjl e
        have hev2 : Ev P o ⟨(S p).σ, envL ops (S 0).env X (fun j => listed.getD j false)⟩ (X i) (S (i + 1)).σ (F i) := by rw [hσ]; exact hev'
        exact hev2.wp hI.mem hI.env fun ι' v w' h1 h2 h3 => hK ι' (i + 1) _ w' (close ι' (i + 1) v w' (by omega) (fun j hj hjl => by
          rw [hlist]
          by_cases e : j = i
          · subst e; simp
          · rw [if_neg e, hI.mods j hj hjl, hbef j hj (fun _ => hf1) hjl e]; omega) h1 h2 h3)
  · rw [← guardX_congr hlook] at hg
    rw [if_neg (by rw [guardX_sound hI.env hg]; simp)]
    refine ⟨fun _ _ => trivial, ?_⟩
    exact hK ι p _ w (close ι p undef w hI.le (fun j hj hjl => same j hj hjl (by omega)) hI.mem (.refl _ _ _ _) (by rw [hx]; exact .d (.lit _)))

end
end Go.Vm

end
section
/-
  VALUES WITHOUT ADDRESSES, 13: the rule for a statement whose order is open; the machine as a program, and that it is right.
-/
namespace Go.Vm
open Go.RowKit

theorem countP_set (f g : Nat → Bool) (i : Nat) (hf : f i = false) (hg : g i = true) (h : ∀ j, j ≠ i → g j = f j) : ∀ (l : List Nat), l.Nodup → i ∈ l → l.countP g = l.countP f + 1
  | [], _, hm => by cases hm
  | x :: l, hnd, hm => by
    rw [List.nodup_cons] at hnd
    by_cases e : x = i
    · subst e
      have hrest : l.countP g = l.countP f := List.countP_congr fun j hj => by rw [h j (fun e => hnd.1 (e ▸ hj))]
      simp [hf, hg, hrest]
    · have hm' : i ∈ l := by rcases List.mem_cons.1 hm with e' | h'; exact absurd e'.symm e; exact h'
      have ih := countP_set f g i hf hg h l hnd.2 hm'
      simp only [List.countP_cons, ih, h x e]
      omega

section
variable {P : Program} {M : Nat → Prop} {W0 : World} {C : Ctx} {n : Nat} {ops : Array Oper}

theorem getElem?_range_all {N : Nat} {f : Nat → Bool} (h : N ≤ (List.range N).countP f) : ∀ i, i < N → f i = true := by
  intro i hi
  have h1 : (List.range N).countP f = (List.range N).length := by
    have := List.countP_le_length (p := f) (l := List.range N)
    simp at this ⊢; omega
  exact List.countP_eq_length.1 h1 i (by simpa using hi)

theorem InvL.done {S : Nat → St} {X : Nat → XV} {F : Nat → Nat} (hst : ∀ (i : Nat) (o : Oper), ops[i]? = some o → Steps' P n ops S X F i o) (hok : okDraw ops F = true)
    {ι0 : List Nat} {w0 : World} {listed : Array Bool} {ι : List Nat} {p : Nat} {a : Act} {w : World} (hI : InvL P M W0 C n ops S X F ι0 w0 listed ι p a w) (hall : ∀ i, i < ops.size → listed.getD i false = true) :
    Fr M W0 C n ι (S ops.size) a w ∧ Ext M ι0 (S 0).σ w0 ι (S ops.size).σ w := by
  have hσ : (S p).σ = (S ops.size).σ := σ_eq hst hI.le (Nat.le_refl _) (fun j hj hjl => by
    have := (hI.mods j hj hjl).1 (hall j hjl)
    exact ⟨fun _ => hjl, fun _ => this⟩)
  refine ⟨⟨hσ ▸ hI.mem, fun t => ?_, hI.tsize, hσ ▸ hI.defers, hI.round⟩, hσ ▸ hI.ext⟩
  rw [← hσ]
  have e : envL ops (S 0).env X (fun j => listed.getD j false) t = (S ops.size).env t := by
    by_cases hex : ∃ (j : Nat) (q : Oper), ops[j]? = some q ∧ q.dst = some t
    · obtain ⟨j, q, hq, hd⟩ := hex
      have hj := (Array.getElem?_eq_some_iff.1 hq).1
      rw [envL_some hok hq hd (hall j hj), env_some hst hok hq hd _ (Nat.le_refl _) hj]
    · rw [envL_none (fun k r hr hl hrd => hex ⟨k, r, hr, hrd⟩), env_none hst _ (Nat.le_refl _) (fun k r hk hr hrd => hex ⟨k, r, hr, hrd⟩)]
  rw [← e]; exact hI.env t

theorem mem_ready {listed : Array Bool} {i : Nat} (h : i ∈ Region.ready .any ops listed) (hs : listed.size = ops.size) : ∃ o, ops[i]? = some o ∧ listed.getD i false = false ∧ ∀ e ∈ o.after, bindsA e = true → listed.getD e.on false = true := by
  unfold Region.ready at h
  rw [List.mem_filter] at h
  obtain ⟨h1, h2⟩ := h
  simp only [Bool.and_eq_true, Bool.not_eq_true'] at h2
  obtain ⟨h2, h3⟩ := h2
  cases ho : ops[i]? with
  | none => rw [ho] at h3; simp at h3
  | some o =>
    rw [ho] at h3
    have hi := (Array.getElem?_eq_some_iff.1 ho).1
    refine ⟨o, rfl, by rw [getD_bool listed i (by omega) false true]; exact h2, fun e he hb => ?_⟩
    simp only [Option.map_some, Option.getD_some] at h3
    have := Array.all_eq_true_iff_forall_mem.1 h3 e he
    simpa [show Region.binds .any e = true from hb] using this

theorem ready_nil {F : Nat → Nat} (hok : okDraw ops F = true) {listed : Array Bool} (hs : listed.size = ops.size) (h : Region.ready .any ops listed = []) : ∀ i, i < ops.size → listed.getD i false = true := by
  intro i
  induction i using Nat.strongRecOn with
  | _ i ih =>
    intro hi
    cases hl : listed.getD i false with
    | true => rfl
    | false =>
      exfalso
      have ho := Array.getElem?_eq_getElem hi
      have : i ∈ Region.ready .any ops listed := by
        unfold Region.ready
        rw [List.mem_filter]
        refine ⟨by simpa using hi, ?_⟩
        simp only [Bool.and_eq_true, Bool.not_eq_true']
        refine ⟨by rw [getD_bool listed i (by omega) true false]; exact hl, ?_⟩
        rw [ho]
        simp only [Option.map_some, Option.getD_some]
        refine Array.all_eq_true_iff_forall_mem.2 fun e he => ?_
        by_cases hb : bindsA e = true
        · have hlt := okDraw_edges hok ho e he hb
          simp [ih e.on hlt (by omega)]
        · have hb' : Region.binds .any e = false := by simpa [bindsA] using hb
          simp [hb']
      rw [h] at this; cases this

theorem wpAny_of {S : Nat → St} {X : Nat → XV} {F : Nat → Nat} (hst : ∀ (i : Nat) (o : Oper), ops[i]? = some o → Steps' P n ops S X F i o) (hok : okDraw ops F = true)
    {ι0 : List Nat} {w0 : World} {Q : Exit → Act → World → Prop}
    (hq : ∀ (ι : List Nat) (a : Act) (w : World), Fr M W0 C n ι (S ops.size) a w → Ext M ι0 (S 0).σ w0 ι (S ops.size).σ w → Q .normal a w) :
    ∀ (fuel : Nat) (listed : Array Bool) (ι : List Nat) (p : Nat) (a : Act) (w : World), InvL P M W0 C n ops S X F ι0 w0 listed ι p a w → ops.size ≤ fuel + (List.range ops.size).countP (fun j => listed.getD j false) →
      wpAnyIn (FR C.ro) 0 P .any ops Q fuel listed a w
  | 0, listed, ι, p, a, w, hI, hc => by
    have hall := getElem?_range_all (N := ops.size) (f := fun j => listed.getD j false) (by omega)
    obtain ⟨h1, h2⟩ := hI.done hst hok hall
    refine ⟨?_, hq ι a w h1 h2⟩
    cases hr : Region.ready .any ops listed with
    | nil => rfl
    | cons x xs =>
      obtain ⟨o, ho, hu, _⟩ := mem_ready (i := x) (by rw [hr]; simp) hI.size
      have := hall x (Array.getElem?_eq_some_iff.1 ho).1
      rw [this] at hu; cases hu
  | fuel + 1, listed, ι, p, a, w, hI, hc => by
    refine ⟨fun hr => ?_, fun i hi => ?_⟩
    · obtain ⟨h1, h2⟩ := hI.done hst hok (ready_nil hok hI.size hr)
      exact hq ι a w h1 h2
    · obtain ⟨o, ho, hu, hre⟩ := mem_ready hi hI.size
      have hil := (Array.getElem?_eq_some_iff.1 ho).1
      refine hI.next hst hok ho hu hre fun ι' p' a' w' hI' => ?_
      refine wpAny_of hst hok hq fuel _ ι' p' a' w' hI' ?_
      have := countP_set (fun j => listed.getD j false) (fun j => (listed.setIfInBounds i true).getD j false) i hu (by
        have : i < listed.size := by rw [hI.size]; exact hil
        simp [this]) (fun j hj => by
        simp only [Array.getD_eq_getD_getElem?]
        rw [Array.getElem?_setIfInBounds_ne (by omega)]) (List.range ops.size) List.nodup_range (by simpa using hil)
      omega

/-- A list of operations, one after the other; what each did with the objects. -/
inductive Tr (P : Program) (n : Nat) (ops : Array Oper) : List Oper → St → List Nat → St → Prop
  | nil {s : St} : Tr P n ops [] s [] s
  | step {o : Oper} {l : List Oper} {s s' : St} {x : XV} {σ' : List VObj} {fl : Nat} {fls : List Nat} (hg : guardX ops s.env o = some true) (he : Ev P o s x σ' fl) (hd : dstOk n o.dst = true)
      (h : Tr P n ops l ⟨σ', putE s.env o.dst x⟩ fls s') : Tr P n ops (o :: l) s (fl :: fls) s'
  | skip {o : Oper} {l : List Oper} {s s' : St} {fls : List Nat} (hg : guardX ops s.env o = some false) (hd : dstOk n o.dst = true)
      (h : Tr P n ops l ⟨s.σ, putE s.env o.dst undefX⟩ fls s') : Tr P n ops (o :: l) s (0 :: fls) s'

def consF {α : Type} (x : α) (f : Nat → α) : Nat → α
  | 0 => x
  | i + 1 => f i

theorem Tr.fns {l : List Oper} {s s' : St} {fls : List Nat} (h : Tr P n ops l s fls s') : ∃ (S : Nat → St) (X : Nat → XV), S 0 = s ∧ S l.length = s' ∧ ∀ (i : Nat) (o : Oper), l[i]? = some o → Steps' P n ops S X (fun i => fls.getD i 0) i o := by
  induction h with
  | @nil s => exact ⟨fun _ => s, fun _ => undefX, rfl, rfl, fun i o h => by simp at h⟩
  | @step o l s s' x σ' fl fls hg he hd h ih =>
    obtain ⟨S, X, h0, h1, h2⟩ := ih
    refine ⟨consF s S, consF x X, rfl, h1, fun i o' hi => ?_⟩
    cases i with
    | zero =>
      simp at hi; subst hi
      exact ⟨hd, by show (S 0).env = _; rw [h0]; rfl, .inl ⟨hg, by show Ev P o s x (S 0).σ fl; rw [h0]; exact he⟩⟩
    | succ i =>
      have := h2 i o' (by simpa using hi)
      exact ⟨this.dst, this.env, this.ev⟩
  | @skip o l s s' fls hg hd h ih =>
    obtain ⟨S, X, h0, h1, h2⟩ := ih
    refine ⟨consF s S, consF undefX X, rfl, h1, fun i o' hi => ?_⟩
    cases i with
    | zero =>
      simp at hi; subst hi
      exact ⟨hd, by show (S 0).env = _; rw [h0]; rfl, .inr ⟨hg, rfl, rfl, by show (S 0).σ = s.σ; rw [h0]⟩⟩
    | succ i =>
      have := h2 i o' (by simpa using hi)
      exact ⟨this.dst, this.env, this.ev⟩

theorem Tr.wpL {l : List Oper} {s s' : St} {fls : List Nat} (h : Tr P n ops l s fls s') : WpL P M W0 n ops l s (fun s2 => s2 = s') := by
  induction h with
  | nil => exact .nil rfl
  | step hg he hd _ ih => exact .step hg he hd ih
  | skip hg hd _ ih => exact .skip hg hd ih

/-- A STATEMENT WHOSE ORDER IS OPEN. -/
theorem Wp.draw {id : Nat} {s s' : St} {fls : List Nat} {T : Exit → St → Prop} (hm : P.follows .mixedOrders = true) (h : Tr P n ops ops.toList s fls s') (hok : okDraw ops (fun i => fls.getD i 0) = true) (hT : T .normal s') :
    Wp P M W0 n (.region id ops true) s T := by
  obtain ⟨S, X, h0, h1, h2⟩ := h.fns
  have hst : ∀ (i : Nat) (o : Oper), ops[i]? = some o → Steps' P n ops S X (fun i => fls.getD i 0) i o := fun i o ho => h2 i o (by simpa using ho)
  intro C ι a w hf Q hq
  have hlen : S ops.size = s' := by rw [← h1]; simp
  have hmem : Mem M W0 ι s.σ { w with drawn := w.drawn + 1 } ∧ Ext M ι s.σ w ι s.σ { w with drawn := w.drawn + 1 } := hf.mem.grown (Below.drew (Below.refl _ _))
  refine wpIn_region_any hm (wpAny_of (M := M) (W0 := W0) (ι0 := ι) (w0 := { w with drawn := w.drawn + 1 }) hst hok (fun ι' a' w' k1 k2 => hq .normal ι' s' a' w' hT (hlen ▸ k1) (hmem.2.trans (by rw [← h0, ← hlen]; exact k2))) ops.size _ ι 0 a _ ?_ (by omega))
  refine ⟨by simp, fun i o hi ho e he hb => ?_, Nat.zero_le _, fun j hj hjl => by simp [hjl], by rw [h0]; exact hmem.1, by rw [h0]; exact .refl _ _ _ _, fun t => ?_, hf.size, h0 ▸ hf.defers.ext hmem.2, hf.round⟩
  · have hil := (Array.getElem?_eq_some_iff.1 ho).1
    simp [hil] at hi
  · rw [envL_none (fun j p hp hl _ => by have := (Array.getElem?_eq_some_iff.1 hp).1; simp [this] at hl), h0]
    exact (hf.env t).ext hmem.2

theorem Wp.plain {id : Nat} {s s' : St} {fls : List Nat} {T : Exit → St → Prop} (h : Tr P n ops ops.toList s fls s') (hT : T .normal s') : Wp P M W0 n (.region id ops false) s T :=
  .region (h.wpL.mono fun s2 e => by rw [e]; exact hT)

end

theorem allD_some : ∀ {l : List XV} {r : List DV}, allD l = some r → l = r.map .d
  | [], r, h => by simp [allD] at h; subst h; rfl
  | .d x :: l, r, h => by
    simp only [allD, Option.map_eq_some_iff] at h
    obtain ⟨r', h1, rfl⟩ := h
    rw [allD_some h1]; rfl
  | .osl .. :: _, _, h | .optr .. :: _, _, h | .tup _ :: _, _, h | .agg _ :: _, _, h | .fn .. :: _, _, h | .ifc .. :: _, _, h | .omp _ :: _, _, h | .yl _ :: _, _, h | .lp _ :: _, _, h => by simp [allD] at h

/-- The objects that a value comes to. -/
def idsOf (σ : List VObj) : Nat → XV → List Nat
  | 0, _ => []
  | n + 1, x => match x with
    | .d _ => []
    | .osl id _ _ _ _ _ => id :: ((σ[id]?).elim [] fun ob => ob.cells.flatMap (idsOf σ n))
    | .optr id _ => id :: ((σ[id]?).elim [] fun ob => ob.cells.flatMap (idsOf σ n))
    | .tup xs => xs.flatMap (idsOf σ n)
    | .agg xs => xs.flatMap (idsOf σ n)
    | .fn _ a b => a.flatMap (idsOf σ n) ++ b.flatMap (idsOf σ n)
    | .ifc _ x => idsOf σ n x
    | .omp id => id :: ((σ[id]?).elim [] fun ob => ob.cells.flatMap (idsOf σ n))
    | .yl _ => []
    | .lp _ => []

/-- A call on deep values, by a run that shares objects. -/
def deepOf (callI : FuncId → List VObj → List XV → Option (XV × List VObj)) (f : FuncId) (args : List DV) : Option DV :=
  (callI f [] (args.map .d)).bind fun r => deepen (freezeAll r.2) 20 r.1

def evX (P : Program) (inl : FuncId → Bool) (callI : FuncId → List VObj → List XV → Option (XV × List VObj)) (o : Oper) (s : St) : Option (XV × List VObj × Nat) :=
  match evalOp P o s with
  | some r => some r
  | none => match o.op with
    | .call ⟨.value callee, args, _⟩ => match asFn (evalX s.env callee) with
      | some (f, first, caps) => if plainFn P f then
          if inl f then (callI f s.σ (first ++ args.toList.map (evalX s.env) ++ caps)).map fun r => (r.1, r.2, 2)
          else match allD (first ++ args.toList.map (evalX s.env) ++ caps) with
          | some dargs => (deepOf callI f dargs).map fun r => (.d r, s.σ, 0)
          | none => match (first ++ args.toList.map (evalX s.env) ++ caps).mapM (deepen (freezeIds s.σ ((first ++ args.toList.map (evalX s.env) ++ caps).flatMap (idsOf s.σ 20))) 20) with
            | some dargs => (deepOf callI f dargs).map fun r => (.d r, freezeIds s.σ ((first ++ args.toList.map (evalX s.env) ++ caps).flatMap (idsOf s.σ 20)), 3)
            | none => none
        else none
      | none => none
    | _ => none

/-- A run that shares objects tells what the call does. -/
def Right (P : Program) (callI : FuncId → List VObj → List XV → Option (XV × List VObj)) : Prop :=
  ∀ (f : FuncId) (σ : List VObj) (args : List XV) (x : XV) (σ' : List VObj), callI f σ args = some (x, σ') → ∀ (M : Nat → Prop) (W0 : World), InCall P M W0 f σ args (fun σ2 x2 => σ2 = σ' ∧ x2 = x)

theorem InCall.mono {P : Program} {M : Nat → Prop} {W0 : World} {f : FuncId} {σ : List VObj} {args : List XV} {Q R : List VObj → XV → Prop} (h : InCall P M W0 f σ args Q) (hq : ∀ σ x, Q σ x → R σ x) : InCall P M W0 f σ args R :=
  fun ι w vs h1 h2 h3 => (h ι w vs h1 h2 h3).mono fun _ _ ⟨ι', σ', x, v, k1, k2, k3, k4, k5⟩ => ⟨ι', σ', x, v, k1, k2, k3, k4, hq _ _ k5⟩

theorem deepOf_sound {P : Program} {callI : FuncId → List VObj → List XV → Option (XV × List VObj)} (hc : Right P callI) {f : FuncId} {args : List DV} {res : DV} (h : deepOf callI f args = some res) : DeepCall P f args res := by
  unfold deepOf at h
  rw [Option.bind_eq_some_iff] at h
  obtain ⟨⟨x, σ'⟩, h1, h2⟩ := h
  exact deepCall_of_inCall 20 fun M W0 => (hc f [] _ x σ' h1 M W0).mono fun σ2 x2 ⟨e1, e2⟩ => by rw [e1, e2]; exact h2

theorem evX_sound {P : Program} {inl : FuncId → Bool} {callI : FuncId → List VObj → List XV → Option (XV × List VObj)} (hc : Right P callI) {o : Oper} {s : St} {x : XV} {σ' : List VObj} {fl : Nat}
    (h : evX P inl callI o s = some (x, σ', fl)) : Ev P o s x σ' fl := by
  unfold evX at h
  split at h
  · rename_i r hr; cases h; exact .op hr
  · split at h
    · rename_i callee args ts ho
      split at h
      · rename_i f first caps hf
        split at h
        · rename_i hp
          split at h
          · simp only [Option.map_eq_some_iff, Prod.mk.injEq] at h
            obtain ⟨⟨y, τ⟩, hr, rfl, rfl, rfl⟩ := h
            exact .inl ho hf hp (fun M W0 => hc f _ _ y τ hr M W0)
          · split at h
            · rename_i dargs hd
              simp only [Option.map_eq_some_iff, Prod.mk.injEq] at h
              obtain ⟨r, hr, rfl, rfl, rfl⟩ := h
              exact .call ho hf hp (allD_some hd) (deepOf_sound hc hr)
            · split at h
              · rename_i dargs hd
                simp only [Option.map_eq_some_iff, Prod.mk.injEq] at h
                obtain ⟨r, hr, rfl, rfl, rfl⟩ := h
                exact .callF _ 20 ho hf hp hd (deepOf_sound hc hr)
              · cases h
        · cases h
      · cases h
    · cases h

def runOps (P : Program) (inl : FuncId → Bool) (callI : FuncId → List VObj → List XV → Option (XV × List VObj)) (n : Nat) (ops : Array Oper) : List Oper → St → Option (List Nat × St)
  | [], s => some ([], s)
  | o :: l, s => if dstOk n o.dst then match guardX ops s.env o with
    | some true => match evX P inl callI o s with
      | some (x, σ', fl) => (runOps P inl callI n ops l ⟨σ', putE s.env o.dst x⟩).map fun r => (fl :: r.1, r.2)
      | none => none
    | some false => (runOps P inl callI n ops l ⟨s.σ, putE s.env o.dst undefX⟩).map fun r => (0 :: r.1, r.2)
    | none => none else none

theorem runOps_sound {P : Program} {inl : FuncId → Bool} {callI : FuncId → List VObj → List XV → Option (XV × List VObj)} (hc : Right P callI) {n : Nat} {ops : Array Oper} : ∀ (l : List Oper) (s : St) (fls : List Nat) (s' : St),
    runOps P inl callI n ops l s = some (fls, s') → Tr P n ops l s fls s'
  | [], s, fls, s', h => by simp [runOps] at h; obtain ⟨rfl, rfl⟩ := h; exact .nil
  | o :: l, s, fls, s', h => by
    simp only [runOps] at h
    split at h
    · rename_i hd
      split at h
      · rename_i hg
        split at h
        · rename_i x σ' fl he
          simp only [Option.map_eq_some_iff, Prod.mk.injEq] at h
          obtain ⟨⟨f, q⟩, hr, rfl, rfl⟩ := h
          exact .step hg (evX_sound hc he) hd (runOps_sound hc l _ _ _ hr)
        · cases h
      · rename_i hg
        simp only [Option.map_eq_some_iff, Prod.mk.injEq] at h
        obtain ⟨⟨f, q⟩, hr, rfl, rfl⟩ := h
        exact .skip hg hd (runOps_sound hc l _ _ _ hr)
      · cases h
    · cases h

def runCode (P : Program) (inl : FuncId → Bool) (callI : FuncId → List VObj → List XV → Option (XV × List VObj)) (n : Nat) : Nat → Code → St → Option (Exit × St)
  | 0, _, _ => none
  | k + 1, c, s => match c with
    | .skip => some (.normal, s)
    | .label _ => some (.normal, s)
    | .ret => some (.ret, s)
    | .exit id => some (.exit id, s)
    | .region _ ops draw => match runOps P inl callI n ops ops.toList s with
      | some (fls, s') => if !draw || okDraw ops (fun i => fls.getD i 0) then some (.normal, s') else none
      | none => none
    | .seq x y => match runCode P inl callI n k x s with
      | some (.normal, s') => runCode P inl callI n k y s'
      | r => r
    | .cond c x y => match litOf (evalX s.env c) with
      | some (.bool t) => runCode P inl callI n k (if t then x else y) s
      | _ => none
    | .block id x => match runCode P inl callI n k x s with
      | some (.exit id', s') => if id' = id then some (.normal, s') else some (.exit id', s')
      | r => r
    | .loop x => match runCode P inl callI n k x s with
      | some (.normal, s') => runCode P inl callI n k (.loop x) s'
      | r => r
    | _ => none

theorem runCode_both {P : Program} {M : Nat → Prop} {W0 : World} (hmix : P.follows .mixedOrders = true) {inl : FuncId → Bool} {callI : FuncId → List VObj → List XV → Option (XV × List VObj)} (hc : Right P callI) {n : Nat} :
    ∀ (k : Nat), (∀ (c : Code) (s : St) (e : Exit) (s' : St), runCode P inl callI n k c s = some (e, s') → Wp P M W0 n c s (fun e2 s2 => e2 = e ∧ s2 = s')) ∧
      (∀ (x : Code) (s : St) (e : Exit) (s' : St), runCode P inl callI n k (.loop x) s = some (e, s') → ∀ (C : Ctx) (ι : List Nat) (a : Act) (w : World), Fr M W0 C n ι s a w → ∀ Q : Exit → Act → World → Prop,
        (∀ (ι' : List Nat) (a' : Act) (w' : World), Fr M W0 C n ι' s' a' w' → Ext M ι s.σ w ι' s'.σ w' → Q e a' w') → Code.roundsIn (FR C.ro) 0 P x Q k a w)
  | 0 => ⟨fun c s e s' h => by simp [runCode] at h, fun x s e s' h => by simp [runCode] at h⟩
  | k + 1 => by
    obtain ⟨ih, ihl⟩ := runCode_both (M := M) (W0 := W0) hmix hc (n := n) k
    have hloop : ∀ (x : Code) (s : St) (e : Exit) (s' : St), runCode P inl callI n (k + 1) (.loop x) s = some (e, s') → ∀ (C : Ctx) (ι : List Nat) (a : Act) (w : World), Fr M W0 C n ι s a w → ∀ Q : Exit → Act → World → Prop,
        (∀ (ι' : List Nat) (a' : Act) (w' : World), Fr M W0 C n ι' s' a' w' → Ext M ι s.σ w ι' s'.σ w' → Q e a' w') → Code.roundsIn (FR C.ro) 0 P x Q (k + 1) a w := by
      intro x s e s' h C ι a w hf Q hq
      simp only [runCode] at h
      rw [roundsIn_succ]
      cases hx : runCode P inl callI n k x s with
      | none => rw [hx] at h; cases h
      | some r =>
        obtain ⟨e1, s1⟩ := r
        rw [hx] at h
        refine ih x s e1 s1 hx C ι a w hf _ fun e2 ι' s2 a' w' h1 h2 h3 => ?_
        obtain ⟨rfl, rfl⟩ := h1
        cases e2 <;> simp only [Exit.then] <;> first
          | exact ihl x s2 e s' h C ι' a' w' h2 Q fun ι'' a'' w'' q1 q2 => hq ι'' a'' w'' q1 (h3.trans q2)
          | (cases h; exact hq ι' a' w' h2 h3)
    refine ⟨fun c s e s' h => ?_, hloop⟩
    cases c with
    | skip => simp [runCode] at h; obtain ⟨rfl, rfl⟩ := h; exact .skip ⟨rfl, rfl⟩
    | label l => simp [runCode] at h; obtain ⟨rfl, rfl⟩ := h; exact .label ⟨rfl, rfl⟩
    | ret => simp [runCode] at h; obtain ⟨rfl, rfl⟩ := h; exact .ret ⟨rfl, rfl⟩
    | exit id => simp [runCode] at h; obtain ⟨rfl, rfl⟩ := h; exact .exit ⟨rfl, rfl⟩
    | region id ops draw =>
      simp only [runCode] at h
      split at h
      · rename_i fls s2 hr
        split at h
        · rename_i hd
          cases h
          have htr := runOps_sound hc _ _ _ _ hr
          cases draw with
          | false => exact .plain htr ⟨rfl, rfl⟩
          | true => exact .draw hmix htr (by simpa using hd) ⟨rfl, rfl⟩
        · cases h
      · cases h
    | seq x y =>
      simp only [runCode] at h
      refine .seq ?_
      cases hx : runCode P inl callI n k x s with
      | none => rw [hx] at h; cases h
      | some r =>
        obtain ⟨e1, s1⟩ := r
        rw [hx] at h
        refine (ih x s e1 s1 hx).mono fun e2 s2 he => ?_
        obtain ⟨rfl, rfl⟩ := he
        cases e2 <;> simp only [thenT] <;> first | exact ih y s2 e s' h | (cases h; exact ⟨rfl, rfl⟩)
    | cond c x y =>
      simp only [runCode] at h
      split at h
      · rename_i t ht; exact .cond ht (ih _ s e s' h)
      · cases h
    | block id x =>
      simp only [runCode] at h
      refine .block ?_
      cases hx : runCode P inl callI n k x s with
      | none => rw [hx] at h; cases h
      | some r =>
        obtain ⟨e1, s1⟩ := r
        rw [hx] at h
        refine (ih x s e1 s1 hx).mono fun e2 s2 he => ?_
        obtain ⟨rfl, rfl⟩ := he
        cases e2 with
        | exit id' =>
          simp only [blockT]
          simp only at h
          split at h
          · rename_i hid; rw [if_pos hid]; cases h; exact ⟨rfl, rfl⟩
          · rename_i hid; rw [if_neg hid]; cases h; exact ⟨rfl, rfl⟩
        | _ => cases h; exact ⟨rfl, rfl⟩
    | loop x =>
      exact fun C ι a w hf Q hq => wpIn_loop_rounds (k + 1) (hloop x s e s' h C ι a w hf Q fun ι' a' w' q1 q2 => hq e ι' s' a' w' ⟨rfl, rfl⟩ q1 q2)
    | _ => simp [runCode] at h

/-- A function, run among objects: k bounds how deep calls lie in each other, len how long each runs. -/
def runX (P : Program) (inl : FuncId → Bool) (len : Nat) : Nat → FuncId → List VObj → List XV → Option (XV × List VObj)
  | 0, _, _, _ => none
  | k + 1, f, σ, args => match P.funcs[f]? with
    | some fn => match fn.body with
      | some c => if args.length ≤ fn.ntmps then
          match runCode P inl (runX P inl len k) fn.ntmps len c (enter σ args) with
          | some (.ret, s) | some (.normal, s) => (resX P fn s).map fun x => (x, s.σ)
          | _ => none
        else none
      | none => none
    | none => none

theorem runX_sound {P : Program} (hmix : P.follows .mixedOrders = true) {inl : FuncId → Bool} {len : Nat} : ∀ (k : Nat), Right P (runX P inl len k)
  | 0 => fun f σ args x σ' h => by simp [runX] at h
  | k + 1 => fun f σ args x σ' h => by
    simp only [runX] at h
    split at h
    · rename_i fn hf
      split at h
      · rename_i c hb
        split at h
        · rename_i hn
          have key : ∀ (e : Exit) (s : St), (e = .ret ∨ e = .normal) → runCode P inl (runX P inl len k) fn.ntmps len c (enter σ args) = some (e, s) → ((resX P fn s).map fun x => (x, s.σ)) = some (x, σ') →
              ∀ (M : Nat → Prop) (W0 : World), InCall P M W0 f σ args (fun σ2 x2 => σ2 = σ' ∧ x2 = x) := by
            intro e s he hr hres M W0
            simp only [Option.map_eq_some_iff, Prod.mk.injEq] at hres
            obtain ⟨y, hy, rfl, rfl⟩ := hres
            refine inCall_of hf hb hn (((runCode_both hmix (runX_sound hmix k) len).1 c _ e s hr).mono fun e2 s2 h2 => ?_)
            obtain ⟨rfl, rfl⟩ := h2
            exact ⟨he, y, hy, rfl, rfl⟩
          split at h
          · rename_i s hr; exact key .ret s (.inl rfl) hr h
          · rename_i s hr; exact key .normal s (.inr rfl) hr h
          · cases h
        · cases h
      · cases h
    · cases h

/-- A function, run on deep values. -/
def runFn (P : Program) (inl : FuncId → Bool) (len k : Nat) (f : FuncId) (args : List DV) : Option DV := deepOf (runX P inl len k) f args

theorem runFn_sound {P : Program} (hmix : P.follows .mixedOrders = true) {inl : FuncId → Bool} {len k : Nat} {f : FuncId} {args : List DV} {res : DV} (h : runFn P inl len k f args = some res) : DeepCall P f args res :=
  deepOf_sound (runX_sound hmix k) h

end Go.Vm

end
section
/-
  VALUES WITHOUT ADDRESSES, 14: a frame of which some slots are known: the rules by which a body is walked.
-/
namespace Go.Vm
open Go.RowKit

abbrev Kn := List (Nat × XV)

def look : Kn → Nat → Option XV
  | [], _ => none
  | (s, x) :: kn, t => if t = s then some x else look kn t

def Agree (kn : Kn) (env : Nat → XV) : Prop := ∀ (t : Nat) (x : XV), look kn t = some x → env t = x

def evK (kn : Kn) : Operand → Option XV
  | .tmp t => look kn t
  | .const v => some (.d (.lit v))
  | .global g => some (.d (.lit (.pointer (some ⟨g, 0, none⟩))))
  | .func f => some (.d (.fn (.func f) [] []))

theorem evK_evalX {kn : Kn} {env : Nat → XV} (h : Agree kn env) {x : Operand} {v : XV} (hx : evK kn x = some v) : evalX env x = v := by
  cases x with
  | tmp t => exact h t v hx
  | const c => simp [evK] at hx; exact hx
  | global g => simp [evK] at hx; exact hx
  | func f => simp [evK] at hx; exact hx

def extK (dst : Option Tmp) (x : XV) (kn : Kn) : Kn :=
  match dst with
  | some d => (d, x) :: kn
  | none => kn

theorem Agree.ext {kn : Kn} {env : Nat → XV} (h : Agree kn env) (dst : Option Tmp) (x : XV) : Agree (extK dst x kn) (putE env dst x) := by
  cases dst with
  | none => exact h
  | some d =>
    intro t y hy
    simp only [extK, look] at hy
    simp only [putE, upd]
    split at hy
    · rename_i e; rw [if_pos e]; cases hy; rfl
    · rename_i e; rw [if_neg e]; exact h t y hy

/-- Some of what is known. -/
theorem Agree.weaken {kn kn' : Kn} {env : Nat → XV} (h : Agree kn env) (hk : ∀ p ∈ kn', look kn p.1 = some p.2) : Agree kn' env := by
  intro t x hx
  have : ∀ (l : Kn), (∀ p ∈ l, look kn p.1 = some p.2) → look l t = some x → look kn t = some x := by
    intro l
    induction l with
    | nil => intro _ h; simp [look] at h
    | cons p l ih =>
      intro hl hx
      obtain ⟨s, y⟩ := p
      simp only [look] at hx
      split at hx
      · rename_i e; cases hx; subst e; exact hl (t, x) (by simp)
      · exact ih (fun q hq => hl q (by simp [hq])) hx
  exact h t x (this kn' hk hx)

/-- An operation on what is known. -/
def KEv (P : Program) (o : Oper) (σ : List VObj) (kn : Kn) (x : XV) (σ' : List VObj) (fl : Nat) : Prop := ∀ env, Agree kn env → Ev P o ⟨σ, env⟩ x σ' fl

def guardK (ops : Array Oper) (kn : Kn) (o : Oper) : Option Bool :=
  match o.guard with
  | none => some true
  | some (j, want) => match (ops[j]?).bind (·.dst) with
    | some d => match (look kn d).bind litOf with
      | some (.bool b) => some (b == want)
      | some _ => some false
      | none => none
    | none => some false

theorem guardK_X {ops : Array Oper} {kn : Kn} {env : Nat → XV} (h : Agree kn env) {o : Oper} {b : Bool} (hg : guardK ops kn o = some b) : guardX ops env o = some b := by
  unfold guardK at hg
  unfold guardX
  cases ho : o.guard with
  | none => rw [ho] at hg; exact hg
  | some q =>
    obtain ⟨j, want⟩ := q
    rw [ho] at hg
    simp only at hg ⊢
    cases hd : (ops[j]?).bind (·.dst) with
    | none => rw [hd] at hg; exact hg
    | some d =>
      rw [hd] at hg
      simp only at hg ⊢
      cases hl : look kn d with
      | none => rw [hl] at hg; simp at hg
      | some x =>
        rw [hl] at hg
        rw [h d x hl]
        simp only [Option.bind_some] at hg
        cases hx : litOf x with
        | none => rw [hx] at hg; cases hg
        | some v => rw [hx] at hg; cases v <;> exact hg

/-- A list of operations on what is known. -/
def KT (P : Program) (n : Nat) (ops : Array Oper) (l : List Oper) (σ : List VObj) (kn : Kn) (R : List Nat → List VObj → Kn → Prop) : Prop :=
  ∀ env, Agree kn env → ∃ (fls : List Nat) (s' : St) (kn' : Kn), Tr P n ops l ⟨σ, env⟩ fls s' ∧ Agree kn' s'.env ∧ R fls s'.σ kn'

def KC (P : Program) (M : Nat → Prop) (W0 : World) (n : Nat) (c : Code) (σ : List VObj) (kn : Kn) (T : Exit → List VObj → Kn → Prop) : Prop :=
  ∀ env, Agree kn env → Wp P M W0 n c ⟨σ, env⟩ (fun e s => ∃ kn', Agree kn' s.env ∧ T e s.σ kn')

section
variable {P : Program} {M : Nat → Prop} {W0 : World} {n : Nat} {ops : Array Oper} {l : List Oper} {o : Oper} {σ σ' : List VObj} {kn : Kn}

theorem KT.nil {R : List Nat → List VObj → Kn → Prop} (h : R [] σ kn) : KT P n ops [] σ kn R := fun _ he => ⟨[], _, kn, .nil, he, h⟩

theorem KT.step {R : List Nat → List VObj → Kn → Prop} {x : XV} {fl : Nat} (hg : guardK ops kn o = some true) (hd : dstOk n o.dst = true) (he : KEv P o σ kn x σ' fl)
    (h : KT P n ops l σ' (extK o.dst x kn) (fun fls τ k => R (fl :: fls) τ k)) : KT P n ops (o :: l) σ kn R := by
  intro env ha
  obtain ⟨fls, s', kn', h1, h2, h3⟩ := h (putE env o.dst x) (ha.ext o.dst x)
  exact ⟨fl :: fls, s', kn', .step (s := ⟨σ, env⟩) (guardK_X ha hg) (he env ha) hd h1, h2, h3⟩

theorem KT.skip {R : List Nat → List VObj → Kn → Prop} (hg : guardK ops kn o = some false) (hd : dstOk n o.dst = true)
    (h : KT P n ops l σ (extK o.dst undefX kn) (fun fls τ k => R (0 :: fls) τ k)) : KT P n ops (o :: l) σ kn R := by
  intro env ha
  obtain ⟨fls, s', kn', h1, h2, h3⟩ := h (putE env o.dst undefX) (ha.ext o.dst undefX)
  exact ⟨0 :: fls, s', kn', .skip (s := ⟨σ, env⟩) (guardK_X ha hg) hd h1, h2, h3⟩

theorem KC.mono {c : Code} {T T' : Exit → List VObj → Kn → Prop} (h : KC P M W0 n c σ kn T) (ht : ∀ e σ k, T e σ k → T' e σ k) : KC P M W0 n c σ kn T' :=
  fun env he => (h env he).mono fun _ _ ⟨k, h1, h2⟩ => ⟨k, h1, ht _ _ _ h2⟩

/-- Less is known. -/
theorem KC.weaken {c : Code} {T : Exit → List VObj → Kn → Prop} {kn' : Kn} (h : KC P M W0 n c σ kn' T) (hk : ∀ p ∈ kn', look kn p.1 = some p.2) : KC P M W0 n c σ kn T :=
  fun env he => h env (he.weaken hk)

theorem KC.region {id : Nat} {T : Exit → List VObj → Kn → Prop} (h : KT P n ops ops.toList σ kn (fun _ τ k => T .normal τ k)) : KC P M W0 n (.region id ops false) σ kn T := by
  intro env he
  obtain ⟨fls, s', kn', h1, h2, h3⟩ := h env he
  exact .plain h1 ⟨kn', h2, h3⟩

theorem KC.draw (hm : P.follows .mixedOrders = true) {id : Nat} {T : Exit → List VObj → Kn → Prop} (h : KT P n ops ops.toList σ kn (fun fls τ k => okDraw ops (fun i => fls.getD i 0) = true ∧ T .normal τ k)) :
    KC P M W0 n (.region id ops true) σ kn T := by
  intro env he
  obtain ⟨fls, s', kn', h1, h2, h3, h4⟩ := h env he
  exact .draw hm h1 h3 ⟨kn', h2, h4⟩

def thenK (A : List VObj → Kn → Prop) (T : Exit → List VObj → Kn → Prop) : Exit → List VObj → Kn → Prop
  | .normal, σ, k => A σ k
  | e, σ, k => T e σ k

theorem KC.seq {x y : Code} {T : Exit → List VObj → Kn → Prop} (h : KC P M W0 n x σ kn (thenK (fun τ k => KC P M W0 n y τ k T) T)) : KC P M W0 n (.seq x y) σ kn T := by
  intro env he
  refine .seq ((h env he).mono fun e s hs => ?_)
  obtain ⟨k, h1, h2⟩ := hs
  cases e with
  | normal => exact h2 s.env h1
  | exit id => exact ⟨k, h1, h2⟩
  | goto j => exact ⟨k, h1, h2⟩
  | ret => exact ⟨k, h1, h2⟩
  | panic c => exact ⟨k, h1, h2⟩
  | outgrown => exact ⟨k, h1, h2⟩

/-- A region and what follows. -/
theorem KC.regionS {id : Nat} {y : Code} {T : Exit → List VObj → Kn → Prop} (h : KT P n ops ops.toList σ kn (fun _ τ k => KC P M W0 n y τ k T)) : KC P M W0 n (.seq (.region id ops false) y) σ kn T :=
  .seq (.region h)

theorem KC.drawS (hm : P.follows .mixedOrders = true) {id : Nat} {y : Code} {T : Exit → List VObj → Kn → Prop} (h : KT P n ops ops.toList σ kn (fun fls τ k => okDraw ops (fun i => fls.getD i 0) = true ∧ KC P M W0 n y τ k T)) :
    KC P M W0 n (.seq (.region id ops true) y) σ kn T :=
  .seq (.draw hm h)

theorem KC.skip {T : Exit → List VObj → Kn → Prop} (h : T .normal σ kn) : KC P M W0 n .skip σ kn T := fun _ he => .skip ⟨kn, he, h⟩

theorem KC.skipS {y : Code} {T : Exit → List VObj → Kn → Prop} (h : KC P M W0 n y σ kn T) : KC P M W0 n (.seq .skip y) σ kn T := .seq (.skip h)

theorem KC.ret {T : Exit → List VObj → Kn → Prop} (h : T .ret σ kn) : KC P M W0 n .ret σ kn T := fun _ he => .ret ⟨kn, he, h⟩

theorem KC.exit {id : Nat} {T : Exit → List VObj → Kn → Prop} (h : T (.exit id) σ kn) : KC P M W0 n (.exit id) σ kn T := fun _ he => .exit ⟨kn, he, h⟩

/-- A branch: either way under its condition. -/
theorem KC.cond {c : Operand} {x y : Code} {t : Bool} {T : Exit → List VObj → Kn → Prop} (hc : evK kn c = some (.d (.lit (.bool t)))) (h1 : t = true → KC P M W0 n x σ kn T) (h2 : t = false → KC P M W0 n y σ kn T) :
    KC P M W0 n (.cond c x y) σ kn T := by
  intro env he
  refine .cond (t := t) (by show litOf (evalX env c) = _; rw [evK_evalX he hc]; rfl) ?_
  cases t with
  | true => exact h1 rfl env he
  | false => exact h2 rfl env he

def blockK (id : Nat) (T : Exit → List VObj → Kn → Prop) : Exit → List VObj → Kn → Prop
  | .exit id', σ, k => if id' = id then T .normal σ k else T (.exit id') σ k
  | e, σ, k => T e σ k

theorem KC.block {id : Nat} {c : Code} {T : Exit → List VObj → Kn → Prop} (h : KC P M W0 n c σ kn (blockK id T)) : KC P M W0 n (.block id c) σ kn T := by
  intro env he
  refine .block ((h env he).mono fun e s hs => ?_)
  obtain ⟨k, h1, h2⟩ := hs
  cases e with
  | exit j =>
    simp only [blockK] at h2
    simp only [blockT]
    split at h2
    · rename_i e; rw [if_pos e]; exact ⟨k, h1, h2⟩
    · rename_i e; rw [if_neg e]; exact ⟨k, h1, h2⟩
  | normal => exact ⟨k, h1, h2⟩
  | goto j => exact ⟨k, h1, h2⟩
  | ret => exact ⟨k, h1, h2⟩
  | panic c => exact ⟨k, h1, h2⟩
  | outgrown => exact ⟨k, h1, h2⟩

/-- A LOOP: at every round's head the objects and the known slots are those of some index; a measure of the index gets less. -/
theorem KC.loop {α : Type} {c : Code} {T : Exit → List VObj → Kn → Prop} (Sg : α → List VObj) (Kf : α → Kn) (I : α → Prop) (μ : α → Nat) (a0 : α) (h0 : I a0) (hσ : σ = Sg a0) (hk : ∀ p ∈ Kf a0, look kn p.1 = some p.2)
    (h : ∀ a, I a → KC P M W0 n c (Sg a) (Kf a) (thenK (fun τ k => ∃ b, I b ∧ μ b < μ a ∧ τ = Sg b ∧ ∀ p ∈ Kf b, look k p.1 = some p.2) T)) : KC P M W0 n (.loop c) σ kn T := by
  intro env he
  have key : ∀ (m : Nat) (a : α), μ a < m → I a → ∀ env, Agree (Kf a) env → ∀ (C : Ctx) (ι : List Nat) (ac : Act) (w : World), Fr M W0 C n ι ⟨Sg a, env⟩ ac w → ∀ Q : Exit → Act → World → Prop,
      (∀ (e : Exit) (ι' : List Nat) (s' : St) (a' : Act) (w' : World), (∃ k, Agree k s'.env ∧ T e s'.σ k) → Fr M W0 C n ι' s' a' w' → Ext M ι (Sg a) w ι' s'.σ w' → Q e a' w') → Code.roundsIn (FR C.ro) 0 P c Q m ac w := by
    intro m
    induction m with
    | zero => intro a hm; omega
    | succ m ih =>
      intro a hm hI env he C ι ac w hf Q hq
      rw [roundsIn_succ]
      refine h a hI env he C ι ac w hf _ fun e ι' s' a' w' hs h2 h3 => ?_
      obtain ⟨k, k1, k2⟩ := hs
      cases e with
      | normal =>
        obtain ⟨b, b1, b2, b3, b4⟩ := k2
        obtain ⟨σ', env'⟩ := s'
        simp only at b3 k1
        subst b3
        exact ih b (by omega) b1 env' (k1.weaken b4) C ι' a' w' h2 Q fun e ι'' s'' a'' w'' q1 q2 q3 => hq e ι'' s'' a'' w'' q1 q2 (h3.trans q3)
      | exit id => exact hq (.exit id) ι' s' a' w' ⟨k, k1, k2⟩ h2 h3
      | goto j => exact hq (.goto j) ι' s' a' w' ⟨k, k1, k2⟩ h2 h3
      | ret => exact hq .ret ι' s' a' w' ⟨k, k1, k2⟩ h2 h3
      | panic c => exact hq (.panic c) ι' s' a' w' ⟨k, k1, k2⟩ h2 h3
      | outgrown => exact hq .outgrown ι' s' a' w' ⟨k, k1, k2⟩ h2 h3
  subst hσ
  exact fun C ι ac w hf Q hq => wpIn_loop_rounds (μ a0 + 1) (key _ a0 (Nat.lt_succ_self _) h0 env (he.weaken hk) C ι ac w hf Q hq)

end

/-- The known slots of a call's frame. -/
def enterK : Nat → List XV → Kn
  | _, [] => []
  | i, x :: xs => (i, x) :: enterK (i + 1) xs

theorem look_enterK : ∀ (xs : List XV) (i t : Nat) (x : XV), look (enterK i xs) t = some x → i ≤ t ∧ xs[t - i]? = some x
  | [], _, _, _, h => by simp [enterK, look] at h
  | y :: xs, i, t, x, h => by
    simp only [enterK, look] at h
    split at h
    · rename_i e; subst e; cases h; simp
    · rename_i e
      obtain ⟨h1, h2⟩ := look_enterK xs (i + 1) t x h
      refine ⟨by omega, ?_⟩
      rw [show t - i = (t - (i + 1)) + 1 by omega]
      exact h2

theorem agree_enter (σ : List VObj) (args : List XV) : Agree (enterK 0 args) (enter σ args).env := by
  intro t x h
  obtain ⟨_, h2⟩ := look_enterK args 0 t x h
  simp only [Nat.sub_zero] at h2
  simp [enter, h2]

/-- What is known of one result. -/
def resVarK (P : Program) (σ : List VObj) (kn : Kn) : ResultVar → Option XV
  | .tmp t => look kn t
  | .cell a t => (look kn a).bind fun x => (opLoad P σ t x).map (·.1)

def resK (P : Program) (fn : Func) (σ : List VObj) (kn : Kn) : Option XV :=
  match fn.results.toList.mapM (resVarK P σ kn) with
  | some [x] => some x
  | some xs => some (.tup xs)
  | none => none

theorem mapM_mono {α β : Type} {f g : α → Option β} (h : ∀ x y, f x = some y → g x = some y) : ∀ {l : List α} {r : List β}, l.mapM f = some r → l.mapM g = some r
  | [], r, hr => by simpa using hr
  | x :: l, r, hr => by
    rw [List.mapM_cons] at hr ⊢
    cases hf : f x with
    | none => rw [hf] at hr; simp at hr
    | some y =>
      cases hl : l.mapM f with
      | none => rw [hf, hl] at hr; simp at hr
      | some ys =>
        rw [hf, hl] at hr
        rw [h x y hf, mapM_mono h hl]
        exact hr

theorem resK_X {P : Program} {fn : Func} {s : St} {kn : Kn} (h : Agree kn s.env) {x : XV} (hx : resK P fn s.σ kn = some x) : resX P fn s = some x := by
  have key : ∀ xs, fn.results.toList.mapM (resVarK P s.σ kn) = some xs → fn.results.toList.mapM (resVar P s) = some xs := fun xs hxs => mapM_mono (fun r y hr => by
    cases r with
    | tmp t => simp [resVar]; exact h t y hr
    | cell a t =>
      simp only [resVarK, Option.bind_eq_some_iff] at hr
      obtain ⟨z, hz, hr⟩ := hr
      simp only [resVar]
      rw [h a z hz]; exact hr) hxs
  unfold resK at hx
  unfold resX
  split at hx
  · rename_i y hy; rw [key _ hy]; exact hx
  · rename_i xs hne hxs
    rw [key _ hxs]
    split
    · rename_i y hy; cases hy; exact absurd rfl (hne y)
    · rename_i ys _ hys; cases hys; exact hx
    · rename_i hn; cases hn
  · cases hx

/-- THE CONTRACT OF A FUNCTION, by a walk over its body. -/
theorem deepCall_K {P : Program} {f : FuncId} {fn : Func} {c : Code} {args : List DV} {res : DV} (k : Nat) (hf : P.funcs[f]? = some fn) (hb : fn.body = some c) (hn : args.length ≤ fn.ntmps)
    (h : ∀ (M : Nat → Prop) (W0 : World), KC P M W0 fn.ntmps c [] (enterK 0 (args.map .d)) (fun e σ kn => (e = .ret ∨ e = .normal) ∧ ∃ x, resK P fn σ kn = some x ∧ deepen (freezeAll σ) k x = some res)) : DeepCall P f args res :=
  deepCall_of k hf hb hn fun M W0 => (h M W0 _ (agree_enter [] _)).mono fun _ _ ⟨_, h1, h2, x, h3, h4⟩ => ⟨h2, x, resK_X h1 h3, h4⟩

/-- .. whose result has a property. -/
def DeepSome (P : Program) (f : FuncId) (args : List DV) (R : DV → Prop) : Prop :=
  ∀ (M : Nat → Prop) (w : World) (vs : List Value), (∀ b, M b → b < w.heap.size) → vs.length = args.length → (∀ (i : Nat) (v : Value) (x : DV), vs[i]? = some v → args[i]? = some x → DRep w M v x) →
    Calls P f vs.toArray w fun e w' => ∃ v res, e = .returned v ∧ R res ∧ DRep w' M v res ∧ Below w.heap.size w w'

end Go.Vm

end
