import Derived.Test.YtdilkpcnkhedlaaFlY
import Derived.Test.YtdilkpcnkhedlaaVmW
import Derived.Shelf.Sort.AssemblyIn
section
/-
  VALUES WITHOUT ADDRESSES, 33: a loop over a function: its record as an object, one round, the statement; lists of operations whose calls are known by a relation.
-/
namespace Go.Vm
open Go.RowKit

/-- The record of a loop. -/
def recL (fn : FuncId) (ps : Array Tmp) (assign body : Code) : Loop := { state := .ready, pending := none, fn, tmps := #[], params := ps, assign, body, defers := 0 }

def dead : VObj := ⟨[], 2⟩

section
variable {P : Program} {M : Nat → Prop} {W0 w : World} {ι : List Nat} {σ : List VObj}

theorem Mem.loopAt (hm : Mem M W0 ι σ w) {id l : Nat} {L : Loop} {env : List XV} (ho : σ[id]? = some ⟨.lp L :: env, 6⟩) (hb : ι[id]? = some l) :
    ∃ r : Loop, w.heap[l]? = some (Obj.loop r) ∧ L = r.bare ∧ r.tmps.size = env.length ∧ ∀ (i : Nat) (v : Value) (x : XV), r.tmps[i]? = some v → env[i]? = some x → XRep w ι (Forb M ι σ) v x := by
  rcases hm.spec id _ l ho hb (by simp) with ⟨h, _⟩ | ⟨h, _⟩ | ⟨_, r, L', env', h1, h2, h3, h4, h5⟩
  · simp at h
  · simp at h
  · simp only [List.cons.injEq, XV.lp.injEq] at h2
    obtain ⟨rfl, rfl⟩ := h2
    exact ⟨r, h1, h3, h4, h5⟩

/-- The state of a loop's record turns. -/
theorem Mem.loopSet (hm : Mem M W0 ι σ w) {id l : Nat} {L : Loop} {env : List XV} (ho : σ[id]? = some ⟨.lp L :: env, 6⟩) (hb : ι[id]? = some l) {r : Loop} (hr : w.heap[l]? = some (Obj.loop r)) (st : LoopState) (pd : Option Code) :
    Mem M W0 ι (σ.set id ⟨.lp { L with state := st, pending := pd } :: env, 6⟩) (w.putObj l (.loop { r with state := st, pending := pd })) ∧
      Ext M ι σ w ι (σ.set id ⟨.lp { L with state := st, pending := pd } :: env, 6⟩) (w.putObj l (.loop { r with state := st, pending := pd })) := by
  obtain ⟨r', k1, k2, k3, k4⟩ := hm.loopAt ho hb
  rw [hr] at k1; cases k1
  exact hm.writeG ho hb (.inr (.inr rfl)) (.loop { r with state := st, pending := pd }) (fun _ _ _ h => by cases h) (.lp { L with state := st, pending := pd } :: env) (fun _ _ => ⟨_, rfl⟩)
    (fun w' σ' he hw => .inr (.inr ⟨rfl, _, _, env, hw, rfl, by rw [k2]; rfl, k3, fun i v x hv hx => (k4 i v x hv hx).ext he⟩))

/-- An object that nobody looks at any more. -/
theorem Mem.kill (hm : Mem M W0 ι σ w) (id : Nat) : Mem M W0 ι (σ.set id dead) w ∧ Ext M ι σ w ι (σ.set id dead) w := by
  have hmt : ∀ c, Mut ι (σ.set id dead) c → Mut ι σ c := by
    rintro c ⟨i, p, h1, h2, h3⟩
    rcases set_get _ _ _ _ _ h1 with ⟨rfl, rfl, _⟩ | ⟨_, h1'⟩
    · simp [Wr, dead] at h3
    · exact ⟨i, p, h1', h2, h3⟩
  have hext : Ext M ι σ w ι (σ.set id dead) w := ⟨fun _ _ h => h, fun _ _ _ => rfl, Nat.le_refl _, fun c _ h => hmt c h, fun _ _ h => h, fun _ r h => ⟨r, h⟩⟩
  refine ⟨⟨by simp [hm.len], fun i p c h1 h2 h3 => ?_, fun i p c h1 h2 h3 => ?_, hm.fresh, fun i j oi oj bi bj hij h1 h2 h3 h4 h5 h6 => ?_, hm.below, hm.outer⟩, hext⟩
  · rcases set_get _ _ _ _ _ h1 with ⟨rfl, rfl, _⟩ | ⟨_, h1'⟩
    · simp [dead] at h3
    · obtain ⟨cu, t, q1, q2, q3⟩ := hm.objs i p c h1' h2 h3
      refine ⟨cu, t, q1, q2, fun j x hj => ?_⟩
      obtain ⟨v, kv, kx⟩ := q3 j x hj
      exact ⟨v, kv, kx.ext hext⟩
  · rcases set_get _ _ _ _ _ h1 with ⟨rfl, rfl, _⟩ | ⟨_, h1'⟩
    · simp [dead] at h3
    · exact (hm.spec i p c h1' h2 h3).ext hext rfl
  · rcases set_get _ _ _ _ _ h1 with ⟨rfl, rfl, _⟩ | ⟨_, h1'⟩
    · simp [Wr, dead] at h5
    rcases set_get _ _ _ _ _ h2 with ⟨rfl, rfl, _⟩ | ⟨_, h2'⟩
    · simp [dead] at h6
    exact hm.apart i j oi oj bi bj hij h1' h2' h3 h4 h5 h6

/-- Yield's arguments in the temporaries of a round. -/
def putsX : List XV → List (Tmp × XV) → List XV
  | env, [] => env
  | env, (t, x) :: l => putsX (env.set t x) l

theorem length_putsX : ∀ (env : List XV) (l : List (Tmp × XV)), (putsX env l).length = env.length
  | _, [] => rfl
  | env, (t, x) :: l => by rw [putsX, length_putsX]; simp

theorem puts_rep {F : Nat → Prop} : ∀ (ps : List Tmp) (vs : List Value) (xs : List XV) (tmps : Array Value) (env : List XV), vs.length = xs.length → tmps.size = env.length →
    (∀ (i : Nat) (v : Value) (x : XV), tmps[i]? = some v → env[i]? = some x → XRep w ι F v x) → (∀ (i : Nat) (v : Value) (x : XV), vs[i]? = some v → xs[i]? = some x → XRep w ι F v x) →
    (((ps.zip vs).foldl (fun t (p : Tmp × Value) => t.setIfInBounds p.1 p.2) tmps).size = env.length) ∧
    ∀ (i : Nat) (v : Value) (x : XV), ((ps.zip vs).foldl (fun t (p : Tmp × Value) => t.setIfInBounds p.1 p.2) tmps)[i]? = some v → (putsX env (ps.zip xs))[i]? = some x → XRep w ι F v x
  | [], vs, xs, tmps, env, h1, h2, h3, h4 => by simpa [putsX] using ⟨h2, h3⟩
  | p :: ps, [], [], tmps, env, h1, h2, h3, h4 => by simpa [putsX] using ⟨h2, h3⟩
  | p :: ps, v :: vs, x :: xs, tmps, env, h1, h2, h3, h4 => by
    simp only [List.zip_cons_cons, List.foldl_cons, putsX]
    have hs : (tmps.setIfInBounds p v).size = (env.set p x).length := by simp [h2]
    have := puts_rep ps vs xs (tmps.setIfInBounds p v) (env.set p x) (by simpa using h1) hs (fun i u y hu hy => by
      rcases set_get _ _ _ _ _ hy with ⟨rfl, rfl, hlt⟩ | ⟨hne, hy'⟩
      · rw [Array.getElem?_setIfInBounds_self, if_pos (by omega)] at hu
        cases hu
        exact h4 0 _ _ rfl rfl
      · rw [Array.getElem?_setIfInBounds_ne hne] at hu
        exact h3 i u y hu hy') (fun i u y hu hy => h4 (i + 1) u y (by simpa using hu) (by simpa using hy))
    rw [List.length_set] at this
    exact this

def envF (env : List XV) : Nat → XV := fun t => (env[t]?).getD undefX

theorem envF_rep {F : Nat → Prop} {tmps : Array Value} {env : List XV} (hs : tmps.size = env.length) (h : ∀ (i : Nat) (v : Value) (x : XV), tmps[i]? = some v → env[i]? = some x → XRep w ι F v x) : ∀ t, XRep w ι F (tmps.getD t undef) (envF env t) := by
  intro t
  unfold envF
  by_cases ht : t < env.length
  · rw [List.getElem?_eq_getElem ht, Option.getD_some]
    have ht' : t < tmps.size := by omega
    have e : tmps.getD t undef = tmps[t] := by simp [ht']
    rw [e]
    exact h t _ _ (Array.getElem?_eq_getElem ht') (List.getElem?_eq_getElem ht)
  · rw [List.getElem?_eq_none (by omega)]
    have e : tmps.getD t undef = undef := by
      simp only [Array.getD_eq_getD_getElem?]
      rw [Array.getElem?_eq_none (by omega)]; rfl
    rw [e]; exact .d (.lit _)

/-- How a round ends. -/
def endT (id : Nat) (L : Loop) (env : List XV) (Q : List VObj → Bool → Prop) : Exit → St → Prop
  | .normal, s => s.σ[id]? = some ⟨.lp { L with state := .busy } :: env, 6⟩ ∧ Q (s.σ.set id ⟨.lp { L with state := .ready, pending := none } :: env, 6⟩) true
  | .ret, s => s.σ[id]? = some ⟨.lp { L with state := .busy } :: env, 6⟩ ∧ Q (s.σ.set id ⟨.lp { L with state := .done, pending := some .ret } :: env, 6⟩) false
  | .exit k, s => s.σ[id]? = some ⟨.lp { L with state := .busy } :: env, 6⟩ ∧ Q (s.σ.set id ⟨.lp { L with state := .done, pending := some (.exit k) } :: env, 6⟩) false
  | _, _ => False

/-- ONE ROUND. -/
theorem inRound_of {id : Nat} {σ : List VObj} {L : Loop} {env args : List XV} {Q : List VObj → Bool → Prop} (hσ : σ[id]? = some ⟨.lp L :: env, 6⟩) (hst : L.state = .ready) (_ : L.pending = none) (hn : args.length = L.params.size)
    (h : Wp P M W0 env.length L.assign ⟨σ, envF (putsX env (L.params.toList.zip args))⟩ (fun e s1 => e = .normal ∧ s1.σ[id]? = some ⟨.lp L :: env, 6⟩ ∧
      Wp P M W0 env.length L.body ⟨s1.σ.set id ⟨.lp { L with state := .busy } :: env, 6⟩, s1.env⟩ (endT id L env Q))) : InRound P M W0 id σ args Q := by
  intro ι w l vs hm hb hl hx
  obtain ⟨r, k1, k2, k3, k4⟩ := hm.loopAt hσ hb
  have hp : L.params = r.params := by rw [k2]; rfl
  have ha : L.assign = r.assign := by rw [k2]; rfl
  have hbo : L.body = r.body := by rw [k2]; rfl
  refine ⟨_, _, _, _, run_yield k1 (by rw [List.size_toArray, hl, hn, hp]), ?_⟩
  obtain ⟨p1, p2⟩ := puts_rep (w := w) (ι := ι) r.params.toList vs args r.tmps env hl k3 k4 hx
  have hfold : (r.params.zip vs.toArray).foldl (fun tmps (x : Tmp × Value) => tmps.setIfInBounds x.1 x.2) r.tmps = (r.params.toList.zip vs).foldl (fun t (p : Tmp × Value) => t.setIfInBounds p.1 p.2) r.tmps := by
    rw [← Array.foldl_toList, Array.toList_zip]
  have hfr : Fr M W0 ⟨w.heap.size, some l⟩ env.length ι ⟨σ, envF (putsX env (L.params.toList.zip args))⟩ { tmps := (r.params.zip vs.toArray).foldl (fun tmps (x : Tmp × Value) => tmps.setIfInBounds x.1 x.2) r.tmps, defers := [] } w := by
    refine ⟨hm, ?_, by rw [hfold]; exact p1, ⟨Nat.le_refl _, [], rfl, List.nodup_nil, fun D h => by simp at h⟩, fun l' hl' => by cases hl'; exact ⟨r, k1⟩⟩
    simp only [hfold]
    refine envF_rep (by rw [p1, length_putsX]) fun i v x hv hx => ?_
    rw [hp] at hx
    exact p2 i v x hv hx
  refine roundIn_of_wpIn trivial ?_
  rw [← ha, ← hbo]
  show L.assign.wpIn (FR (some l)) 0 P _ _ w
  refine h ⟨w.heap.size, some l⟩ ι _ w hfr _ fun e ι1 s1 a1 w1 hT f1 e1 => ?_
  obtain ⟨rfl, hs1, hB⟩ := hT
  have hb1 := e1.pre _ _ hb
  obtain ⟨r1, q1, q2, q3, q4⟩ := f1.mem.loopAt hs1 hb1
  obtain ⟨m1, m2⟩ := f1.mem.loopSet hs1 hb1 q1 .busy r1.pending
  have hpend : r1.pending = L.pending := by rw [q2]; rfl
  have hLb : ({ L with state := .busy, pending := r1.pending } : Loop) = { L with state := .busy } := by rw [hpend]
  rw [hLb] at m1 m2
  have hrb : ({ r1 with state := .busy, pending := r1.pending } : Loop) = { r1 with state := .busy } := rfl
  rw [hrb] at m1 m2
  refine ⟨_, run_beginRound q1 (by rw [show r1.state = L.state by rw [q2]; rfl]; exact hst), ?_⟩
  have f2 : Fr M W0 ⟨w.heap.size, some l⟩ env.length ι1 ⟨s1.σ.set id ⟨.lp { L with state := .busy } :: env, 6⟩, s1.env⟩ a1 (w1.putObj l (.loop { r1 with state := .busy })) :=
    ⟨m1, fun t => (f1.env t).ext m2, f1.size, f1.defers.ext m2, fun l' hl' => let ⟨r, hr⟩ := f1.round l' hl'; m2.loops l' r hr⟩
  show L.body.wpIn (FR (some l)) 0 P _ _ _
  refine hB ⟨w.heap.size, some l⟩ ι1 a1 _ f2 _ fun e ι2 s2 a2 w2 hT2 f3 e3 => ?_
  have hb2 := e3.pre _ _ hb1
  have fin : ∀ (st : LoopState) (pd : Option Code) (b : Bool), s2.σ[id]? = some ⟨.lp { L with state := .busy } :: env, 6⟩ → Q (s2.σ.set id ⟨.lp { L with state := st, pending := pd } :: env, 6⟩) b → ∀ r2 : Loop, w2.heap[l]? = some (Obj.loop r2) →
      ∃ (ι' : List Nat) (σ' : List VObj) (b' : Bool), Ending.returned (.bool b) = .returned (.bool b') ∧ Mem M W0 ι' σ' (w2.putObj l (.loop { r2 with state := st, pending := pd })) ∧ Ext M ι σ w ι' σ' (w2.putObj l (.loop { r2 with state := st, pending := pd })) ∧ Q σ' b' := by
    intro st pd b hs hq r2 hr2
    obtain ⟨n1, n2⟩ := f3.mem.loopSet hs hb2 hr2 st pd
    exact ⟨ι2, _, b, rfl, n1, e1.trans (m2.trans (e3.trans n2)), hq⟩
  have hl2 : s2.σ[id]? = some ⟨.lp { L with state := .busy } :: env, 6⟩ → ∃ r2 : Loop, w2.heap[l]? = some (Obj.loop r2) := fun hs => by
    obtain ⟨r2, h, _⟩ := f3.mem.loopAt hs hb2
    exact ⟨r2, h⟩
  cases e with
  | normal =>
    obtain ⟨hs, hq⟩ := hT2
    obtain ⟨r2, hr2⟩ := hl2 hs
    exact ⟨_, _, run_endRound none hr2, fin .ready none true hs hq r2 hr2⟩
  | ret =>
    obtain ⟨hs, hq⟩ := hT2
    obtain ⟨r2, hr2⟩ := hl2 hs
    exact ⟨_, _, run_endRound (some .ret) hr2, fin .done (some .ret) false hs hq r2 hr2⟩
  | exit k =>
    obtain ⟨hs, hq⟩ := hT2
    obtain ⟨r2, hr2⟩ := hl2 hs
    exact ⟨_, _, run_endRound (some (.exit k)) hr2, fin .done (some (.exit k)) false hs hq r2 hr2⟩
  | goto k => exact hT2.elim
  | panic c => exact hT2.elim
  | outgrown => exact hT2.elim

/-- What follows a loop over a function: the jump that a round has left, if any. -/
def jumpT (P : Program) (M : Nat → Prop) (W0 : World) (n : Nat) (T : Exit → St → Prop) (s : St) : Option Code → Prop
  | none => T .normal s
  | some c => Wp P M W0 n c s T

theorem run_enterLoop_in {l0 : Nat} {r0 : Loop} (h0 : w.heap[l0]? = some (Obj.loop r0)) (fn : FuncId) (tmps : Array Value) (ps : Array Tmp) (assign body : Code) :
    (Instr.enterLoop fn tmps ps assign body (some l0)).run P w =
      .ok (w.heap.size, []) (w.alloc (.loop { state := .ready, pending := none, fn, tmps, params := ps, assign, body, defers := r0.defers })) := by
  unfold Instr.enterLoop
  simp only [Sem.run_bind, run_getLoop h0, run_newObj_alloc, Result.andThen, Sem.run_pure]

/-- THE STATEMENT. -/
theorem Wp.rangeFunc {n : Nat} {g : Operand} {ps : Array Tmp} {assign body : Code} {s : St} {T : Exit → St → Prop} {f : FuncId} {first caps : List XV} (hg : asFn (evalX s.env g) = some (f, first, caps)) (hp : plainFn P f = true)
    (hcall : ∀ fn, InCall P M W0 f (s.σ ++ [⟨.lp (recL fn ps assign body) :: (List.range n).map s.env, 6⟩]) (first ++ [.yl s.σ.length] ++ caps) (fun σ' _ => ∃ (L : Loop) (env : List XV), σ'[s.σ.length]? = some ⟨.lp L :: env, 6⟩ ∧ L.state ≠ .busy ∧
      jumpT P M W0 n T ⟨σ'.set s.σ.length dead, s.env⟩ L.pending)) : Wp P M W0 n (.rangeFunc g ps assign body) s T := by
  intro C ι a w hf Q hq
  obtain ⟨vs, us, e1, e2, e3, e4, e5⟩ := asFn_rep (evalX_rep hf.env g) hg
  refine wpIn_rangeFunc fun fn _ => ?_
  -- the record is laid
  obtain ⟨w', mark, D, hrun, hb', hmk⟩ : ∃ (w' : World) (mark : List Deferred) (D : Nat), (Instr.enterLoop fn a.tmps ps assign body C.ro).run P w = .ok (w'.heap.size, mark) (w'.alloc (.loop { state := .ready, pending := none, fn, tmps := a.tmps, params := ps, assign, body, defers := D })) ∧
      Below w.heap.size w w' ∧ Marks M C.B ι s.σ w' (mark ++ a.defers) := by
    cases hro : C.ro with
    | none =>
      refine ⟨w.alloc (.deferred (some [])), [{ target := .collected w.heap.size, args := #[] }], w.heap.size, ?_, (Below.refl _ w).alloc (Nat.le_refl _) _, ?_⟩
      · rw [run_enterLoop_outer]; simp [World.size_alloc]
      · have hbl : Below w.heap.size w (w.alloc (.deferred (some []))) := (Below.refl _ w).alloc (Nat.le_refl _) _
        obtain ⟨h0, Ds, d1, d2, d3⟩ := hf.defers.ext (hf.mem.grown hbl).2
        have hB := hf.defers.1
        refine ⟨h0, w.heap.size :: Ds, by rw [d1]; rfl, List.nodup_cons.2 ⟨fun hD => ?_, d2⟩, fun E hE => ?_⟩
        · obtain ⟨_, Ds', x1, x2, x3⟩ := hf.defers
          have : Ds = Ds' := by
            rw [d1] at x1
            have := congrArg (List.map fun (d : Deferred) => match d.target with | .collected r => r | _ => 0) x1
            simpa [Function.comp_def] using this
          subst this
          have := (Array.getElem?_eq_some_iff.1 (x3 _ hD).2.2).1
          omega
        · rcases List.mem_cons.1 hE with rfl | hE
          · refine ⟨hB, ?_, Go.heap_alloc_new w _⟩
            rintro (h | ⟨id, o, h1, h2, h3⟩)
            · have := hf.mem.outer _ h; have := hf.mem.below.size; omega
            · have := (hf.mem.fresh _ _ h2).2; omega
          · exact d3 E hE
    | some l0 =>
      obtain ⟨r0, hr0⟩ := hf.round l0 hro
      exact ⟨w, [], r0.defers, run_enterLoop_in hr0 .., Below.refl _ _, by simpa using hf.defers⟩
  obtain ⟨g1, g2⟩ := hf.mem.grown hb'
  let r : Loop := { state := .ready, pending := none, fn, tmps := a.tmps, params := ps, assign, body, defers := D }
  have hsz : a.tmps.size = ((List.range n).map s.env).length := by simp [hf.size]
  have hev : ∀ (w2 : World) (F : Nat → Prop) (ι2 : List Nat), (∀ t, XRep w2 ι2 F (a.tmps.getD t undef) (s.env t)) → ∀ (i : Nat) (v : Value) (x : XV), a.tmps[i]? = some v → ((List.range n).map s.env)[i]? = some x → XRep w2 ι2 F v x := by
    intro w2 F ι2 h i v x hv hx
    simp only [List.getElem?_map, Option.map_eq_some_iff] at hx
    obtain ⟨j, hj, rfl⟩ := hx
    have : j = i := by
      rw [List.getElem?_eq_some_iff] at hj
      obtain ⟨h1, h2⟩ := hj
      simpa using h2.symm
    subst this
    have := h j
    rwa [show a.tmps.getD j undef = v by simp [Array.getD_eq_getD_getElem?, hv]] at this
  obtain ⟨m1, m2⟩ : Mem M W0 (ι ++ [w'.heap.size]) (s.σ ++ [⟨.lp (recL fn ps assign body) :: (List.range n).map s.env, 6⟩]) (w'.alloc (.loop r)) ∧
      Ext M ι s.σ w' (ι ++ [w'.heap.size]) (s.σ ++ [⟨.lp (recL fn ps assign body) :: (List.range n).map s.env, 6⟩]) (w'.alloc (.loop r)) :=
    g1.pushG (.loop r) 6 _ (by omega) fun w2 he hw2 => .inr (.inr ⟨rfl, r, recL fn ps assign body, (List.range n).map s.env, hw2, rfl, rfl, hsz, hev w2 _ _ fun t => ((hf.env t).ext g2).ext he⟩)
  have hx1 := g2.trans m2
  -- the one call
  obtain ⟨d, hres, hinv⟩ : ∃ d : Deferred, (resolve a.eval (rangeCall g w'.heap.size) 0).run P (w'.alloc (.loop r)) = .ok d (w'.alloc (.loop r)) ∧
      (invoke d.target d.args).run P (w'.alloc (.loop r)) = .ok (.enter f (vs ++ #[Value.func (.yield w'.heap.size) #[] #[]] ++ us)) (w'.alloc (.loop r)) := by
    unfold plainFn at hp
    split at hp
    · rename_i fn' hfn
      simp only [Bool.and_eq_true, Bool.not_eq_true'] at hp
      obtain ⟨h1, h2⟩ := hp
      have h3 : ¬ fn'.body = none := by intro e; rw [e] at h2; simp at h2
      have h4 : ¬ fn'.name = "runtime.NumGoroutine" := by simpa using h1
      refine ⟨{ target := .fn (.func f) us, args := vs ++ #[Value.func (.yield w'.heap.size) #[] #[]] }, by simp [resolve, e1, Deferred.ofValue, show ∀ v, a.eval (.const v) = v from fun _ => rfl], ?_⟩
      simp [invoke, callFunc, hfn, h4, h3]
    · cases hp
  refine ⟨w'.heap.size, mark, w'.alloc (.loop r), d, w'.alloc (.loop r), f, _, w'.alloc (.loop r), hrun, hres, fun _ _ => trivial, hinv, fun h => Bool.noConfusion (show false = true from h), callsIn_FR ?_⟩
  have hargs : ∀ (i : Nat) (v : Value) (x : XV), (vs ++ #[Value.func (.yield w'.heap.size) #[] #[]] ++ us).toList[i]? = some v → (first ++ [.yl s.σ.length] ++ caps)[i]? = some x →
      XRep (w'.alloc (.loop r)) (ι ++ [w'.heap.size]) (Forb M (ι ++ [w'.heap.size]) (s.σ ++ [⟨.lp (recL fn ps assign body) :: (List.range n).map s.env, 6⟩])) v x := by
    intro i v x hv hx
    simp only [Array.toList_append] at hv
    have l1 : vs.toList.length = first.length := by simpa using e2
    by_cases hi : i < first.length + 1
    · rw [List.getElem?_append_left (by simp; omega)] at hv
      rw [List.getElem?_append_left (by simp; omega)] at hx
      by_cases hj : i < first.length
      · rw [List.getElem?_append_left (by omega)] at hv
        rw [List.getElem?_append_left hj] at hx
        exact (e4 i v x (by simpa using hv) hx).ext hx1
      · have : i = first.length := by omega
        subst this
        rw [List.getElem?_append_right (by omega)] at hv
        rw [List.getElem?_append_right (by omega)] at hx
        simp [l1] at hv hx
        subst hv hx
        exact .yl (by rw [List.getElem?_append_right (by rw [hf.mem.len]; omega), hf.mem.len]; simp)
    · rw [List.getElem?_append_right (by simp; omega)] at hv
      rw [List.getElem?_append_right (by simp; omega)] at hx
      simp only [List.length_append, List.length_cons, List.length_nil, Array.length_toList, e2] at hv hx
      exact (e5 _ v x (by simpa using hv) hx).ext hx1
  have hC := hcall fn (ι ++ [w'.heap.size]) (w'.alloc (.loop r)) (vs ++ #[Value.func (.yield w'.heap.size) #[] #[]] ++ us).toList m1 (by simp [e2, e3]) hargs
  rw [Array.toArray_toList] at hC
  refine hC.mono fun e w3 => ?_
  rintro ⟨ι', σ', x, v, rfl, h1, h2, _, L, env, hL, hst, hj⟩
  have hl : ι'[s.σ.length]? = some w'.heap.size := h2.pre _ _ (by rw [List.getElem?_append_right (by rw [hf.mem.len]; omega), hf.mem.len]; simp)
  obtain ⟨r3, k1, k2, k3, k4⟩ := h1.loopAt hL hl
  have hst3 : r3.state ≠ .busy := by rw [show r3.state = L.state by rw [k2]; rfl]; exact hst
  obtain ⟨n1, n2⟩ := h1.loopSet hL hl k1 .exhausted r3.pending
  obtain ⟨q1, q2⟩ := n1.kill s.σ.length
  rw [List.set_set] at q1 q2
  have hE := hx1.trans (h2.trans (n2.trans q2))
  have hfin : Fr M W0 C n ι' ⟨σ'.set s.σ.length dead, s.env⟩ { a with defers := mark ++ a.defers } (w3.putObj w'.heap.size (.loop { r3 with state := .exhausted })) :=
    ⟨q1, fun t => (hf.env t).ext hE, hf.size, hmk.ext (m2.trans (h2.trans (n2.trans q2))), fun l hl => let ⟨r, hr⟩ := hf.round l hl; hE.loops l r hr⟩
  refine ⟨r3.pending, _, run_endLoop k1 hst3, ?_⟩
  have hpe : r3.pending = L.pending := by rw [k2]; rfl
  clear n1 n2 q1 q2
  revert hfin hE
  have hw4 : ({ r3 with state := .exhausted } : Loop) = { r3 with state := .exhausted, pending := r3.pending } := rfl
  generalize w3.putObj w'.heap.size (.loop { r3 with state := .exhausted, pending := r3.pending }) = w4
  intro hE hfin
  rw [hpe]
  cases hp' : L.pending with
  | none =>
    rw [hp'] at hj
    exact hq .normal ι' _ _ _ hj hfin hE
  | some c =>
    rw [hp'] at hj
    exact hj C ι' _ _ hfin Q fun e ι'' s'' a'' w'' t1 t2 t3 => hq e ι'' s'' a'' w'' t1 t2 (hE.trans t3)
end
end Go.Vm

end
section
/-
  VALUES WITHOUT ADDRESSES, 34: operations whose result is known by a relation; iterators; a walk through a loop over a function.
-/
namespace Go.Vm
open Go.RowKit

section
variable {P : Program} {M : Nat → Prop} {W0 : World} {n : Nat} {ops : Array Oper} {l : List Oper} {o : Oper} {σ σ' : List VObj} {kn : Kn}

/-- A call of yield whose result is known by a relation. -/
theorem WpL.yld {s : St} {T : St → Prop} {callee : Operand} {args : Array Operand} {ts : Array TypeId} {id : Nat} {Q : List VObj → Bool → Prop} (hg : guardX ops s.env o = some true)
    (ho : o.op = .call ⟨.value callee, args, ts⟩) (hv : evalX s.env callee = .yl id) (_ : id < s.σ.length) (hc : InRound P M W0 id s.σ (args.toList.map (evalX s.env)) Q)
    (hd : dstOk n o.dst = true) (h : ∀ σ' b, Q σ' b → WpL P M W0 n ops l ⟨σ', putE s.env o.dst (.d (.lit (.bool b)))⟩ T) : WpL P M W0 n ops (o :: l) s T := by
  intro C ι a w hfr R hq
  unfold wpListIn
  rw [if_pos (by rw [guardX_sound hfr.env hg])]
  have e1 := evalX_rep hfr.env callee
  rw [hv] at e1
  generalize hcv : a.eval callee = cv at e1
  cases e1 with
  | yl hb =>
    rename_i lb
    obtain ⟨a1, a2⟩ := args_rep (args := args) (vs := #[]) (us := #[]) (first := []) (caps := []) hfr.env rfl rfl (by simp) (by simp)
    obtain ⟨fn, tmps, assign, body, k1, k2⟩ := hc ι w lb (args.map a.eval).toList hfr.mem hb (by simp) (fun i v x h1 h2 => a2 i v x (by simpa using h1) (by simpa using h2))
    rw [Array.toArray_toList] at k1
    have hrun : (execOp a.eval o).run P w = .ok (.round lb fn tmps assign body) w := by
      simp [execOp, ho, resolve, hcv, Deferred.ofValue, invoke, k1]
    refine ⟨fun _ _ => trivial, ?_⟩
    rw [semAt_of hrun (by simp)]
    refine ⟨fun h => Bool.noConfusion (show false = true from h), ?_⟩
    refine RoundIn.mono (show RoundIn (FR C.ro) 0 P lb fn tmps assign body w _ from k2) fun e w' => ?_
    rintro ⟨ι', σ', b, rfl, h1, h2, h3⟩
    exact h σ' b h3 C ι' _ w' (hfr.put hd h1 h2 (.d (.lit _))) R fun ι'' s' a' w'' q1 q2 q3 => hq ι'' s' a' w'' q1 q2 (h2.trans q3)

/-- A list of operations, the results known by relations. -/
def KL (P : Program) (M : Nat → Prop) (W0 : World) (n : Nat) (ops : Array Oper) (l : List Oper) (σ : List VObj) (kn : Kn) (T : List VObj → Kn → Prop) : Prop :=
  ∀ env, Agree kn env → WpL P M W0 n ops l ⟨σ, env⟩ (fun s => ∃ kn', Agree kn' s.env ∧ T s.σ kn')

theorem KL.nil {T : List VObj → Kn → Prop} (h : T σ kn) : KL P M W0 n ops [] σ kn T := fun _ he => .nil ⟨kn, he, h⟩

theorem KL.step {T : List VObj → Kn → Prop} {x : XV} {fl : Nat} (hg : guardK ops kn o = some true) (hd : dstOk n o.dst = true) (he : KEv P o σ kn x σ' fl)
    (h : KL P M W0 n ops l σ' (extK o.dst x kn) T) : KL P M W0 n ops (o :: l) σ kn T :=
  fun env ha => .step (s := ⟨σ, env⟩) (guardK_X ha hg) (he env ha) hd (h _ (ha.ext o.dst x))

theorem KL.skip {T : List VObj → Kn → Prop} (hg : guardK ops kn o = some false) (hd : dstOk n o.dst = true) (h : KL P M W0 n ops l σ (extK o.dst undefX kn) T) : KL P M W0 n ops (o :: l) σ kn T :=
  fun env ha => .skip (s := ⟨σ, env⟩) (guardK_X ha hg) hd (h _ (ha.ext o.dst undefX))

theorem evX_map {args : Array Operand} {env : Nat → XV} (h : Agree kn env) {xs : List XV} (ha : args.toList.mapM (evK kn) = some xs) : args.toList.map (evalX env) = xs := mapM_evK h ha

/-- A call among the caller's objects, known by a relation. -/
theorem KL.call {T : List VObj → Kn → Prop} {c : Operand} {v : XV} {args : Array Operand} {ts : Array TypeId} {f : FuncId} {first caps xs : List XV} {R : List VObj → XV → Prop} {dst : Option Tmp} {ty : TypeId} {pos : String} {af : Array Edge} {g : Option (Nat × Bool)}
    (hg : guardK ops kn ⟨dst, .call ⟨.value c, args, ts⟩, ty, pos, af, g⟩ = some true) (hd : dstOk n dst = true) (hv : evK kn c = some v) (hf : asFn v = some (f, first, caps)) (ha : args.toList.mapM (evK kn) = some xs) (hp : plainFn P f = true)
    (hc : InCall P M W0 f σ (first ++ xs ++ caps) R) (h : ∀ σ' x, R σ' x → KL P M W0 n ops l σ' (extK dst x kn) T) : KL P M W0 n ops (⟨dst, .call ⟨.value c, args, ts⟩, ty, pos, af, g⟩ :: l) σ kn T :=
  fun env he => .inl (s := ⟨σ, env⟩) (guardK_X he hg) rfl (by show asFn (evalX env c) = _; rw [evK_evalX he hv]; exact hf) hp (by show InCall P M W0 f σ (first ++ args.toList.map (evalX env) ++ caps) R; rw [mapM_evK he ha]; exact hc) hd
    (fun σ' x hr => h σ' x hr _ (he.ext dst x))

/-- A call of yield, known by a relation. -/
theorem KL.yld {T : List VObj → Kn → Prop} {c : Operand} {id : Nat} {args : Array Operand} {ts : Array TypeId} {xs : List XV} {Q : List VObj → Bool → Prop} {dst : Option Tmp} {ty : TypeId} {pos : String} {af : Array Edge} {g : Option (Nat × Bool)}
    (hg : guardK ops kn ⟨dst, .call ⟨.value c, args, ts⟩, ty, pos, af, g⟩ = some true) (hd : dstOk n dst = true) (hv : evK kn c = some (.yl id)) (hid : id < σ.length) (ha : args.toList.mapM (evK kn) = some xs)
    (hc : InRound P M W0 id σ xs Q) (h : ∀ σ' b, Q σ' b → KL P M W0 n ops l σ' (extK dst (.d (.lit (.bool b))) kn) T) : KL P M W0 n ops (⟨dst, .call ⟨.value c, args, ts⟩, ty, pos, af, g⟩ :: l) σ kn T :=
  fun env he => .yld (s := ⟨σ, env⟩) (guardK_X he hg) rfl (evK_evalX he hv) hid (by show InRound P M W0 id σ (args.toList.map (evalX env)) Q; rw [mapM_evK he ha]; exact hc) hd
    (fun σ' b hr => h σ' b hr _ (he.ext dst _))

theorem KC.regionL {id : Nat} {T : Exit → List VObj → Kn → Prop} (h : KL P M W0 n ops ops.toList σ kn (T .normal)) : KC P M W0 n (.region id ops false) σ kn T :=
  fun env he => .region ((h env he).mono fun _ ⟨k, h1, h2⟩ => ⟨k, h1, h2⟩)

theorem KC.regionLS {id : Nat} {y : Code} {T : Exit → List VObj → Kn → Prop} (h : KL P M W0 n ops ops.toList σ kn (fun τ k => KC P M W0 n y τ k T)) : KC P M W0 n (.seq (.region id ops false) y) σ kn T :=
  .seq (.regionL h)

/-- AN ITERATOR: it calls yield with the values of a list, one after the other, until it is told to stop. -/
def IterR (P : Program) (f : FuncId) (first caps : List XV) (xs : List (List XV)) : Prop :=
  ∀ (M : Nat → Prop) (W0 : World) (id : Nat) (I : Nat → List VObj → Prop) (J : List VObj → Prop) (σ0 : List VObj), id < σ0.length → (∀ k σ, I k σ → id < σ.length) →
    (∀ (k : Nat) (σ : List VObj) (hk : k < xs.length), I k σ → InRound P M W0 id σ xs[k] (fun σ' b => (b = true ∧ I (k + 1) σ') ∨ (b = false ∧ J σ'))) →
    I 0 σ0 → InCall P M W0 f σ0 (first ++ [.yl id] ++ caps) (fun σ' _ => I xs.length σ' ∨ J σ')

theorem putsX_get : ∀ (ps : List Tmp) (xs : List XV) (E : List XV) (kn : Kn) (t : Nat) (x : XV), ps.Nodup → (∀ t x, look kn t = some x → t < E.length → E[t]? = some x) → t < E.length →
    look (ps.zip xs ++ kn) t = some x → (putsX E (ps.zip xs))[t]? = some x
  | [], xs, E, kn, t, x, _, hk, ht, h => by simp at h; simp [putsX]; exact hk t x h ht
  | p :: ps, [], E, kn, t, x, _, hk, ht, h => by simp at h; simp [putsX]; exact hk t x h ht
  | p :: ps, y :: xs, E, kn, t, x, hn, hk, ht, h => by
    rw [List.nodup_cons] at hn
    simp only [List.zip_cons_cons, List.cons_append, look] at h
    simp only [List.zip_cons_cons, putsX]
    by_cases e : t = p
    · subst e
      rw [if_pos rfl] at h
      cases h
      have key : ∀ (ps : List Tmp) (xs : List XV) (E : List XV), t ∉ ps → (putsX E (ps.zip xs))[t]? = E[t]? := by
        intro ps
        induction ps with
        | nil => intro xs E _; simp [putsX]
        | cons q ps ih =>
          intro xs E hq
          cases xs with
          | nil => simp [putsX]
          | cons z xs =>
            simp only [List.zip_cons_cons, putsX]
            rw [ih xs _ (fun h => hq (by simp [h])), List.getElem?_set_ne (fun e => hq (by simp [e]))]
      rw [key ps xs _ hn.1, List.getElem?_set_self ht]
    · rw [if_neg e] at h
      refine putsX_get ps xs (E.set p y) ((p, y) :: kn) t x hn.2 (fun u z hu hlt => ?_) (by simpa using ht) ?_
      · simp only [look] at hu
        rw [List.length_set] at hlt
        by_cases e2 : u = p
        · subst e2; rw [if_pos rfl] at hu; cases hu; rw [List.getElem?_set_self hlt]
        · rw [if_neg e2] at hu; rw [List.getElem?_set_ne (fun h => e2 h.symm)]; exact hk u z hu hlt
      · have : ∀ (l : Kn), look (l ++ kn) t = look (l ++ (p, y) :: kn) t := by
          intro l
          induction l with
          | nil => simp [look, e]
          | cons q l ih => obtain ⟨s, z⟩ := q; simp only [List.cons_append, look]; rw [ih]
        rw [← this]; exact h

/-- A LOOP OVER A FUNCTION. -/
theorem KC.rangeR {g : Operand} {ps : Array Tmp} {assign body : Code} {T : Exit → List VObj → Kn → Prop} {gv : XV} {f : FuncId} {first caps : List XV} (hg : evK kn g = some gv) (hf : asFn gv = some (f, first, caps)) (hp : plainFn P f = true)
    {xs : List (List XV)} (hit : IterR P f first caps xs) (hps : ∀ x ∈ xs, x.length = ps.size) (hnd : ps.toList.Nodup) (knA : Nat → Kn) (I : Nat → List VObj → Prop) (J : List VObj → Prop)
    (hA : ∀ (k : Nat) (hk : k < xs.length), ∀ p ∈ knA k, p.1 < n ∧ look (ps.toList.zip xs[k] ++ kn) p.1 = some p.2) (h0 : I 0 (σ ++ [dead]))
    (hb : ∀ (k : Nat) (_ : k < xs.length) (lo : VObj) (σ' : List VObj), lo.mode = 6 → σ'[σ.length]? = some lo → I k (σ'.set σ.length dead) →
      KC P M W0 n assign σ' (knA k) (fun e τ kn1 => e = .normal ∧ τ = σ' ∧ ∀ lo2 : VObj, lo2.mode = 6 → KC P M W0 n body (σ'.set σ.length lo2) kn1 (fun e τ _ => τ[σ.length]? = some lo2 ∧
        ((e = .normal ∧ I (k + 1) (τ.set σ.length dead)) ∨ (e = .ret ∧ J (τ.set σ.length dead))))))
    (hn : ∀ τ, I xs.length τ → T .normal τ kn) (hr : ∀ τ, J τ → T .ret τ kn) : KC P M W0 n (.rangeFunc g ps assign body) σ kn T := by
  intro env he
  refine Wp.rangeFunc (s := ⟨σ, env⟩) (f := f) (first := first) (caps := caps) (by show asFn (evalX env g) = _; rw [evK_evalX he hg]; exact hf) hp fun fn => ?_
  have hlen : ((List.range n).map env).length = n := by simp
  have hgetE : ∀ t x, look kn t = some x → t < ((List.range n).map env).length → ((List.range n).map env)[t]? = some x := by
    intro t x h ht
    rw [hlen] at ht
    rw [List.getElem?_map, List.getElem?_range ht]
    simp [he t x h]
  generalize hE : (List.range n).map env = E at hlen hgetE
  have hcall := hit M W0 σ.length (fun k σ' => σ'[σ.length]? = some ⟨.lp (recL fn ps assign body) :: E, 6⟩ ∧ I k (σ'.set σ.length dead))
    (fun σ' => σ'[σ.length]? = some ⟨.lp { recL fn ps assign body with state := .done, pending := some .ret } :: E, 6⟩ ∧ J (σ'.set σ.length dead)) (σ ++ [⟨.lp (recL fn ps assign body) :: E, 6⟩]) (by simp)
    (fun k σ' h => (List.getElem?_eq_some_iff.1 h.1).1) ?_ ?_
  · refine hcall.mono fun σ' x h => ?_
    rcases h with ⟨h1, h2⟩ | ⟨h1, h2⟩
    · exact ⟨_, E, h1, by simp [recL], ⟨kn, he, hn _ h2⟩⟩
    · exact ⟨_, E, h1, by simp, Wp.ret ⟨kn, he, hr _ h2⟩⟩
  · intro k σ' hk ⟨h1, h2⟩
    refine inRound_of h1 rfl rfl (by rw [hps _ (List.getElem_mem hk)]; rfl) ?_
    have hag : Agree (knA k) (envF (putsX E (ps.toList.zip xs[k]))) := by
      intro t x hx
      have : ∀ (l : Kn), (∀ p ∈ l, p.1 < n ∧ look (ps.toList.zip xs[k] ++ kn) p.1 = some p.2) → look l t = some x → t < n ∧ look (ps.toList.zip xs[k] ++ kn) t = some x := by
        intro l
        induction l with
        | nil => intro _ h; simp [look] at h
        | cons p l ih =>
          intro hl hx
          obtain ⟨s, y⟩ := p
          simp only [look] at hx
          split at hx
          · rename_i e; cases hx; subst e; exact hl (t, x) (by simp)
          · exact ih (fun q hq => hl q (by simp [hq])) hx
      obtain ⟨q1, q2⟩ := this _ (hA k hk) hx
      unfold envF
      rw [putsX_get _ _ E kn t x hnd hgetE (by rw [hlen]; exact q1) q2]; rfl
    have hwa := hb k hk _ σ' rfl h1 h2 _ hag
    rw [hlen]
    refine hwa.mono fun e s1 hh => ?_
    obtain ⟨kn1, a1, rfl, a2, a3⟩ := hh
    refine ⟨rfl, by rw [a2]; exact h1, ?_⟩
    have hwb := a3 ⟨.lp { recL fn ps assign body with state := .busy } :: E, 6⟩ rfl s1.env a1
    rw [a2]
    refine hwb.mono fun e s2 hh2 => ?_
    obtain ⟨kn2, _, b2, b3⟩ := hh2
    have hlt := (List.getElem?_eq_some_iff.1 b2).1
    rcases b3 with ⟨rfl, b3⟩ | ⟨rfl, b3⟩
    · exact ⟨b2, .inl ⟨rfl, by rw [List.getElem?_set_self hlt]; rfl, by rw [List.set_set]; exact b3⟩⟩
    · exact ⟨b2, .inr ⟨rfl, by rw [List.getElem?_set_self hlt], by rw [List.set_set]; exact b3⟩⟩
  · refine ⟨by rw [List.getElem?_append_right (Nat.le_refl _)]; simp, ?_⟩
    rw [List.set_append_right _ _ (Nat.le_refl _)]
    simpa using h0

/-- A body's walk gives what the call does among the caller's objects, known by a relation. -/
theorem inCall_K {f : FuncId} {fn : Func} {c : Code} {args : List XV} {R : List VObj → XV → Prop} (hf : P.funcs[f]? = some fn) (hb : fn.body = some c) (hn : args.length ≤ fn.ntmps)
    (h : KC P M W0 fn.ntmps c σ (enterK 0 args) (fun e σ2 kn => (e = .ret ∨ e = .normal) ∧ ∃ x, resK P fn σ2 kn = some x ∧ R σ2 x)) : InCall P M W0 f σ args R :=
  inCall_of hf hb hn ((h _ (agree_enter σ args)).mono fun _ _ ⟨_, h1, h2, x, h3, h4⟩ => ⟨h2, x, resK_X h1 h3, h4⟩)

theorem mask_get {i j : Nat} {a b : VObj} {x : Option VObj} (h : j ≠ i) (hx : (σ.set j a)[i]? = x) : (σ.set j b)[i]? = x := by
  rw [List.getElem?_set_ne h] at hx ⊢; exact hx
end
end Go.Vm

end
section
/-
  VALUES WITHOUT ADDRESSES, 35: slices.Sort on a slice of ints of the call's own: the library's contract, told among objects.
-/
namespace Go.Vm
open Go.RowKit Go.Sort Go.Shelf

/-- The numbers in ascending order. -/
def sortI (zs : List Int) : List Int := zs.mergeSort fun x y => decide (x ≤ y)

theorem length_sortI (zs : List Int) : (sortI zs).length = zs.length := List.length_mergeSort zs

theorem sortI_perm (zs : List Int) : (sortI zs).Perm zs := List.mergeSort_perm zs _

theorem sortI_sorted (zs : List Int) : (sortI zs).Pairwise (· ≤ ·) := by
  have h := List.pairwise_mergeSort (le := fun x y : Int => decide (x ≤ y)) (fun a b c h1 h2 => by simp at *; omega) (fun a b => by simp; omega) zs
  exact h.imp fun h => by simpa using h

section
variable {P : Program} {ρ : Ren}

/-- What the fence of the library's contract asks is asked of no one. -/
theorem calls_of_in {F : List FuncId} {n : Nat} {f : FuncId} {args : Array Value} {w : World} {R : Ending → World → Prop} (h : ∀ D, CallsIn (Fence.list F (some D)) n P f args w R) : Calls P f args w R := fun cs => by
  obtain ⟨e, w', fr, r, s, x⟩ := (h (cs.length + 1 + n)).2 cs (fun d hd => by cases hd; omega)
  exact ⟨e, w', fr, r, s.comes, x⟩

theorem setRow_eq_mapBlock (w : World) (b : Nat) (f : Array Value → Array Value) {cur : Array Value} {ty : TypeId} {fr : Nat × Nat} (h : w.heap[b]? = some (.cells cur ty fr)) : mapBlock w b f = w.setRow b (f cur) := by
  unfold mapBlock World.setRow
  congr 1
  apply Array.ext_getElem?
  intro k
  simp only [Array.getElem?_modify]
  by_cases hk : b = k
  · subst hk
    simp only [if_true, h, Option.map_some, onCells]
  · simp [hk]

/-- SORT. -/
theorem sort_own (Ly : Go.Proofs.Lays.n189 P ρ) {σ : List VObj} {id lo : Nat} {ex : Bool} {zs : List Int} {rest : List XV} (ho : σ[id]? = some ⟨(zs.map fun z => XV.d (DI z)) ++ rest, 0⟩) (hn : zs.length < 4611686018427387904) :
    OwnCall P (ρ.f 189) σ [.osl id 0 zs.length 1 lo ex] (σ.set id ⟨((sortI zs).map fun z => XV.d (DI z)) ++ rest, 0⟩) (.d (.lit (.tuple #[]))) := by
  intro M W0 ι w vs hm hl hx
  match vs, hl with
  | [v0], _ =>
  have h0 := hx 0 v0 _ rfl rfl
  cases h0 with
  | @osl b off len cap _ _ _ _ hb hl' hlo hex hs =>
  obtain ⟨cur, ty, k1, k2, k3⟩ := hm.objs id _ b ho hb (by simp)
  simp only [List.length_append, List.length_map] at k2
  have hcell : ∀ j (h : j < zs.length), cur[j]? = some (.int .i64 zs[j]) := fun j h => by
    obtain ⟨v, e1, e2⟩ := k3 j (.d (DI zs[j])) (by rw [List.getElem?_append_left (by simpa using h)]; simp [h])
    cases e2 with | d e2 => cases e2 with | lit => exact e1
  have hH : Holds (Value.int .i64) w b 0 zs.toArray := fun j hj => by
    have hj' : j < zs.length := by simpa using hj
    refine ⟨?_, by simp [World.frozen?, k1]⟩
    simp [World.cell?, k1, hcell j hj', hj']
  have hcall := calls_of_in (P := P) fun D => Go.Proofs.AnyS.slices_Sort_int_in Ly D b 0 cap zs w hH (hm.fresh _ _ hb).2 hn
  refine hcall.mono fun e w' => ?_
  rintro ⟨rfl, n, os, rfl⟩
  -- the count of draws
  have hb1 : Below w.heap.size w (Sort.ahead w n) := ⟨rfl, rfl, rfl, Nat.le_refl _, fun _ _ => rfl⟩
  obtain ⟨m1, x1⟩ := hm.grown hb1
  -- the cells
  have hlen := length_sortI zs
  have hw := m1.write ho hb rfl (cur := cur) (ty := ty) k1 0 ((sortI zs).map (Value.int .i64)) ((sortI zs).map fun z => XV.d (DI z)) (by simp) (by simp [hlen]) (fun i v x hv hx => by
    simp only [List.getElem?_map, Option.map_eq_some_iff] at hv hx
    obtain ⟨z, hz, rfl⟩ := hv
    obtain ⟨z', hz', rfl⟩ := hx
    rw [hz] at hz'; cases hz'
    exact .d (.lit _))
  have e1 : splice ((zs.map fun z => XV.d (DI z)) ++ rest) 0 ((sortI zs).map fun z => XV.d (DI z)) = ((sortI zs).map fun z => XV.d (DI z)) ++ rest := by
    unfold splice
    rw [List.take_zero, List.nil_append, Nat.zero_add, List.length_map, hlen, List.drop_append_of_le_length (by simp), List.drop_of_length_le (by simp), List.nil_append]
  have e2 : putRow (Value.int .i64) (Sort.ahead w n) b 0 (zs.mergeSort fun x y => decide (x ≤ y)).toArray = (Sort.ahead w n).setRow b (splice cur.toList 0 ((sortI zs).map (Value.int .i64))).toArray := by
    unfold putRow
    rw [setRow_eq_mapBlock (Sort.ahead w n) b _ (show (Sort.ahead w n).heap[b]? = _ from k1)]
    congr 1
    apply Array.ext_getElem?
    intro i
    conv => rhs; rw [List.getElem?_toArray, getElem?_splice _ _ _ (by simp [hlen]; omega)]
    simp only [putCells, Array.getElem?_mapIdx, Nat.zero_add, Nat.sub_zero, Nat.zero_le, true_and, List.size_toArray, List.length_map, Array.getElem?_toList]
    have hs : (zs.mergeSort fun x y => decide (x ≤ y)).length = zs.length := List.length_mergeSort zs
    by_cases hi : i < zs.length
    · have hc : i < cur.size := by omega
      rw [Array.getElem?_eq_getElem hc, Option.map_some, if_pos (by rw [hs]; exact hi), if_pos (by rw [hlen]; exact hi)]
      have hi2 : i < (zs.mergeSort fun x y => decide (x ≤ y)).length := by rw [hs]; exact hi
      rw [List.getElem?_map, show (sortI zs)[i]? = some ((zs.mergeSort fun x y => decide (x ≤ y))[i]) from List.getElem?_eq_getElem hi2, Option.map_some]
      congr 2
      rw [getElem!_pos _ i (by simpa using hi2)]; rfl
    · rw [if_neg (by rw [hlen]; exact hi)]
      cases cur[i]? with
      | none => rfl
      | some v => rw [Option.map_some, if_neg (by rw [hs]; exact hi)]
  rw [e1, ← e2] at hw
  obtain ⟨m2, x2⟩ := hw
  -- new blocks
  have hb3 : Below (putRow (Value.int .i64) (Sort.ahead w n) b 0 (zs.mergeSort fun x y => decide (x ≤ y)).toArray).heap.size (putRow (Value.int .i64) (Sort.ahead w n) b 0 (zs.mergeSort fun x y => decide (x ≤ y)).toArray) (grow (putRow (Value.int .i64) (Sort.ahead w n) b 0 (zs.mergeSort fun x y => decide (x ≤ y)).toArray) os) :=
    ⟨rfl, rfl, rfl, by simp, fun k hk => by simp only [grow]; exact Array.getElem?_append_left hk⟩
  obtain ⟨m3, x3⟩ := m2.grown hb3
  exact ⟨ι, _, _, _, rfl, m3, x1.trans (x2.trans x3), .d (.lit _), rfl, rfl⟩
end
end Go.Vm

end
section
/-
  EVERY ORDER: rules for trees of orders; stores where some loads may come late.
-/
namespace Go.Vm
theorem KAll.nil' {p : Nat → Prop} : KAll p [] := trivial
theorem KAll.cons' {p : Nat → Prop} {i : Nat} {l : List Nat} (h : p i) (hl : KAll p l) : KAll p (i :: l) := ⟨h, hl⟩
theorem KC.ordersM {P : Program} {M : Nat → Prop} {W0 : World} {n : Nat} {ops : Array Oper} {σ : List VObj} {kn : Kn} (hm : P.follows .mixedOrders = true) {rid m : Nat} (hs : ops.size = m) {T T' : Exit → List VObj → Kn → Prop} (h : KA P M W0 n ops (T' .normal) m (Array.replicate m false) σ kn) (ht : ∀ e τ k, T' e τ k → T e τ k) : KC P M W0 n (.region rid ops true) σ kn T := by
  subst hs
  exact (KC.orders hm h).mono ht
section
variable {P : Program} {n : Nat} {ops : Array Oper} {Z : Nat → Prop} {l : List Oper} {σ : List VObj} {kn : Kn} {dst : Option Tmp} {ty : TypeId} {pos : String} {af : Array Edge} {g : Option (Nat × Bool)}
/-- A store into what no late load reads. -/
theorem KTZ.storeG {x y : Operand} {t : TypeId} {id off : Nat} {cells : List XV} {v : XV} {R : List Nat → List Nat → List VObj → Kn → Prop} (hg : guardK ops kn ⟨dst, .store t x y, ty, pos, af, g⟩ = some true) (hd : dstOk n dst = true) (hx : evK kn x = some (.optr id off)) (hy : evK kn y = some v)
    (hz : Z id) (ho : σ[id]? = some ⟨cells, 0⟩) (hof : off < cells.length) (hc : cellsX v = [v]) (h1 : oneX v = true) (hs : sizeT P t = some 1)
    (h : ∀ σ', σ'.length = σ.length → σ'[id]? = some ⟨cells.set off v, 0⟩ → (∀ j, j ≠ id → σ'[j]? = σ[j]?) → KTZ P n ops Z l σ' (extK dst undefX kn) (fun fls gs τ k => R (2 :: fls) (2 :: gs) τ k)) :
    KTZ P n ops Z (⟨dst, .store t x y, ty, pos, af, g⟩ :: l) σ kn R := by
  refine KTZ.write hg hd (fun j ob hj hob => ?_) (K.storeO hx hy ho hof hc h1 hs) (h _ (by simp) ?_ fun j hj => ?_)
  · have hne : j ≠ id := fun e => hj (by subst e; exact hz)
    exact ⟨ob, by rw [List.getElem?_set_ne (fun e => hne e.symm)]; exact hob, rfl, Iff.rfl⟩
  · rw [List.getElem?_set, if_pos rfl, if_pos (List.getElem?_eq_some_iff.1 ho).1]
  · rw [List.getElem?_set, if_neg (fun e => hj e.symm)]
theorem KTZ.storeL {x y : Operand} {t : TypeId} {id off : Nat} {cells : List XV} {v : XV} {R : List Nat → List Nat → List VObj → Kn → Prop} (hg : guardK ops kn ⟨dst, .store t x y, ty, pos, af, g⟩ = some true) (hd : dstOk n dst = true) (hx : evK kn x = some (.optr id off)) (hy : evK kn y = some v)
    (ho : σ[id]? = some ⟨cells, 0⟩) (hof : off < cells.length) (hc : cellsX v = [v]) (h1 : oneX v = true) (hs : sizeT P t = some 1)
    (h : ∀ σ', σ'.length = σ.length → σ'[id]? = some ⟨cells.set off v, 0⟩ → (∀ j, j ≠ id → σ'[j]? = σ[j]?) → KTZ P n ops Z l σ' (extK dst undefX kn) (fun fls gs τ k => R (2 :: fls) (0 :: gs) τ k)) :
    KTZ P n ops Z (⟨dst, .store t x y, ty, pos, af, g⟩ :: l) σ kn R := by
  refine KTZ.step hg hd (K.storeO hx hy ho hof hc h1 hs) (h _ (by simp) ?_ fun j hj => ?_)
  · rw [List.getElem?_set, if_pos rfl, if_pos (List.getElem?_eq_some_iff.1 ho).1]
  · rw [List.getElem?_set, if_neg (fun e => hj e.symm)]
end
end Go.Vm

end
