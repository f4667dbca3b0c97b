import Derived.Test.YthbnnffmhnjpjaaVmI
/-
  VALUES WITHOUT ADDRESSES, 10: code: lists of operations in the text's order, branches, blocks, loops; from a body to a contract.
-/
namespace Go.Vm
open Go.RowKit

/-- A list of operations, in the text's order. -/
def WpL (P : Program) (M : Nat → Prop) (W0 : World) (n : Nat) (ops : Array Oper) (l : List Oper) (s : St) (T : St → Prop) : Prop :=
  ∀ (ι : List Nat) (a : Act) (w : World), Fr M W0 n ι s a w → ∀ Q : Exit → Act → World → Prop,
    (∀ (ι' : List Nat) (s' : St) (a' : Act) (w' : World), T s' → Fr M W0 n ι' s' a' w' → Ext M ι s.σ w ι' s'.σ w' → Q .normal a' w') → wpList P ops Q l a w

def Wp (P : Program) (M : Nat → Prop) (W0 : World) (n : Nat) (c : Code) (s : St) (T : Exit → St → Prop) : Prop :=
  ∀ (ι : List Nat) (a : Act) (w : World), Fr M W0 n ι s a w → ∀ Q : Exit → Act → World → Prop,
    (∀ (e : Exit) (ι' : List Nat) (s' : St) (a' : Act) (w' : World), T e s' → Fr M W0 n ι' s' a' w' → Ext M ι s.σ w ι' s'.σ w' → Q e a' w') → c.wp P Q a w

/-- What follows a piece of code. -/
def thenT (T1 : St → Prop) (T : Exit → St → Prop) : Exit → St → Prop
  | .normal, s => T1 s
  | e, s => T e s

def blockT (id : Nat) (T : Exit → St → Prop) : Exit → St → Prop
  | .exit id', s => if id' = id then T .normal s else T (.exit id') s
  | e, s => T e s

section
variable {P : Program} {M : Nat → Prop} {W0 : World} {n : Nat} {ops : Array Oper} {l : List Oper} {o : Oper} {s : St}

theorem WpL.mono {T T' : St → Prop} (h : WpL P M W0 n ops l s T) (ht : ∀ s, T s → T' s) : WpL P M W0 n ops l s T' :=
  fun ι a w hf Q hq => h ι a w hf Q fun ι' s' a' w' h1 h2 h3 => hq ι' s' a' w' (ht _ h1) h2 h3

theorem WpL.nil {T : St → Prop} (h : T s) : WpL P M W0 n ops [] s T :=
  fun ι a w hf Q hq => hq ι s a w h hf (.refl _ _ _ _)

theorem WpL.skip {T : St → Prop} (hg : guardX ops s.env o = some false) (hd : dstOk n o.dst = true) (h : WpL P M W0 n ops l ⟨s.σ, putE s.env o.dst undefX⟩ T) : WpL P M W0 n ops (o :: l) s T := by
  intro ι a w hf Q hq
  unfold wpList
  rw [if_neg (by rw [guardX_sound hf.env hg]; simp)]
  exact h ι _ w (hf.put hd hf.mem (.refl _ _ _ _) (.d (.lit _))) Q hq

theorem WpL.step {T : St → Prop} {x : XV} {σ' : List VObj} {fl : Nat} (hg : guardX ops s.env o = some true) (he : Ev P o s x σ' fl) (hd : dstOk n o.dst = true)
    (h : WpL P M W0 n ops l ⟨σ', putE s.env o.dst x⟩ T) : WpL P M W0 n ops (o :: l) s T := by
  intro ι a w hf Q hq
  unfold wpList
  rw [if_pos (by rw [guardX_sound hf.env hg])]
  left
  refine he.wp hf.mem hf.env fun ι' v w' h1 h2 h3 => ?_
  exact h ι' _ w' (hf.put hd h1 h2 h3) Q fun ι'' s' a' w'' k1 k2 k3 => hq ι'' s' a' w'' k1 k2 (h2.trans k3)

/-- A call that shares the caller's objects. -/
theorem WpL.inl {T : St → Prop} {callee : Operand} {args : Array Operand} {ts : Array TypeId} {f : FuncId} {first caps : List XV} {R : List VObj → XV → Prop} (hg : guardX ops s.env o = some true)
    (ho : o.op = .call ⟨.value callee, args, ts⟩) (hf : asFn (evalX s.env callee) = some (f, first, caps)) (hp : plainFn P f = true) (hc : InCall P M W0 f s.σ (first ++ args.toList.map (evalX s.env) ++ caps) R)
    (hd : dstOk n o.dst = true) (h : ∀ σ' x, R σ' x → WpL P M W0 n ops l ⟨σ', putE s.env o.dst x⟩ T) : WpL P M W0 n ops (o :: l) s T := by
  intro ι a w hfr Q hq
  unfold wpList
  rw [if_pos (by rw [guardX_sound hfr.env hg])]
  left
  obtain ⟨vs, us, e1, e2, e3, e4, e5⟩ := asFn_rep (evalX_rep hfr.env callee) hf
  obtain ⟨a1, a2⟩ := args_rep (args := args) hfr.env e2 e3 e4 e5
  unfold Oper.wp
  rw [call_run ho e1 hp]
  have hcall := hc ι w (vs ++ args.map a.eval ++ us).toList hfr.mem a1 a2
  rw [Array.toArray_toList] at hcall
  refine hcall.mono fun e w' => ?_
  rintro ⟨ι', σ', x, v, rfl, h1, h2, h3, h4⟩
  exact h σ' x h4 ι' _ w' (hfr.put hd h1 h2 h3) Q fun ι'' s' a' w'' k1 k2 k3 => hq ι'' s' a' w'' k1 k2 (h2.trans k3)

theorem Wp.mono {c : Code} {T T' : Exit → St → Prop} (h : Wp P M W0 n c s T) (ht : ∀ e s, T e s → T' e s) : Wp P M W0 n c s T' :=
  fun ι a w hf Q hq => h ι a w hf Q fun e ι' s' a' w' h1 h2 h3 => hq e ι' s' a' w' (ht _ _ h1) h2 h3

theorem Wp.region {id : Nat} {T : Exit → St → Prop} (h : WpL P M W0 n ops ops.toList s (T .normal)) : Wp P M W0 n (.region id ops false) s T :=
  fun ι a w hf Q hq => wp_region_list (h ι a w hf Q fun ι' s' a' w' h1 h2 h3 => hq .normal ι' s' a' w' h1 h2 h3)

theorem Wp.skip {T : Exit → St → Prop} (h : T .normal s) : Wp P M W0 n .skip s T :=
  fun ι a w hf Q hq => wp_skip (hq .normal ι s a w h hf (.refl _ _ _ _))

theorem Wp.label {k : Nat} {T : Exit → St → Prop} (h : T .normal s) : Wp P M W0 n (.label k) s T :=
  fun ι a w hf Q hq => wp_label (hq .normal ι s a w h hf (.refl _ _ _ _))

theorem Wp.ret {T : Exit → St → Prop} (h : T .ret s) : Wp P M W0 n .ret s T :=
  fun ι a w hf Q hq => wp_ret (hq .ret ι s a w h hf (.refl _ _ _ _))

theorem Wp.exit {id : Nat} {T : Exit → St → Prop} (h : T (.exit id) s) : Wp P M W0 n (.exit id) s T :=
  fun ι a w hf Q hq => wp_exit (hq (.exit id) ι s a w h hf (.refl _ _ _ _))

theorem Wp.seq {x y : Code} {T : Exit → St → Prop} (h : Wp P M W0 n x s (thenT (fun s' => Wp P M W0 n y s' T) T)) : Wp P M W0 n (.seq x y) s T := by
  intro ι a w hf Q hq
  refine wp_seq (h ι a w hf _ fun e ι' s' a' w' h1 h2 h3 => ?_)
  cases e with
  | normal => exact h1 ι' a' w' h2 Q fun e ι'' s'' a'' w'' k1 k2 k3 => hq e ι'' s'' a'' w'' k1 k2 (h3.trans k3)
  | exit id => exact hq (.exit id) ι' s' a' w' h1 h2 h3
  | goto k => exact hq (.goto k) ι' s' a' w' h1 h2 h3
  | ret => exact hq .ret ι' s' a' w' h1 h2 h3
  | panic c => exact hq (.panic c) ι' s' a' w' h1 h2 h3
  | outgrown => exact hq .outgrown ι' s' a' w' h1 h2 h3

theorem Wp.cond {c : Operand} {x y : Code} {t : Bool} {T : Exit → St → Prop} (hc : litOf (evalX s.env c) = some (.bool t)) (h : Wp P M W0 n (if t then x else y) s T) : Wp P M W0 n (.cond c x y) s T :=
  fun ι a w hf Q hq => wp_cond (litOf_rep (evalX_rep hf.env c) hc) (h ι a w hf Q hq)

theorem Wp.block {id : Nat} {c : Code} {T : Exit → St → Prop} (h : Wp P M W0 n c s (blockT id T)) : Wp P M W0 n (.block id c) s T := by
  intro ι a w hf Q hq
  refine wp_block (h ι a w hf _ fun e ι' s' a' w' h1 h2 h3 => ?_)
  cases e with
  | exit k =>
    simp only [blockT] at h1
    simp only [Exit.inBlock]
    split at h1
    · rename_i e; rw [if_pos e]; exact hq .normal ι' s' a' w' h1 h2 h3
    · rename_i e; rw [if_neg e]; exact hq (.exit k) ι' s' a' w' h1 h2 h3
  | normal => exact hq .normal ι' s' a' w' h1 h2 h3
  | goto k => exact hq (.goto k) ι' s' a' w' h1 h2 h3
  | ret => exact hq .ret ι' s' a' w' h1 h2 h3
  | panic c => exact hq (.panic c) ι' s' a' w' h1 h2 h3
  | outgrown => exact hq .outgrown ι' s' a' w' h1 h2 h3

/-- A loop: I holds at every round's head, μ gets less. -/
theorem Wp.loop {c : Code} {T : Exit → St → Prop} (I : St → Prop) (μ : St → Nat) (hI : I s) (h : ∀ s, I s → Wp P M W0 n c s (thenT (fun s' => I s' ∧ μ s' < μ s) T)) : Wp P M W0 n (.loop c) s T := by
  have key : ∀ (k : Nat) (s : St), μ s < k → I s → ∀ (ι : List Nat) (a : Act) (w : World), Fr M W0 n ι s a w → ∀ Q : Exit → Act → World → Prop,
      (∀ (e : Exit) (ι' : List Nat) (s' : St) (a' : Act) (w' : World), T e s' → Fr M W0 n ι' s' a' w' → Ext M ι s.σ w ι' s'.σ w' → Q e a' w') → Code.rounds P c Q k a w := by
    intro k
    induction k with
    | zero => intro s hk; omega
    | succ k ih =>
      intro s hk hs ι a w hf Q hq
      rw [rounds_succ]
      refine h s hs ι a w hf _ fun e ι' s' a' w' h1 h2 h3 => ?_
      cases e with
      | normal =>
        obtain ⟨k1, k2⟩ := h1
        exact ih s' (by omega) k1 ι' a' w' h2 Q fun e ι'' s'' a'' w'' q1 q2 q3 => hq e ι'' s'' a'' w'' q1 q2 (h3.trans q3)
      | exit id => exact hq (.exit id) ι' s' a' w' h1 h2 h3
      | goto k => exact hq (.goto k) ι' s' a' w' h1 h2 h3
      | ret => exact hq .ret ι' s' a' w' h1 h2 h3
      | panic c => exact hq (.panic c) ι' s' a' w' h1 h2 h3
      | outgrown => exact hq .outgrown ι' s' a' w' h1 h2 h3
  exact fun ι a w hf Q hq => wp_loop_rounds (μ s + 1) (key _ s (Nat.lt_succ_self _) hI ι a w hf Q hq)

/-- One result of a function. -/
def resVar (P : Program) (s : St) : ResultVar → Option XV
  | .tmp t => some (s.env t)
  | .cell a t => (opLoad P s.σ t (s.env a)).map (·.1)

/-- What a function hands back. -/
def resX (P : Program) (fn : Func) (s : St) : Option XV :=
  match fn.results.toList.mapM (resVar P s) with
  | some [x] => some x
  | some xs => some (.tup xs)
  | none => none

def resOne (tmps : Array Value) (r : ResultVar) : Sem Value :=
  match r with
  | .tmp t => pure (tmps.getD t undef)
  | .cell a t => do loadVar t (← asAddr (tmps.getD a undef))

theorem results_eq (fn : Func) (tmps : Array Value) : results fn tmps = (do
    let vs ← fn.results.mapM (resOne tmps)
    pure (if h : vs.size = 1 then vs[0] else .tuple vs)) := by
  unfold results
  congr 1

theorem resVar_run {ι : List Nat} {w : World} (hm : Mem M W0 ι s.σ w) {a : Act} (he : ∀ t, XRep w ι (Forb M ι s.σ) (a.tmps.getD t undef) (s.env t)) : ∀ (l : List ResultVar) (xs : List XV), l.mapM (resVar P s) = some xs →
    ∃ vs : List Value, (l.mapM (resOne a.tmps)).run P w = .ok vs w ∧ vs.length = xs.length ∧
      ∀ (i : Nat) (v : Value) (x : XV), vs[i]? = some v → xs[i]? = some x → XRep w ι (Forb M ι s.σ) v x
  | [], xs, h => by simp at h; subst h; exact ⟨[], by simp, rfl, fun i v x h => by simp at h⟩
  | r :: l, xs, h => by
    rw [List.mapM_cons] at h
    cases hr : resVar P s r with
    | none => rw [hr] at h; simp at h
    | some y =>
      cases hl : l.mapM (resVar P s) with
      | none => rw [hr, hl] at h; simp at h
      | some ys =>
        rw [hr, hl] at h
        simp at h
        subst h
        obtain ⟨vs, h1, h2, h3⟩ := resVar_run hm he l ys hl
        have hone : ∃ v, (resOne a.tmps r).run P w = .ok v w ∧ XRep w ι (Forb M ι s.σ) v y := by
          cases r with
          | tmp t => simp [resVar] at hr; subst hr; exact ⟨a.tmps.getD t undef, rfl, he t⟩
          | cell b t =>
            simp only [resVar, Option.map_eq_some_iff] at hr
            obtain ⟨q, hq, rfl⟩ := hr
            obtain ⟨u, k1, k2⟩ := opLoad_sound hm (he b) hq
            refine ⟨u, ?_, k2⟩
            simp only [resOne, Instr.loadAt, Sem.run_bind] at k1 ⊢
            revert k1
            generalize a.tmps.getD b undef = v0
            intro k1
            cases v0 <;> first | (simp [Instr.sureAddr, stuck, Sem.run] at k1; done) | skip
            rename_i ad
            cases ad with
            | none => simp [Instr.sureAddr, stuck, Sem.run] at k1
            | some ad => simpa [Instr.sureAddr, asAddr] using k1
        obtain ⟨v, k1, k2⟩ := hone
        refine ⟨v :: vs, ?_, by simp [h2], fun i u x hv hx => ?_⟩
        · rw [List.mapM_cons]
          simp only [Sem.run_bind, k1, Result.andThen_ok, h1, Sem.run_pure]
        · cases i with
          | zero => simp at hv hx; subst hv; subst hx; exact k2
          | succ i => exact h3 i u x (by simpa using hv) (by simpa using hx)

theorem resX_run {ι : List Nat} {w : World} (hm : Mem M W0 ι s.σ w) {a : Act} (he : ∀ t, XRep w ι (Forb M ι s.σ) (a.tmps.getD t undef) (s.env t)) {fn : Func} {x : XV} (h : resX P fn s = some x) :
    ∃ v, (results fn a.tmps).run P w = .ok v w ∧ XRep w ι (Forb M ι s.σ) v x := by
  have key : ∀ xs, fn.results.toList.mapM (resVar P s) = some xs → ∃ vs : List Value, (results fn a.tmps).run P w = .ok (if h : vs.toArray.size = 1 then vs.toArray[0] else .tuple vs.toArray) w ∧ vs.length = xs.length ∧
      ∀ (i : Nat) (v : Value) (x : XV), vs[i]? = some v → xs[i]? = some x → XRep w ι (Forb M ι s.σ) v x := by
    intro xs hxs
    obtain ⟨vs, h1, h2, h3⟩ := resVar_run hm he _ xs hxs
    refine ⟨vs, ?_, h2, h3⟩
    rw [results_eq, Sem.run_bind, Array.mapM_eq_mapM_toList]
    have e : (List.toArray <$> fn.results.toList.mapM (resOne a.tmps)) = (fn.results.toList.mapM (resOne a.tmps) >>= fun l => pure l.toArray) := by simp
    rw [e, Sem.run_bind, h1]
    simp only [Result.andThen_ok, Sem.run_pure]
  unfold resX at h
  split at h
  · rename_i y hy
    cases h
    obtain ⟨vs, h1, h2, h3⟩ := key _ hy
    match vs, h2 with
    | [v], _ => exact ⟨v, by simpa using h1, h3 0 v x rfl rfl⟩
  · rename_i xs hne hxs
    cases h
    obtain ⟨vs, h1, h2, h3⟩ := key _ hxs
    have hn1 : ¬ vs.toArray.size = 1 := by
      intro e
      rw [List.size_toArray, h2] at e
      match xs, e with
      | [y], _ => exact hne y rfl
    rw [dif_neg hn1] at h1
    exact ⟨_, h1, .tup (by simpa using h2) (fun i v x hv hx => h3 i v x (by simpa using hv) hx)⟩
  · cases h

/-- The frame of a call. -/
def enter (σ : List VObj) (args : List XV) : St := ⟨σ, fun t => (args[t]?).getD undefX⟩

/-- FROM A BODY TO A CONTRACT, among the caller's objects. -/
theorem inCall_of {f : FuncId} {fn : Func} {c : Code} {σ : List VObj} {args : List XV} {R : List VObj → XV → Prop} (hf : P.funcs[f]? = some fn) (hb : fn.body = some c) (hn : args.length ≤ fn.ntmps)
    (h : Wp P M W0 fn.ntmps c (enter σ args) (fun e s => (e = .ret ∨ e = .normal) ∧ ∃ x, resX P fn s = some x ∧ R s.σ x)) : InCall P M W0 f σ args R := by
  intro ι w vs hm hl hx
  refine calls_of_wp hf hb (h ι _ w ⟨hm, fun t => ?_, by simp [hl]; omega, rfl⟩ _ fun e ι' s' a' w' h1 h2 h3 => ?_)
  · simp only [enter]
    by_cases ht : t < vs.length
    · have e1 : (vs.toArray ++ Array.replicate (fn.ntmps - vs.toArray.size) undef).getD t undef = vs[t] := by
        simp only [Array.getD_eq_getD_getElem?]
        rw [Array.getElem?_append_left (by simpa using ht)]; simp [ht]
      rw [e1]
      have ht' : t < args.length := by omega
      rw [List.getElem?_eq_getElem ht', Option.getD_some]
      exact hx t _ _ (List.getElem?_eq_getElem ht) (List.getElem?_eq_getElem ht')
    · have e1 : (vs.toArray ++ Array.replicate (fn.ntmps - vs.toArray.size) undef).getD t undef = undef := by
        simp only [Array.getD_eq_getD_getElem?]
        rw [Array.getElem?_append_right (by simp; omega), Array.getElem?_replicate]
        split <;> rfl
      rw [e1, List.getElem?_eq_none (by omega)]
      exact .d (.lit _)
  · obtain ⟨he, x, hr, hR⟩ := h1
    obtain ⟨v, k1, k2⟩ := resX_run h2.mem h2.env hr
    rcases he with rfl | rfl
    · exact ⟨h2.defers, v, k1, ι', s'.σ, x, v, rfl, h2.mem, h3, k2, hR⟩
    · exact ⟨h2.defers, v, k1, ι', s'.σ, x, v, rfl, h2.mem, h3, k2, hR⟩

/-- What a deep call's result is, at the end of its body. -/
def deepRes (P : Program) (fn : Func) (k : Nat) (s : St) (res : DV) : Prop := ∃ x, resX P fn s = some x ∧ deepen (freezeAll s.σ) k x = some res

theorem Mem.start (M : Nat → Prop) (w : World) (h : ∀ b, M b → b < w.heap.size) : Mem M w [] [] w :=
  ⟨rfl, fun id o b h => by simp at h, fun id b h => by simp at h, fun i j oi oj bi bj _ h => by simp at h, Below.refl _ _, h⟩

theorem forb_nil (M : Nat → Prop) : ∀ b, Forb M [] [] b → M b := by
  rintro b (h | ⟨id, o, h, _⟩)
  · exact h
  · simp at h

theorem deepCall_of_inCall {f : FuncId} {args : List DV} {res : DV} (k : Nat) (h : ∀ (M : Nat → Prop) (W0 : World), InCall P M W0 f [] (args.map .d) (fun σ' x => deepen (freezeAll σ') k x = some res)) : DeepCall P f args res := by
  intro M w vs hM hl hx
  have hrep : ∀ (i : Nat) (v : Value) (x : XV), vs[i]? = some v → (args.map XV.d)[i]? = some x → XRep w [] (Forb M [] []) v x := by
    intro i v x hv hx'
    simp only [List.getElem?_map, Option.map_eq_some_iff] at hx'
    obtain ⟨z, hz, rfl⟩ := hx'
    exact .d ((hx i v z hv hz).ext (fun _ _ _ => rfl) (fun b _ h => forb_nil M b h))
  refine (h M w [] w vs (Mem.start M w hM) (by simpa using hl) hrep).mono fun e w' => ?_
  rintro ⟨ι', σ', x, v, rfl, h1, h2, h3, h4⟩
  obtain ⟨f1, f2⟩ := freezeAll_tamed h1
  exact ⟨v, rfl, (deepen_sound f1 k v x res (h3.ext f2) h4).ext (fun _ _ _ => rfl) (fun b _ h => .inl h), h1.below⟩

/-- FROM A BODY TO A CONTRACT ON DEEP VALUES. -/
theorem deepCall_of {f : FuncId} {fn : Func} {c : Code} {args : List DV} {res : DV} (k : Nat) (hf : P.funcs[f]? = some fn) (hb : fn.body = some c) (hn : args.length ≤ fn.ntmps)
    (h : ∀ (M : Nat → Prop) (W0 : World), Wp P M W0 fn.ntmps c (enter [] (args.map .d)) (fun e s => (e = .ret ∨ e = .normal) ∧ deepRes P fn k s res)) : DeepCall P f args res :=
  deepCall_of_inCall k fun M W0 => inCall_of hf hb (by simpa using hn) ((h M W0).mono fun e s ⟨h1, x, h2, h3⟩ => ⟨h1, x, h2, h3⟩)

end
end Go.Vm

