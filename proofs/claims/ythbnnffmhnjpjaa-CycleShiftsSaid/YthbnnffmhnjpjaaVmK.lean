import Derived.Test.YthbnnffmhnjpjaaVmJ
/-
  VALUES WITHOUT ADDRESSES, 11: a statement that leaves its order open: where the order does not matter, the text's order tells what it does.
-/
namespace Go.Vm
open Go.RowKit

theorem evalOp_congr {P : Program} {o : Oper} {σ : List VObj} {env env2 : Nat → XV} (h : ∀ x ∈ o.op.operands, evalX env2 x = evalX env x) : evalOp P o ⟨σ, env2⟩ = evalOp P o ⟨σ, env⟩ := by
  have hl : litOp P env2 o = litOp P env o := by
    unfold litOp
    have e1 : o.op.operands.all (fun x => (litOf (evalX env2 x)).isSome) = o.op.operands.all (fun x => (litOf (evalX env x)).isSome) := by
      rw [Bool.eq_iff_iff, Array.all_eq_true_iff_forall_mem, Array.all_eq_true_iff_forall_mem]
      exact ⟨fun hh x hx => by rw [← h x hx]; exact hh x hx, fun hh x hx => by rw [h x hx]; exact hh x hx⟩
    rw [e1]
    by_cases hs : isSelect o.op = true
    · simp [hs]
    · have e2 : execOp (fun x => (litOf (evalX env2 x)).getD undef) o = execOp (fun x => (litOf (evalX env x)).getD undef) o :=
        execOp_congr o (fun cs b e => hs (by rw [e]; rfl)) (fun x hx => by simp only [h x hx])
      rw [e2]
  have hx : opExt P env2 o = opExt P env o := by
    have hf : ∀ x ∈ o.op.operands, fnLit env2 x = fnLit env x := fun x hx => by cases x <;> first | rfl | (simp only [fnLit]; rw [h _ hx])
    unfold opExt
    have e1 : o.op.operands.all (fun x => (fnLit env2 x).isSome) = o.op.operands.all (fun x => (fnLit env x).isSome) := by
      rw [Bool.eq_iff_iff, Array.all_eq_true_iff_forall_mem, Array.all_eq_true_iff_forall_mem]
      exact ⟨fun hh x hx => by rw [← hf x hx]; exact hh x hx, fun hh x hx => by rw [hf x hx]; exact hh x hx⟩
    rw [e1]
    by_cases hs : isSelect o.op = true
    · simp [hs]
    · have e2 : execOp (fun x => (fnLit env2 x).getD undef) o = execOp (fun x => (fnLit env x).getD undef) o :=
        execOp_congr o (fun cs b e => hs (by rw [e]; rfl)) (fun x hx => by simp only [hf x hx])
      rw [e2]
  unfold evalOp
  simp only [hl, hx]
  clear hx
  obtain ⟨dst, op, type, pos, after, guard⟩ := o
  simp only at h ⊢
  have hmap : ∀ ps : Array (Nat × Operand), (∀ x ∈ (ps.toList.map (·.2)).toArray, evalX env2 x = evalX env x) → (ps.toList.map fun p => (p.1, evalX env2 p.2)) = ps.toList.map fun p => (p.1, evalX env p.2) := by
    intro ps hp
    refine List.map_congr_left fun p hpm => ?_
    rw [hp p.2 (by simp; exact ⟨p.1, by simpa using hpm⟩)]
  split
  · rfl
  · cases op with
    | move x => simp [h x (by simp [Op.operands])]
    | assign x => simp [h x (by simp [Op.operands])]
    | pick c a b => simp [h c (by simp [Op.operands]), h a (by simp [Op.operands]), h b (by simp [Op.operands])]
    | alloc t => rfl
    | box t x => simp [h x (by simp [Op.operands])]
    | load t a => simp [h a (by simp [Op.operands])]
    | store t a x => simp [h a (by simp [Op.operands]), h x (by simp [Op.operands])]
    | binOp op t x y u => simp [h x (by simp [Op.operands]), h y (by simp [Op.operands])]
    | makeFunc f first caps =>
      have e1 : first.toList.map (evalX env2) = first.toList.map (evalX env) := List.map_congr_left fun x hx => h x (by simp [Op.operands]; exact .inl (by simpa using hx))
      have e2 : caps.toList.map (evalX env2) = caps.toList.map (evalX env) := List.map_congr_left fun x hx => h x (by simp [Op.operands]; exact .inr (by simpa using hx))
      simp only [e1, e2]
    | makeSlice t l c => simp [h l (by simp [Op.operands]), h c (by simp [Op.operands])]
    | slice t x lo hi mx =>
      have e0 := h x (by simp [Op.operands])
      have e1 : lo.map (evalX env2) = lo.map (evalX env) := by cases lo with | none => rfl | some y => simp [h y (by simp [Op.operands])]
      have e2 : hi.map (evalX env2) = hi.map (evalX env) := by cases hi with | none => rfl | some y => simp [h y (by simp [Op.operands])]
      have e3 : mx.map (evalX env2) = mx.map (evalX env) := by cases mx with | none => rfl | some y => simp [h y (by simp [Op.operands])]
      simp only [e0, e1, e2, e3]
    | indexAddr t x i => simp [h x (by simp [Op.operands]), h i (by simp [Op.operands])]
    | extract x i => simp [h x (by simp [Op.operands])]
    | field t x f => simp [h x (by simp [Op.operands])]
    | index t x i => simp [h x (by simp [Op.operands]), h i (by simp [Op.operands])]
    | fieldAddr t x f => simp [h x (by simp [Op.operands])]
    | build t parts => simp only [hmap parts (fun x hx => h x (by simpa [Op.operands] using hx))]
    | buildSlice t n parts => simp only [hmap parts (fun x hx => h x (by simpa [Op.operands] using hx))]
    | call c =>
      obtain ⟨callee, args, ts⟩ := c
      cases callee with
      | builtin b =>
        have hargs : ∀ x ∈ args.toList, evalX env2 x = evalX env x := fun x hx => h x (by simp [Op.operands, Call.operands]; simpa using hx)
        cases b <;> first | rfl | skip
        all_goals
          simp only
          cases hal : args.toList with
          | nil => rfl
          | cons y ys =>
            rw [hal] at hargs
            cases ys with
            | nil => simp [hargs y (by simp)]
            | cons z zs => cases zs with
              | nil => simp [hargs y (by simp), hargs z (by simp)]
              | cons _ _ => rfl
      | value f => rfl
      | invoke r m => rfl
    | _ => rfl

theorem opLoad_pure {P : Program} {σ σ2 : List VObj} {t : TypeId} {x y : XV} (h : opLoad P σ t x = some (y, 0)) : opLoad P σ2 t x = some (y, 0) := by
  unfold opLoad at h ⊢
  cases x with
  | d x => cases x <;> simp_all
  | optr id off =>
    simp only at h
    split at h
    · split at h
      · cases h
      · simp at h
    · cases h
  | _ => simp at h

theorem opLoad_read {P : Program} {σ : List VObj} {t : TypeId} {x y : XV} {fl : Nat} (h : opLoad P σ t x = some (y, fl)) : fl ≠ 2 := by
  unfold opLoad at h
  cases x with
  | d x => cases x <;> simp at h; omega
  | optr id off =>
    simp only at h
    split at h
    · split at h
      · cases h
      · simp at h; omega
    · cases h
  | _ => simp at h

theorem evalOp_pure {P : Program} {o : Oper} {σ σ' : List VObj} {env : Nat → XV} {x : XV} (h : evalOp P o ⟨σ, env⟩ = some (x, σ', 0)) : ∀ σ2, evalOp P o ⟨σ2, env⟩ = some (x, σ2, 0) := by
  intro σ2
  unfold evalOp at h ⊢
  simp only at h ⊢
  split at h
  · simp at h ⊢; exact h.1
  · rename_i hn
    obtain ⟨dst, op, type, pos, after, guard⟩ := o
    simp only at h ⊢
    cases op with
    | move y => simp at h ⊢; exact h.1
    | assign y => simp at h ⊢; exact h.1
    | pick c a b =>
      simp only at h ⊢
      split at h
      · simp at h ⊢; exact h.1
      · cases h
    | alloc t => simp at h
    | box t y => simp at h
    | load t a =>
      simp only [Option.map_eq_some_iff, Prod.mk.injEq] at h ⊢
      obtain ⟨r, hr, h1, h2, h3⟩ := h
      obtain ⟨r1, r2⟩ := r
      simp at h1 h3
      subst h1; subst h3
      exact ⟨_, opLoad_pure hr, rfl, trivial, rfl⟩
    | store t a y => simp at h
    | binOp op t a b u =>
      simp only at h ⊢
      split at h
      · rename_i q hq
        simp only [Option.some.injEq, Prod.mk.injEq] at h
        obtain ⟨h1, _⟩ := h
        subst h1
        rfl
      · simp at h ⊢; obtain ⟨r, hr, h1, _⟩ := h; subst h1; exact ⟨_, hr, rfl⟩
    | makeFunc f first caps => simp at h ⊢; exact h.1
    | makeSlice t l c => simp at h
    | slice t a lo hi mx =>
      simp only at h ⊢
      split at h
      · rename_i q hq
        simp only [Option.some.injEq, Prod.mk.injEq] at h
        obtain ⟨h1, _⟩ := h
        subst h1
        rfl
      · simp at h
    | indexAddr t a i => simp at h ⊢; obtain ⟨r, hr, h1, _⟩ := h; subst h1; exact hr
    | extract a i => simp at h ⊢; obtain ⟨r, hr, h1, _⟩ := h; subst h1; exact hr
    | field t a f => simp at h ⊢; obtain ⟨r, hr, h1, _⟩ := h; subst h1; exact hr
    | index t a i => simp at h ⊢; obtain ⟨r, hr, h1, _⟩ := h; subst h1; exact hr
    | fieldAddr t a f => simp at h ⊢; obtain ⟨r, hr, h1, _⟩ := h; subst h1; exact hr
    | build t parts => simp at h ⊢; obtain ⟨r, hr, h1, _⟩ := h; subst h1; exact hr
    | buildSlice t n parts => simp at h
    | call c =>
      obtain ⟨callee, args, ts⟩ := c
      cases callee with
      | builtin b =>
        cases b <;> simp only at h ⊢ <;> first | (cases h; done) | skip
        all_goals
          revert h
          cases args.toList with
          | nil => simp
          | cons y ys => cases ys with
            | nil => first | (simp; done) | (simp; intro r hr h1 _; subst h1; exact hr)
            | cons z zs => cases zs with
              | nil => first | (simp; done) | (simp only; intro h; split at h <;> simp at h)
              | cons _ _ => simp
      | value f => simp at h ⊢; obtain ⟨r, hr, h1, _⟩ := h; subst h1; exact ⟨_, hr, rfl⟩
      | invoke r m => simp at h
    | _ => simp at h

theorem evalOp_read {P : Program} {o : Oper} {s : St} {σ' : List VObj} {x : XV} {fl : Nat} (h : evalOp P o s = some (x, σ', fl)) (hf : fl < 2) : σ' = s.σ := by
  unfold evalOp at h
  split at h
  · simp at h; exact h.2.1.symm
  · obtain ⟨dst, op, type, pos, after, guard⟩ := o
    simp only at h
    cases op with
    | call c =>
      obtain ⟨callee, args, ts⟩ := c
      cases callee with
      | builtin b =>
        cases b <;> simp only at h <;> first | (cases h; done) | skip
        all_goals
          revert h
          cases args.toList with
          | nil => simp
          | cons y ys => cases ys with
            | nil => simp <;> (intros; simp_all)
            | cons z zs => cases zs with
              | nil => first | (simp; done) | (simp only; intro h; simp only [Option.map_eq_some_iff, Prod.mk.injEq] at h; obtain ⟨_, _, _, _, h⟩ := h; omega) | (simp only; intro h; split at h <;> simp at h <;> first | (exfalso; obtain ⟨_, _, h3⟩ := h; omega) | (obtain ⟨_, _, _, _, _, h⟩ := h; omega))
              | cons _ _ => simp
      | value f => simp at h; obtain ⟨_, _, _, h2, _⟩ := h; exact h2.symm
      | invoke r m => simp at h
    | binOp op t a b u =>
      simp only at h
      split at h
      · simp at h; exact h.2.1.symm
      · simp at h; obtain ⟨_, _, _, h2, _⟩ := h; exact h2.symm
    | pick c a b =>
      simp only at h
      split at h
      · simp at h; exact h.2.1.symm
      · cases h
    | slice t a lo hi mx =>
      simp only at h
      split at h
      · simp at h; exact h.2.1.symm
      · simp at h; obtain ⟨_, _, _, h2, _⟩ := h; exact h2.symm
    | _ => simp at h <;> first | exact h.2.1.symm | (exfalso; obtain ⟨_, _, h3⟩ := h; omega) | (obtain ⟨_, _, _, h2, h3⟩ := h; first | exact h2.symm | (exfalso; omega)) | (obtain ⟨_, _, _, _, h2, h3⟩ := h; first | exact h2.symm | (exfalso; omega)) | (simp_all; done)

/-- What only makes new objects. -/
theorem evalOp_grow {P : Program} {o : Oper} {s : St} {σ' : List VObj} {x : XV} {fl : Nat} (h : evalOp P o s = some (x, σ', fl)) (hf : fl ≠ 2) : ∃ τ, σ' = s.σ ++ τ := by
  by_cases hf2 : fl < 2
  · exact ⟨[], by rw [evalOp_read h hf2, List.append_nil]⟩
  unfold evalOp at h
  split at h
  · simp at h; exact ⟨[], by rw [List.append_nil]; exact h.2.1.symm⟩
  · obtain ⟨dst, op, type, pos, after, guard⟩ := o
    simp only at h
    cases op with
    | alloc t =>
      simp only [Option.map_eq_some_iff, Prod.mk.injEq] at h
      obtain ⟨r, hr, _, h2, _⟩ := h
      simp only [opAlloc, Option.map_eq_some_iff] at hr
      obtain ⟨z, _, rfl⟩ := hr
      exact ⟨_, h2.symm⟩
    | box t y =>
      simp only [Option.some.injEq, Prod.mk.injEq] at h
      exact ⟨_, h.2.1.symm⟩
    | makeSlice t l c =>
      simp only [Option.map_eq_some_iff, Prod.mk.injEq] at h
      obtain ⟨r, hr, _, h2, _⟩ := h
      unfold opMakeSlice at hr
      split at hr
      · split at hr
        · split at hr
          · cases hr; exact ⟨_, h2.symm⟩
          · cases hr
        · cases hr
      · cases hr
    | buildSlice t n parts =>
      simp only [Option.map_eq_some_iff, Prod.mk.injEq] at h
      obtain ⟨r, hr, _, h2, _⟩ := h
      unfold opBuildSlice at hr
      split at hr
      · split at hr
        · split at hr
          · simp only [Option.map_eq_some_iff] at hr
            obtain ⟨cs, _, rfl⟩ := hr
            exact ⟨_, h2.symm⟩
          · cases hr
        · cases hr
      · cases hr
    | call c =>
      obtain ⟨callee, args, ts⟩ := c
      cases callee with
      | builtin b =>
        cases b <;> simp only at h <;> first | (cases h; done) | skip
        all_goals
          revert h
          cases args.toList with
          | nil => simp
          | cons y ys => cases ys with
            | nil => first | (simp; done) | (simp only; intro h; simp only [Option.map_eq_some_iff, Prod.mk.injEq] at h; obtain ⟨_, _, _, _, h⟩ := h; omega)
            | cons z zs => cases zs with
              | nil => first | (simp; done) | (simp only; intro h; simp only [Option.map_eq_some_iff, Prod.mk.injEq] at h; obtain ⟨_, _, _, _, h⟩ := h; omega) | (simp only; intro h; split at h <;> simp at h <;> first | (exfalso; obtain ⟨_, _, h3⟩ := h; omega) | (obtain ⟨_, _, _, _, _, h⟩ := h; omega))
              | cons _ _ => simp
      | value f => simp at h; obtain ⟨_, _, _, _, h⟩ := h; omega
      | invoke r m => simp at h
    | binOp op t a b u =>
      simp only at h
      split at h
      · simp at h; omega
      · simp at h; obtain ⟨_, _, _, _, h⟩ := h; omega
    | pick c a b =>
      simp only at h
      split at h
      · simp at h; omega
      · cases h
    | slice t a lo hi mx =>
      simp only at h
      split at h
      · simp at h; omega
      · simp at h; obtain ⟨_, _, _, _, h⟩ := h; omega
    | load t a =>
      simp only [Option.map_eq_some_iff, Prod.mk.injEq] at h
      obtain ⟨r, hr, _, h2, _⟩ := h
      exact ⟨[], by rw [List.append_nil]; exact h2.symm⟩
    | _ => simp at h <;> first | (exfalso; obtain ⟨_, _, h3⟩ := h; omega) | (obtain ⟨_, _, _, h2, h3⟩ := h; exfalso; omega) | (obtain ⟨_, _, _, _, h2, h3⟩ := h; exfalso; omega) | (simp_all; done)

/-- What reads reads the same where the objects that it looks at are there. -/
theorem evalOp_one {P : Program} {o : Oper} {σ σ' σ2 : List VObj} {env : Nat → XV} {x : XV} (h : evalOp P o ⟨σ, env⟩ = some (x, σ', 1))
    (h2 : ∀ y ∈ o.op.operands, ∀ id off, evalX env y = .optr id off → ∀ ob, σ[id]? = some ob → ∃ ob', σ2[id]? = some ob' ∧ ob'.cells = ob.cells ∧ (ob'.mode = 2 ↔ ob.mode = 2)) : evalOp P o ⟨σ2, env⟩ = some (x, σ2, 1) := by
  unfold evalOp at h ⊢
  simp only at h ⊢
  split at h
  · simp at h
  · rename_i hn
    obtain ⟨dst, op, type, pos, after, guard⟩ := o
    simp only at h h2 ⊢
    cases op with
    | load t a =>
      simp only [Option.map_eq_some_iff, Prod.mk.injEq] at h ⊢
      obtain ⟨r, hr, e1, _, e3⟩ := h
      have hl := h2 a (by simp [Op.operands])
      refine ⟨r, ?_, e1, trivial, e3⟩
      revert hr hl
      generalize evalX env a = xa
      intro hr hl
      unfold opLoad at hr ⊢
      cases xa with
      | d y => cases y <;> exact hr
      | optr id off =>
        simp only at hr ⊢
        split at hr
        · rename_i ob ho
          obtain ⟨ob', q1, q2, q3⟩ := hl id off rfl ob ho
          rw [q1]
          simp only [q2, q3]
          exact hr
        · cases hr
      | _ => cases hr
    | slice t a lo hi mx =>
      simp only at h ⊢
      split at h
      · simp at h
      · rename_i hns
        simp only [Option.map_eq_some_iff, Prod.mk.injEq] at h ⊢
        obtain ⟨r, hr, e1, _, e3⟩ := h
        have hl := h2 a (by simp [Op.operands])
        refine ⟨r, ?_, e1, by first | trivial | exact ⟨rfl, rfl⟩ | simp⟩
        revert hr hl
        generalize evalX env a = xa
        intro hr hl
        unfold opSliceA at hr ⊢
        cases xa with
        | optr id off =>
          simp only at hr ⊢
          split at hr
          · split at hr
            · rename_i ob ho
              obtain ⟨ob', q1, q2, q3⟩ := hl id off rfl ob ho
              rw [q1]
              simp only [q2, ne_eq, q3]
              exact hr
            · cases hr
          · cases hr
        | _ => cases hr
    | binOp op t a b u =>
      simp only at h
      split at h
      · simp at h
      · simp at h
    | pick c a b =>
      simp only at h
      split at h
      · simp at h
      · cases h
    | call c =>
      obtain ⟨callee, args, ts⟩ := c
      cases callee with
      | builtin b =>
        exfalso
        cases b <;> simp only at h <;> first | (cases h; done) | skip
        all_goals
          revert h
          cases args.toList with
          | nil => simp
          | cons y ys => cases ys with
            | nil => simp
            | cons z zs => cases zs with
              | nil => first | (simp; done) | (simp only; intro h; split at h <;> simp at h)
              | cons _ _ => simp
      | value f => simp at h
      | invoke r m => simp at h
    | _ => simp at h

end Go.Vm

