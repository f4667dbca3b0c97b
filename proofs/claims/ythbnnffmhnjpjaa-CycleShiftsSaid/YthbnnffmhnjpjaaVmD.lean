import Derived.Test.YthbnnffmhnjpjaaVmC
/-
  VALUES WITHOUT ADDRESSES, 4: the operations are sound.
-/
namespace Go.Vm
open Go.RowKit

section
variable {P : Program} {M : Nat → Prop} {W0 w : World} {ι : List Nat} {σ : List VObj}

/-- The operation gives the value and leaves the objects. -/
def Good (P : Program) (M : Nat → Prop) (W0 : World) (ι : List Nat) (σ : List VObj) (w : World) (s : Sem Next) (x : XV) (σ' : List VObj) : Prop :=
  ∃ (ι' : List Nat) (w' : World) (v : Value), (s.run P w = .ok (.value v) w' ∨ (s.run P w = .ok .skip w' ∧ v = undef)) ∧ Mem M W0 ι' σ' w' ∧ Ext M ι σ w ι' σ' w' ∧ XRep w' ι' (Forb M ι' σ') v x

theorem Good.pure (hm : Mem M W0 ι σ w) {s : Sem Next} {x : XV} {v : Value} (hr : s.run P w = .ok (.value v) w) (hx : XRep w ι (Forb M ι σ) v x) : Good P M W0 ι σ w s x σ :=
  ⟨ι, w, v, .inl hr, hm, .refl _ _ _ _, hx⟩

theorem evalX_rep {a : Act} {env : Nat → XV} {F : Nat → Prop} (he : ∀ t, XRep w ι F (a.tmps.getD t undef) (env t)) (x : Operand) : XRep w ι F (a.eval x) (evalX env x) := by
  cases x with
  | tmp t => exact he t
  | const v => exact .d (.lit v)
  | global g => exact .d (.lit _)
  | func f => exact .d (.fn rfl (fun i v x h => by simp at h) rfl (fun i v x h => by simp at h))

theorem litOf_rep {F : Nat → Prop} {v u : Value} {x : XV} (h : XRep w ι F v x) (hl : litOf x = some u) : v = u := by
  unfold litOf at hl
  split at hl
  · cases hl; cases h with | d h => cases h; rfl
  · cases hl

theorem litOp_sound {a : Act} {env : Nat → XV} {o : Oper} {u : Value} (hm : Mem M W0 ι σ w) (he : ∀ t, XRep w ι (Forb M ι σ) (a.tmps.getD t undef) (env t))
    (h : litOp P env o = some u) : Good P M W0 ι σ w (execOp a.eval o) (.d (.lit u)) σ := by
  unfold litOp at h
  split at h
  · rename_i hc
    simp only [Bool.and_eq_true, Bool.not_eq_true'] at hc
    split at h
    · rename_i v hv
      cases h
      have hcong : execOp a.eval o = execOp (fun x => (litOf (evalX env x)).getD undef) o := by
        refine execOp_congr o (fun cs b e => ?_) (fun x hx => ?_)
        · rw [e] at hc; simp [isSelect] at hc
        · have := Array.all_eq_true_iff_forall_mem.1 hc.1 x hx
          obtain ⟨v', hv'⟩ := Option.isSome_iff_exists.1 this
          rw [hv']
          exact litOf_rep (evalX_rep he x) hv'
      refine .pure hm (v := u) ?_ (.d (.lit u))
      rw [hcong]
      exact pureRun_ok hv w
    · cases h
  · cases h

theorem fnLit_rep {a : Act} {env : Nat → XV} {F : Nat → Prop} (he : ∀ t, XRep w ι F (a.tmps.getD t undef) (env t)) {x : Operand} {v : Value} (h : fnLit env x = some v) : a.eval x = v := by
  cases x with
  | func f => simp [fnLit] at h; subst h; rfl
  | tmp t => exact litOf_rep (evalX_rep he (.tmp t)) h
  | const c => exact litOf_rep (evalX_rep he (.const c)) h
  | global g => exact litOf_rep (evalX_rep he (.global g)) h

theorem opExt_sound {a : Act} {env : Nat → XV} {o : Oper} {u : Value} (hm : Mem M W0 ι σ w) (he : ∀ t, XRep w ι (Forb M ι σ) (a.tmps.getD t undef) (env t))
    (h : opExt P env o = some u) : Good P M W0 ι σ w (execOp a.eval o) (.d (.lit u)) σ := by
  unfold opExt at h
  split at h
  · rename_i hc
    simp only [Bool.and_eq_true, Bool.not_eq_true'] at hc
    split at h
    · rename_i v hv
      cases h
      have hcong : execOp a.eval o = execOp (fun x => (fnLit env x).getD undef) o := by
        refine execOp_congr o (fun cs b e => ?_) (fun x hx => ?_)
        · rw [e] at hc; simp [isSelect] at hc
        · have := Array.all_eq_true_iff_forall_mem.1 hc.1 x hx
          obtain ⟨v', hv'⟩ := Option.isSome_iff_exists.1 this
          rw [hv']
          exact fnLit_rep he hv'
      refine .pure hm (v := u) ?_ (.d (.lit u))
      rw [hcong]
      exact pureRun_ok hv w
    · cases h
  · cases h

theorem dcells {F : Nat → Prop} {v : Value} {x : DV} (h : DRep w F v x) : (∃ vs, v = .agg vs) ∨ v.cells = #[v] := by
  cases v <;> first | exact .inl ⟨_, rfl⟩ | exact .inr rfl

/-- The cells of a value stand for those of what it stands for. -/
theorem cellsX_rep {F : Nat → Prop} {v : Value} {x : XV} (h : XRep w ι F v x) :
    v.cells.size = (cellsX x).length ∧ ∀ (i : Nat) (u : Value) (y : XV), v.cells[i]? = some u → (cellsX x)[i]? = some y → XRep w ι F u y := by
  have one : ∀ (v : Value) (x : XV), XRep w ι F v x → v.cells = #[v] → cellsX x = [x] →
      v.cells.size = (cellsX x).length ∧ ∀ (i : Nat) (u : Value) (y : XV), v.cells[i]? = some u → (cellsX x)[i]? = some y → XRep w ι F u y := by
    intro v x h h1 h2
    rw [h1, h2]
    refine ⟨rfl, fun i u y hu hy => ?_⟩
    cases i with
    | zero => simp at hu hy; rw [← hu, ← hy]; exact h
    | succ i => simp at hu
  cases h with
  | d h =>
    cases h with
    | lit v =>
      refine ⟨by simp [cellsX], fun i u y hu hy => ?_⟩
      simp only [cellsX, List.getElem?_map, Array.getElem?_toList, hu, Option.map_some, Option.some.injEq] at hy
      subst hy
      exact .d (.lit u)
    | agg hn hx =>
      refine ⟨by simp [cellsX, Value.cells, hn], fun i u y hu hy => ?_⟩
      simp only [cellsX, List.getElem?_map, Option.map_eq_some_iff] at hy
      obtain ⟨z, hz, rfl⟩ := hy
      exact .d (hx i u z hu hz)
    | sl => exact one _ _ (.d (by first | (constructor <;> assumption) | assumption)) rfl rfl
    | ptr => exact one _ _ (.d (by first | (constructor <;> assumption) | assumption)) rfl rfl
    | tup => exact one _ _ (.d (by first | (constructor <;> assumption) | assumption)) rfl rfl
    | fn => exact one _ _ (.d (by first | (constructor <;> assumption) | assumption)) rfl rfl
    | ifc => exact one _ _ (.d (by first | (constructor <;> assumption) | assumption)) rfl rfl
  | osl hb hl hlo hex hs => exact one _ _ (.osl hb hl hlo hex hs) rfl rfl
  | optr hb => exact one _ _ (.optr hb) rfl rfl
  | tup hn hx => exact one _ _ (.tup hn hx) rfl rfl
  | agg hn hx => exact ⟨by simpa [cellsX, Value.cells] using hn, fun i u y hu hy => hx i u y hu hy⟩
  | fn h1 h2 h3 h4 => exact one _ _ (.fn h1 h2 h3 h4) rfl rfl
  | ifc h => exact one _ _ (.ifc h) rfl rfl

theorem oneX_rep {F : Nat → Prop} {v : Value} {x : XV} (h : XRep w ι F v x) (h1 : oneX x = true) : v.oneCell' = true := by
  cases h with
  | d h => cases h <;> first | rfl | (simp [oneX] at h1; done) | (simpa [oneX] using h1)
  | _ => first | rfl | (simp [oneX] at h1)

/-- Cells of the world that stand for a list. -/
structure Cells (w : World) (ι : List Nat) (F : Nat → Prop) (b off : Nat) (vs : List Value) (cs : List XV) : Prop where
  len : vs.length = cs.length
  cell : ∀ (i : Nat) (v : Value), vs[i]? = some v → w.cell? ⟨b, off + i, none⟩ = some v
  rep : ∀ (i : Nat) (v : Value) (x : XV), vs[i]? = some v → cs[i]? = some x → XRep w ι F v x

theorem Cells.take {F : Nat → Prop} {b off : Nat} {vs : List Value} {cs : List XV} (h : Cells w ι F b off vs cs) (n : Nat) : Cells w ι F b off (vs.take n) (cs.take n) := by
  refine ⟨by simp [h.len], fun i v hv => h.cell i v ?_, fun i v x hv hx => h.rep i v x ?_ ?_⟩
  · rw [List.getElem?_take] at hv; split at hv <;> first | exact hv | cases hv
  · rw [List.getElem?_take] at hv; split at hv <;> first | exact hv | cases hv
  · rw [List.getElem?_take] at hx; split at hx <;> first | exact hx | cases hx

theorem Cells.drop {F : Nat → Prop} {b off : Nat} {vs : List Value} {cs : List XV} (h : Cells w ι F b off vs cs) (n : Nat) : Cells w ι F b (off + n) (vs.drop n) (cs.drop n) := by
  refine ⟨by simp [h.len], fun i v hv => ?_, fun i v x hv hx => h.rep (n + i) v x ?_ ?_⟩
  · rw [List.getElem?_drop] at hv
    have := h.cell _ _ hv
    rwa [Nat.add_assoc]
  · rwa [List.getElem?_drop] at hv
  · rwa [List.getElem?_drop] at hx

theorem add_lit' (b off i : Nat) : (⟨b, off, none⟩ : Addr).add i = ⟨b, off + i, none⟩ := by
  unfold Addr.add; split
  · rename_i h; subst h; rfl
  · rfl

theorem addr_eta {a : Addr} (h : a.spot = none) : a = ⟨a.block, a.off, none⟩ := by cases a; simp at h; subst h; rfl

theorem underlying_of_isAggT {t : TypeId} {b : Bool} (h : isAggT P t = some b) (w : World) : (isAgg t).run P w = .ok b w := by
  unfold isAggT at h
  cases hu : P.underlying t with
  | none => rw [hu] at h; simp at h
  | some d =>
    rw [hu] at h
    unfold isAgg
    rw [Sem.run_bind, run_underlying hu]
    cases d <;> simp at h <;> subst h <;> simp

theorem run_sizeOf' {t : TypeId} {n : Nat} (h : sizeT P t = some n) (w : World) : (sizeOf t).run P w = .ok n w := by
  unfold sizeT at h
  cases hi : P.info? t with
  | none => rw [hi] at h; simp at h
  | some i => rw [hi] at h; simp at h; subst h; simp [sizeOf, typeInfo, hi]

/-- A variable that is read. -/
theorem allD_eq : ∀ {xs : List XV} {ds : List DV}, allD xs = some ds → xs = ds.map .d
  | [], ds, h => by simp [allD] at h; subst h; rfl
  | .d x :: xs, ds, h => by
    simp only [allD, Option.map_eq_some_iff] at h
    obtain ⟨es, he, rfl⟩ := h
    rw [allD_eq he]; rfl
  | .osl .. :: _, _, h => by simp [allD] at h
  | .optr .. :: _, _, h => by simp [allD] at h
  | .tup .. :: _, _, h => by simp [allD] at h
  | .agg .. :: _, _, h => by simp [allD] at h
  | .fn .. :: _, _, h => by simp [allD] at h
  | .ifc .. :: _, _, h => by simp [allD] at h

theorem XRep.deep {F : Nat → Prop} {v : Value} {x : DV} (h : XRep w ι F v (.d x)) : DRep w F v x := by cases h; assumption

theorem aggX_rep {F : Nat → Prop} {vs : Array Value} {xs : List XV} (hn : vs.size = xs.length) (hx : ∀ (i : Nat) (v : Value) (x : XV), vs[i]? = some v → xs[i]? = some x → XRep w ι F v x) : XRep w ι F (.agg vs) (aggX xs) := by
  unfold aggX
  split
  · rename_i ds hd
    have := allD_eq hd
    subst this
    refine .d (.agg (by simpa using hn) fun i v x hv hd' => (hx i v (.d x) hv ?_).deep)
    rw [List.getElem?_map, hd']; rfl
  · exact .agg hn hx

theorem loadVar_sound {F : Nat → Prop} {t : TypeId} {b off : Nat} {vs : List Value} {cs : List XV} (hc : Cells w ι F b off vs cs) {x : XV} (h : takeVar P t cs = some x) :
    ∃ v, (loadVar t ⟨b, off, none⟩).run P w = .ok v w ∧ XRep w ι F v x := by
  unfold takeVar at h
  split at h
  · rename_i n ha hs
    split at h
    · rename_i hle
      cases h
      have ht := hc.take n
      have hr := run_loadCells_list (P := P) w ⟨b, off, none⟩ (vs.take n) (fun j v hv => by rw [add_lit']; exact ht.cell j v hv)
      have hlen : (vs.take n).length = n := by rw [List.length_take, hc.len]; omega
      rw [hlen] at hr
      refine ⟨.agg (vs.take n).toArray, ?_, aggX_rep (by rw [List.size_toArray]; exact ht.len) (fun i v x hv hx => ht.rep i v x (by simpa using hv) hx)⟩
      unfold loadVar
      simp [Sem.run_bind, underlying_of_isAggT ha, run_sizeOf' hs, hr]
    · cases h
  · rename_i ha
    cases cs with
    | nil => simp at h
    | cons y cs =>
      simp at h; subst h
      cases vs with
      | nil => have := hc.len; simp at this
      | cons v vs =>
        refine ⟨v, ?_, hc.rep 0 v y rfl rfl⟩
        have hcell := hc.cell 0 v rfl
        unfold loadVar
        simp [Sem.run_bind, underlying_of_isAggT ha]
        rw [show (⟨b, off, none⟩ : Addr) = ⟨b, off + 0, none⟩ from rfl, hcell]
  · cases h

/-- An object's cells, as they lie in the world. -/
theorem Mem.cells (hm : Mem M W0 ι σ w) {id b : Nat} {ob : VObj} (ho : σ[id]? = some ob) (hb : ι[id]? = some b) (h2 : ob.mode ≠ 2) :
    ∃ cur ty, w.heap[b]? = some (.cells cur ty (0, 0)) ∧ ob.cells.length ≤ cur.size ∧ Cells w ι (Forb M ι σ) b 0 (cur.toList.take ob.cells.length) ob.cells := by
  obtain ⟨cur, ty, k1, k2, k3⟩ := hm.objs id ob b ho hb h2
  refine ⟨cur, ty, k1, k2, by simp; omega, fun i v hv => ?_, fun i v x hv hx => ?_⟩
  · rw [List.getElem?_take] at hv
    split at hv
    · simp [World.cell?, k1]; simpa using hv
    · cases hv
  · obtain ⟨u, ku, kx⟩ := k3 i x hx
    rw [List.getElem?_take] at hv
    split at hv
    · rw [Array.getElem?_toList, ku] at hv; cases hv; exact kx
    · cases hv

theorem Cells.of_d {F : Nat → Prop} {b off : Nat} {vs : List Value} {cs : List DV} (hn : vs.length = cs.length) (hcell : ∀ (i : Nat) (v : Value), vs[i]? = some v → w.cell? ⟨b, off + i, none⟩ = some v)
    (hx : ∀ (i : Nat) (v : Value) x, vs[i]? = some v → cs[i]? = some x → DRep w F v x) : Cells w ι F b off vs (cs.map .d) := by
  refine ⟨by simpa using hn, hcell, fun i v x hv hx' => ?_⟩
  simp only [List.getElem?_map, Option.map_eq_some_iff] at hx'
  obtain ⟨z, hz, rfl⟩ := hx'
  exact .d (hx i v z hv hz)

theorem takeVar_ne {t : TypeId} {x : XV} (h : takeVar P t [] = some x) : ∃ n, isAggT P t = some true ∧ sizeT P t = some n ∧ n = 0 ∧ x = .d (.agg []) := by
  unfold takeVar at h
  split at h
  · rename_i n ha hs
    split at h
    · rename_i hle
      cases h
      simp at hle
      exact ⟨n, ha, hs, hle, by simp [aggX, allD]⟩
    · cases h
  · simp at h
  · cases h

theorem opLoad_sound (hm : Mem M W0 ι σ w) {t : TypeId} {v : Value} {x : XV} (hx : XRep w ι (Forb M ι σ) v x) {r : XV × Nat} (h : opLoad P σ t x = some r) :
    ∃ u, (Instr.loadAt t v).run P w = .ok u w ∧ XRep w ι (Forb M ι σ) u r.1 := by
  unfold opLoad at h
  split at h
  · rename_i cs
    simp only [Option.map_eq_some_iff] at h
    obtain ⟨y, hy, rfl⟩ := h
    cases hx with
    | d hx => cases hx with
      | @ptr a _ vs hn ha hcell hxx =>
        by_cases hne : cs = []
        · subst hne
          obtain ⟨n, h1, h2, rfl, rfl⟩ := takeVar_ne hy
          refine ⟨.agg #[], ?_, .d (.agg rfl (fun i v x hv _ => by simp at hv))⟩
          simp [Instr.loadAt, Instr.sureAddr, loadVar, Sem.run_bind, underlying_of_isAggT h1, run_sizeOf' h2, loadCells, loadCellsFrom]
        · have hspot := (ha hne).1
          obtain ⟨u, h1, h2⟩ := loadVar_sound (P := P) (Cells.of_d (ι := ι) hn hcell hxx) hy
          refine ⟨u, ?_, h2⟩
          simp only [Instr.loadAt, Instr.sureAddr, Sem.run_bind, Sem.run_pure, Result.andThen_ok]
          rw [addr_eta hspot]; exact h1
  · rename_i id off
    split at h
    · rename_i ob ho
      split at h
      · cases h
      · rename_i h2
        simp only [Option.map_eq_some_iff] at h
        obtain ⟨y, hy, rfl⟩ := h
        cases hx with
        | optr hb =>
          obtain ⟨cur, ty, _, _, hc⟩ := hm.cells ho hb h2
          have hc' := hc.drop off
          rw [Nat.zero_add] at hc'
          obtain ⟨u, h1, h2⟩ := loadVar_sound (P := P) hc' hy
          refine ⟨u, ?_, h2⟩
          simp only [Instr.loadAt, Instr.sureAddr, Sem.run_bind, Sem.run_pure, Result.andThen_ok]
          exact h1
    · cases h
  · cases h

theorem opStore_sound (hm : Mem M W0 ι σ w) {t : TypeId} {va vx : Value} {a x : XV} (ha : XRep w ι (Forb M ι σ) va a) (hx : XRep w ι (Forb M ι σ) vx x) {σ' : List VObj}
    (h : opStore P σ t a x = some σ') : ∃ (ι' : List Nat) (w' : World), (Instr.storeAt t va vx).run P w = .ok () w' ∧ Mem M W0 ι' σ' w' ∧ Ext M ι σ w ι' σ' w' := by
  unfold opStore at h
  split at h
  · rename_i id off
    split at h
    · rename_i ob ho
      split at h
      · rename_i hc
        cases h
        obtain ⟨h0, hs, hfit, hone⟩ := hc
        cases ha with
        | @optr b _ _ hb =>
          obtain ⟨cur, ty, k1, k2, hcs⟩ := hm.cells ho hb (by omega)
          obtain ⟨e1, e2⟩ := cellsX_rep hx
          obtain ⟨hmem, hext⟩ := hm.write ho hb h0 k1 off vx.cells.toList (cellsX x) (by simpa using e1) hfit (fun i v y hv hy => e2 i v y (by simpa using hv) hy)
          refine ⟨ι, _, ?_, hmem, hext⟩
          have hst := run_storeCells_at P b off ty vx.cells.toList 0 cur w k1 (by simp [e1]; omega) (fun v hv => by
            obtain ⟨i, hi⟩ := List.getElem?_of_mem hv
            have hlt : i < (cellsX x).length := by rw [← e1]; have := (List.getElem?_eq_some_iff.1 hi).1; simpa using this
            exact oneX_rep (e2 i v _ (by simpa using hi) (List.getElem?_eq_getElem hlt)) (List.all_eq_true.1 hone _ (List.getElem_mem hlt)))
          simp only [Nat.add_zero] at hst
          simp only [Instr.storeAt, Instr.sureAddr, Sem.run_bind, Sem.run_pure, Result.andThen_ok, storeVar, run_sizeOf' hs]
          rw [if_neg (by simpa using e1)]
          exact hst
      · cases h
    · cases h
  · cases h

end
end Go.Vm

