import Derived.Test.YteednkolfnjdoaaDoorCyY
import Derived.MapKept
import Derived.Laws.RangeString
import Derived.Lib.SliceRun
import Derived.WideKeyArr
import Derived.StringKeys
import Derived.Laws.Strings
import Derived.Laws.Closers25b
section
/-
  VALUES WITHOUT ADDRESSES, 30: maps whose keys are strings, walks over strings, checks for nil.
-/
namespace Go.Vm
open Go.RowKit

/-- The entries of a map of the call's own. -/
def entsX (names : List ByteArray) (xs : List XV) : List XV := List.zipWith (fun k x => XV.ent (.string k) x) names xs

theorem entsX_get {names : List ByteArray} {xs : List XV} (_ : names.length = xs.length) {i : Nat} {c : XV} (hc : (entsX names xs)[i]? = some c) : ∃ k x, names[i]? = some k ∧ xs[i]? = some x ∧ c = XV.ent (.string k) x := by
  unfold entsX at hc
  rw [List.getElem?_zipWith] at hc
  split at hc
  · rename_i k x h1 h2; cases hc; exact ⟨k, x, h1, h2, rfl⟩
  · cases hc

theorem entsX_len {names : List ByteArray} {xs : List XV} (h : names.length = xs.length) : (entsX names xs).length = names.length := by
  simp [entsX, h]

section
variable {P : Program} {σ : List VObj} {kn : Kn} {dst : Option Tmp} {ty : TypeId} {pos : String} {af : Array Edge} {g : Option (Nat × Bool)}

theorem K.semP {o : Oper} {x : XV} (hs : ∀ env, Agree kn env → ∀ (F : Nat → Prop) (ι : List Nat) (w : World) (ev : Operand → Value), (∀ y ∈ o.op.operands, XRep w ι F (ev y) (evalX env y)) → ∃ v, (execOp ev o).run P w = .ok (.value v) w ∧ XRep w ι F v x) : KEv P o σ kn x σ 0 :=
  fun env he => .semP (s := ⟨σ, env⟩) (hs env he)

theorem K.semG {o : Oper} {x : XV} {τ : List VObj} (hs : ∀ env, Agree kn env → ∀ (M : Nat → Prop) (W0 : World) (ι : List Nat) (w : World) (ev : Operand → Value), Mem M W0 ι σ w → (∀ y ∈ o.op.operands, XRep w ι (Forb M ι σ) (ev y) (evalX env y)) → Good P M W0 ι σ w (execOp ev o) x (σ ++ τ)) : KEv P o σ kn x (σ ++ τ) 3 :=
  fun env he => .semG (s := ⟨σ, env⟩) (hs env he)

theorem K.semW {o : Oper} {x : XV} {σ' : List VObj} (hs : ∀ env, Agree kn env → ∀ (M : Nat → Prop) (W0 : World) (ι : List Nat) (w : World) (ev : Operand → Value), Mem M W0 ι σ w → (∀ y ∈ o.op.operands, XRep w ι (Forb M ι σ) (ev y) (evalX env y)) → Good P M W0 ι σ w (execOp ev o) x σ') : KEv P o σ kn x σ' 2 :=
  fun env he => .semW (s := ⟨σ, env⟩) (hs env he)

theorem K.makeMap {t : TypeId} : KEv P ⟨dst, .makeMap t none, ty, pos, af, g⟩ σ kn (.omp σ.length) (σ ++ [⟨[], 3⟩]) 3 := by
  refine K.semG fun env he M W0 ι w ev hm h => ?_
  obtain ⟨m1, m2⟩ := hm.pushS (.map #[] 0) 3 [] (by omega) (fun w' hw => .inl ⟨.inl rfl, #[], 0, hw, rfl, fun i e c hi => by simp at hi⟩)
  refine ⟨_, _, .map (some w.heap.size), .inl ?_, m1, m2, .omp (by simp [hm.len])⟩
  simp [execOp, Instr.makeMap, Result.andThen]

theorem isKey_string (k : ByteArray) : MapKept.IsKey .string (.string k) := trivial

/-- An entry that is added to a map of the call's own. -/
theorem run_mapNew {w : World} {mty kt et : TypeId} {r : Nat} {es : Array MapEntry} {clock : Nat} {k : ByteArray} {v : Value} (hm : P.underlying mty = some (.map kt et)) (hd : P.underlying kt = some .string)
    (hb : w.heap[r]? = some (.map es clock)) (hks : ∀ x ∈ es.toList, ∃ k, x.key = .string k) (hne : ∀ x ∈ es.toList, x.key ≠ .string k) :
    (Instr.mapUpdate mty (.map (some r)) (.string k) v).run P w = .ok () (World.setObj' w r (.map (es.push { key := .string k, val := v, born := clock }) (clock + 1))) := by
  have hks' : ∀ x ∈ es.toList, MapKept.IsKey .string x.key := fun x hx => by obtain ⟨k, e⟩ := hks x hx; rw [e]; trivial
  rcases MapKept.findNow_spec (isKey_string k) es.toList 0 hks' with ⟨h1, _⟩ | ⟨j, e, _, h2, h3⟩
  · simp [Instr.mapUpdate, run_underlying hm, MapKept.run_getObj_map hb, MapKept.run_checkKey hd (isKey_string k), MapKept.run_findKey hd h1, MapKept.run_setObj_map _ hb, Result.andThen, World.setObj']
  · exact absurd h3 (hne e (List.mem_of_getElem? h2))

theorem good_mapNew {mty kt et : TypeId} {m key val : Operand} {id : Nat} {names : List ByteArray} {xs : List XV} {k : ByteArray} {x : XV} (hm : evK kn m = some (.omp id)) (ho : σ[id]? = some ⟨entsX names xs, 3⟩) (hl : names.length = xs.length)
    (hk : evK kn key = some (.d (.lit (.string k)))) (hv : evK kn val = some x) (hne : k ∉ names) (ht : P.underlying mty = some (.map kt et)) (hd : P.underlying kt = some .string) {env : Nat → XV} (he : Agree kn env)
    {M : Nat → Prop} {W0 : World} {ι : List Nat} {w : World} {ev : Operand → Value} (hM : Mem M W0 ι σ w) (h1 : XRep w ι (Forb M ι σ) (ev m) (evalX env m)) (h2 : XRep w ι (Forb M ι σ) (ev key) (evalX env key)) (h3 : XRep w ι (Forb M ι σ) (ev val) (evalX env val))
    {o : Oper} (hex : execOp ev o = (do Instr.mapUpdate mty (ev m) (ev key) (ev val); pure .skip)) : Good P M W0 ι σ w (execOp ev o) undefX (σ.set id ⟨entsX (names ++ [k]) (xs ++ [x]), 3⟩) := by
  rw [evK_evalX he hm] at h1
  rw [evK_evalX he hk] at h2
  rw [evK_evalX he hv] at h3
  rw [hex]
  generalize ev m = vm at *
  generalize ev key = vk at *
  generalize ev val = vv at *
  cases h1 with
  | @omp b _ hb =>
  cases h2 with
  | d h2 =>
  cases h2 with
  | lit =>
  rcases hM.spec id _ b ho hb (by simp) with ⟨_, es, clock, q1, q2, q3⟩ | ⟨q, _⟩ | ⟨q, _⟩
  · have hent : ∀ (i : Nat) (e : MapEntry), es[i]? = some e → ∃ k y, names[i]? = some k ∧ xs[i]? = some y ∧ e.key = .string k ∧ XRep w ι (Forb M ι σ) e.val y := fun i e hi => by
      have hlt : i < (entsX names xs).length := by rw [← q2]; exact (Array.getElem?_eq_some_iff.1 hi).1
      obtain ⟨y, e1, e2⟩ := q3 i e _ hi (List.getElem?_eq_getElem hlt)
      obtain ⟨k', y', a1, a2, a3⟩ := entsX_get hl (List.getElem?_eq_getElem hlt)
      rw [a3] at e1
      simp only [XV.ent, XV.tup.injEq, List.cons.injEq, XV.d.injEq, DV.lit.injEq, and_true] at e1
      exact ⟨k', y', a1, a2, e1.1.symm, by rw [e1.2]; exact e2⟩
    have hmem : ∀ x ∈ es.toList, ∃ k', x.key = .string k' ∧ k' ∈ names := fun x hx => by
      obtain ⟨i, hi⟩ := List.getElem?_of_mem hx
      obtain ⟨k', y, a1, _, a3, _⟩ := hent i x (by simpa using hi)
      exact ⟨k', a3, List.mem_of_getElem? a1⟩
    obtain ⟨w1, w2⟩ := hM.writeS ho hb (.inl rfl) (.map (es.push { key := .string k, val := vv, born := clock }) (clock + 1)) (fun _ _ _ e => by cases e) (entsX (names ++ [k]) (xs ++ [x])) (fun w' σ' hext hw => by
      refine .inl ⟨.inl rfl, _, _, hw, ?_, fun i e c hi hc => ?_⟩
      · rw [entsX_len (by simp [hl])]; rw [Array.size_push, q2, entsX_len hl]; simp
      · obtain ⟨k', y, a1, a2, rfl⟩ := entsX_get (by simp [hl]) hc
        rw [Array.getElem?_push] at hi
        rw [entsX_len hl] at q2
        split at hi
        · rename_i e1
          cases hi
          have hn : names.length = i := by omega
          subst hn
          rw [List.getElem?_append_right (Nat.le_refl _)] at a1
          rw [List.getElem?_append_right (by omega), hl] at a2
          simp only [Nat.sub_self, List.getElem?_cons_zero, Option.some.injEq] at a1 a2
          subst a1; subst a2
          exact ⟨x, rfl, h3.ext hext⟩
        · obtain ⟨k2, y2, b1, b2, b3, b4⟩ := hent i e hi
          have hn : i < names.length := (List.getElem?_eq_some_iff.1 b1).1
          rw [List.getElem?_append_left hn, b1] at a1
          rw [List.getElem?_append_left (by omega), b2] at a2
          cases a1; cases a2
          exact ⟨y, by rw [b3], b4.ext hext⟩)
    refine ⟨ι, _, undef, .inr ⟨?_, rfl⟩, w1, w2, .d (.lit _)⟩
    have hr := run_mapNew (P := P) (v := vv) ht hd q1 (fun x hx => by obtain ⟨k', e, _⟩ := hmem x hx; exact ⟨k', e⟩) (k := k) (fun x hx e => by
      obtain ⟨k', e', hmm⟩ := hmem x hx
      rw [e'] at e
      cases e
      exact hne hmm)
    simp [hr, Result.andThen]
  · simp at q
  · simp at q

theorem not_mem_of_all {names : List ByteArray} {k : ByteArray} (h : names.all (fun x => !decide (x = k)) = true) : k ∉ names := fun hm => by
  have := List.all_eq_true.1 h k hm
  simp at this

theorem K.insert {mty kt et : TypeId} {m key val : Operand} {id : Nat} {names : List ByteArray} {xs : List XV} {k : ByteArray} {x : XV} (hm : evK kn m = some (.omp id)) (ho : σ[id]? = some ⟨entsX names xs, 3⟩) (hl : names.length = xs.length)
    (hk : evK kn key = some (.d (.lit (.string k)))) (hv : evK kn val = some x) (hne : names.all (fun x => !decide (x = k)) = true) (ht : P.underlying mty = some (.map kt et)) (hd : P.underlying kt = some .string) :
    KEv P ⟨dst, .insert mty m key val, ty, pos, af, g⟩ σ kn undefX (σ.set id ⟨entsX (names ++ [k]) (xs ++ [x]), 3⟩) 2 :=
  K.semW fun _ he _ _ _ _ _ hM h => good_mapNew hm ho hl hk hv (not_mem_of_all hne) ht hd he hM (h m (by simp [Op.operands])) (h key (by simp [Op.operands])) (h val (by simp [Op.operands])) rfl

end
end Go.Vm

end
section
/-
  RULES: clear of an own slice of whole numbers, parts of own slices, a slice without its first element.
-/
namespace Go.Vm
open Go.RowKit
section
variable {P : Program} {σ : List VObj} {kn : Kn} {dst : Option Tmp} {ty : TypeId} {pos : String} {af : Array Edge} {g : Option (Nat × Bool)}

/-- A struct that is built, of plain values or not. -/
theorem K.buildS {t : TypeId} {parts : Array (Nat × Operand)} {qs : List (Nat × XV)} {r : XV} (hp : parts.toList.mapM (fun p => (evK kn p.2).map fun v => (p.1, v)) = some qs) (hr : opBuild P t qs = some r) : KEv P ⟨dst, .build t parts, ty, pos, af, g⟩ σ kn r σ 0 := by
  refine K.semP fun env he F ι w ev h => ?_
  have hex : ∀ ev : Operand → Value, execOp ev ⟨dst, .build t parts, ty, pos, af, g⟩ = (do pure (.value (← Instr.build t (parts.map fun (i, x) => (i, ev x))))) := fun _ => rfl
  rw [hex]
  obtain ⟨h1, h2⟩ := mapM_get hp
  obtain ⟨v, k1, k2⟩ := opBuild_sound (P := P) (w := w) (ι := ι) (F := F) (ps := (parts.map fun p => (p.1, ev p.2)).toList) (by simpa using h1) (fun i p q hpi hqi => by
    simp only [Array.toList_map, List.getElem?_map, Option.map_eq_some_iff] at hpi
    obtain ⟨p', hp', rfl⟩ := hpi
    have h3 := h2 i p' q hp' hqi
    obtain ⟨u, hu, rfl⟩ := Option.map_eq_some_iff.1 h3
    refine ⟨rfl, ?_⟩
    have := h p'.2 (by
      simp only [Op.operands, List.mem_toArray, List.mem_map]
      exact ⟨p', List.mem_of_getElem? hp', rfl⟩)
    rw [evK_evalX he hu] at this
    exact this) hr
  refine ⟨v, ?_, k2⟩
  rw [Array.toArray_toList] at k1
  simp [k1, Result.andThen]

/-- A call of a function value with what it brings. -/
theorem K.callC {c : Operand} {v : XV} {f : FuncId} {args : Array Operand} {ts : Array TypeId} {ds cs : List DV} {res : DV} (hv : evK kn c = some v) (hf : asFn v = some (f, [], cs.map .d)) (ha : args.toList.mapM (evK kn) = some (ds.map .d))
    (hp : plainFn P f = true) (hc : DeepCall P f (ds ++ cs) res) : KEv P ⟨dst, .call ⟨.value c, args, ts⟩, ty, pos, af, g⟩ σ kn (.d res) σ 0 := fun env he =>
  .call (first := []) (caps := cs.map .d) rfl (by rw [evK_evalX he hv]; exact hf) hp (by rw [mapM_evK he ha]; simp) hc
/-- One result, that lies in a variable. -/
theorem resK_c {fn : Func} {a t id m md : Nat} (ds : List DV) (hr : fn.results = #[.cell a t]) (hl : look kn a = some (.optr id 0)) (ho : σ[id]? = some ⟨ds.map .d, md⟩) (h2 : md < 2) (ha : isAggT P t = some true) (hs : sizeT P t = some m) (hm : ds.length = m) :
    resK P fn σ kn = some (.d (.agg ds)) := by
  have := resK_agg (m := m) hr hl ho h2 ha hs (by simp; omega)
  rwa [List.drop_zero, List.take_of_length_le (by simp; omega), aggX_d] at this
/-- A part of an own variable of plain cells. -/
theorem K.loadOP {x : Operand} {t : TypeId} {id off m md : Nat} (ds : List DV) (hx : evK kn x = some (.optr id off)) (ho : σ[id]? = some ⟨ds.map .d, md⟩) (h2 : md < 2) (ha : isAggT P t = some true) (hs : sizeT P t = some m) (hm : off + m ≤ ds.length) :
    KEv P ⟨dst, .load t x, ty, pos, af, g⟩ σ kn (.d (.agg ((ds.drop off).take m))) σ 1 := by
  have h := K.loadOAgg (dst := dst) (ty := ty) (pos := pos) (af := af) (g := g) hx ho h2 ha hs (by simp; omega)
  rwa [← List.map_drop, ← List.map_take, aggX_d] at h

end
section
variable {P : Program} {n : Nat} {ops : Array Oper} {l : List Oper} {σ : List VObj} {kn : Kn} {dst : Option Tmp} {ty : TypeId} {pos : String} {af : Array Edge} {g : Option (Nat × Bool)}
  {R : List Nat → List VObj → Kn → Prop}
/-- All cells of a variable are written. -/
theorem KT.putAll {x y : Operand} {t : TypeId} {id : Nat} {cells cs : List XV} {v : XV} (hg : guardK ops kn ⟨dst, .store t x y, ty, pos, af, g⟩ = some true) (hd : dstOk n dst = true) (hx : evK kn x = some (.optr id 0)) (hy : evK kn y = some v)
    (ho : σ[id]? = some ⟨cells, 0⟩) (hc : cellsX v = cs) (hz : cells.length = cs.length) (h1 : cs.all oneX = true) (hs : sizeT P t = some cs.length)
    (h : KT P n ops l (σ.set id ⟨cs, 0⟩) (extK dst undefX kn) (fun fls τ k => R (2 :: fls) τ k)) :
    KT P n ops (⟨dst, .store t x y, ty, pos, af, g⟩ :: l) σ kn R := by
  subst hc
  refine KT.step hg hd (K.storeN hx hy ho (by omega) h1 hs) ?_
  rw [splice_all hz]
  exact h
end
end Go.Vm

end
section
/-
  VALUES WITHOUT ADDRESSES: maps of the call's own with any keys that Go compares plainly: looked up, put, deleted, counted; a map that is only read.
-/
namespace Go.Vm
open Go.RowKit

/-- Which values are keys, and that Go finds them. -/
structure KeyR (P : Program) (kt : TypeId) (K : Value → Prop) : Prop where
  check : ∀ (w : World) (em : Bool) (v : Value), K v → (Instr.checkKey em 10000 kt v).run P w = .ok () w
  find : ∀ (w : World) (x : Value), K x → ∀ es : List MapEntry, (∀ e ∈ es, K e.key) →
    ((Instr.findKey kt x es).run P w = .ok none w ∧ ∀ e ∈ es, e.key ≠ x) ∨ ∃ j e, (Instr.findKey kt x es).run P w = .ok (some (j, e.val)) w ∧ es[j]? = some e ∧ e.key = x
  stays : ∀ (w : World) (v : Value), K v → (Instr.keyThatStays v v).run P w = .ok v w

theorem KeyR.plain {P : Program} {kt : TypeId} {d : TypeDesc} (hd : P.underlying kt = some d) : KeyR P kt (MapKept.IsKey d) where
  check w em v h := MapKept.run_checkKey hd h em 9999
  find w x hx es hes := by
    rcases MapKept.findNow_spec hx es 0 hes with ⟨h1, h2⟩ | ⟨j, e, h1, h2, h3⟩
    · exact .inl ⟨MapKept.run_findKey hd h1, h2⟩
    · exact .inr ⟨j, e, by have := MapKept.run_findKey (P := P) (w := w) hd h1; simpa using this, h2, h3⟩
  stays w v h := MapKept.run_keyThatStays h

theorem KeyR.law {P : Program} {kt : TypeId} (L : WideMaps.KeyLaw P kt) : KeyR P kt (fun v => ∃ l, keyOf P kt v = some l) where
  check w em v h := by obtain ⟨l, h⟩ := h; exact L.check w em h
  find w x hx es hes := by obtain ⟨l, hx⟩ := hx; exact L.find w hx es hes
  stays w v h := by obtain ⟨l, h⟩ := h; exact L.stays w h

theorem KeyR.sub {P : Program} {kt : TypeId} {K K' : Value → Prop} (h : KeyR P kt K) (hs : ∀ v, K' v → K v) : KeyR P kt K' where
  check w em v hv := h.check w em v (hs v hv)
  find w x hx es hes := h.find w x (hs x hx) es fun e he => hs _ (hes e he)
  stays w v hv := h.stays w v (hs v hv)

/-- The entries of a map of the call's own. -/
def entX (l : List (Value × XV)) : List XV := l.map fun p => XV.ent p.1 p.2

structure RepX (w : World) (ι : List Nat) (F : Nat → Prop) (es : Array MapEntry) (l : List (Value × XV)) : Prop where
  size : es.size = l.length
  get : ∀ (i : Nat) (e : MapEntry), es[i]? = some e → ∃ p, l[i]? = some p ∧ e.key = p.1 ∧ XRep w ι F e.val p.2

section
variable {w : World} {ι : List Nat} {F : Nat → Prop} {es : Array MapEntry} {l : List (Value × XV)} {K : Value → Prop}

theorem RepX.keys (h : RepX w ι F es l) (hK : ∀ p ∈ l, K p.1) : ∀ e ∈ es.toList, K e.key := fun x hx => by
  obtain ⟨i, hi⟩ := List.getElem?_of_mem hx
  obtain ⟨p, a, b, _⟩ := h.get i x (by simpa using hi)
  rw [b]; exact hK p (List.mem_of_getElem? a)

theorem RepX.none (h : RepX w ι F es l) {k : Value} (hk : ∀ e ∈ es.toList, e.key ≠ k) : ∀ p ∈ l, p.1 ≠ k := fun p hp e => by
  obtain ⟨i, hi⟩ := List.getElem?_of_mem hp
  have hlt : i < es.size := by rw [h.size]; exact (List.getElem?_eq_some_iff.1 hi).1
  obtain ⟨q, a, b, _⟩ := h.get i es[i] (Array.getElem?_eq_getElem hlt)
  rw [hi] at a; cases a
  exact hk es[i] (by simp) (b.trans e)

theorem RepX.spec (h : RepX w ι F es l) {b clock mode : Nat} (hm : mode = 3 ∨ mode = 4) (hb : w.heap[b]? = some (.map es clock)) : Spec w ι F b mode (entX l) :=
  .inl ⟨hm, es, clock, hb, by rw [h.size]; simp [entX], fun i e c hi hc => by
    obtain ⟨p, h1, h2, h3⟩ := h.get i e hi
    unfold entX at hc
    rw [List.getElem?_map, h1] at hc
    cases hc
    exact ⟨p.2, by rw [h2], h3⟩⟩

theorem Spec.repX {b mode : Nat} (hm : mode = 3 ∨ mode = 4) (h : Spec w ι F b mode (entX l)) : ∃ es clock, w.heap[b]? = some (.map es clock) ∧ RepX w ι F es l := by
  rcases h with ⟨_, es, clock, q1, q2, q3⟩ | ⟨q, _⟩ | ⟨q, _⟩
  · refine ⟨es, clock, q1, by rw [q2]; simp [entX], fun i e hi => ?_⟩
    have hlt : i < l.length := by
      have := (Array.getElem?_eq_some_iff.1 hi).1
      rw [q2] at this; simpa [entX] using this
    obtain ⟨x, e1, e2⟩ := q3 i e _ hi (by unfold entX; rw [List.getElem?_map, List.getElem?_eq_getElem hlt]; rfl)
    simp only [XV.ent, XV.tup.injEq, List.cons.injEq, XV.d.injEq, DV.lit.injEq, and_true] at e1
    exact ⟨l[i], List.getElem?_eq_getElem hlt, e1.1.symm, by rw [e1.2]; exact e2⟩
  · omega
  · omega

theorem RepX.ext {M : Nat → Prop} {σ σ' : List VObj} {ι' : List Nat} {w' : World} (h : RepX w ι (Forb M ι σ) es l) (e : Ext M ι σ w ι' σ' w') : RepX w' ι' (Forb M ι' σ') es l :=
  ⟨h.size, fun i x hi => let ⟨p, a, b, c⟩ := h.get i x hi; ⟨p, a, b, c.ext e⟩⟩

theorem RepX.push (h : RepX w ι F es l) {k v : Value} {x : XV} {clock : Nat} (hx : XRep w ι F v x) : RepX w ι F (es.push { key := k, val := v, born := clock }) (l ++ [(k, x)]) := by
  refine ⟨by simp [h.size], fun i e hi => ?_⟩
  rw [Array.getElem?_push] at hi
  split at hi
  · rename_i e1
    cases hi
    exact ⟨(k, x), by rw [e1, h.size]; simp, rfl, hx⟩
  · obtain ⟨p, h1, h2⟩ := h.get i e hi
    exact ⟨p, by rw [List.getElem?_append_left (List.getElem?_eq_some_iff.1 h1).1]; exact h1, h2⟩

theorem RepX.modify (h : RepX w ι F es l) {k v : Value} {x : XV} {j : Nat} (hx : XRep w ι F v x) : RepX w ι F (es.modify j fun e => { e with key := k, val := v }) (l.set j (k, x)) := by
  refine ⟨by simp [h.size], fun i e hi => ?_⟩
  rw [Array.getElem?_modify] at hi
  have hlt : i < l.length := by
    rw [← h.size]
    have := hi
    split at this
    · obtain ⟨a, ha, _⟩ := Option.map_eq_some_iff.1 this
      exact (Array.getElem?_eq_some_iff.1 ha).1
    · exact (Array.getElem?_eq_some_iff.1 this).1
  rw [List.getElem?_set]
  by_cases e1 : j = i
  · rw [if_pos e1] at hi
    obtain ⟨a, _, rfl⟩ := Option.map_eq_some_iff.1 hi
    subst e1
    exact ⟨(k, x), by rw [if_pos rfl, if_pos hlt], rfl, hx⟩
  · rw [if_neg e1] at hi
    rw [if_neg e1]
    exact h.get i e hi

theorem RepX.erase (h : RepX w ι F es l) {j : Nat} (hj : j < l.length) : RepX w ι F (es.eraseIdxIfInBounds j) (l.eraseIdx j) := by
  have hlt : j < es.size := by rw [h.size]; exact hj
  unfold Array.eraseIdxIfInBounds
  rw [dif_pos hlt]
  have h0 := h.size
  refine ⟨by simp [List.length_eraseIdx, h0]; omega, fun i e hi => ?_⟩
  rw [Array.getElem?_eraseIdx] at hi
  rw [List.getElem?_eraseIdx]
  split at hi
  · rename_i e1; rw [if_pos e1]; exact h.get i e hi
  · rename_i e1; rw [if_neg e1]; exact h.get _ e hi
end

/-- The key k stands at place i of the map alone. -/
def AtK (l : List (Value × XV)) (k : Value) (i : Nat) (x : XV) : Prop := l[i]? = some (k, x) ∧ ∀ (j : Nat) (p : Value × XV), l[j]? = some p → p.1 = k → j = i
/-- The key k does not stand in the map. -/
def NoK (l : List (Value × XV)) (k : Value) : Prop := ∀ p ∈ l, p.1 ≠ k

/-- What a look-up gives. -/
def lookR (ok : Bool) (x : XV) (b : Bool) : XV := if ok then .tup [x, .d (.lit (.bool b))] else x

section
variable {P : Program} {M : Nat → Prop} {W0 w : World} {ι : List Nat} {σ : List VObj} {K : Value → Prop} {mty kt et : TypeId} {l : List (Value × XV)} {k : Value} {x : XV} {id : Nat}

theorem lookR_rep {F : Nat → Prop} {ok b : Bool} {v : Value} {x : XV} (h : XRep w ι F v x) : XRep w ι F (if ok then .tuple #[v, .bool b] else v) (lookR ok x b) := by
  unfold lookR
  cases ok with
  | false => exact h
  | true =>
    refine .tup rfl fun i v' x' hv hx => ?_
    match i with
    | 0 => simp at hv hx; subst hv hx; exact h
    | 1 => simp at hv hx; subst hv hx; exact .d (.lit _)
    | i + 2 => simp at hv

/-- Looking up: the key is there. -/
theorem run_look (R : KeyR P kt K) (ht : P.underlying mty = some (.map kt et)) {b clock : Nat} {es : Array MapEntry} (hb : w.heap[b]? = some (.map es clock)) {F : Nat → Prop} (h : RepX w ι F es l) (hl : ∀ p ∈ l, K p.1) (hk : K k) {i : Nat} (ha : AtK l k i x) (ok : Bool) :
    ∃ v, (Instr.lookup mty (.map (some b)) k ok).run P w = .ok v w ∧ XRep w ι F v (lookR ok x true) := by
  rcases R.find w k hk es.toList (h.keys hl) with ⟨_, h2⟩ | ⟨j, e, h1, h2, h3⟩
  · exact absurd rfl (h.none h2 _ (List.mem_of_getElem? ha.1))
  · obtain ⟨p, r1, r2, r3⟩ := h.get j e (by simpa using h2)
    have hji := ha.2 j p r1 (r2.symm.trans h3)
    subst hji
    rw [ha.1] at r1; cases r1
    refine ⟨_, ?_, lookR_rep r3⟩
    simp [Instr.lookup, run_underlying ht, MapKept.run_getObj_map hb, R.check w _ k hk, h1, Result.andThen]

/-- Looking up: the key is not there. -/
theorem run_lookN (R : KeyR P kt K) (ht : P.underlying mty = some (.map kt et)) {z : Value} (hz : zeroT P et = some z) {b clock : Nat} {es : Array MapEntry} (hb : w.heap[b]? = some (.map es clock)) {F : Nat → Prop} (h : RepX w ι F es l) (hl : ∀ p ∈ l, K p.1) (hk : K k) (ha : NoK l k) (ok : Bool) :
    ∃ v, (Instr.lookup mty (.map (some b)) k ok).run P w = .ok v w ∧ XRep w ι F v (lookR ok (.d (.lit z)) false) := by
  rcases R.find w k hk es.toList (h.keys hl) with ⟨h1, h2⟩ | ⟨j, e, h1, h2, h3⟩
  · obtain ⟨ti, hi, hzi⟩ := info_of_zero hz
    refine ⟨_, ?_, lookR_rep (.d (.lit z))⟩
    simp [Instr.lookup, run_underlying ht, MapKept.run_getObj_map hb, R.check w _ k hk, h1, Result.andThen, zeroValue, typeInfo, hi, hzi]
  · obtain ⟨p, r1, r2, r3⟩ := h.get j e (by simpa using h2)
    exact absurd (r2.symm.trans h3) (ha p (List.mem_of_getElem? r1))

theorem good_new (R : KeyR P kt K) (ht : P.underlying mty = some (.map kt et)) (hM : Mem M W0 ι σ w) (ho : σ[id]? = some ⟨entX l, 3⟩) {b : Nat} (hb : ι[id]? = some b) (hl : ∀ p ∈ l, K p.1) (hk : K k) {v : Value} (hv : XRep w ι (Forb M ι σ) v x) (hn : NoK l k)
    {s : Sem Next} (hs : s = (do Instr.mapUpdate mty (.map (some b)) k v; pure .skip)) : Good P M W0 ι σ w s undefX (σ.set id ⟨entX (l ++ [(k, x)]), 3⟩) := by
  obtain ⟨es, clock, q1, q2⟩ := (hM.spec id _ b ho hb (by simp)).repX (.inl rfl)
  rcases R.find w k hk es.toList (q2.keys hl) with ⟨h1, h2⟩ | ⟨j, e, h1, h2, h3⟩
  · obtain ⟨w1, w2⟩ := hM.writeS ho hb (.inl rfl) (.map (es.push { key := k, val := v, born := clock }) (clock + 1)) (fun _ _ _ e => by cases e) (entX (l ++ [(k, x)])) (fun w' σ' hext hw => ((q2.ext hext).push (hv.ext hext)).spec (.inl rfl) hw)
    refine ⟨ι, _, undef, .inr ⟨?_, rfl⟩, w1, w2, .d (.lit _)⟩
    rw [hs]
    simp [Instr.mapUpdate, run_underlying ht, MapKept.run_getObj_map q1, R.check w false k hk, h1, MapKept.run_setObj_map _ q1, Result.andThen, World.setObj']
  · obtain ⟨p, r1, r2, r3⟩ := q2.get j e (by simpa using h2)
    exact absurd (r2.symm.trans h3) (hn p (List.mem_of_getElem? r1))

theorem good_upd (R : KeyR P kt K) (ht : P.underlying mty = some (.map kt et)) (hM : Mem M W0 ι σ w) (ho : σ[id]? = some ⟨entX l, 3⟩) {b : Nat} (hb : ι[id]? = some b) (hl : ∀ p ∈ l, K p.1) (hk : K k) {v : Value} (hv : XRep w ι (Forb M ι σ) v x) {i : Nat} {y : XV} (ha : AtK l k i y)
    {s : Sem Next} (hs : s = (do Instr.mapUpdate mty (.map (some b)) k v; pure .skip)) : Good P M W0 ι σ w s undefX (σ.set id ⟨entX (l.set i (k, x)), 3⟩) := by
  obtain ⟨es, clock, q1, q2⟩ := (hM.spec id _ b ho hb (by simp)).repX (.inl rfl)
  rcases R.find w k hk es.toList (q2.keys hl) with ⟨_, h2⟩ | ⟨j, e, h1, h2, h3⟩
  · exact absurd rfl (q2.none h2 _ (List.mem_of_getElem? ha.1))
  · obtain ⟨p, r1, r2, r3⟩ := q2.get j e (by simpa using h2)
    have hji := ha.2 j p r1 (r2.symm.trans h3)
    subst hji
    obtain ⟨w1, w2⟩ := hM.writeS ho hb (.inl rfl) (.map (es.modify j fun e => { e with key := k, val := v }) clock) (fun _ _ _ e => by cases e) (entX (l.set j (k, x))) (fun w' σ' hext hw => ((q2.ext hext).modify (hv.ext hext)).spec (.inl rfl) hw)
    refine ⟨ι, _, undef, .inr ⟨?_, rfl⟩, w1, w2, .d (.lit _)⟩
    have hj : es[j]? = some e := by simpa using h2
    rw [hs]
    simp [Instr.mapUpdate, run_underlying ht, MapKept.run_getObj_map q1, R.check w false k hk, h1, hj, h3, R.stays w k hk, MapKept.run_setObj_map _ q1, Result.andThen, World.setObj']

end
end Go.Vm

end
section
/-
  VALUES WITHOUT ADDRESSES: the K-rules for maps with any keys.
-/
namespace Go.Vm
open Go.RowKit

section
variable {P : Program} {σ : List VObj} {kn : Kn} {dst : Option Tmp} {ty : TypeId} {pos : String} {af : Array Edge} {g : Option (Nat × Bool)} {Kq : Value → Prop} {mty kt et : TypeId} {m key val : Operand} {id : Nat} {l : List (Value × XV)} {k : Value} {kx x : XV}

theorem K.look {ok : Bool} {i : Nat} (hm : evK kn m = some (.omp id)) (ho : σ[id]? = some ⟨entX l, 3⟩) (R : KeyR P kt Kq) (ht : P.underlying mty = some (.map kt et)) (hl : ∀ p ∈ l, Kq p.1) (hk : evK kn key = some kx) (hx : litOf2 kx = some k) (hK : Kq k) (ha : AtK l k i x) :
    KEv P ⟨dst, .lookup mty m key ok, ty, pos, af, g⟩ σ kn (lookR ok x true) σ 2 := by
  refine K.semW fun env he M W0 ι w ev hM h => ?_
  have h1 := h m (by simp [Op.operands])
  have h2 := h key (by simp [Op.operands])
  rw [evK_evalX he hm] at h1
  rw [evK_evalX he hk] at h2
  have h2 := litOf2_rep h2 hx
  have hex : ∀ ev : Operand → Value, execOp ev ⟨dst, .lookup mty m key ok, ty, pos, af, g⟩ = (do pure (.value (← Instr.lookup mty (ev m) (ev key) ok))) := fun _ => rfl
  rw [hex, h2]
  generalize ev m = vm at *
  cases h1 with
  | @omp b _ hb =>
  obtain ⟨es, clock, q1, q2⟩ := (hM.spec id _ b ho hb (by simp)).repX (.inl rfl)
  obtain ⟨v, r1, r2⟩ := run_look R ht q1 q2 hl hK ha ok
  exact .pure hM (v := v) (by simp [r1, Result.andThen]) r2

theorem K.lookN {ok : Bool} {z : Value} (hm : evK kn m = some (.omp id)) (ho : σ[id]? = some ⟨entX l, 3⟩) (R : KeyR P kt Kq) (ht : P.underlying mty = some (.map kt et)) (hz : zeroT P et = some z) (hl : ∀ p ∈ l, Kq p.1) (hk : evK kn key = some kx) (hx : litOf2 kx = some k) (hK : Kq k) (ha : NoK l k) :
    KEv P ⟨dst, .lookup mty m key ok, ty, pos, af, g⟩ σ kn (lookR ok (.d (.lit z)) false) σ 2 := by
  refine K.semW fun env he M W0 ι w ev hM h => ?_
  have h1 := h m (by simp [Op.operands])
  have h2 := h key (by simp [Op.operands])
  rw [evK_evalX he hm] at h1
  rw [evK_evalX he hk] at h2
  have h2 := litOf2_rep h2 hx
  have hex : ∀ ev : Operand → Value, execOp ev ⟨dst, .lookup mty m key ok, ty, pos, af, g⟩ = (do pure (.value (← Instr.lookup mty (ev m) (ev key) ok))) := fun _ => rfl
  rw [hex, h2]
  generalize ev m = vm at *
  cases h1 with
  | @omp b _ hb =>
  obtain ⟨es, clock, q1, q2⟩ := (hM.spec id _ b ho hb (by simp)).repX (.inl rfl)
  obtain ⟨v, r1, r2⟩ := run_lookN R ht hz q1 q2 hl hK ha ok
  exact .pure hM (v := v) (by simp [r1, Result.andThen]) r2

theorem K.putNew (hm : evK kn m = some (.omp id)) (ho : σ[id]? = some ⟨entX l, 3⟩) (R : KeyR P kt Kq) (ht : P.underlying mty = some (.map kt et)) (hl : ∀ p ∈ l, Kq p.1) (hk : evK kn key = some kx) (hx : litOf2 kx = some k) (hK : Kq k) (hv : evK kn val = some x) (ha : NoK l k) :
    KEv P ⟨dst, .mapUpdate mty m key val, ty, pos, af, g⟩ σ kn undefX (σ.set id ⟨entX (l ++ [(k, x)]), 3⟩) 2 := by
  refine K.semW fun env he M W0 ι w ev hM h => ?_
  have h1 := h m (by simp [Op.operands])
  have h2 := h key (by simp [Op.operands])
  have h3 := h val (by simp [Op.operands])
  rw [evK_evalX he hm] at h1
  rw [evK_evalX he hk] at h2
  rw [evK_evalX he hv] at h3
  have h2 := litOf2_rep h2 hx
  have hex : ∀ ev : Operand → Value, execOp ev ⟨dst, .mapUpdate mty m key val, ty, pos, af, g⟩ = (do Instr.mapUpdate mty (ev m) (ev key) (ev val); pure .skip) := fun _ => rfl
  rw [hex, h2]
  generalize ev m = vm at *
  cases h1 with
  | @omp b _ hb => exact good_new R ht hM ho hb hl hK h3 ha rfl

theorem K.putIns (hm : evK kn m = some (.omp id)) (ho : σ[id]? = some ⟨entX l, 3⟩) (R : KeyR P kt Kq) (ht : P.underlying mty = some (.map kt et)) (hl : ∀ p ∈ l, Kq p.1) (hk : evK kn key = some kx) (hx : litOf2 kx = some k) (hK : Kq k) (hv : evK kn val = some x) (ha : NoK l k) :
    KEv P ⟨dst, .insert mty m key val, ty, pos, af, g⟩ σ kn undefX (σ.set id ⟨entX (l ++ [(k, x)]), 3⟩) 2 := by
  refine K.semW fun env he M W0 ι w ev hM h => ?_
  have h1 := h m (by simp [Op.operands])
  have h2 := h key (by simp [Op.operands])
  have h3 := h val (by simp [Op.operands])
  rw [evK_evalX he hm] at h1
  rw [evK_evalX he hk] at h2
  rw [evK_evalX he hv] at h3
  have h2 := litOf2_rep h2 hx
  have hex : ∀ ev : Operand → Value, execOp ev ⟨dst, .insert mty m key val, ty, pos, af, g⟩ = (do Instr.mapUpdate mty (ev m) (ev key) (ev val); pure .skip) := fun _ => rfl
  rw [hex, h2]
  generalize ev m = vm at *
  cases h1 with
  | @omp b _ hb => exact good_new R ht hM ho hb hl hK h3 ha rfl

/-- A map that is only read. -/
theorem rep_mp {w : World} {ι : List Nat} {F : Nat → Prop} {v : Value} {ks : List Value} {ds : List DV} (h : XRep w ι F v (.d (.mp ks ds))) (hn : ks.length = ds.length) :
    ∃ b es clock, v = .map (some b) ∧ w.heap[b]? = some (.map es clock) ∧ RepX w ι F es (List.zipWith (fun k y => (k, XV.d y)) ks ds) := by
  cases h with
  | d h =>
  cases h with
  | @mp b es clock _ _ hb hh hks hn' hx =>
  refine ⟨b, es, clock, rfl, hh, by simp [hn, hn'], fun i e hi => ?_⟩
  have h1 : (es.toList.map (·.key))[i]? = some e.key := by simp [hi]
  rw [hks] at h1
  have hlt : i < ds.length := by rw [← hn]; exact (List.getElem?_eq_some_iff.1 h1).1
  refine ⟨(e.key, .d ds[i]), ?_, rfl, .d (hx i e _ hi (List.getElem?_eq_getElem hlt))⟩
  rw [List.getElem?_zipWith, h1, List.getElem?_eq_getElem hlt]

/-- How many keys a map has that is only read. -/
theorem run_lenMp {w : World} {ι : List Nat} {F : Nat → Prop} {v : Value} {ks : List Value} {ds : List DV} {ts : Array TypeId} (h : XRep w ι F v (.d (.mp ks ds))) (hts : ts[0]? = some mty) (ht : P.underlying mty = some (.map kt et)) (ty : TypeId) : (Builtin.len_ ts ty #[v]).run P w = .ok (.int .i64 (ds.length : Nat)) w := by
  cases h with
  | d h =>
  cases h with
  | @mp b es clock _ _ hb hh hks hn' hx =>
  simp [Builtin.len_, hts, run_underlying ht, MapKept.run_getObj_map hh, Result.andThen, goInt, hn']

end
end Go.Vm

end
section
/-
  Controllers: words and findings as deep values; the keys of what was met.
-/
namespace Go.Vm
open Go.RowKit Go.Sc

section
variable {P : Program} {σ : List VObj} {kn : Kn} {dst : Option Tmp} {ty : TypeId} {pos : String} {af : Array Edge} {g : Option (Nat × Bool)}
/-- s[:n:n] of a slice of n cells. -/
theorem K.slice3 {x h m : Operand} {t e : TypeId} {cs : List DV} {len : Nat} {cap : Option Nat} (hx : evK kn x = some (.d (.sl cs len cap))) (hh : evK kn h = some (.d (DI len))) (hm : evK kn m = some (.d (DI len))) (hn : cs.length = len)
    (ht : P.underlying t = some (.slice e)) (hs : sizeT P e = some 1) : KEv P ⟨dst, .slice t x none (some h) (some m), ty, pos, af, g⟩ σ kn (.d (.sl cs len (some len))) σ 0 := ev_op fun env he => by
  have e1 := evK_evalX he hx
  have e2 := evK_evalX he hh
  have e3 := evK_evalX he hm
  unfold evalOp
  rw [litOp_none (x := x) (by simp [Op.operands]) (by rw [e1]; rfl)]
  subst hn
  simp [e1, e2, e3, opSlice, ht, hs, boundOf, litOf, DI]
theorem K.lenSl {x : Operand} {t e : TypeId} {ds : List DV} {n : Nat} {cap : Option Nat} (hx : evK kn x = some (.d (.sl ds n cap))) (ht : P.underlying t = some (.slice e)) :
    KEv P ⟨dst, .call ⟨.builtin .len, #[x], #[t]⟩, ty, pos, af, g⟩ σ kn (.d (DI (n : Nat))) σ 0 := ev_op fun env he => by
  have e1 := evK_evalX he hx
  unfold evalOp
  rw [litOp_none (x := x) (by simp [Op.operands, Call.operands]) (by rw [e1]; rfl)]
  simp [e1, opLen, isSliceT, ht]
/-- append to a slice without room. -/
theorem K.appFull {t e : TypeId} {x y : Operand} {cs : List DV} {len id : Nat} {v : XV} {z : Value} (hx : evK kn x = some (.d (.sl cs len (some len)))) (hy : evK kn y = some (.osl id 0 1 1 1 true)) (hid : σ[id]? = some ⟨[v], 0⟩) (hn : cs.length = len)
    (h1v : oneX v = true) (hlen : len < 1073741823) (ht : P.underlying t = some (.slice e)) (h1 : OneT P e z) :
    KEv P ⟨dst, .call ⟨.builtin .append, #[x, y], #[t, t]⟩, ty, pos, af, g⟩ σ kn (.osl σ.length 0 (len + 1) 1 (len + 1) false) (σ ++ [⟨cs.map .d ++ [v], 0⟩]) 2 := ev_op fun env he => by
  have hz : (zeroT P e).map (·.cells.size) = some 1 := by rw [h1.zero]; simp [h1.cells]
  have e1 := evK_evalX he hx
  have e2 := evK_evalX he hy
  unfold evalOp
  rw [litOp_none (x := y) (by simp [Op.operands, Call.operands]) (by rw [e2]; rfl)]
  subst hn
  have h3 : cs.length + 1 ≤ 1073741824 := by omega
  simp [e1, e2, opAppend, ht, h1.size, srcCells, hid, h1v, growTo, h1.bytes, hz, h3]
theorem K.slice3N {x h m : Operand} {t : TypeId} (hx : evK kn x = some (.d Dnil)) (hh : evK kn h = some (.d (DI (0 : Nat)))) (hm : evK kn m = some (.d (DI (0 : Nat)))) (hr : pureRun P (Instr.sliceAt t (.slice none 0 0) none (some (.int .i64 0)) (some (.int .i64 0))) = some (.slice none 0 0)) :
    KEv P ⟨dst, .slice t x none (some h) (some m), ty, pos, af, g⟩ σ kn (.d Dnil) σ 0 := by
  refine K.lit (ρ := fun z => ((evK kn z).bind litOf).getD undef) (fun z hz => ?_) rfl ?_
  · have : z = x ∨ z = h ∨ z = m := by simpa [Op.operands] using hz
    rcases this with rfl | rfl | rfl
    · rw [hx]; rfl
    · rw [hh]; rfl
    · rw [hm]; rfl
  · simp only [execOp, hx, hh, hm, Option.map_some, Option.map_none, Option.bind_some]
    exact pureRun_v hr
end

/-- A word. -/
def wV : List Nat → DV
  | [] => Dnil
  | w => .sl (w.map fun i => DI (i : Nat)) w.length none
def wZ (w : List Nat) : List Int := w.map fun i => (i : Nat)
theorem wV_snoc (w : List Nat) (i : Nat) : wV (w ++ [i]) = .sl ((w.map fun i => DI (i : Nat)) ++ [DI (i : Nat)]) (w.length + 1) none := by
  cases w with
  | nil => rfl
  | cons a w => simp only [wV, List.cons_append, List.map_cons, List.map_append, List.map_nil, List.length_cons, List.length_append, List.length_nil]
theorem wV_ne {w : List Nat} (h : w ≠ []) : wV w = .sl (w.map fun i => DI (i : Nat)) w.length none := by
  cases w with
  | nil => exact absurd rfl h
  | cons a w => rfl
theorem wZ_len (w : List Nat) : (wZ w).length = w.length := by simp [wZ]
theorem wV_cells (w : List Nat) : cellsX (.d (wV w)) = [.d (wV w)] ∧ oneX (.d (wV w)) = true := by cases w <;> exact ⟨rfl, rfl⟩
theorem wZ_inj {u v : List Nat} (h : wZ u = wZ v) : u = v := by
  unfold wZ at h
  exact (List.map_inj_right (fun a b e => by omega)).1 h

/-- Findings. -/
def f2 (p : Nat × List Nat) : List DV := [DI (p.1 : Nat), wV p.2]
def f3 (p : (Nat × Nat) × List Nat) : List DV := [DI (p.1.1 : Nat), DI (p.1.2 : Nat), wV p.2]
theorem f2_len (p : Nat × List Nat) : (f2 p).length = 2 := rfl
theorem f3_len (p : (Nat × Nat) × List Nat) : (f3 p).length = 3 := rfl
theorem f2_one (p : Nat × List Nat) : ((f2 p).map XV.d).all oneX = true := by
  simp only [f2, List.map_cons, List.map_nil, List.all_cons, (wV_cells p.2).2]; rfl
theorem f3_one (p : (Nat × Nat) × List Nat) : ((f3 p).map XV.d).all oneX = true := by
  simp only [f3, List.map_cons, List.map_nil, List.all_cons, (wV_cells p.2).2]; rfl
theorem f_snoc {α : Type} (f : α → List DV) (fs : List α) (p : α) : ((fs.flatMap f).map XV.d) ++ (f p).map .d = (((fs ++ [p]).flatMap f).map XV.d) := by simp
theorem f_len {α : Type} {f : α → List DV} {k : Nat} (hf : ∀ a, (f a).length = k) : ∀ fs : List α, (fs.flatMap f).length = fs.length * k
  | [] => by simp
  | a :: fs => by rw [List.flatMap_cons, List.length_append, hf, f_len hf fs, List.length_cons, Nat.succ_mul]; omega
theorem f_get {α : Type} {f : α → List DV} {k : Nat} (hf : ∀ a, (f a).length = k) : ∀ {fs : List α} {i : Nat} {p : α}, fs[i]? = some p → ((fs.flatMap f).drop (0 + i * k)).take k = f p
  | [], i, p, h => by simp at h
  | a :: fs, 0, p, h => by
    simp at h; subst h
    have e := hf a
    rw [Nat.zero_mul, Nat.zero_add, List.drop_zero, List.flatMap_cons, List.take_append_of_le_length (by omega), List.take_of_length_le (by omega)]
  | a :: fs, i + 1, p, h => by
    have e := hf a
    have ih := f_get hf (fs := fs) (i := i) (p := p) (by simpa using h)
    rw [Nat.zero_add] at ih
    rw [Nat.zero_add, Nat.succ_mul, List.flatMap_cons, show i * k + k = (f a).length + i * k by omega, List.drop_append, Nat.add_sub_cancel_left, List.drop_of_length_le (by omega), List.nil_append]
    exact ih
/-- What is own and not empty. -/
theorem OwnK.is {k : Nat} {σ : List VObj} {x : XV} {cells : List XV} {n : Nat} (h : OwnK k σ x cells) (hn : cells.length = n * k) (hk : 0 < k) (h0 : 0 < n) : ∃ id, x = .osl id 0 n k n false ∧ σ[id]? = some ⟨cells, 0⟩ := by
  cases h with
  | nil =>
    have := Nat.mul_pos h0 hk
    simp at hn; omega
  | @sl id m _ h1 h2 =>
    have : m = n := Nat.eq_of_mul_eq_mul_right hk (h2.symm.trans hn)
    subst this
    exact ⟨id, rfl, h1⟩

/-- Keys. -/
def kI (s : Nat) : Value := .int .i64 (s : Nat)
theorem kI_inj {a b : Nat} (h : kI a = kI b) : a = b := by simp only [kI, Value.int.injEq, true_and] at h; omega
def met {S : Type} (key : S → Value) (fs : List S) : List (Value × XV) := fs.map fun s => (key s, .d (DB true))
theorem met_snoc {S : Type} (key : S → Value) (fs : List S) (s : S) : met key fs ++ [(key s, .d (DB true))] = met key (fs ++ [s]) := by simp [met]
theorem met_at {S : Type} {key : S → Value} (hinj : ∀ a b, key a = key b → a = b) {fs : List S} (hn : fs.Nodup) {s : S} (h : s ∈ fs) : ∃ i, AtK (met key fs) (key s) i (.d (DB true)) := by
  obtain ⟨i, hi⟩ := List.getElem?_of_mem h
  refine ⟨i, by simp [met, hi], fun j p hj hp => ?_⟩
  unfold met at hj
  rw [List.getElem?_map, Option.map_eq_some_iff] at hj
  obtain ⟨t, ht, rfl⟩ := hj
  have := hinj _ _ hp
  subst this
  exact ((List.getElem?_inj (List.getElem?_eq_some_iff.1 ht).1 hn).1 (ht.trans hi.symm))
theorem met_no {S : Type} {key : S → Value} (hinj : ∀ a b, key a = key b → a = b) {fs : List S} {s : S} (h : s ∉ fs) : NoK (met key fs) (key s) := fun p hp e => by
  unfold met at hp
  obtain ⟨t, ht, rfl⟩ := List.mem_map.1 hp
  exact h (hinj _ _ e ▸ ht)
end Go.Vm
namespace Go.Vm
theorem obj_put {σ : List VObj} {i : Nat} {o : VObj} (h : σ[i]? = some o) (ob : VObj) : ∃ σ2, σ.set i ob = σ2 ∧ σ2[i]? = some ob ∧ (∀ j, j ≠ i → σ2[j]? = σ[j]?) ∧ σ2.length = σ.length :=
  ⟨_, rfl, by rw [List.getElem?_set, if_pos rfl, if_pos (List.getElem?_eq_some_iff.1 h).1], fun j hj => by rw [List.getElem?_set, if_neg (fun e => hj e.symm)], by simp⟩
theorem obj_left {σ τ : List VObj} {i : Nat} {o : VObj} (h : σ[i]? = some o) : (σ ++ τ)[i]? = some o := by
  rw [List.getElem?_append_left (List.getElem?_eq_some_iff.1 h).1]; exact h
theorem obj_ne {σ : List VObj} {i j : Nat} {a b : VObj} (hi : σ[i]? = some a) (hj : σ[j]? = some b) (h : a.mode ≠ b.mode) : i ≠ j := by
  rintro rfl; rw [hi] at hj; cases hj; exact h rfl
theorem obj_lt {σ : List VObj} {i : Nat} {o : VObj} (h : σ[i]? = some o) : i < σ.length := (List.getElem?_eq_some_iff.1 h).1
end Go.Vm
namespace Go.Vm
theorem fz_one {σ : List VObj} {id : Nat} {cs : List XV} (h : σ[id]? = some ⟨cs, 0⟩) : (freezeIds σ [id])[id]? = some ⟨cs, 1⟩ := by
  simp [freezeIds, List.getElem?_mapIdx, h]
theorem fz_ne {σ : List VObj} {id j : Nat} (h : j ≠ id) : (freezeIds σ [id])[j]? = σ[j]? := by
  unfold freezeIds
  rw [List.getElem?_mapIdx]
  cases hj : σ[j]? with
  | none => rfl
  | some o => simp [h]
theorem fz_len (σ : List VObj) (ids : List Nat) : (freezeIds σ ids).length = σ.length := by simp [freezeIds]
/-- A row of numbers. -/
def rowV (l : List Int) : DV := .sl (l.map DI) l.length none
theorem rowV_ints {l : List Int} : Ints (rowV l) l := by
  refine Vec.sl (cap := none) (by simp) fun i c x hc hx => ?_
  rw [List.getElem?_map, hx] at hc
  cases hc; rfl
/-- A row that is told. -/
theorem deepen_row {σ : List VObj} {id k : Nat} {l : List Int} {lo : Nat} (h : σ[id]? = some ⟨(l.map DI).map .d, 1⟩) : deepen σ (k + 2) (.osl id 0 l.length 1 lo false) = some (rowV l) := by
  rw [deepen_osl h rfl (by simp), List.drop_zero, Nat.mul_one, List.take_of_length_le (by simp), mapM_deep]; rfl
end Go.Vm
namespace Go.Vm
open Go.RowKit
section
variable {P : Program} {σ : List VObj} {kn : Kn} {dst : Option Tmp} {ty : TypeId} {pos : String} {af : Array Edge} {g : Option (Nat × Bool)}
end
end Go.Vm
namespace Go.Vm
/-- What is own and only made of values. -/
theorem deepen_all {σ : List VObj} {id n k : Nat} {cs : List DV} (h : σ[id]? = some ⟨cs.map .d, 0⟩) (hn : cs.length = n) : deepen (freezeAll σ) (k + 2) (.osl id 0 n 1 n false) = some (.sl cs n none) := by
  rw [deepen_osl (ob := ⟨cs.map .d, 1⟩) (by simp [freezeAll, h]) rfl (by simp [hn]), List.drop_zero, Nat.mul_one, List.take_of_length_le (by simp [hn]), mapM_deep]; rfl
end Go.Vm
namespace Go.Vm
open Go.RowKit
section
variable {P : Program} {σ : List VObj} {kn : Kn} {dst : Option Tmp} {ty : TypeId} {pos : String} {af : Array Edge} {g : Option (Nat × Bool)}
/-- A function value that brings arguments of its own. -/
theorem K.makeFF {fn : Fn} {first : Array Operand} {ys : List XV} {x : Operand} {v : XV} {m : Nat} (hb : first.toList.mapM (evK kn) = some ys) (hx : first[m]? = some x) (hv : evK kn x = some v) (hl : litOf v = none) :
    KEv P ⟨dst, .makeFunc fn first #[], ty, pos, af, g⟩ σ kn (.fn fn ys []) σ 0 := ev_op fun env he => by
  have e1 := evK_evalX he hv
  unfold evalOp
  rw [litOp_none (x := x) (by simpa [Op.operands] using Array.mem_of_getElem? hx) (by rw [e1]; exact hl)]
  have := mapM_evK he hb
  simp [this]
/-- A call of a function value that is a deep one. -/
theorem K.callFC {c : Operand} {v : XV} {f : FuncId} {args : Array Operand} {ts : Array TypeId} {fs ds cs : List DV} {res : DV} (hv : evK kn c = some v) (hf : asFn v = some (f, fs.map .d, cs.map .d)) (ha : args.toList.mapM (evK kn) = some (ds.map .d))
    (hp : plainFn P f = true) (hc : DeepCall P f (fs ++ ds ++ cs) res) : KEv P ⟨dst, .call ⟨.value c, args, ts⟩, ty, pos, af, g⟩ σ kn (.d res) σ 0 := fun env he =>
  .call (first := fs.map .d) (caps := cs.map .d) rfl (by rw [evK_evalX he hv]; exact hf) hp (by rw [mapM_evK he ha]; simp) hc
end
/-- A response: its slice has no more room. -/
def rspV (l : List Int) : DV := .sl (l.map DI) l.length (some l.length)
theorem rspV_ints {l : List Int} : Ints (rspV l) l := by
  refine Vec.sl (cap := some l.length) (by simp) fun i c x hc hx => ?_
  rw [List.getElem?_map, hx] at hc
  cases hc; rfl
end Go.Vm
namespace Go.Sc
section
variable {S : Type} (nx : S → Nat → S) (ou : S → Nat → Int)
/-- What a word is answered with. -/
def respL (s : S) (w : List Nat) : List Int := (List.range w.length).map fun k => ou (runW nx s (w.take k)) (w.getD k 0)
theorem respL_len (s : S) (w : List Nat) : (respL nx ou s w).length = w.length := by simp [respL]
theorem respL_get (s : S) (w : List Nat) {k : Nat} (hk : k < w.length) : (respL nx ou s w)[k]'(by rw [respL_len]; exact hk) = ou (runW nx s (w.take k)) (w.getD k 0) := by simp [respL]
end
end Go.Sc
namespace Go.Vm
theorem deepen_ex {σ : List VObj} {id k n : Nat} {l : List Int} (h : σ[id]? = some ⟨(l.map DI).map .d, 1⟩) (hn : l.length = n) : deepen σ (k + 2) (.osl id 0 n 1 n true) = some (rspV l) := by
  subst hn
  rw [deepen_osl h rfl (by simp), List.drop_zero, Nat.mul_one, List.take_of_length_le (by simp), mapM_deep]; rfl
end Go.Vm
namespace Go.Vm
open Go.RowKit Go.Sc
/-- Rows of numbers. -/
def matV (rows : List (List Int)) : DV := .sl (rows.map rowV) rows.length none
theorem matV_mat {rows : List (List Int)} : Mat (matV rows) rows := by
  refine Vec.sl (cap := none) (by simp) fun i c x hc hx => ?_
  rw [List.getElem?_map, hx] at hc
  cases hc; exact rowV_ints
/-- The numbers of states in a map. -/
def numK (ss : List Nat) : List (Value × XV) := ss.zipIdx.map fun p => (kI p.1, .d (DI (p.2 : Nat)))
theorem numK_snoc (ss : List Nat) (s : Nat) : numK ss ++ [(kI s, .d (DI (ss.length : Nat)))] = numK (ss ++ [s]) := by
  unfold numK; rw [List.zipIdx_append]; simp
theorem numK_get {ss : List Nat} {j : Nat} {p : Value × XV} (h : (numK ss)[j]? = some p) : ∃ s, ss[j]? = some s ∧ p = (kI s, .d (DI (j : Nat))) := by
  unfold numK at h
  rw [List.getElem?_map, Option.map_eq_some_iff] at h
  obtain ⟨q, hq, rfl⟩ := h
  rw [List.getElem?_zipIdx, Option.map_eq_some_iff] at hq
  obtain ⟨s, hs, rfl⟩ := hq
  exact ⟨s, hs, by simp⟩
theorem numK_at {ss : List Nat} (hn : ss.Nodup) {i s : Nat} (h : ss[i]? = some s) : AtK (numK ss) (kI s) i (.d (DI (i : Nat))) := by
  have hlt : i < (numK ss).length := by have := (List.getElem?_eq_some_iff.1 h).1; simpa [numK] using this
  obtain ⟨s', h1, h2⟩ := numK_get (List.getElem?_eq_getElem hlt)
  rw [h] at h1; cases h1
  refine ⟨by rw [List.getElem?_eq_getElem hlt, h2], fun j p hj hp => ?_⟩
  obtain ⟨t, h3, rfl⟩ := numK_get hj
  have := kI_inj hp
  subst this
  exact (List.getElem?_inj (List.getElem?_eq_some_iff.1 h3).1 hn).1 (h3.trans h.symm)
theorem numK_no {ss : List Nat} {s : Nat} (h : s ∉ ss) : NoK (numK ss) (kI s) := fun p hp e => by
  obtain ⟨j, hj⟩ := List.getElem?_of_mem hp
  obtain ⟨t, h3, rfl⟩ := numK_get hj
  have := kI_inj e
  subst this
  exact h (List.mem_of_getElem? h3)
theorem numK_all {ss : List Nat} : ∀ p ∈ numK ss, MapKept.IsKey (.int .i64) p.1 := fun p hp => by
  obtain ⟨j, hj⟩ := List.getElem?_of_mem hp
  obtain ⟨t, _, rfl⟩ := numK_get hj
  rfl
end Go.Vm

end
section
/-
  LISTS of whole numbers in an own slice: how slices.Reverse, slices.Compact and slices.Min go through them.
-/
namespace Go.Ht
open Go.Vm
/-- Cells of whole numbers. -/
def xs (l : List Int) : List XV := l.map fun z => XV.d (DI z)
/-! ### Pinches -/
/-! ### The reference -/
end Go.Ht

end
section
/-
  VALUES WITHOUT ADDRESSES, 31: strings; loops round by round; calls that leave the caller's objects but for some, whatever they made of their own.
-/
namespace Go.Vm
open Go.RowKit

theorem DRep.mono {w : World} {F F1 : Nat → Prop} {v : Value} {x : DV} (h : DRep w F v x) (hf : ∀ b, F1 b → F b) : DRep w F1 v x := h.ext (fun _ _ _ => rfl) (fun b _ h => hf b h)

/-- What reads before and behind a call, told with the objects that were there. -/
theorem XRep.within {w w' : World} {ι ι' : List Nat} {F F' F1 : Nat → Prop} {v0 : Value} {x : XV} (h : XRep w ι F v0 x) (hpre : ∀ (id b : Nat), ι[id]? = some b → ι'[id]? = some b) (hf : ∀ b, F1 b → F' b) :
    ∀ {v : Value}, XRep w' ι' F' v x → XRep w' ι F1 v x := by
  induction h with
  | d _ => intro v k; cases k with | d k => exact .d (k.mono hf)
  | @osl b off len cap id k lo ex hb hl hlo hex hs =>
    intro v k'
    cases k' with
    | osl hb2 hl2 hlo2 hex2 hs2 =>
      have := hpre _ _ hb
      rw [hb2] at this; cases this
      exact .osl hb hl2 hlo2 hex2 hs2
  | @optr b off id hb =>
    intro v k'
    cases k' with
    | optr hb2 =>
      have := hpre _ _ hb
      rw [hb2] at this; cases this
      exact .optr hb
  | @tup vs ds hn hx ih =>
    intro v k'
    cases k' with
    | tup hn2 hx2 =>
      refine .tup hn2 fun i u x hu hxd => ?_
      have hlt : i < vs.size := by rw [hn]; exact (List.getElem?_eq_some_iff.1 hxd).1
      exact ih i vs[i] x (Array.getElem?_eq_getElem hlt) hxd (hx2 i u x hu hxd)
  | @agg vs ds hn hx ih =>
    intro v k'
    cases k' with
    | agg hn2 hx2 =>
      refine .agg hn2 fun i u x hu hxd => ?_
      have hlt : i < vs.size := by rw [hn]; exact (List.getElem?_eq_some_iff.1 hxd).1
      exact ih i vs[i] x (Array.getElem?_eq_getElem hlt) hxd (hx2 i u x hu hxd)
  | @fn f vs us ds es hn hx hm hy ih1 ih2 =>
    intro v k'
    cases k' with
    | fn hn2 hx2 hm2 hy2 =>
      refine .fn hn2 (fun i u x hu hxd => ?_) hm2 (fun i u x hu hxd => ?_)
      · have hlt : i < vs.size := by rw [hn]; exact (List.getElem?_eq_some_iff.1 hxd).1
        exact ih1 i vs[i] x (Array.getElem?_eq_getElem hlt) hxd (hx2 i u x hu hxd)
      · have hlt : i < us.size := by rw [hm]; exact (List.getElem?_eq_some_iff.1 hxd).1
        exact ih2 i us[i] x (Array.getElem?_eq_getElem hlt) hxd (hy2 i u x hu hxd)
  | ifc _ ih =>
    intro v k'
    cases k' with
    | ifc k2 => exact .ifc (ih k2)
  | @omp b id hb =>
    intro v k'
    cases k' with
    | omp hb2 =>
      have := hpre _ _ hb
      rw [hb2] at this; cases this
      exact .omp hb
  | @yl l id hb =>
    intro v k'
    cases k' with
    | yl hb2 =>
      have := hpre _ _ hb
      rw [hb2] at this; cases this
      exact .yl hb

/-- The caller's objects behind a call: as they were, or with plain cells. -/
def Same1 (σ σ1 : List VObj) : Prop := σ1.length = σ.length ∧ ∀ (id : Nat) (o : VObj), σ1[id]? = some o → σ[id]? = some o ∨ (o.mode < 2 ∧ ∀ (i : Nat) (x : XV), o.cells[i]? = some x → ∃ d, x = .d d)

theorem Same1.refl (σ : List VObj) : Same1 σ σ := ⟨rfl, fun _ _ h => .inl h⟩

theorem Same1.put {σ : List VObj} {id md : Nat} {ds : List DV} (hmd : md < 2) : Same1 σ (σ.set id ⟨ds.map .d, md⟩) := by
  refine ⟨by simp, fun j o h => ?_⟩
  rcases set_get _ _ _ _ _ h with ⟨rfl, rfl, _⟩ | ⟨_, h'⟩
  · exact .inr ⟨hmd, fun i x hx => by
      simp only [List.getElem?_map, Option.map_eq_some_iff] at hx
      obtain ⟨d, _, rfl⟩ := hx
      exact ⟨d, rfl⟩⟩
  · exact .inl h'

/-- Objects that a call made are forgotten. -/
theorem Mem.drop {M : Nat → Prop} {W0 w w' : World} {ι ι' : List Nat} {σ σ1 τ : List VObj} (hm : Mem M W0 ι σ w) (hm' : Mem M W0 ι' (σ1 ++ τ) w') (he : Ext M ι σ w ι' (σ1 ++ τ) w') (hs : Same1 σ σ1) :
    Mem M W0 ι σ1 w' ∧ Ext M ι σ w ι σ1 w' ∧ ∀ b, Forb M ι σ1 b → Forb M ι' (σ1 ++ τ) b := by
  obtain ⟨hlen, hsame⟩ := hs
  have hget : ∀ (id : Nat) (o : VObj), σ1[id]? = some o → (σ1 ++ τ)[id]? = some o := fun id o h => by
    rw [List.getElem?_append_left (List.getElem?_eq_some_iff.1 h).1]; exact h
  have hmut : ∀ b, Mut ι σ1 b → Mut ι' (σ1 ++ τ) b := by
    rintro b ⟨id, o, h1, h2, h3⟩
    exact ⟨id, o, hget id o h1, he.pre _ _ h2, h3⟩
  have hforb : ∀ b, Forb M ι σ1 b → Forb M ι' (σ1 ++ τ) b := fun b h => h.imp id (hmut b)
  refine ⟨⟨by rw [hm.len, hlen], ?_, ?_, fun id b h => hm'.fresh id b (he.pre _ _ h), ?_, hm'.below, hm'.outer⟩, ⟨fun _ _ h => h, he.heap, he.size, fun b hb h => he.mt b hb (hmut b h), he.shape, he.loops⟩, hforb⟩
  · intro id o b h1 h2 h3
    obtain ⟨cur, ty, q1, q2, q3⟩ := hm'.objs id o b (hget id o h1) (he.pre _ _ h2) h3
    refine ⟨cur, ty, q1, q2, fun i x hi => ?_⟩
    obtain ⟨v, kv, kx⟩ := q3 i x hi
    refine ⟨v, kv, ?_⟩
    rcases hsame id o h1 with h | ⟨_, h⟩
    · obtain ⟨_, _, _, _, r3⟩ := hm.objs id o b h h2 h3
      obtain ⟨v0, _, kx0⟩ := r3 i x hi
      exact kx0.within he.pre hforb kx
    · obtain ⟨d, rfl⟩ := h i x hi
      cases kx with | d kx => exact .d (kx.mono hforb)
  · intro id o b h1 h2 h3
    rcases hsame id o h1 with h | ⟨h, _⟩
    · have a := hm.spec id o b h h2 h3
      have c := hm'.spec id o b (hget id o h1) (he.pre _ _ h2) h3
      rcases c with ⟨c1, es, clock, c2, c3, c4⟩ | c | ⟨c1, r, L, ev, c2, c3, c4, c5, c6⟩
      · rcases a with ⟨_, es0, _, _, a3, a4⟩ | ⟨a, _⟩ | ⟨a, _⟩
        · refine .inl ⟨c1, es, clock, c2, c3, fun i e cc hi hc => ?_⟩
          obtain ⟨x, k1, k2⟩ := c4 i e cc hi hc
          have hlt : i < es0.size := by rw [a3]; exact (List.getElem?_eq_some_iff.1 hc).1
          obtain ⟨x0, k3, k4⟩ := a4 i es0[i] cc (Array.getElem?_eq_getElem hlt) hc
          rw [k1] at k3
          simp only [XV.ent, XV.tup.injEq, List.cons.injEq, and_true] at k3
          refine ⟨x, k1, ?_⟩
          rw [← k3.2] at k4
          exact k4.within he.pre hforb k2
        · omega
        · omega
      · exact .inr (.inl c)
      · rcases a with ⟨a, _⟩ | ⟨a, _⟩ | ⟨_, r0, L0, ev0, _, a3, _, a5, a6⟩
        · omega
        · omega
        · refine .inr (.inr ⟨c1, r, L, ev, c2, c3, c4, c5, fun i v x hv hx => ?_⟩)
          rw [c3] at a3
          have e0 : ev = ev0 := (List.cons.inj a3).2
          subst e0
          have hlt : i < r0.tmps.size := by rw [a5]; exact (List.getElem?_eq_some_iff.1 hx).1
          exact (a6 i r0.tmps[i] x (Array.getElem?_eq_getElem hlt) hx).within he.pre hforb (c6 i v x hv hx)
    · omega
  · intro i j oi oj bi bj hij h1 h2 h3 h4 h5 h6
    exact hm'.apart i j oi oj bi bj hij (hget _ _ h1) (hget _ _ h2) (he.pre _ _ h3) (he.pre _ _ h4) h5 h6

section
variable {P : Program} {M : Nat → Prop} {W0 : World} {n : Nat} {σ : List VObj} {kn : Kn} {dst : Option Tmp} {ty : TypeId} {pos : String} {af : Array Edge} {g : Option (Nat × Bool)}

/-- A loop that ends within some rounds. -/
def RK (P : Program) (M : Nat → Prop) (W0 : World) (n : Nat) (c : Code) (T : Exit → List VObj → Kn → Prop) : Nat → List VObj → Kn → Prop
  | 0, _, _ => False
  | m + 1, σ, kn => KC P M W0 n c σ kn (thenK (RK P M W0 n c T m) T)

theorem RK.succ {c : Code} {T : Exit → List VObj → Kn → Prop} {m : Nat} (h : KC P M W0 n c σ kn (thenK (RK P M W0 n c T m) T)) : RK P M W0 n c T (m + 1) σ kn := h

end
end Go.Vm

end
section
/-
  RULES: a literal of two structs; the first streams of a slice; utilities of two streams.
-/
namespace Go.Vm
section
variable {P : Program} {σ : List VObj} {kn : Kn} {dst : Option Tmp} {ty : TypeId} {pos : String} {af : Array Edge} {g : Option (Nat × Bool)}
end
end Go.Vm
namespace Go.Ht
open Go.Vm
end Go.Ht

end
section
/-
  Batch: shops, arcs and longest ways (pure).
-/
namespace Go.Ba
open Go.Vm Go.Ht

def c2 (o : Int × Int) : List DV := [DI o.1, DI o.2]
def tm (ops : List (Int × Int)) (i : Int) : Int := (ops.getD i.toNat (0, 0)).2
def Times (ops : List (Int × Int)) : Prop := ∀ o ∈ ops, 1 ≤ o.2 ∧ o.2 ≤ 20
end Go.Ba

end
section
/-
  Batch: slices of pairs: cut, and appended to where there is no room.
-/
namespace Go.Ba
open Go.Vm Go.Ht Go.RowKit

section
variable {P : Program} {n : Nat} {ops : Array Oper} {l : List Oper} {σ : List VObj} {kn : Kn} {dst : Option Tmp} {ty : TypeId} {pos : String} {af : Array Edge} {g : Option (Nat × Bool)}
  {R : List Nat → List VObj → Kn → Prop}
end
theorem one3 {a c : DV} {x : XV} (ha : SlD a) (hc : SlD c) (hx : oneX x = true) : ([.d a, x, .d c] : List XV).all oneX = true := by simp [ha.one, hc.one, hx]
end Go.Ba

end
section
/-
  Controllers, without a program: what a walk through the search keeps.
-/
namespace Go.Sc
section
variable {S : Type} {nx : S → Nat → S} {m : Nat} {s0 : S} {Ok : S → Prop}
structure SI (nx : S → Nat → S) (m : Nat) (s0 : S) (Ok : S → Prop) (k i : Nat) (fs : List (S × List Nat)) : Prop where
  inv : Inv nx m s0 k i fs
  ok : ∀ p ∈ fs, Ok p.1
  wl : ∀ (j : Nat) (p : S × List Nat), fs[j]? = some p → p.2.length ≤ j
theorem SI.start (h : Ok s0) : SI nx m s0 Ok 0 0 [(s0, [])] :=
  ⟨.start s0, fun p hp => by simp at hp; subst hp; exact h, fun j p hp => by
    cases j with
    | zero => simp at hp; subst hp; exact Nat.le_refl _
    | succ j => simp at hp⟩
theorem SI.letter [DecidableEq S] (hcl : ∀ s i, Ok s → i < m → Ok (nx s i)) {k i : Nat} {fs : List (S × List Nat)} {s : S} {w : List Nat} (h : SI nx m s0 Ok k i fs) (hk : fs[k]? = some (s, w)) (hi : i < m) : SI nx m s0 Ok k (i + 1) (addF fs (nx s i) (w ++ [i])) := by
  have hs := h.ok _ (List.mem_of_getElem? hk)
  have hw := h.wl _ _ hk
  have hlt : k < fs.length := (List.getElem?_eq_some_iff.1 hk).1
  refine ⟨h.inv.letter hk hi, fun p hp => ?_, fun j p hp => ?_⟩
  · unfold addF at hp
    split at hp
    · exact h.ok p hp
    · rcases List.mem_append.1 hp with hp | hp
      · exact h.ok p hp
      · simp at hp; subst hp; exact hcl _ _ hs hi
  · unfold addF at hp
    split at hp
    · exact h.wl j p hp
    · by_cases hj : j < fs.length
      · rw [List.getElem?_append_left hj] at hp; exact h.wl j p hp
      · rw [List.getElem?_append_right (by omega)] at hp
        cases hd : j - fs.length with
        | zero => rw [hd] at hp; simp at hp; subst hp; simp at hw ⊢; omega
        | succ d => rw [hd] at hp; simp at hp
theorem SI.row [DecidableEq S] (hcl : ∀ s i, Ok s → i < m → Ok (nx s i)) {k : Nat} {fs : List (S × List Nat)} {s : S} {w : List Nat} (h : SI nx m s0 Ok k 0 fs) (hk : fs[k]? = some (s, w)) : ∀ i, i ≤ m → SI nx m s0 Ok k i (rowF nx fs s w i) ∧ (rowF nx fs s w i)[k]? = some (s, w)
  | 0, _ => ⟨h, hk⟩
  | i + 1, hi => by
    obtain ⟨h1, h2⟩ := h.row hcl hk i (by omega)
    rw [rowF_succ]
    refine ⟨h1.letter hcl h2 hi, ?_⟩
    obtain ⟨t, ht⟩ := addF_pre (rowF nx fs s w i) (nx s i) (w ++ [i])
    rw [← ht, List.getElem?_append_left (List.getElem?_eq_some_iff.1 h2).1]; exact h2
theorem SI.next {k : Nat} {fs : List (S × List Nat)} (h : SI nx m s0 Ok k m fs) (hk : k < fs.length) : SI nx m s0 Ok (k + 1) 0 fs := ⟨h.inv.next hk, h.ok, h.wl⟩
theorem rowF_yes [DecidableEq S] {fs : List (S × List Nat)} {s : S} {w : List Nat} {i : Nat} (h : nx s i ∈ (rowF nx fs s w i).map Prod.fst) : rowF nx fs s w (i + 1) = rowF nx fs s w i := by
  rw [rowF_succ]; unfold addF; rw [if_pos h]
theorem rowF_no [DecidableEq S] {fs : List (S × List Nat)} {s : S} {w : List Nat} {i : Nat} (h : nx s i ∉ (rowF nx fs s w i).map Prod.fst) : rowF nx fs s w (i + 1) = rowF nx fs s w i ++ [(nx s i, w ++ [i])] := by
  rw [rowF_succ]; unfold addF; rw [if_neg h]
end
theorem nodup_sub {α : Type} [DecidableEq α] : ∀ {l l' : List α}, l.Nodup → (∀ x ∈ l, x ∈ l') → l.length ≤ l'.length
  | [], _, _, _ => Nat.zero_le _
  | a :: l, l', h, hs => by
    obtain ⟨h1, h2⟩ := List.nodup_cons.1 h
    have ha : a ∈ l' := hs a (.head _)
    have := nodup_sub (l := l) (l' := l'.erase a) h2 fun x hx => by
      have hne : x ≠ a := fun e => h1 (e ▸ hx)
      exact (List.mem_erase_of_ne hne).2 (hs x (.tail _ hx))
    rw [List.length_erase_of_mem ha] at this
    have := List.length_pos_of_mem ha
    simp only [List.length_cons]; omega
/-- Numbers below n, each once. -/
theorem nodup_le {n : Nat} {l : List Nat} (h : l.Nodup) (hb : ∀ x ∈ l, x < n) : l.length ≤ n := by
  have := nodup_sub h (l' := List.range n) fun x hx => List.mem_range.2 (hb x hx)
  simpa using this
theorem nodup_pair {n m : Nat} {l : List (Nat × Nat)} (h : l.Nodup) (hb : ∀ x ∈ l, x.1 < n ∧ x.2 < m) : l.length ≤ n * m := by
  have := nodup_sub h (l' := (List.range n).flatMap fun i => (List.range m).map fun j => (i, j)) fun x hx => by
    rw [List.mem_flatMap]
    exact ⟨x.1, List.mem_range.2 (hb x hx).1, List.mem_map.2 ⟨x.2, List.mem_range.2 (hb x hx).2, rfl⟩⟩
  have e : ∀ l : List Nat, (l.flatMap fun i => (List.range m).map fun j => (i, j)).length = l.length * m := by
    intro l
    induction l with
    | nil => simp
    | cons a l ih => rw [List.flatMap_cons, List.length_append, ih, List.length_map, List.length_range, List.length_cons, Nat.succ_mul]; omega
  rw [e, List.length_range] at this
  exact this
end Go.Sc

end
section
/-
  Controllers, without a program: the first word that parts.
-/
namespace Go.Sc
theorem least_nat {p : Nat → Prop} : ∀ n, p n → ∃ m, p m ∧ ∀ k, p k → m ≤ k := by
  intro n
  induction n using Nat.strongRecOn with
  | _ n ih =>
    intro h
    by_cases hl : ∃ k, k < n ∧ p k
    · obtain ⟨k, h1, h2⟩ := hl; exact ih k h1 h2
    · exact ⟨n, h, fun k hk => Nat.le_of_not_lt fun hlt => hl ⟨k, hlt, hk⟩⟩
section
variable {S : Type}
theorem firstD_ex (nx : S → Nat → S) (A : Nat) (s0 : S) (D : S → Nat → Prop) : ∃ r, FirstD nx A s0 D r := by
  by_cases h : ∃ n w i, OkW A w ∧ i < A ∧ D (runW nx s0 w) i ∧ code A (w ++ [i]) = n
  · obtain ⟨n, hn⟩ := h
    obtain ⟨m, ⟨w, i, h1, h2, h3, h4⟩, hm⟩ := least_nat (p := fun n => ∃ w i, OkW A w ∧ i < A ∧ D (runW nx s0 w) i ∧ code A (w ++ [i]) = n) n hn
    exact ⟨some (w ++ [i]), w, i, rfl, h1, h2, h3, fun w' i' a b c => h4 ▸ hm _ ⟨w', i', a, b, c, rfl⟩⟩
  · exact ⟨none, fun w i a b c => h ⟨_, w, i, a, b, c, rfl⟩⟩
noncomputable def firstW (nx : S → Nat → S) (A : Nat) (s0 : S) (D : S → Nat → Prop) : Option (List Nat) := Classical.choose (firstD_ex nx A s0 D)
theorem firstW_spec (nx : S → Nat → S) (A : Nat) (s0 : S) (D : S → Nat → Prop) : FirstD nx A s0 D (firstW nx A s0 D) := Classical.choose_spec (firstD_ex nx A s0 D)
theorem FirstD.is {nx : S → Nat → S} {A : Nat} {s0 : S} {D : S → Nat → Prop} {r : Option (List Nat)} (h : FirstD nx A s0 D r) : firstW nx A s0 D = r := (firstW_spec nx A s0 D).uniq h
theorem run_ok {nx : S → Nat → S} {m : Nat} {Ok : S → Prop} (hcl : ∀ s i, Ok s → i < m → Ok (nx s i)) : ∀ (w : List Nat) (s : S), Ok s → OkW m w → Ok (runW nx s w)
  | [], _, h, _ => h
  | i :: w, s, h, hw => run_ok hcl w (nx s i) (hcl s i h (hw i (.head _))) fun j hj => hw j (.tail _ hj)
end
theorem found_I {nx : Nat → Nat → Nat} {m n s0 : Nat} (h0 : s0 < n) (hcl : ∀ s i, s < n → i < m → nx s i < n) : Found nx m s0 (bfs nx m n 0 [(s0, [])]) :=
  bfs_found (fun fs h1 h2 => by
    have := nodup_le h1 (n := n) fun x hx => by
      obtain ⟨p, hp, rfl⟩ := List.mem_map.1 hx
      obtain ⟨a, b⟩ := h2 p hp
      rw [← a]; exact run_ok (Ok := (· < n)) hcl p.2 s0 h0 b
    simpa using this) n 0 _ (.start s0) (by omega)
/-- Two machines side by side. -/
def nxP (nx nx2 : List (List Int)) (p : Nat × Nat) (i : Nat) : Nat × Nat := (nxF nx p.1 i, nxF nx2 p.2 i)
def diffP (ou ou2 : List (List Int)) (p : Nat × Nat) (i : Nat) : Prop := ouF ou p.1 i ≠ ouF ou2 p.2 i
/-- The first of the shortest words that part two states. -/
noncomputable def partW (m : Nat) (nx ou nx2 ou2 : List (List Int)) (s t : Nat) : Option (List Nat) := firstW (nxP nx nx2) m (s, t) (diffP ou ou2)
end Go.Sc

end
section
/-
  VALUES WITHOUT ADDRESSES: the machine as a program, with maps, functions without a body and checks for nil.
-/
namespace Go.Vm
open Go.RowKit

theorem entOf_entX : ∀ {cs : List XV} {l : List (Value × XV)}, cs.mapM entOf = some l → cs = entX l
  | [], l, h => by simp at h; subst h; rfl
  | c :: cs, l, h => by
    rw [List.mapM_cons] at h
    cases hc : entOf c with
    | none => rw [hc] at h; simp at h
    | some p =>
      cases hr : cs.mapM entOf with
      | none => rw [hc, hr] at h; simp at h
      | some r =>
        rw [hc, hr] at h
        simp at h
        subst h
        rw [entOf_entX hr]
        unfold entOf at hc
        split at hc
        · cases hc; rfl
        · cases hc

/-- The places of a key. -/
def placesK (d : TypeDesc) (k : Value) (ks : List Value) : List Nat := (List.range ks.length).filter fun j => match ks[j]? with
  | some k' => (Instr.sameNow d k k').getD false
  | none => false
def isKeyB : TypeDesc → Value → Bool
  | .bool, .bool _ => true
  | .int k, .int k' _ => k' == k
  | .string, .string _ => true
  | _, _ => false
theorem isKeyB_iff {d : TypeDesc} {v : Value} (h : isKeyB d v = true) : MapKept.IsKey d v := by
  unfold isKeyB at h
  split at h
  · trivial
  · rename_i k k' n
    have h2 : k' = k := by simpa using h
    exact h2
  · trivial
  · cases h
theorem mem_placesK {d : TypeDesc} {k : Value} {ks : List Value} (hk : MapKept.IsKey d k) (hs : ∀ p ∈ ks, MapKept.IsKey d p) (j : Nat) : j ∈ placesK d k ks ↔ ks[j]? = some k := by
  unfold placesK
  rw [List.mem_filter, List.mem_range]
  constructor
  · rintro ⟨h1, h2⟩
    rw [List.getElem?_eq_getElem h1] at h2 ⊢
    obtain ⟨r, hr, hiff⟩ := MapKept.sameNow_of_keys hk (hs _ (List.getElem_mem h1))
    simp only [hr, Option.getD_some] at h2
    rw [hiff.1 h2]
  · intro h
    have h1 := (List.getElem?_eq_some_iff.1 h).1
    refine ⟨h1, ?_⟩
    rw [h]
    obtain ⟨r, hr, hiff⟩ := MapKept.sameNow_of_keys hk hk
    simp [hr, hiff.2 rfl]

/-- A look-up's result, by the places of the key. -/
def lookE (P : Program) (ok : Bool) (et : TypeId) (d : TypeDesc) (k : Value) (l : List (Value × XV)) : Option XV :=
  match placesK d k (l.map (·.1)) with
  | [] => (zeroT P et).map fun z => lookR ok (.d (.lit z)) false
  | [i] => (l[i]?).map fun p => lookR ok p.2 true
  | _ => none
def putE' (d : TypeDesc) (k : Value) (x : XV) (l : List (Value × XV)) : Option (List (Value × XV)) :=
  match placesK d k (l.map (·.1)) with
  | [] => some (l ++ [(k, x)])
  | [i] => some (l.set i (k, x))
  | _ => none

def mapTD (P : Program) (t : TypeId) : Option (TypeId × TypeDesc) := match P.underlying t with
  | some (.map kt et) => (P.underlying kt).map fun d => (et, d)
  | _ => none

def keysOk (d : TypeDesc) (k : Value) (l : List (Value × XV)) : Bool := isKeyB d k && l.all fun p => isKeyB d p.1

/-- Maps, checks for nil and functions without a body. -/
def evMap (P : Program) (o : Oper) (s : St) : Option (XV × List VObj × Nat) :=
  match o.op with
  | .makeMap _ none => some (.omp s.σ.length, s.σ ++ [⟨[], 3⟩], 3)
  | .nilCheck x => match evalX s.env x with
    | .optr id off => some (.optr id off, s.σ, 0)
    | .d (.ptr cs) => some (.d (.ptr cs), s.σ, 0)
    | _ => none
  | .lookup mty m key ok => match evalX s.env m, litOf2 (evalX s.env key), mapTD P mty with
    | .omp id, some k, some (et, d) => match s.σ[id]? with
      | some ob => if ob.mode = 3 ∨ ob.mode = 4 then match ob.cells.mapM entOf with
          | some l => if keysOk d k l then (lookE P ok et d k l).map fun x => (x, s.σ, 2) else none
          | none => none
        else none
      | none => none
    | .d (.mp ks ds), some k, some (et, d) => if ks.length = ds.length ∧ keysOk d k (List.zipWith (fun k y => (k, XV.d y)) ks ds) then (lookE P ok et d k (List.zipWith (fun k y => (k, XV.d y)) ks ds)).map fun x => (x, s.σ, 0) else none
    | _, _, _ => none
  | .mapUpdate mty m key val | .insert mty m key val => match evalX s.env m, litOf2 (evalX s.env key), mapTD P mty with
    | .omp id, some k, some (_, d) => match s.σ[id]? with
      | some ob => if ob.mode = 3 then match ob.cells.mapM entOf with
          | some l => if keysOk d k l then (putE' d k (evalX s.env val) l).map fun l' => (undefX, s.σ.set id ⟨entX l', 3⟩, 2) else none
          | none => none
        else none
      | none => none
    | _, _, _ => none
  | .call ⟨.builtin .len, args, ts⟩ => match args.toList, ts.toList with
    | [m], [mty] => match mapTD P mty, evalX s.env m with
      | some _, .omp id => match s.σ[id]? with
        | some ob => if ob.mode = 3 ∨ ob.mode = 4 then some (.d (DI (ob.cells.length : Nat)), s.σ, 2) else none
        | none => none
      | some _, .d (.mp _ ds) => some (.d (DI (ds.length : Nat)), s.σ, 0)
      | _, _ => none
    | _, _ => none
  | _ => none

theorem keysOk_iff {d : TypeDesc} {k : Value} {l : List (Value × XV)} (h : keysOk d k l = true) : MapKept.IsKey d k ∧ ∀ p ∈ l, MapKept.IsKey d p.1 := by
  unfold keysOk at h
  simp only [Bool.and_eq_true, List.all_eq_true] at h
  exact ⟨isKeyB_iff h.1, fun p hp => isKeyB_iff (h.2 p hp)⟩

theorem places_nil {d : TypeDesc} {k : Value} {l : List (Value × XV)} (h : keysOk d k l = true) (hp : placesK d k (l.map (·.1)) = []) : NoK l k := fun p hpm e => by
  obtain ⟨h1, h2⟩ := keysOk_iff h
  obtain ⟨j, hj⟩ := List.getElem?_of_mem hpm
  have : j ∈ placesK d k (l.map (·.1)) := (mem_placesK h1 (fun q hq => by obtain ⟨p, hp, rfl⟩ := List.mem_map.1 hq; exact h2 p hp) j).2 (by simp [hj, e])
  rw [hp] at this; cases this
theorem places_one {d : TypeDesc} {k : Value} {l : List (Value × XV)} (h : keysOk d k l = true) {i : Nat} (hp : placesK d k (l.map (·.1)) = [i]) {p : Value × XV} (hi : l[i]? = some p) : AtK l k i p.2 := by
  obtain ⟨h1, h2⟩ := keysOk_iff h
  have key := mem_placesK h1 (ks := l.map (·.1)) (fun q hq => by obtain ⟨p, hp, rfl⟩ := List.mem_map.1 hq; exact h2 p hp)
  have h3 := (key i).1 (by rw [hp]; simp)
  simp only [List.getElem?_map, hi, Option.map_some, Option.some.injEq] at h3
  refine ⟨by rw [hi, ← h3], fun j q hj hq => ?_⟩
  have : j ∈ placesK d k (l.map (·.1)) := (key j).2 (by simp [hj, hq])
  rw [hp] at this
  simpa using this
theorem places_lt {d : TypeDesc} {k : Value} {ks : List Value} {i : Nat} (hp : placesK d k ks = [i]) : i < ks.length := by
  have : i ∈ placesK d k ks := by rw [hp]; simp
  unfold placesK at this
  rw [List.mem_filter, List.mem_range] at this
  exact this.1

theorem mapTD_some {P : Program} {t et : TypeId} {d : TypeDesc} (h : mapTD P t = some (et, d)) : ∃ kt, P.underlying t = some (.map kt et) ∧ P.underlying kt = some d := by
  unfold mapTD at h
  split at h
  · rename_i kt et' hu
    rw [Option.map_eq_some_iff] at h
    obtain ⟨d', h1, h2⟩ := h
    cases h2
    exact ⟨kt, hu, h1⟩
  · cases h

theorem lookE_run {P : Program} {w : World} {ι : List Nat} {F : Nat → Prop} {ok : Bool} {mty kt et : TypeId} {d : TypeDesc} {k : Value} {l : List (Value × XV)} {x : XV} (ht : P.underlying mty = some (.map kt et)) (hd : P.underlying kt = some d) (h : keysOk d k l = true) (he : lookE P ok et d k l = some x)
    {b clock : Nat} {es : Array MapEntry} (hb : w.heap[b]? = some (.map es clock)) (hr : RepX w ι F es l) : ∃ v, (Instr.lookup mty (.map (some b)) k ok).run P w = .ok v w ∧ XRep w ι F v x := by
  obtain ⟨h1, h2⟩ := keysOk_iff h
  unfold lookE at he
  split at he
  · rename_i hp
    obtain ⟨z, hz, rfl⟩ := Option.map_eq_some_iff.1 he
    exact run_lookN (KeyR.plain hd) ht hz hb hr h2 h1 (places_nil h hp) ok
  · rename_i i hp
    obtain ⟨p, hz, rfl⟩ := Option.map_eq_some_iff.1 he
    exact run_look (KeyR.plain hd) ht hb hr h2 h1 (places_one h hp hz) ok
  · cases he

theorem putE_good {P : Program} {M : Nat → Prop} {W0 w : World} {ι : List Nat} {σ : List VObj} {mty kt et : TypeId} {d : TypeDesc} {k : Value} {x : XV} {l l' : List (Value × XV)} {id b : Nat} (ht : P.underlying mty = some (.map kt et)) (hd : P.underlying kt = some d) (h : keysOk d k l = true) (he : putE' d k x l = some l')
    (hM : Mem M W0 ι σ w) (ho : σ[id]? = some ⟨entX l, 3⟩) (hb : ι[id]? = some b) {v : Value} (hv : XRep w ι (Forb M ι σ) v x) {s : Sem Next} (hs : s = (do Instr.mapUpdate mty (.map (some b)) k v; pure .skip)) : Good P M W0 ι σ w s undefX (σ.set id ⟨entX l', 3⟩) := by
  obtain ⟨h1, h2⟩ := keysOk_iff h
  unfold putE' at he
  split at he
  · rename_i hp
    cases he
    exact good_new (KeyR.plain hd) ht hM ho hb h2 h1 hv (places_nil h hp) hs
  · rename_i i hp
    cases he
    have hlt := places_lt hp
    rw [List.length_map] at hlt
    exact good_upd (KeyR.plain hd) ht hM ho hb h2 h1 hv (places_one h hp (List.getElem?_eq_getElem hlt)) hs
  · cases he

theorem evMap_sound {P : Program} {o : Oper} {s : St} {x : XV} {σ' : List VObj} {fl : Nat} (h : evMap P o s = some (x, σ', fl)) : Ev P o s x σ' fl := by
  obtain ⟨dst, op, ty, pos, af, g⟩ := o
  unfold evMap at h
  simp only at h
  split at h
  · rename_i t
    cases h
    refine .semG fun M W0 ι w ev hm _ => ?_
    obtain ⟨m1, m2⟩ := hm.pushS (.map #[] 0) 3 [] (by omega) (fun w' hw => .inl ⟨.inl rfl, #[], 0, hw, rfl, fun i e c hi => by simp at hi⟩)
    refine ⟨_, _, .map (some w.heap.size), .inl ?_, m1, m2, .omp (by simp [hm.len])⟩
    simp [execOp, Instr.makeMap, Result.andThen]
  · rename_i y
    split at h
    · rename_i id off hx
      cases h
      refine .semP fun F ι w ev hh => ?_
      have h1 := hh y (by simp [Op.operands])
      rw [hx] at h1
      generalize hv : ev y = v at h1
      cases h1 with
      | optr hb =>
        refine ⟨_, ?_, .optr hb⟩
        simp [execOp, hv]
    · rename_i cs hx
      cases h
      refine .semP fun F ι w ev hh => ?_
      have h1 := hh y (by simp [Op.operands])
      rw [hx] at h1
      have h2 := h1
      generalize hv : ev y = v at h1 h2
      cases h1 with
      | d h1 =>
        cases h1 with
        | ptr vs hn ha hcell hxx => exact ⟨_, by simp [execOp, hv], h2⟩
    · cases h
  · rename_i mty m key ok
    split at h
    · rename_i id k et d hm hk htd
      obtain ⟨kt, ht, hd⟩ := mapTD_some htd
      split at h
      · rename_i ob ho
        split at h
        · rename_i hmode
          split at h
          · rename_i l hl
            split at h
            · rename_i hok
              obtain ⟨y, hy, he⟩ := Option.map_eq_some_iff.1 h
              cases he
              refine .semW fun M W0 ι w ev hM hh => ?_
              have h1 := hh m (by simp [Op.operands])
              have h2 := litOf2_rep (hh key (by simp [Op.operands])) hk
              rw [hm] at h1
              have hex : ∀ ev : Operand → Value, execOp ev ⟨dst, .lookup mty m key ok, ty, pos, af, g⟩ = (do pure (.value (← Instr.lookup mty (ev m) (ev key) ok))) := fun _ => rfl
              rw [hex, h2]
              generalize ev m = vm at *
              cases h1 with
              | @omp b _ hb =>
                have hsp := hM.spec id ob b ho hb (by omega)
                rw [entOf_entX hl] at hsp
                obtain ⟨es, clock, q1, q2⟩ := hsp.repX hmode
                obtain ⟨v, r1, r2⟩ := lookE_run ht hd hok hy q1 q2
                exact .pure hM (v := v) (by simp [r1, Result.andThen]) r2
            · cases h
          · cases h
        · cases h
      · cases h
    · rename_i ks ds k et d hm hk htd
      obtain ⟨kt, ht, hd⟩ := mapTD_some htd
      split at h
      · rename_i hok
        obtain ⟨y, hy, he⟩ := Option.map_eq_some_iff.1 h
        cases he
        refine .semP fun F ι w ev hh => ?_
        have h1 := hh m (by simp [Op.operands])
        have h2 := litOf2_rep (hh key (by simp [Op.operands])) hk
        rw [hm] at h1
        obtain ⟨b, es, clock, e1, q1, q2⟩ := rep_mp h1 hok.1
        have hex : ∀ ev : Operand → Value, execOp ev ⟨dst, .lookup mty m key ok, ty, pos, af, g⟩ = (do pure (.value (← Instr.lookup mty (ev m) (ev key) ok))) := fun _ => rfl
        rw [hex, h2, e1]
        obtain ⟨v, r1, r2⟩ := lookE_run ht hd hok.2 hy q1 q2
        exact ⟨v, by simp [r1, Result.andThen], r2⟩
      · cases h
    · cases h
  · rename_i mty m key val
    split at h
    · rename_i id k et d hm hk htd
      obtain ⟨kt, ht, hd⟩ := mapTD_some htd
      split at h
      · rename_i ob ho
        split at h
        · rename_i hmode
          split at h
          · rename_i l hl
            split at h
            · rename_i hok
              obtain ⟨y, hy, he⟩ := Option.map_eq_some_iff.1 h
              cases he
              refine .semW fun M W0 ι w ev hM hh => ?_
              have h1 := hh m (by simp [Op.operands])
              have h2 := litOf2_rep (hh key (by simp [Op.operands])) hk
              have h3 := hh val (by simp [Op.operands])
              rw [hm] at h1
              have hex : ∀ ev : Operand → Value, execOp ev ⟨dst, .mapUpdate mty m key val, ty, pos, af, g⟩ = (do Instr.mapUpdate mty (ev m) (ev key) (ev val); pure .skip) := fun _ => rfl
              rw [hex, h2]
              generalize ev m = vm at *
              have ho' : s.σ[id]? = some ⟨entX l, 3⟩ := by rw [ho, ← entOf_entX hl, ← hmode]
              cases h1 with
              | @omp b _ hb => exact putE_good ht hd hok hy hM ho' hb h3 rfl
            · cases h
          · cases h
        · cases h
      · cases h
    · cases h
  · rename_i mty m key val
    split at h
    · rename_i id k et d hm hk htd
      obtain ⟨kt, ht, hd⟩ := mapTD_some htd
      split at h
      · rename_i ob ho
        split at h
        · rename_i hmode
          split at h
          · rename_i l hl
            split at h
            · rename_i hok
              obtain ⟨y, hy, he⟩ := Option.map_eq_some_iff.1 h
              cases he
              refine .semW fun M W0 ι w ev hM hh => ?_
              have h1 := hh m (by simp [Op.operands])
              have h2 := litOf2_rep (hh key (by simp [Op.operands])) hk
              have h3 := hh val (by simp [Op.operands])
              rw [hm] at h1
              have hex : ∀ ev : Operand → Value, execOp ev ⟨dst, .insert mty m key val, ty, pos, af, g⟩ = (do Instr.mapUpdate mty (ev m) (ev key) (ev val); pure .skip) := fun _ => rfl
              rw [hex, h2]
              generalize ev m = vm at *
              have ho' : s.σ[id]? = some ⟨entX l, 3⟩ := by rw [ho, ← entOf_entX hl, ← hmode]
              cases h1 with
              | @omp b _ hb => exact putE_good ht hd hok hy hM ho' hb h3 rfl
            · cases h
          · cases h
        · cases h
      · cases h
    · cases h
  · rename_i args ts
    split at h
    rotate_left
    · cases h
    rename_i m mty ha hts
    obtain rfl : args = #[m] := by apply Array.ext'; simpa using ha
    obtain rfl : ts = #[mty] := by apply Array.ext'; simpa using hts
    split at h
    · rename_i td id htd hm
      split at h
      · rename_i ob ho
        split at h
        · rename_i hmode
          cases h
          obtain ⟨kt, ht, hd⟩ := mapTD_some htd
          refine .semW fun M W0 ι w ev hM hh => ?_
          have h1 := hh m (by simp [Op.operands, Call.operands])
          rw [hm] at h1
          generalize hvm : ev m = vm at *
          cases h1 with
          | @omp b _ hb =>
            rcases hM.spec id ob b ho hb (by omega) with ⟨_, es, clock, q1, q2, q3⟩ | ⟨q, _⟩ | ⟨q, _⟩
            · refine .pure hM (v := .int .i64 (ob.cells.length : Nat)) ?_ (.d (.lit _))
              simp [execOp, resolve, invoke, builtin, hvm, Builtin.len_, run_underlying ht, MapKept.run_getObj_map q1, Result.andThen, q2, goInt]
            · omega
            · omega
        · cases h
      · cases h
    · rename_i td ks ds htd hm
      cases h
      obtain ⟨kt, ht, hd⟩ := mapTD_some htd
      refine .semP fun F ι w ev hh => ?_
      have h1 := hh m (by simp [Op.operands, Call.operands])
      rw [hm] at h1
      refine ⟨.int .i64 (ds.length : Nat), ?_, .d (.lit _)⟩
      have := run_lenMp (P := P) (ts := #[mty]) h1 rfl ht ty
      simp [execOp, resolve, invoke, builtin, this, Result.andThen]
    · cases h
  · cases h

def evM (P : Program) (inl : FuncId → Bool) (callI : FuncId → List VObj → List XV → Option (XV × List VObj)) (o : Oper) (s : St) : Option (XV × List VObj × Nat) :=
  match evX P inl callI o s with
  | some r => some r
  | none => evMap P o s
theorem evM_sound {P : Program} {inl : FuncId → Bool} {callI : FuncId → List VObj → List XV → Option (XV × List VObj)} (hc : Right P callI) {o : Oper} {s : St} {x : XV} {σ' : List VObj} {fl : Nat}
    (h : evM P inl callI o s = some (x, σ', fl)) : Ev P o s x σ' fl := by
  unfold evM at h
  split at h
  · rename_i r hr; cases h; exact evX_sound hc hr
  · exact evMap_sound h

def runOpsM (P : Program) (inl : FuncId → Bool) (callI : FuncId → List VObj → List XV → Option (XV × List VObj)) (n : Nat) (ops : Array Oper) : List Oper → St → Option (List Nat × St)
  | [], s => some ([], s)
  | o :: l, s => if dstOk n o.dst then match guardX ops s.env o with
    | some true => match evM P inl callI o s with
      | some (x, σ', fl) => (runOpsM P inl callI n ops l ⟨σ', putE s.env o.dst x⟩).map fun r => (fl :: r.1, r.2)
      | none => none
    | some false => (runOpsM P inl callI n ops l ⟨s.σ, putE s.env o.dst undefX⟩).map fun r => (0 :: r.1, r.2)
    | none => none else none

theorem runOpsM_sound {P : Program} {inl : FuncId → Bool} {callI : FuncId → List VObj → List XV → Option (XV × List VObj)} (hc : Right P callI) {n : Nat} {ops : Array Oper} : ∀ (l : List Oper) (s : St) (fls : List Nat) (s' : St),
    runOpsM P inl callI n ops l s = some (fls, s') → Tr P n ops l s fls s'
  | [], s, fls, s', h => by simp [runOpsM] at h; obtain ⟨rfl, rfl⟩ := h; exact .nil
  | o :: l, s, fls, s', h => by
    simp only [runOpsM] at h
    split at h
    · rename_i hd
      split at h
      · rename_i hg
        split at h
        · rename_i x σ' fl he
          simp only [Option.map_eq_some_iff, Prod.mk.injEq] at h
          obtain ⟨⟨f, q⟩, hr, rfl, rfl⟩ := h
          exact .step hg (evM_sound hc he) hd (runOpsM_sound hc l _ _ _ hr)
        · cases h
      · rename_i hg
        simp only [Option.map_eq_some_iff, Prod.mk.injEq] at h
        obtain ⟨⟨f, q⟩, hr, rfl, rfl⟩ := h
        exact .skip hg hd (runOpsM_sound hc l _ _ _ hr)
      · cases h
    · cases h

def runCodeM (P : Program) (inl : FuncId → Bool) (callI : FuncId → List VObj → List XV → Option (XV × List VObj)) (n : Nat) : Nat → Code → St → Option (Exit × St)
  | 0, _, _ => none
  | k + 1, c, s => match c with
    | .skip => some (.normal, s)
    | .label _ => some (.normal, s)
    | .ret => some (.ret, s)
    | .exit id => some (.exit id, s)
    | .region _ ops draw => match runOpsM P inl callI n ops ops.toList s with
      | some (fls, s') => if !draw || okDraw ops (fun i => fls.getD i 0) then some (.normal, s') else none
      | none => none
    | .seq x y => match runCodeM P inl callI n k x s with
      | some (.normal, s') => runCodeM P inl callI n k y s'
      | r => r
    | .cond c x y => match litOf (evalX s.env c) with
      | some (.bool t) => runCodeM P inl callI n k (if t then x else y) s
      | _ => none
    | .block id x => match runCodeM P inl callI n k x s with
      | some (.exit id', s') => if id' = id then some (.normal, s') else some (.exit id', s')
      | r => r
    | .loop x => match runCodeM P inl callI n k x s with
      | some (.normal, s') => runCodeM P inl callI n k (.loop x) s'
      | r => r
    | _ => none

theorem runCodeM_both {P : Program} {M : Nat → Prop} {W0 : World} (hmix : P.follows .mixedOrders = true) {inl : FuncId → Bool} {callI : FuncId → List VObj → List XV → Option (XV × List VObj)} (hc : Right P callI) {n : Nat} :
    ∀ (k : Nat), (∀ (c : Code) (s : St) (e : Exit) (s' : St), runCodeM P inl callI n k c s = some (e, s') → Wp P M W0 n c s (fun e2 s2 => e2 = e ∧ s2 = s')) ∧
      (∀ (x : Code) (s : St) (e : Exit) (s' : St), runCodeM P inl callI n k (.loop x) s = some (e, s') → ∀ (C : Ctx) (ι : List Nat) (a : Act) (w : World), Fr M W0 C n ι s a w → ∀ Q : Exit → Act → World → Prop,
        (∀ (ι' : List Nat) (a' : Act) (w' : World), Fr M W0 C n ι' s' a' w' → Ext M ι s.σ w ι' s'.σ w' → Q e a' w') → Code.roundsIn (FR C.ro) 0 P x Q k a w)
  | 0 => ⟨fun c s e s' h => by simp [runCodeM] at h, fun x s e s' h => by simp [runCodeM] at h⟩
  | k + 1 => by
    obtain ⟨ih, ihl⟩ := runCodeM_both (M := M) (W0 := W0) hmix hc (n := n) k
    have hloop : ∀ (x : Code) (s : St) (e : Exit) (s' : St), runCodeM P inl callI n (k + 1) (.loop x) s = some (e, s') → ∀ (C : Ctx) (ι : List Nat) (a : Act) (w : World), Fr M W0 C n ι s a w → ∀ Q : Exit → Act → World → Prop,
        (∀ (ι' : List Nat) (a' : Act) (w' : World), Fr M W0 C n ι' s' a' w' → Ext M ι s.σ w ι' s'.σ w' → Q e a' w') → Code.roundsIn (FR C.ro) 0 P x Q (k + 1) a w := by
      intro x s e s' h C ι a w hf Q hq
      simp only [runCodeM] at h
      rw [roundsIn_succ]
      cases hx : runCodeM P inl callI n k x s with
      | none => rw [hx] at h; cases h
      | some r =>
        obtain ⟨e1, s1⟩ := r
        rw [hx] at h
        refine ih x s e1 s1 hx C ι a w hf _ fun e2 ι' s2 a' w' h1 h2 h3 => ?_
        obtain ⟨rfl, rfl⟩ := h1
        cases e2 <;> simp only [Exit.then] <;> first
          | exact ihl x s2 e s' h C ι' a' w' h2 Q fun ι'' a'' w'' q1 q2 => hq ι'' a'' w'' q1 (h3.trans q2)
          | (cases h; exact hq ι' a' w' h2 h3)
    refine ⟨fun c s e s' h => ?_, hloop⟩
    cases c with
    | skip => simp [runCodeM] at h; obtain ⟨rfl, rfl⟩ := h; exact .skip ⟨rfl, rfl⟩
    | label l => simp [runCodeM] at h; obtain ⟨rfl, rfl⟩ := h; exact .label ⟨rfl, rfl⟩
    | ret => simp [runCodeM] at h; obtain ⟨rfl, rfl⟩ := h; exact .ret ⟨rfl, rfl⟩
    | exit id => simp [runCodeM] at h; obtain ⟨rfl, rfl⟩ := h; exact .exit ⟨rfl, rfl⟩
    | region id ops draw =>
      simp only [runCodeM] at h
      split at h
      · rename_i fls s2 hr
        split at h
        · rename_i hd
          cases h
          have htr := runOpsM_sound hc _ _ _ _ hr
          cases draw with
          | false => exact .plain htr ⟨rfl, rfl⟩
          | true => exact .draw hmix htr (by simpa using hd) ⟨rfl, rfl⟩
        · cases h
      · cases h
    | seq x y =>
      simp only [runCodeM] at h
      refine .seq ?_
      cases hx : runCodeM P inl callI n k x s with
      | none => rw [hx] at h; cases h
      | some r =>
        obtain ⟨e1, s1⟩ := r
        rw [hx] at h
        refine (ih x s e1 s1 hx).mono fun e2 s2 he => ?_
        obtain ⟨rfl, rfl⟩ := he
        cases e2 <;> simp only [thenT] <;> first | exact ih y s2 e s' h | (cases h; exact ⟨rfl, rfl⟩)
    | cond c x y =>
      simp only [runCodeM] at h
      split at h
      · rename_i t ht; exact .cond ht (ih _ s e s' h)
      · cases h
    | block id x =>
      simp only [runCodeM] at h
      refine .block ?_
      cases hx : runCodeM P inl callI n k x s with
      | none => rw [hx] at h; cases h
      | some r =>
        obtain ⟨e1, s1⟩ := r
        rw [hx] at h
        refine (ih x s e1 s1 hx).mono fun e2 s2 he => ?_
        obtain ⟨rfl, rfl⟩ := he
        cases e2 with
        | exit id' =>
          simp only [blockT]
          simp only at h
          split at h
          · rename_i hid; rw [if_pos hid]; cases h; exact ⟨rfl, rfl⟩
          · rename_i hid; rw [if_neg hid]; cases h; exact ⟨rfl, rfl⟩
        | _ => cases h; exact ⟨rfl, rfl⟩
    | loop x =>
      exact fun C ι a w hf Q hq => wpIn_loop_rounds (k + 1) (hloop x s e s' h C ι a w hf Q fun ι' a' w' q1 q2 => hq e ι' s' a' w' ⟨rfl, rfl⟩ q1 q2)
    | _ => simp [runCodeM] at h

/-- A function, run among objects: k bounds how deep calls lie in each other, len how long each runs. -/
def runXM (P : Program) (inl : FuncId → Bool) (len : Nat) : Nat → FuncId → List VObj → List XV → Option (XV × List VObj)
  | 0, _, _, _ => none
  | k + 1, f, σ, args => match P.funcs[f]? with
    | some fn => match fn.body with
      | some c => if args.length ≤ fn.ntmps then
          match runCodeM P inl (runXM P inl len k) fn.ntmps len c (enter σ args) with
          | some (.ret, s) | some (.normal, s) => (resX P fn s).map fun x => (x, s.σ)
          | _ => none
        else none
      | none => none
    | none => none

theorem runXM_sound {P : Program} (hmix : P.follows .mixedOrders = true) {inl : FuncId → Bool} {len : Nat} : ∀ (k : Nat), Right P (runXM P inl len k)
  | 0 => fun f σ args x σ' h => by simp [runXM] at h
  | k + 1 => fun f σ args x σ' h => by
    simp only [runXM] at h
    split at h
    · rename_i fn hf
      split at h
      · rename_i c hb
        split at h
        · rename_i hn
          have key : ∀ (e : Exit) (s : St), (e = .ret ∨ e = .normal) → runCodeM P inl (runXM P inl len k) fn.ntmps len c (enter σ args) = some (e, s) → ((resX P fn s).map fun x => (x, s.σ)) = some (x, σ') →
              ∀ (M : Nat → Prop) (W0 : World), InCall P M W0 f σ args (fun σ2 x2 => σ2 = σ' ∧ x2 = x) := by
            intro e s he hr hres M W0
            simp only [Option.map_eq_some_iff, Prod.mk.injEq] at hres
            obtain ⟨y, hy, rfl, rfl⟩ := hres
            refine inCall_of hf hb hn (((runCodeM_both hmix (runXM_sound hmix k) len).1 c _ e s hr).mono fun e2 s2 h2 => ?_)
            obtain ⟨rfl, rfl⟩ := h2
            exact ⟨he, y, hy, rfl, rfl⟩
          split at h
          · rename_i s hr; exact key .ret s (.inl rfl) hr h
          · rename_i s hr; exact key .normal s (.inr rfl) hr h
          · cases h
        · cases h
      · cases h
    · cases h

/-- A function, run on deep values. -/
def runFnM (P : Program) (inl : FuncId → Bool) (len k : Nat) (f : FuncId) (args : List DV) : Option DV := deepOf (runXM P inl len k) f args

theorem runFnM_sound {P : Program} (hmix : P.follows .mixedOrders = true) {inl : FuncId → Bool} {len k : Nat} {f : FuncId} {args : List DV} {res : DV} (h : runFnM P inl len k f args = some res) : DeepCall P f args res :=
  deepOf_sound (runXM_sound hmix k) h

end Go.Vm

end
section
/-
  Controllers, without a program: where responses part.
-/
namespace Go.Sc
theorem runP_fst (nx nx2 : List (List Int)) : ∀ (w : List Nat) (s t : Nat), runW (nxP nx nx2) (s, t) w = (runW (nxF nx) s w, runW (nxF nx2) t w)
  | [], _, _ => rfl
  | i :: w, s, t => runP_fst nx nx2 w (nxF nx s i) (nxF nx2 t i)
/-- Up to the first parting letter responses are alike. -/
theorem resp_part {m : Nat} {nx ou nx2 ou2 : List (List Int)} {s t : Nat} {w : List Nat} (h : partW m nx ou nx2 ou2 s t = some w) :
    ∃ u i, w = u ++ [i] ∧ OkW m w ∧ ouF ou (runW (nxF nx) s u) i ≠ ouF ou2 (runW (nxF nx2) t u) i ∧ ∀ k, k < u.length → ouF ou (runW (nxF nx) s (u.take k)) (u.getD k 0) = ouF ou2 (runW (nxF nx2) t (u.take k)) (u.getD k 0) := by
  have hF := firstW_spec (nxP nx nx2) m (s, t) (diffP ou ou2)
  unfold partW at h
  rw [h] at hF
  have hok := hF.ok
  obtain ⟨u, i, rfl, h1, h2, h3, h4⟩ := hF
  rw [runP_fst] at h3
  refine ⟨u, i, rfl, hok, h3, fun k hk => Classical.byContradiction fun hne => ?_⟩
  have hu : u.getD k 0 = u[k] := by simp [hk]
  have h5 := h4 (u.take k) (u.getD k 0) (fun j hj => h1 j (List.mem_of_mem_take hj)) (by rw [hu]; exact h1 _ (List.getElem_mem hk)) (by rw [runP_fst]; exact hne)
  have h6 := len_le (hok) ((show OkW m (u.take k ++ [u.getD k 0]) from OkW.snoc (fun j hj => h1 j (List.mem_of_mem_take hj)) (by rw [hu]; exact h1 _ (List.getElem_mem hk)))) h5
  simp at h6; omega
/-- A word whose responses differ has a part that parts. -/
theorem resp_diff {nx ou nx2 ou2 : List (List Int)} {s t : Nat} {w : List Nat} (h : respL (nxF nx) (ouF ou) s w ≠ respL (nxF nx2) (ouF ou2) t w) :
    ∃ k, k < w.length ∧ diffP ou ou2 (runW (nxP nx nx2) (s, t) (w.take k)) (w.getD k 0) := by
  refine Classical.byContradiction fun hn => h ?_
  unfold respL
  refine List.map_congr_left fun k hk => Classical.byContradiction fun hne => hn ⟨k, List.mem_range.1 hk, ?_⟩
  rw [runP_fst]; exact hne
theorem part_none {m : Nat} {nx ou nx2 ou2 : List (List Int)} {s t : Nat} {v : List Nat} (h : partW m nx ou nx2 ou2 s t = none) (hv : OkW m v) : respL (nxF nx) (ouF ou) s v = respL (nxF nx2) (ouF ou2) t v := by
  refine Classical.byContradiction fun hne => ?_
  obtain ⟨k, hk, hd⟩ := resp_diff hne
  have hF := firstW_spec (nxP nx nx2) m (s, t) (diffP ou ou2)
  unfold partW at h
  rw [h] at hF
  have hvk : v.getD k 0 = v[k] := by simp [hk]
  exact hF (v.take k) (v.getD k 0) (fun j hj => hv j (List.mem_of_mem_take hj)) (by rw [hvk]; exact hv _ (List.getElem_mem hk)) hd
end Go.Sc
namespace Go.Sc
end Go.Sc

end
section
/-
  Controllers, without a program: states that respond alike, classes that are refined, searches of like systems.
-/
namespace Go.Sc
section
variable (m : Nat) (nx : Nat → Nat → Nat) (ou : Nat → Nat → Int)
/-- Alike to words of at most j letters. -/
def EqJ : Nat → Nat → Nat → Prop
  | 0, _, _ => True
  | j + 1, s, t => ∀ i, i < m → ou s i = ou t i ∧ EqJ j (nx s i) (nx t i)
/-- Alike to all words. -/
def Eqv (s t : Nat) : Prop := ∀ w i, OkW m w → i < m → ou (runW nx s w) i = ou (runW nx t w) i
end
section
variable {m : Nat} {nx : Nat → Nat → Nat} {ou : Nat → Nat → Int}
theorem EqJ.refl : ∀ (j s : Nat), EqJ m nx ou j s s
  | 0, _ => trivial
  | j + 1, _ => fun _ _ => ⟨rfl, EqJ.refl j _⟩
theorem EqJ.symm : ∀ {j s t : Nat}, EqJ m nx ou j s t → EqJ m nx ou j t s
  | 0, _, _, _ => trivial
  | _ + 1, _, _, h => fun i hi => ⟨(h i hi).1.symm, (h i hi).2.symm⟩
theorem EqJ.trans : ∀ {j s t u : Nat}, EqJ m nx ou j s t → EqJ m nx ou j t u → EqJ m nx ou j s u
  | 0, _, _, _, _, _ => trivial
  | _ + 1, _, _, _, h, k => fun i hi => ⟨(h i hi).1.trans (k i hi).1, (h i hi).2.trans (k i hi).2⟩
theorem EqJ.down : ∀ {j s t : Nat}, EqJ m nx ou (j + 1) s t → EqJ m nx ou j s t
  | 0, _, _, _ => trivial
  | _ + 1, _, _, h => fun i hi => ⟨(h i hi).1, (h i hi).2.down⟩
theorem EqJ.le {j k s t : Nat} (hjk : j ≤ k) (h : EqJ m nx ou k s t) : EqJ m nx ou j s t := by
  induction k with
  | zero => obtain rfl : j = 0 := by omega
            trivial
  | succ k ih =>
    by_cases e : j = k + 1
    · subst e; exact h
    · exact ih (by omega) h.down
theorem Eqv.refl (s : Nat) : Eqv m nx ou s s := fun _ _ _ _ => rfl
theorem Eqv.symm {s t : Nat} (h : Eqv m nx ou s t) : Eqv m nx ou t s := fun w i a b => (h w i a b).symm
theorem Eqv.trans {s t u : Nat} (h : Eqv m nx ou s t) (k : Eqv m nx ou t u) : Eqv m nx ou s u := fun w i a b => (h w i a b).trans (k w i a b)
theorem Eqv.step {s t i : Nat} (h : Eqv m nx ou s t) (hi : i < m) : ou s i = ou t i ∧ Eqv m nx ou (nx s i) (nx t i) :=
  ⟨h [] i .nil hi, fun w k a b => h (i :: w) k (fun j hj => by rcases List.mem_cons.1 hj with rfl | hj; exact hi; exact a j hj) b⟩
theorem eqJ_iff : ∀ {j s t : Nat}, EqJ m nx ou j s t ↔ ∀ w i, OkW m w → i < m → w.length < j → ou (runW nx s w) i = ou (runW nx t w) i
  | 0, s, t => ⟨fun _ w i _ _ h => by omega, fun _ => trivial⟩
  | j + 1, s, t => by
    constructor
    · intro h w i hw hi hl
      cases w with
      | nil => exact (h i hi).1
      | cons k w => exact eqJ_iff.1 (h k (hw k (.head _))).2 w i (fun x hx => hw x (.tail _ hx)) hi (by simpa using hl)
    · intro h i hi
      exact ⟨h [] i .nil hi (by simp), eqJ_iff.2 fun w k hw hk hl => h (i :: w) k (fun x hx => by rcases List.mem_cons.1 hx with rfl | hx; exact hi; exact hw x hx) hk (by simpa using hl)⟩
theorem eqv_iff {s t : Nat} : Eqv m nx ou s t ↔ ∀ j, EqJ m nx ou j s t :=
  ⟨fun h j => eqJ_iff.2 fun w i a b _ => h w i a b, fun h w i a b => eqJ_iff.1 (h (w.length + 1)) w i a b (by omega)⟩
/-- If one letter more parts no further states, none does. -/
theorem eqJ_stable {n j : Nat} (hcl : ∀ s i, s < n → i < m → nx s i < n) (hst : ∀ s t, s < n → t < n → EqJ m nx ou j s t → EqJ m nx ou (j + 1) s t) : ∀ (k : Nat) {s t : Nat}, s < n → t < n → EqJ m nx ou j s t → EqJ m nx ou (j + k) s t
  | 0, _, _, _, _, h => h
  | k + 1, s, t, hs, ht, h => by
    have h1 := hst s t hs ht h
    exact fun i hi => ⟨(h1 i hi).1, eqJ_stable hcl hst k (hcl s i hs hi) (hcl t i ht hi) (h1 i hi).2⟩
theorem eqJ_all {n j : Nat} (hcl : ∀ s i, s < n → i < m → nx s i < n) (hst : ∀ s t, s < n → t < n → EqJ m nx ou j s t → EqJ m nx ou (j + 1) s t) {s t : Nat} (hs : s < n) (ht : t < n) : EqJ m nx ou j s t ↔ Eqv m nx ou s t := by
  refine ⟨fun h => eqv_iff.2 fun k => ?_, fun h => eqv_iff.1 h j⟩
  exact EqJ.le (by omega) (eqJ_stable hcl hst k hs ht h)

/-- The least number with a property. -/
def IsLeast (p : Nat → Prop) (k : Nat) : Prop := p k ∧ ∀ j, p j → k ≤ j
theorem IsLeast.uniq {p : Nat → Prop} {a b : Nat} (h : IsLeast p a) (k : IsLeast p b) : a = b := Nat.le_antisymm (h.2 b k.1) (k.2 a h.1)
/-- The classes of words of at most j letters: the least state that is alike. -/
noncomputable def cls (m : Nat) (nx : Nat → Nat → Nat) (ou : Nat → Nat → Int) (j s : Nat) : Nat := Classical.choose (least_nat (p := fun t => EqJ m nx ou j s t) s (.refl j s))
theorem cls_spec (j s : Nat) : IsLeast (fun t => EqJ m nx ou j s t) (cls m nx ou j s) := Classical.choose_spec (least_nat (p := fun t => EqJ m nx ou j s t) s (.refl j s))
theorem cls_le (j s : Nat) : cls m nx ou j s ≤ s := (cls_spec j s).2 s (.refl j s)
theorem cls_iff {j s t : Nat} : cls m nx ou j s = cls m nx ou j t ↔ EqJ m nx ou j s t := by
  constructor
  · intro h
    have h1 := (cls_spec (m := m) (nx := nx) (ou := ou) j s).1
    rw [h] at h1
    exact h1.trans (cls_spec j t).1.symm
  · intro h
    have h1 := cls_spec (m := m) (nx := nx) (ou := ou) j s
    have h2 := cls_spec (m := m) (nx := nx) (ou := ou) j t
    exact Nat.le_antisymm (h1.2 _ (h.trans h2.1)) (h2.2 _ (h.symm.trans h1.1))
theorem cls_zero (s : Nat) : cls m nx ou 0 s = 0 := by
  have := (cls_spec (m := m) (nx := nx) (ou := ou) 0 s).2 0 trivial
  omega
theorem cls_mono (j s : Nat) : cls m nx ou j s ≤ cls m nx ou (j + 1) s := (cls_spec j s).2 _ (cls_spec (j + 1) s).1.down
/-- The class among all words. -/
noncomputable def rep (m : Nat) (nx : Nat → Nat → Nat) (ou : Nat → Nat → Int) (s : Nat) : Nat := Classical.choose (least_nat (p := fun t => Eqv m nx ou s t) s (.refl s))
theorem rep_spec (s : Nat) : IsLeast (fun t => Eqv m nx ou s t) (rep m nx ou s) := Classical.choose_spec (least_nat (p := fun t => Eqv m nx ou s t) s (.refl s))
theorem rep_le (s : Nat) : rep m nx ou s ≤ s := (rep_spec s).2 s (.refl s)
theorem rep_eqv (s : Nat) : Eqv m nx ou s (rep m nx ou s) := (rep_spec s).1
theorem rep_iff {s t : Nat} : rep m nx ou s = rep m nx ou t ↔ Eqv m nx ou s t := by
  constructor
  · intro h
    have h1 := rep_eqv (m := m) (nx := nx) (ou := ou) s
    rw [h] at h1
    exact h1.trans (rep_eqv t).symm
  · intro h
    have h1 := rep_spec (m := m) (nx := nx) (ou := ou) s
    have h2 := rep_spec (m := m) (nx := nx) (ou := ou) t
    exact Nat.le_antisymm (h1.2 _ (h.trans h2.1)) (h2.2 _ (h.symm.trans h1.1))
theorem rep_rep (s : Nat) : rep m nx ou (rep m nx ou s) = rep m nx ou s := rep_iff.2 (rep_eqv s).symm
theorem rep_zero : rep m nx ou 0 = 0 := by have := rep_le (m := m) (nx := nx) (ou := ou) 0; omega
theorem cls_rep {n j : Nat} (hcl : ∀ s i, s < n → i < m → nx s i < n) (hst : ∀ s, s < n → cls m nx ou (j + 1) s = cls m nx ou j s) {s : Nat} (hs : s < n) : cls m nx ou j s = rep m nx ou s := by
  have h1 : ∀ s t, s < n → t < n → EqJ m nx ou j s t → EqJ m nx ou (j + 1) s t := fun s t hs ht h => cls_iff.1 (by rw [hst s hs, hst t ht]; exact cls_iff.2 h)
  have c1 := cls_spec (m := m) (nx := nx) (ou := ou) j s
  have c2 := rep_spec (m := m) (nx := nx) (ou := ou) s
  have l1 := cls_le (m := m) (nx := nx) (ou := ou) j s
  refine Nat.le_antisymm (c1.2 _ (eqv_iff.1 c2.1 j)) (c2.2 _ ((eqJ_all hcl h1 hs (by omega)).1 c1.1))
end

/-- Two searches side by side. -/
def Sim {S T : Type} (R : S → T → Prop) (fs : List (S × List Nat)) (gs : List (T × List Nat)) : Prop := fs.length = gs.length ∧ ∀ (j : Nat) (p : S × List Nat) (q : T × List Nat), fs[j]? = some p → gs[j]? = some q → R p.1 q.1 ∧ p.2 = q.2
section
variable {S T : Type} {R : S → T → Prop} {m : Nat} {nx : S → Nat → S} {ny : T → Nat → T}
theorem Sim.mem (hu : ∀ s t t', R s t → R s t' → t = t') {fs : List (S × List Nat)} {gs : List (T × List Nat)} (h : Sim R fs gs) {s : S} {t : T} (hst : R s t) (hm : s ∈ fs.map Prod.fst) : t ∈ gs.map Prod.fst := by
  obtain ⟨p, hp, rfl⟩ := List.mem_map.1 hm
  obtain ⟨j, hj⟩ := List.getElem?_of_mem hp
  have hlt : j < gs.length := by rw [← h.1]; exact (List.getElem?_eq_some_iff.1 hj).1
  have hq := List.getElem?_eq_getElem hlt
  have := (h.2 j p _ hj hq).1
  rw [hu _ _ _ hst this]
  exact List.mem_map.2 ⟨_, List.getElem_mem hlt, rfl⟩
theorem Sim.swap {fs : List (S × List Nat)} {gs : List (T × List Nat)} (h : Sim R fs gs) : Sim (fun t s => R s t) gs fs := ⟨h.1.symm, fun j p q hp hq => ⟨(h.2 j q p hq hp).1, (h.2 j q p hq hp).2.symm⟩⟩
theorem Sim.add [DecidableEq S] [DecidableEq T] (hu : ∀ s t t', R s t → R s t' → t = t') (hv : ∀ s s' t, R s t → R s' t → s = s') {fs : List (S × List Nat)} {gs : List (T × List Nat)} (h : Sim R fs gs) {s : S} {t : T} (hst : R s t) (w : List Nat) : Sim R (addF fs s w) (addF gs t w) := by
  unfold addF
  by_cases hm : s ∈ fs.map Prod.fst
  · rw [if_pos hm, if_pos (h.mem hu hst hm)]; exact h
  · rw [if_neg hm, if_neg fun hm' => hm (h.swap.mem (fun t s s' a b => hv s s' t a b) hst hm')]
    refine ⟨by simp [h.1], fun j p q hp hq => ?_⟩
    by_cases hj : j < fs.length
    · rw [List.getElem?_append_left hj] at hp
      rw [List.getElem?_append_left (by rw [← h.1]; exact hj)] at hq
      exact h.2 j p q hp hq
    · rw [List.getElem?_append_right (by omega)] at hp
      rw [List.getElem?_append_right (by rw [← h.1]; omega), ← h.1] at hq
      cases hd : j - fs.length with
      | zero => rw [hd] at hp hq; simp at hp hq; subst hp hq; exact ⟨hst, rfl⟩
      | succ d => rw [hd] at hp; simp at hp
theorem Sim.row [DecidableEq S] [DecidableEq T] (hstep : ∀ s t i, R s t → i < m → R (nx s i) (ny t i)) (hu : ∀ s t t', R s t → R s t' → t = t') (hv : ∀ s s' t, R s t → R s' t → s = s') {fs : List (S × List Nat)} {gs : List (T × List Nat)} (h : Sim R fs gs) {s : S} {t : T} (hst : R s t) (w : List Nat) : ∀ i, i ≤ m → Sim R (rowF nx fs s w i) (rowF ny gs t w i)
  | 0, _ => h
  | i + 1, hi => by
    rw [rowF_succ, rowF_succ]
    exact (Sim.row hstep hu hv h hst w i (by omega)).add hu hv (hstep _ _ _ hst hi) _
theorem Sim.bfs [DecidableEq S] [DecidableEq T] (hstep : ∀ s t i, R s t → i < m → R (nx s i) (ny t i)) (hu : ∀ s t t', R s t → R s t' → t = t') (hv : ∀ s s' t, R s t → R s' t → s = s') : ∀ (n k : Nat) (fs : List (S × List Nat)) (gs : List (T × List Nat)), Sim R fs gs → Sim R (bfs nx m n k fs) (bfs ny m n k gs)
  | 0, _, _, _, h => h
  | n + 1, k, fs, gs, h => by
    unfold Go.Sc.bfs
    cases hp : fs[k]? with
    | none =>
      have : gs[k]? = none := by rw [List.getElem?_eq_none_iff] at hp ⊢; rw [← h.1]; exact hp
      rw [this]; exact h
    | some p =>
      have hlt : k < gs.length := by rw [← h.1]; exact (List.getElem?_eq_some_iff.1 hp).1
      rw [List.getElem?_eq_getElem hlt]
      obtain ⟨h1, h2⟩ := h.2 k p _ hp (List.getElem?_eq_getElem hlt)
      simp only
      rw [← h2]
      exact Sim.bfs hstep hu hv n (k + 1) _ _ (h.row hstep hu hv h1 _ m (Nat.le_refl _))
end
/-- More turns change nothing. -/
theorem bfs_more {S : Type} [DecidableEq S] {nx : S → Nat → S} {m : Nat} : ∀ (n n' k : Nat) (fs : List (S × List Nat)), n ≤ n' → (bfs nx m n k fs).length ≤ n + k → bfs nx m n' k fs = bfs nx m n k fs
  | 0, n', k, fs, _, h => bfs_done nx m (by simpa [bfs] using h)
  | n + 1, n', k, fs, hn, h => by
    obtain ⟨n'', rfl⟩ : ∃ n'', n' = n'' + 1 := ⟨n' - 1, by omega⟩
    cases hp : fs[k]? with
    | none =>
      have hl : fs.length ≤ k := by simpa using hp
      rw [bfs_done nx m hl, bfs_done nx m hl]
    | some p =>
      rw [bfs_step nx m hp] at h
      rw [bfs_step nx m hp, bfs_step nx m hp]
      exact bfs_more n n'' (k + 1) _ (by omega) (by omega)
end Go.Sc

end
section
/-
  Controllers, without a program: numbered machines; the minimal machine; when two are the same.
-/
namespace Go.Sc
section
variable {S : Type} [DecidableEq S]
def idxF (fs : List (S × List Nat)) (s : S) : Nat := (fs.map Prod.fst).idxOf s
def numN (fs : List (S × List Nat)) (nx : S → Nat → S) (m : Nat) : List (List Int) := fs.map fun p => (List.range m).map fun i => ((idxF fs (nx p.1 i) : Nat) : Int)
end
def numO {S : Type} (fs : List (S × List Nat)) (ou : S → Nat → Int) (m : Nat) : List (List Int) := fs.map fun p => (List.range m).map fun i => ou p.1 i
theorem numO_len {S : Type} (fs : List (S × List Nat)) (ou : S → Nat → Int) (m : Nat) : (numO fs ou m).length = fs.length := by simp [numO]
section
variable {S : Type} [DecidableEq S]
theorem numN_len (fs : List (S × List Nat)) (nx : S → Nat → S) (m : Nat) : (numN fs nx m).length = fs.length := by simp [numN]
theorem idxF_at {fs : List (S × List Nat)} (hn : (fs.map Prod.fst).Nodup) {k : Nat} {p : S × List Nat} (hk : fs[k]? = some p) : idxF fs p.1 = k := by
  unfold idxF
  have h1 : (fs.map Prod.fst)[k]? = some p.1 := by simp [hk]
  have hm := List.mem_of_getElem? h1
  have h2 : (fs.map Prod.fst)[(fs.map Prod.fst).idxOf p.1]? = some p.1 := by
    rw [List.getElem?_eq_getElem (List.idxOf_lt_length_of_mem hm)]
    simp
  exact (List.getElem?_inj (List.idxOf_lt_length_of_mem hm) hn).1 (h2.trans h1.symm)
theorem Found.idx {nx : S → Nat → S} {m : Nat} {s0 : S} {fs : List (S × List Nat)} (h : Found nx m s0 fs) {w : List Nat} (hw : OkW m w) : ∃ q, fs[idxF fs (runW nx s0 w)]? = some q ∧ q.1 = runW nx s0 w := by
  obtain ⟨q, hq, e, _⟩ := h.all w hw
  obtain ⟨k, hk⟩ := List.getElem?_of_mem hq
  refine ⟨q, ?_, e⟩
  rw [← e, idxF_at h.nd hk]; exact hk
theorem Found.closed {nx : S → Nat → S} {m : Nat} {s0 : S} {fs : List (S × List Nat)} (h : Found nx m s0 fs) {p : S × List Nat} (hp : p ∈ fs) {i : Nat} (hi : i < m) : idxF fs (nx p.1 i) < fs.length := by
  obtain ⟨h1, h2⟩ := h.run p hp
  obtain ⟨q, hq, e⟩ := h.idx (h2.snoc hi)
  rw [runW_snoc, h1] at hq
  exact (List.getElem?_eq_some_iff.1 hq).1
theorem Found.vm {nx : S → Nat → S} {ou : S → Nat → Int} {m : Nat} {s0 : S} {fs : List (S × List Nat)} (h : Found nx m s0 fs) (m1 : 1 ≤ m) (m8 : m ≤ 8) (h16 : fs.length ≤ 16) (ho : ∀ p ∈ fs, ∀ i, i < m → 0 ≤ ou p.1 i ∧ ou p.1 i ≤ 7) : VM m (numN fs nx m) (numO fs ou m) := by
  have hpos : 0 < fs.length := (List.getElem?_eq_some_iff.1 h.fst).1
  refine ⟨by omega, by omega, by rw [numN_len]; omega, by rw [numN_len]; omega, by rw [numN_len, numO_len], fun r hr => ?_, fun r hr => ?_⟩
  · unfold numN at hr
    obtain ⟨p, hp, rfl⟩ := List.mem_map.1 hr
    refine ⟨by simp, fun x hx => ?_⟩
    obtain ⟨i, hi, rfl⟩ := List.mem_map.1 hx
    have := h.closed hp (List.mem_range.1 hi)
    rw [numN_len]; omega
  · unfold numO at hr
    obtain ⟨p, hp, rfl⟩ := List.mem_map.1 hr
    refine ⟨by simp, fun x hx => ?_⟩
    obtain ⟨i, hi, rfl⟩ := List.mem_map.1 hx
    exact ho p hp i (List.mem_range.1 hi)
end
/-- Like searches give the same machine. -/
theorem num_same {S T : Type} [DecidableEq S] [DecidableEq T] {R : S → T → Prop} {m : Nat} {nx : S → Nat → S} {ny : T → Nat → T} {ou : S → Nat → Int} {ov : T → Nat → Int} {s0 : S} {t0 : T} {fs : List (S × List Nat)} {gs : List (T × List Nat)}
    (hf : Found nx m s0 fs) (hg : Found ny m t0 gs) (hs : Sim R fs gs) (hstep : ∀ s t i, R s t → i < m → R (nx s i) (ny t i)) (hu : ∀ s t t', R s t → R s t' → t = t') (ho : ∀ s t i, R s t → i < m → ou s i = ov t i) : numN fs nx m = numN gs ny m ∧ numO fs ou m = numO gs ov m := by
  have hidx : ∀ (p : S × List Nat) (q : T × List Nat) (i : Nat), p ∈ fs → R p.1 q.1 → i < m → idxF fs (nx p.1 i) = idxF gs (ny q.1 i) := by
    intro p q i hp hR hi
    obtain ⟨h1, h2⟩ := hf.run p hp
    obtain ⟨r, hr, e⟩ := hf.idx (h2.snoc hi)
    rw [runW_snoc, h1] at hr e
    have hlt : idxF fs (nx p.1 i) < gs.length := by rw [← hs.1]; exact (List.getElem?_eq_some_iff.1 hr).1
    have hq := List.getElem?_eq_getElem hlt
    have h3 := (hs.2 _ r _ hr hq).1
    rw [e] at h3
    have h4 := hu _ _ _ h3 (hstep _ _ i hR hi)
    rw [← h4]
    exact (idxF_at hg.nd hq).symm
  constructor
  · unfold numN
    refine List.ext_getElem (by simp [hs.1]) fun j h1 h2 => ?_
    rw [List.length_map] at h1 h2
    rw [List.getElem_map, List.getElem_map]
    refine List.map_congr_left fun i hi => ?_
    rw [hidx _ gs[j] i (List.getElem_mem h1) (hs.2 j _ _ (List.getElem?_eq_getElem h1) (List.getElem?_eq_getElem h2)).1 (List.mem_range.1 hi)]
  · unfold numO
    refine List.ext_getElem (by simp [hs.1]) fun j h1 h2 => ?_
    rw [List.length_map] at h1 h2
    rw [List.getElem_map, List.getElem_map]
    exact List.map_congr_left fun i hi => ho _ _ i (hs.2 j _ _ (List.getElem?_eq_getElem h1) (List.getElem?_eq_getElem h2)).1 (List.mem_range.1 hi)

/-- The minimal machine of nx, ou on n states. -/
noncomputable def nxR (m : Nat) (nx : Nat → Nat → Nat) (ou : Nat → Nat → Int) (s i : Nat) : Nat := rep m nx ou (nx s i)
noncomputable def minF (m n : Nat) (nx : Nat → Nat → Nat) (ou : Nat → Nat → Int) : List (Nat × List Nat) := bfs (nxR m nx ou) m n 0 [(0, [])]
noncomputable def minN (m n : Nat) (nx : Nat → Nat → Nat) (ou : Nat → Nat → Int) : List (List Int) := numN (minF m n nx ou) (nxR m nx ou) m
noncomputable def minO (m n : Nat) (nx : Nat → Nat → Nat) (ou : Nat → Nat → Int) : List (List Int) := numO (minF m n nx ou) ou m
section
variable {m n : Nat} {nx : Nat → Nat → Nat} {ou : Nat → Nat → Int}
theorem nxR_ok (hcl : ∀ s i, s < n → i < m → nx s i < n) : ∀ s i, s < n → i < m → nxR m nx ou s i < n := fun s i hs hi => Nat.lt_of_le_of_lt (rep_le _) (hcl s i hs hi)
theorem minF_found (hcl : ∀ s i, s < n → i < m → nx s i < n) (h0 : 0 < n) : Found (nxR m nx ou) m 0 (minF m n nx ou) := found_I h0 (nxR_ok hcl)
theorem minF_lt (hcl : ∀ s i, s < n → i < m → nx s i < n) (h0 : 0 < n) : ∀ p ∈ minF m n nx ou, p.1 < n := fun p hp => by
  obtain ⟨a, b⟩ := (minF_found hcl h0).run p hp
  rw [← a]; exact run_ok (Ok := (· < n)) (nxR_ok hcl) p.2 0 h0 b
theorem minF_len (hcl : ∀ s i, s < n → i < m → nx s i < n) (h0 : 0 < n) : (minF m n nx ou).length ≤ n := by
  have := nodup_le (minF_found (ou := ou) hcl h0).nd (n := n) fun x hx => by obtain ⟨p, hp, rfl⟩ := List.mem_map.1 hx; exact minF_lt hcl h0 p hp
  simpa using this
theorem min_vm (hcl : ∀ s i, s < n → i < m → nx s i < n) (ho : ∀ s i, s < n → i < m → 0 ≤ ou s i ∧ ou s i ≤ 7) (h0 : 0 < n) (n16 : n ≤ 16) (m1 : 1 ≤ m) (m8 : m ≤ 8) : VM m (minN m n nx ou) (minO m n nx ou) :=
  (minF_found hcl h0).vm m1 m8 (by have := minF_len (ou := ou) hcl h0; omega) fun p hp i hi => ho _ _ (minF_lt hcl h0 p hp) hi
end
/-- States of two machines that respond alike. -/
def Cross (m : Nat) (nx ny : Nat → Nat → Nat) (ou ov : Nat → Nat → Int) (s t : Nat) : Prop := ∀ w i, OkW m w → i < m → ou (runW nx s w) i = ov (runW ny t w) i
section
variable {m n n' : Nat} {nx ny : Nat → Nat → Nat} {ou ov : Nat → Nat → Int}
theorem Cross.left {s s' t : Nat} (h : Cross m nx ny ou ov s t) (he : Eqv m nx ou s s') : Cross m nx ny ou ov s' t := fun w i a b => (he w i a b).symm.trans (h w i a b)
theorem Cross.right {s t t' : Nat} (h : Cross m nx ny ou ov s t) (he : Eqv m ny ov t t') : Cross m nx ny ou ov s t' := fun w i a b => (h w i a b).trans (he w i a b)
theorem Cross.step {s t i : Nat} (h : Cross m nx ny ou ov s t) (hi : i < m) : Cross m nx ny ou ov (nx s i) (ny t i) := fun w k a b => h (i :: w) k (fun j hj => by rcases List.mem_cons.1 hj with rfl | hj; exact hi; exact a j hj) b
end
end Go.Sc

end
section
/-
  Controllers, without a program: how long a parting word may be.
-/
namespace Go.Sc
section
variable {m N : Nat} {nx : Nat → Nat → Nat} {ou : Nat → Nat → Int}
noncomputable def reps (m N : Nat) (nx : Nat → Nat → Nat) (ou : Nat → Nat → Int) (j : Nat) : List Nat := (List.range N).filter fun s => decide (cls m nx ou j s = s)
end
section
variable {m n n' : Nat} {nx ny : Nat → Nat → Nat} {ou ov : Nat → Nat → Int}
end
end Go.Sc

end
section
/-
  Controllers, without a program: lists of classes.
-/
namespace Go.Sc
open Go.Vm
noncomputable def clsL (m : Nat) (nx : Nat → Nat → Nat) (ou : Nat → Nat → Int) (n j : Nat) : List Nat := (List.range n).map (cls m nx ou j)
noncomputable def repL (m : Nat) (nx : Nat → Nat → Nat) (ou : Nat → Nat → Int) (n : Nat) : List Nat := (List.range n).map (rep m nx ou)
section
variable {m n : Nat} {nx : Nat → Nat → Nat} {ou : Nat → Nat → Int}
theorem clsL_len (j : Nat) : (clsL m nx ou n j).length = n := by simp [clsL]
theorem clsL_get {j s : Nat} (hs : s < n) : (wZ (clsL m nx ou n j)).getD s 0 = (cls m nx ou j s : Int) := by simp [wZ, clsL, hs]
theorem clsL_zero : clsL m nx ou n 0 = List.replicate n 0 := by
  unfold clsL
  refine List.ext_getElem (by simp) fun i h1 h2 => ?_
  simp [cls_zero]
theorem repL_len : (repL m nx ou n).length = n := by simp [repL]
theorem repL_get {s : Nat} (hs : s < n) : (wZ (repL m nx ou n)).getD s 0 = (rep m nx ou s : Int) := by simp [wZ, repL, hs]
theorem wZ_map (f : Nat → Nat) (n : Nat) : wZ ((List.range n).map f) = (List.range n).map fun s => (f s : Int) := by simp [wZ]
def sumF (f : Nat → Nat) (n : Nat) : Nat := ((List.range n).map f).sum
theorem sumF_succ (f : Nat → Nat) (n : Nat) : sumF f (n + 1) = sumF f n + f n := by unfold sumF; rw [List.range_succ, List.map_append, List.sum_append]; simp
theorem sumF_le {f g : Nat → Nat} : ∀ n, (∀ s, s < n → f s ≤ g s) → sumF f n ≤ sumF g n
  | 0, _ => Nat.le_refl _
  | n + 1, h => by
    rw [sumF_succ, sumF_succ]
    have := sumF_le n fun s hs => h s (by omega)
    have := h n (by omega)
    omega
theorem sumF_lt {f g : Nat → Nat} : ∀ n, (∀ s, s < n → f s ≤ g s) → (∃ s, s < n ∧ f s < g s) → sumF f n < sumF g n
  | 0, _, h => by obtain ⟨s, h, _⟩ := h; omega
  | n + 1, h, he => by
    rw [sumF_succ, sumF_succ]
    have h1 := h n (by omega)
    by_cases hn : f n < g n
    · have := sumF_le n fun s hs => h s (by omega)
      omega
    · obtain ⟨s, hs, hl⟩ := he
      have hne : s ≠ n := fun e => hn (e ▸ hl)
      have := sumF_lt n (fun s hs => h s (by omega)) ⟨s, by omega, hl⟩
      omega
theorem sumF_bound {f : Nat → Nat} : ∀ n k, (∀ s, s < n → f s ≤ k) → sumF f n ≤ n * k
  | 0, _, _ => by simp [sumF]
  | n + 1, k, h => by
    rw [sumF_succ, Nat.succ_mul]
    have := sumF_bound n k fun s hs => h s (by omega)
    have := h n (by omega)
    omega
theorem cls_sum (j : Nat) : sumF (cls m nx ou j) n ≤ n * n := sumF_bound n n fun s hs => by have := cls_le (m := m) (nx := nx) (ou := ou) j s; omega
theorem cls_next {j : Nat} (h : ¬ wZ (clsL m nx ou n (j + 1)) = wZ (clsL m nx ou n j)) : sumF (cls m nx ou j) n < sumF (cls m nx ou (j + 1)) n := by
  refine sumF_lt n (fun s _ => cls_mono j s) (Classical.byContradiction fun hn => h ?_)
  unfold clsL
  rw [wZ_map, wZ_map]
  refine List.map_congr_left fun s hs => ?_
  have := cls_mono (m := m) (nx := nx) (ou := ou) j s
  have : ¬ cls m nx ou j s < cls m nx ou (j + 1) s := fun hl => hn ⟨s, List.mem_range.1 hs, hl⟩
  omega
theorem cls_done {j : Nat} (hcl : ∀ s i, s < n → i < m → nx s i < n) (h : wZ (clsL m nx ou n (j + 1)) = wZ (clsL m nx ou n j)) : clsL m nx ou n j = repL m nx ou n := by
  have h2 := wZ_inj h
  unfold clsL at h2
  have h3 : ∀ s, s < n → cls m nx ou (j + 1) s = cls m nx ou j s := fun s hs => List.map_inj_left.1 h2 s (List.mem_range.2 hs)
  unfold clsL repL
  exact List.map_congr_left fun s hs => cls_rep hcl h3 (List.mem_range.1 hs)
theorem al_iff {j s t : Nat} : (∀ i, i < m → cls m nx ou j (nx s i) = cls m nx ou j (nx t i) ∧ ou s i = ou t i) ↔ EqJ m nx ou (j + 1) s t :=
  ⟨fun h i hi => ⟨(h i hi).2, cls_iff.1 (h i hi).1⟩, fun h i hi => ⟨cls_iff.2 (h i hi).2, (h i hi).1⟩⟩
noncomputable def eqB (m : Nat) (nx : Nat → Nat → Nat) (ou : Nat → Nat → Int) (j s t : Nat) : Bool := @decide (EqJ m nx ou j s t) (Classical.propDecidable _)
theorem eqB_yes {j s t : Nat} (h : EqJ m nx ou j s t) : eqB m nx ou j s t = true := by simp [eqB, h]
theorem eqB_no {j s t : Nat} (h : ¬ EqJ m nx ou j s t) : eqB m nx ou j s t = false := by simp [eqB, h]
theorem eqB_iff {j s t : Nat} : eqB m nx ou j s t = true ↔ EqJ m nx ou j s t := by simp [eqB]
end
end Go.Sc

end
section
/-
  MAPS OF THE CALL'S OWN from whole numbers to whole numbers: looked up, put, deleted, counted.
-/
namespace Go.Vm
open Go.RowKit

def mup : List (Int × Int) → Int → Int → List (Int × Int)
  | [], k, v => [(k, v)]
  | p :: m, k, v => if p.1 = k then (k, v) :: m else p :: mup m k v
/-- Each key stands once. -/
def NdI (m : List (Int × Int)) : Prop := (m.map Prod.fst).Nodup
theorem NdI.nil : NdI [] := List.nodup_nil
theorem mup_keys (k v : Int) : ∀ m : List (Int × Int), ∀ x, x ∈ (mup m k v).map Prod.fst ↔ x = k ∨ x ∈ m.map Prod.fst
  | [], x => by simp [mup]
  | p :: m, x => by
    unfold mup
    by_cases h : p.1 = k
    · rw [if_pos h]; simp [h]
    · rw [if_neg h]; simp only [List.map_cons, List.mem_cons, mup_keys k v m x]
      constructor
      · rintro (h | h | h)
        · exact .inr (.inl h)
        · exact .inl h
        · exact .inr (.inr h)
      · rintro (h | h | h)
        · exact .inr (.inl h)
        · exact .inl h
        · exact .inr (.inr h)
theorem NdI.up {k v : Int} : ∀ {m : List (Int × Int)}, NdI m → NdI (mup m k v)
  | [], _ => by simp [mup, NdI]
  | p :: m, h => by
    have h2 := List.nodup_cons.1 h
    unfold mup
    by_cases e : p.1 = k
    · rw [if_pos e]; subst e; exact h
    · rw [if_neg e]
      refine List.nodup_cons.2 ⟨fun hm => ?_, NdI.up (m := m) h2.2⟩
      rcases (mup_keys k v m p.1).1 hm with q | q
      · exact e q
      · exact h2.1 q
/-- The entries of such a map. -/
def entI (m : List (Int × Int)) : List XV := m.map fun p => XV.ent (.int .i64 p.1) (.d (DI p.2))
def RepI (es : Array MapEntry) (m : List (Int × Int)) : Prop := es.size = m.length ∧ ∀ (i : Nat) (e : MapEntry), es[i]? = some e → ∃ p, m[i]? = some p ∧ e.key = .int .i64 p.1 ∧ e.val = .int .i64 p.2
theorem RepI.key {es : Array MapEntry} {m : List (Int × Int)} (h : RepI es m) : ∀ x ∈ es.toList, MapKept.IsKey (.int .i64) x.key := fun x hx => by
  obtain ⟨i, hi⟩ := List.getElem?_of_mem hx
  obtain ⟨p, _, e, _⟩ := h.2 i x (by simpa using hi)
  rw [e]; rfl
theorem RepI.none {es : Array MapEntry} {m : List (Int × Int)} {k : Int} (h : RepI es m) (hk : ∀ x ∈ es.toList, x.key ≠ .int .i64 k) : ∀ p ∈ m, p.1 ≠ k := fun p hp hpk => by
  obtain ⟨i, hi⟩ := List.getElem?_of_mem hp
  have hlt : i < es.size := by rw [h.1]; exact (List.getElem?_eq_some_iff.1 hi).1
  obtain ⟨q, h1, h2, _⟩ := h.2 i es[i] (Array.getElem?_eq_getElem hlt)
  rw [hi] at h1; cases h1
  exact hk es[i] (by simp) (by rw [h2, hpk])
theorem RepI.spec {es : Array MapEntry} {m : List (Int × Int)} {clock b : Nat} {w : World} {ι : List Nat} {F : Nat → Prop} (h : RepI es m) (hb : w.heap[b]? = some (.map es clock)) : Spec w ι F b 3 (entI m) :=
  .inl ⟨.inl rfl, es, clock, hb, by rw [h.1]; simp [entI], fun i e c hi hc => by
    obtain ⟨p, h1, h2, h3⟩ := h.2 i e hi
    unfold entI at hc
    rw [List.getElem?_map, h1] at hc
    cases hc
    refine ⟨.d (DI p.2), by rw [h2], ?_⟩
    rw [h3]; exact .d (.lit _)⟩
theorem RepI.push {es : Array MapEntry} {m : List (Int × Int)} {k v : Int} {clock : Nat} (h : RepI es m) : RepI (es.push { key := .int .i64 k, val := .int .i64 v, born := clock }) (m ++ [(k, v)]) := by
  refine ⟨by simp [h.1], fun i e hi => ?_⟩
  rw [Array.getElem?_push] at hi
  split at hi
  · rename_i e1
    cases hi
    exact ⟨(k, v), by rw [e1, h.1]; simp, rfl, rfl⟩
  · obtain ⟨p, h1, h2⟩ := h.2 i e hi
    exact ⟨p, by rw [List.getElem?_append_left (List.getElem?_eq_some_iff.1 h1).1]; exact h1, h2⟩
theorem RepI.modify {es : Array MapEntry} {m : List (Int × Int)} {k v : Int} {j : Nat} (h : RepI es m) : RepI (es.modify j fun e => { e with key := .int .i64 k, val := .int .i64 v }) (m.set j (k, v)) := by
  refine ⟨by simp [h.1], fun i e hi => ?_⟩
  rw [Array.getElem?_modify] at hi
  have hlt : i < m.length := by
    rw [← h.1]
    have := hi
    split at this
    · obtain ⟨a, ha, _⟩ := Option.map_eq_some_iff.1 this
      exact (Array.getElem?_eq_some_iff.1 ha).1
    · exact (Array.getElem?_eq_some_iff.1 this).1
  rw [List.getElem?_set]
  by_cases e1 : j = i
  · rw [if_pos e1] at hi
    obtain ⟨a, _, rfl⟩ := Option.map_eq_some_iff.1 hi
    subst e1
    exact ⟨(k, v), by rw [if_pos rfl, if_pos hlt], rfl, rfl⟩
  · rw [if_neg e1] at hi
    rw [if_neg e1]
    exact h.2 i e hi
theorem RepI.erase {es : Array MapEntry} {m : List (Int × Int)} {j : Nat} (h : RepI es m) (hj : j < m.length) : RepI (es.eraseIdxIfInBounds j) (m.eraseIdx j) := by
  have hlt : j < es.size := by rw [h.1]; exact hj
  unfold Array.eraseIdxIfInBounds
  rw [dif_pos hlt]
  have h0 : es.size = m.length := h.1
  refine ⟨by simp [List.length_eraseIdx, h0]; omega, fun i e hi => ?_⟩
  rw [Array.getElem?_eraseIdx] at hi
  rw [List.getElem?_eraseIdx]
  split at hi
  · rename_i e1; rw [if_pos e1]; exact h.2 i e hi
  · rename_i e1; rw [if_neg e1]; exact h.2 _ e hi

section
variable {P : Program} {σ : List VObj} {kn : Kn} {dst : Option Tmp} {ty : TypeId} {pos : String} {af : Array Edge} {g : Option (Nat × Bool)}
end
end Go.Vm
namespace Go.Vm
/-- A variable of the call's own, as a whole. -/
theorem K.loadOX {P : Program} {σ : List VObj} {kn : Kn} {dst : Option Tmp} {ty : TypeId} {pos : String} {af : Array Edge} {g : Option (Nat × Bool)} {x : Operand} {t : TypeId} {id m md : Nat} (cs : List XV) {v : XV} (hx : evK kn x = some (.optr id 0)) (ho : σ[id]? = some ⟨cs, md⟩) (h2 : md < 2) (ha : isAggT P t = some true) (hs : sizeT P t = some m) (hm : cs.length = m) (hv : aggX cs = v) :
    KEv P ⟨dst, .load t x, ty, pos, af, g⟩ σ kn v σ 1 := by
  have := K.loadOAgg (P := P) (σ := σ) (kn := kn) (dst := dst) (ty := ty) (pos := pos) (af := af) (g := g) (m := m) hx ho h2 ha hs (by simp; omega)
  rw [List.drop_zero, List.take_of_length_le (by simp; omega), hv] at this
  exact this
end Go.Vm

end
section
/-
  CALLS THAT MAKE A SLICE FOR THEIR CALLER: the first object is kept, the others are forgotten.
-/
namespace Go.Vm
open Go.RowKit
section
variable {P : Program} {σ : List VObj} {kn : Kn} {dst : Option Tmp} {ty : TypeId} {pos : String} {af : Array Edge} {g : Option (Nat × Bool)}
end
end Go.Vm

end
section
/-
  EVERY ORDER: rules for trees of orders; stores where some loads may come late.
-/
namespace Go.Vm
section
variable {P : Program} {n : Nat} {ops : Array Oper} {Z : Nat → Prop} {l : List Oper} {σ : List VObj} {kn : Kn} {dst : Option Tmp} {ty : TypeId} {pos : String} {af : Array Edge} {g : Option (Nat × Bool)}
/-- A store into what no late load reads. -/
theorem KTZ.storeG {x y : Operand} {t : TypeId} {id off : Nat} {cells : List XV} {v : XV} {R : List Nat → List Nat → List VObj → Kn → Prop} (hg : guardK ops kn ⟨dst, .store t x y, ty, pos, af, g⟩ = some true) (hd : dstOk n dst = true) (hx : evK kn x = some (.optr id off)) (hy : evK kn y = some v)
    (hz : Z id) (ho : σ[id]? = some ⟨cells, 0⟩) (hof : off < cells.length) (hc : cellsX v = [v]) (h1 : oneX v = true) (hs : sizeT P t = some 1)
    (h : ∀ σ', σ'.length = σ.length → σ'[id]? = some ⟨cells.set off v, 0⟩ → (∀ j, j ≠ id → σ'[j]? = σ[j]?) → KTZ P n ops Z l σ' (extK dst undefX kn) (fun fls gs τ k => R (2 :: fls) (2 :: gs) τ k)) :
    KTZ P n ops Z (⟨dst, .store t x y, ty, pos, af, g⟩ :: l) σ kn R := by
  refine KTZ.write hg hd (fun j ob hj hob => ?_) (K.storeO hx hy ho hof hc h1 hs) (h _ (by simp) ?_ fun j hj => ?_)
  · have hne : j ≠ id := fun e => hj (by subst e; exact hz)
    exact ⟨ob, by rw [List.getElem?_set_ne (fun e => hne e.symm)]; exact hob, rfl, Iff.rfl⟩
  · rw [List.getElem?_set, if_pos rfl, if_pos (List.getElem?_eq_some_iff.1 ho).1]
  · rw [List.getElem?_set, if_neg (fun e => hj e.symm)]
theorem KTZ.storeL {x y : Operand} {t : TypeId} {id off : Nat} {cells : List XV} {v : XV} {R : List Nat → List Nat → List VObj → Kn → Prop} (hg : guardK ops kn ⟨dst, .store t x y, ty, pos, af, g⟩ = some true) (hd : dstOk n dst = true) (hx : evK kn x = some (.optr id off)) (hy : evK kn y = some v)
    (ho : σ[id]? = some ⟨cells, 0⟩) (hof : off < cells.length) (hc : cellsX v = [v]) (h1 : oneX v = true) (hs : sizeT P t = some 1)
    (h : ∀ σ', σ'.length = σ.length → σ'[id]? = some ⟨cells.set off v, 0⟩ → (∀ j, j ≠ id → σ'[j]? = σ[j]?) → KTZ P n ops Z l σ' (extK dst undefX kn) (fun fls gs τ k => R (2 :: fls) (0 :: gs) τ k)) :
    KTZ P n ops Z (⟨dst, .store t x y, ty, pos, af, g⟩ :: l) σ kn R := by
  refine KTZ.step hg hd (K.storeO hx hy ho hof hc h1 hs) (h _ (by simp) ?_ fun j hj => ?_)
  · rw [List.getElem?_set, if_pos rfl, if_pos (List.getElem?_eq_some_iff.1 ho).1]
  · rw [List.getElem?_set, if_neg (fun e => hj e.symm)]
end
end Go.Vm

end
section
/-
  Batch: families of own slices; an append in an open order; the graph of a shop (pure).
-/
namespace Go.Vm
open Go.RowKit
section
variable {P : Program} {n : Nat} {ops : Array Oper} {l : List Oper} {σ : List VObj} {kn : Kn} {dst : Option Tmp} {ty : TypeId} {pos : String} {af : Array Edge} {g : Option (Nat × Bool)}
theorem K.appE {t e : TypeId} {x y : Operand} {k : Nat} {sx : XV} {cells vs : List XV} {id : Nat}
    (hx : evK kn x = some sx) (hy : evK kn y = some (.osl id 0 1 k 1 true)) (hown : OwnK k σ sx cells) (hid : σ[id]? = some ⟨vs, 0⟩) (hvs : vs.length = k) (h1v : vs.all oneX = true) (hlen : cells.length < 1073741823)
    (ht : P.underlying t = some (.slice e)) (hs : sizeT P e = some k) (hb : bytesT P e ≤ 65536) (hz : (zeroT P e).map (·.cells.size) = some k) (hk : 0 < k) :
    ∃ σ' x', KEv P ⟨dst, .call ⟨.builtin .append, #[x, y], #[t, t]⟩, ty, pos, af, g⟩ σ kn x' σ' 2 ∧ OwnK k σ' x' (cells ++ vs) ∧ (∀ j, idX sx ≠ some j → j < σ.length → σ'[j]? = σ[j]?) ∧ ∃ j, idX x' = some j ∧ σ.length ≤ j := by
  have hsrc : srcCells σ k (.osl id 0 1 k 1 true) = some (vs, 1, 1) := by
    simp [srcCells, hid, hvs]
    rw [List.take_of_length_le (by omega)]
  cases hown with
  | nil =>
    refine ⟨σ ++ [⟨vs, 0⟩], .osl σ.length 0 1 k 1 false, ev_op fun env he => ?_, .sl (by simp) (by simp [hvs]), fun j _ hj => by rw [List.getElem?_append_left hj], _, rfl, Nat.le_refl _⟩
    have e1 := evK_evalX he hx
    have e2 := evK_evalX he hy
    unfold evalOp
    rw [litOp_none (x := y) (by simp [Op.operands, Call.operands]) (by rw [e2]; rfl)]
    simp [e1, e2, opAppend, ht, hs, hsrc, h1v, growTo, hb, hz]
  | @sl oid m cells ho hn =>
    have hm : m < 1073741823 := by
      have : m * 1 ≤ m * k := Nat.mul_le_mul_left _ hk
      omega
    refine ⟨(σ.set oid ⟨cells, 2⟩) ++ [⟨cells ++ vs, 0⟩], .osl σ.length 0 (m + 1) k (m + 1) false, ev_op fun env he => ?_,
      .sl (by rw [List.getElem?_append_right (by simp)]; simp) (by simp [hn, hvs, Nat.add_mul]), fun j hj hlt => by
        rw [List.getElem?_append_left (by simpa using hlt), List.getElem?_set]
        rw [if_neg (fun e => hj (by rw [e]; rfl))], _, rfl, Nat.le_refl _⟩
    have e1 := evK_evalX he hx
    have e2 := evK_evalX he hy
    unfold evalOp
    rw [litOp_none (x := x) (by simp [Op.operands, Call.operands]) (by rw [e1]; rfl)]
    have h3 : m + 1 ≤ 1073741824 := by omega
    have h4 : ¬ m + 1 ≤ m := by omega
    simp [e1, e2, opAppend, ht, hs, hsrc, h1v, ho, hb, hz, h3, h4, hn]
theorem K.lenOK {x : Operand} {t e : TypeId} {k m : Nat} {sx : XV} {cells : List XV} (hx : evK kn x = some sx) (h : OwnK k σ sx cells) (hm : cells.length = m * k) (hk : 0 < k) (ht : P.underlying t = some (.slice e)) :
    KEv P ⟨dst, .call ⟨.builtin .len, #[x], #[t]⟩, ty, pos, af, g⟩ σ kn (.d (DI (m : Nat))) σ 0 := by
  cases h with
  | nil =>
    have : m = 0 := by
      rcases Nat.mul_eq_zero.1 (show m * k = 0 from hm.symm) with h | h
      · exact h
      · omega
    subst this
    exact K.len (R := fun _ (_ : Nat) => True) (l := []) hx .nil ht
  | @sl id n cells h hn =>
    have : m = n := Nat.mul_right_cancel hk (hm.symm.trans hn)
    subst this
    exact K.lenO hx ht
/-- append in an open order: the slice that is appended to is what no other operation reads. -/
theorem KTZ.appK {Z : Nat → Prop} {R : List Nat → List Nat → List VObj → Kn → Prop} {t e : TypeId} {x y : Operand} {k : Nat} {sx : XV} {cells vs : List XV} {id : Nat} (hg : guardK ops kn ⟨dst, .call ⟨.builtin .append, #[x, y], #[t, t]⟩, ty, pos, af, g⟩ = some true) (hd : dstOk n dst = true)
    (hZ : ∀ j, idX sx = some j → Z j)
    (hx : evK kn x = some sx) (hy : evK kn y = some (.osl id 0 1 k 1 true)) (hown : OwnK k σ sx cells) (hid : σ[id]? = some ⟨vs, 0⟩) (hvs : vs.length = k) (h1v : vs.all oneX = true) (hlen : cells.length < 1073741823)
    (ht : P.underlying t = some (.slice e)) (hs : sizeT P e = some k) (hb : bytesT P e ≤ 65536) (hz : (zeroT P e).map (·.cells.size) = some k) (hk : 0 < k)
    (h : ∀ σ' x', OwnK k σ' x' (cells ++ vs) → (∀ j, idX sx ≠ some j → j < σ.length → σ'[j]? = σ[j]?) → (∃ j, idX x' = some j ∧ σ.length ≤ j) → KTZ P n ops Z l σ' (extK dst x' kn) (fun fls gs τ k => R (2 :: fls) (2 :: gs) τ k)) :
    KTZ P n ops Z (⟨dst, .call ⟨.builtin .append, #[x, y], #[t, t]⟩, ty, pos, af, g⟩ :: l) σ kn R := by
  obtain ⟨σ', x', h1, h2, h3, h4⟩ := K.appE (P := P) (dst := dst) (ty := ty) (pos := pos) (af := af) (g := g) hx hy hown hid hvs h1v hlen ht hs hb hz hk
  refine KTZ.write hg hd (fun i ob hi ho => ?_) h1 (h σ' x' h2 h3 h4)
  have hlt : i < σ.length := (List.getElem?_eq_some_iff.1 ho).1
  exact ⟨ob, (h3 i (fun e => hi (hZ i e)) hlt).trans ho, rfl, Iff.rfl⟩
end
/-- Own slices apart from one another. -/
structure Fam (lo : Nat) (σ : List VObj) (F : List (Nat × XV × List XV)) : Prop where
  own : ∀ p ∈ F, OwnK p.1 σ p.2.1 p.2.2 ∧ (p.2.2 = [] → p.2.1 = .d Dnil) ∧ ∀ j, idX p.2.1 = some j → lo ≤ j
  apart : ∀ (i j : Nat) (hi : i < F.length) (hj : j < F.length), i ≠ j → ∀ id, idX F[i].2.1 = some id → idX F[j].2.1 ≠ some id
theorem Fam.keep {lo : Nat} {σ σ' : List VObj} {F : List (Nat × XV × List XV)} (h : Fam lo σ F) (hk : ∀ j, lo ≤ j → j < σ.length → σ'[j]? = σ[j]?) : Fam lo σ' F :=
  ⟨fun p hp => ⟨(h.own p hp).1.keep fun j hj => hk j ((h.own p hp).2.2 j hj) ((h.own p hp).1.lt hj), (h.own p hp).2⟩, h.apart⟩
theorem Fam.put {lo : Nat} {σ σ' : List VObj} {F : List (Nat × XV × List XV)} (h : Fam lo σ F) {i : Nat} (hi : i < F.length) {x' : XV} {cells' : List XV} (hk : ∀ j, idX F[i].2.1 ≠ some j → j < σ.length → σ'[j]? = σ[j]?)
    (ho : OwnK F[i].1 σ' x' cells') (hne : cells' ≠ []) (hx : ∃ j, idX x' = some j ∧ σ.length ≤ j) (hlo : lo ≤ σ.length) : Fam lo σ' (F.set i (F[i].1, x', cells')) := by
  obtain ⟨j', hj', hl'⟩ := hx
  constructor
  · intro p hp
    obtain ⟨k, hk1, rfl⟩ := List.getElem_of_mem hp
    rw [List.length_set] at hk1
    rw [List.getElem_set]
    split
    · exact ⟨ho, fun e => absurd e hne, fun j hj => by rw [hj'] at hj; cases hj; omega⟩
    · rename_i hne2
      have hp := h.own F[k] (List.getElem_mem hk1)
      exact ⟨hp.1.keep fun j hj => hk j (h.apart k i hk1 hi (fun e => hne2 e.symm) j hj) (hp.1.lt hj), hp.2⟩
  · intro a b ha hb hab id hid
    rw [List.length_set] at ha hb
    rw [List.getElem_set] at hid ⊢
    split at hid
    · rename_i e1
      simp only at hid
      rw [hj'] at hid; cases hid
      rw [if_neg (fun e2 => hab (by omega))]
      intro e3
      have := (h.own F[b] (List.getElem_mem hb)).1.lt e3
      omega
    · split
      · simp only
        rw [hj']
        intro e; cases e
        have := (h.own F[a] (List.getElem_mem ha)).1.lt hid
        omega
      · exact h.apart a b ha hb hab id hid
theorem Fam.push {lo : Nat} {σ : List VObj} {F : List (Nat × XV × List XV)} (h : Fam lo σ F) (o : VObj) : Fam lo (σ ++ [o]) F := h.keep fun _ _ hj => List.getElem?_append_left hj
end Go.Vm
namespace Go.Ba
open Go.Vm Go.Ht
end Go.Ba

end
section
/-
  Batch: what the longest ways are: the least times that keep the arcs (pure).
-/
namespace Go.Ba
open Go.Vm Go.Ht

/-- Times that keep the arcs. -/
structure Sol (os ar : List (Int × Int)) (x : Int → Int) : Prop where
  nn : ∀ i : Int, 0 ≤ i → i < os.length → 0 ≤ x i
  arc : ∀ a ∈ ar, x a.1 + tm os a.1 ≤ x a.2
theorem Sol.sub {os ar br : List (Int × Int)} {x : Int → Int} (h : Sol os ar x) (hs : ∀ a ∈ br, a ∈ ar) : Sol os br x := ⟨h.nn, fun a ha => h.arc a (hs a ha)⟩

end Go.Ba

end
section
/-
  Batch: append of a slice of pairs that is read; rows of pairs that are told as values.
-/
namespace Go.Vm
open Go.RowKit Go.Ba Go.Ht
section
variable {P : Program} {n : Nat} {ops : Array Oper} {l : List Oper} {σ : List VObj} {kn : Kn} {dst : Option Tmp} {ty : TypeId} {pos : String} {af : Array Edge} {g : Option (Nat × Bool)}
  {R : List Nat → List VObj → Kn → Prop}
end
end Go.Vm

end
section
/-
  APPENDS OF SLICES THAT ARE READ to own slices, exact or grown; a slice from somewhere on.
-/
namespace Go.Vm
open Go.RowKit Go.Ht

section
variable {P : Program} {n : Nat} {ops : Array Oper} {l : List Oper} {σ : List VObj} {kn : Kn} {dst : Option Tmp} {ty : TypeId} {pos : String} {af : Array Edge} {g : Option (Nat × Bool)}
  {R : List Nat → List VObj → Kn → Prop}
end
end Go.Vm

end
section
/-
  COPIES OF SLICES OF PAIRS; elements of own slices of pairs.
-/
namespace Go.Vm
open Go.RowKit Go.Ht Go.Ba
section
variable {P : Program} {σ : List VObj} {kn : Kn} {dst : Option Tmp} {ty : TypeId} {pos : String} {af : Array Edge} {g : Option (Nat × Bool)}
theorem K.build0P {t e : TypeId} {z : Value} {k : Nat} (ht : P.underlying t = some (.slice e)) (hs : sizeT P e = some k) (hz : zeroT P e = some z) :
    KEv P ⟨dst, .buildSlice t 0 #[], ty, pos, af, g⟩ σ kn (.osl σ.length 0 0 k 0 true) (σ ++ [⟨[], 0⟩]) 3 := ev_op fun env he => by
  unfold evalOp
  rw [litOp_buildSlice]
  simp [opBuildSlice, ht, hs, hz, fillX, zeroRow]
theorem K.appAllP {t e : TypeId} {x y : Operand} {cs : List DV} {len id k : Nat} {cap : Option Nat} (hx : evK kn x = some (.osl id 0 0 k 0 true)) (hy : evK kn y = some (.d (.sl cs len cap))) (hid : σ[id]? = some ⟨[], 0⟩)
    (hn : cs.length = len * k) (h1v : (cs.map XV.d).all oneX = true) (h0 : len ≠ 0) (hlen : len ≤ 1073741824) (ht : P.underlying t = some (.slice e)) (hs : sizeT P e = some k) (hb : bytesT P e ≤ 65536) (hz : (zeroT P e).map (·.cells.size) = some k) :
    KEv P ⟨dst, .call ⟨.builtin .append, #[x, y], #[t, t]⟩, ty, pos, af, g⟩ σ kn (.osl σ.length 0 len k len false) (σ ++ [⟨cs.map .d, 0⟩]) 2 := ev_op fun env he => by
  have e1 := evK_evalX he hx
  have e2 := evK_evalX he hy
  unfold evalOp
  rw [litOp_none (x := x) (by simp [Op.operands, Call.operands]) (by rw [e1]; rfl)]
  have h3 : len * k ≤ cs.length := by omega
  have h4 : cs.take (len * k) = cs := List.take_of_length_le (by omega)
  simp only [e1, e2, opAppend, ht, hs, srcCells, h3, h4, if_true, h1v, h0, hid, if_false]
  simp [growTo, hlen, hb, hz, h0]
end
end Go.Vm

end
section
/-
  WORDS COPIED AND MADE LONGER: append of a word that is read to an empty literal, then of one letter.
-/
namespace Go.Vm
open Go.RowKit
/-- What append to an empty literal gives. -/
inductive OwnEm (σ : List VObj) : XV → List XV → Prop
  | emp {id : Nat} (h : σ[id]? = some ⟨[], 0⟩) : OwnEm σ (.osl id 0 0 1 0 true) []
  | own {x : XV} {cells : List XV} (h : OwnK 1 σ x cells) : OwnEm σ x cells
def dW (w : List Nat) : List DV := w.map fun i => DI (i : Nat)
theorem dW_snoc (w : List Nat) (i : Nat) : (dW w).map XV.d ++ [.d (DI (i : Nat))] = ((wZ (w ++ [i])).map DI).map .d := by simp [dW, wZ]
section
variable {P : Program} {σ : List VObj} {kn : Kn} {dst : Option Tmp} {ty : TypeId} {pos : String} {af : Array Edge} {g : Option (Nat × Bool)} {n : Nat} {ops : Array Oper} {l : List Oper} {R : List Nat → List VObj → Kn → Prop}
theorem KT.appW {t e : TypeId} {x y : Operand} {id : Nat} (w : List Nat) (hg : guardK ops kn ⟨dst, .call ⟨.builtin .append, #[x, y], #[t, t]⟩, ty, pos, af, g⟩ = some true) (hd : dstOk n dst = true)
    (hx : evK kn x = some (.osl id 0 0 1 0 true)) (hy : evK kn y = some (.d (wV w))) (hid : σ[id]? = some ⟨[], 0⟩) (hl : w.length ≤ 1000000)
    (ht : P.underlying t = some (.slice e)) (hs : sizeT P e = some 1) (hb : bytesT P e ≤ 65536) (hz : (zeroT P e).map (·.cells.size) = some 1)
    (h : ∀ σ' x', OwnEm σ' x' ((dW w).map .d) → (∀ j, j < σ.length → σ'[j]? = σ[j]?) → σ.length ≤ σ'.length → (∀ j, idX x' = some j → id ≤ j) → KT P n ops l σ' (extK dst x' kn) (fun fls τ k => R (2 :: fls) τ k)) :
    KT P n ops (⟨dst, .call ⟨.builtin .append, #[x, y], #[t, t]⟩, ty, pos, af, g⟩ :: l) σ kn R := by
  have hlt := obj_lt hid
  cases w with
  | nil =>
    refine KT.step hg hd (x := .osl id 0 0 1 0 true) (σ' := σ) (fl := 2) (ev_op fun env he => ?_) (h _ _ (.emp hid) (fun _ _ => rfl) (Nat.le_refl _) fun j hj => by cases hj; exact Nat.le_refl _)
    have e1 := evK_evalX he hx
    have e2 := evK_evalX he hy
    unfold evalOp
    rw [litOp_none (x := x) (by simp [Op.operands, Call.operands]) (by rw [e1]; rfl)]
    simp [e1, e2, opAppend, ht, hs, srcCells, wV]
  | cons a w =>
    rw [wV_ne (by simp)] at hy
    refine KT.step hg hd (K.appAllP hx hy hid (by simp) (by simp [List.all_map]; exact ⟨rfl, fun _ _ => rfl⟩) (by simp) (by omega) ht hs hb hz) (h _ _ (.own (.sl (by simp [dW]) (by simp [dW]))) (fun j hj => List.getElem?_append_left hj) (by simp) fun j hj => by cases hj; omega)
theorem KT.appE {t e : TypeId} {x y : Operand} {sx : XV} {cells : List XV} {v : XV} {id : Nat} (hg : guardK ops kn ⟨dst, .call ⟨.builtin .append, #[x, y], #[t, t]⟩, ty, pos, af, g⟩ = some true) (hd : dstOk n dst = true)
    (hx : evK kn x = some sx) (hy : evK kn y = some (.osl id 0 1 1 1 true)) (hown : OwnEm σ sx cells) (hid : σ[id]? = some ⟨[v], 0⟩) (h1v : oneX v = true) (hlen : cells.length < 1073741823)
    (ht : P.underlying t = some (.slice e)) (hs : sizeT P e = some 1) (hb : bytesT P e ≤ 65536) (hz : (zeroT P e).map (·.cells.size) = some 1)
    (h : ∀ σ' x', OwnK 1 σ' x' (cells ++ [v]) → (∀ j, idX sx ≠ some j → j < σ.length → σ'[j]? = σ[j]?) → (∃ j, idX x' = some j ∧ σ.length ≤ j) → KT P n ops l σ' (extK dst x' kn) (fun fls τ k => R (2 :: fls) τ k)) :
    KT P n ops (⟨dst, .call ⟨.builtin .append, #[x, y], #[t, t]⟩, ty, pos, af, g⟩ :: l) σ kn R := by
  cases hown with
  | own ho => exact KT.appK hg hd hx hy ho hid rfl (by simp [h1v]) hlen ht hs hb hz (by decide) h
  | @emp oid ho =>
    refine KT.step hg hd (x := .osl σ.length 0 1 1 1 false) (σ' := σ ++ [⟨[v], 0⟩]) (fl := 2) (ev_op fun env he => ?_) (h _ _ (.sl (by simp) (by simp)) (fun j _ hj => by rw [List.getElem?_append_left hj]) ⟨_, rfl, Nat.le_refl _⟩)
    have e1 := evK_evalX he hx
    have e2 := evK_evalX he hy
    unfold evalOp
    rw [litOp_none (x := y) (by simp [Op.operands, Call.operands]) (by rw [e2]; rfl)]
    simp [e1, e2, opAppend, ht, hs, srcCells, hid, h1v, ho, growTo, hb, hz]
end
end Go.Vm
namespace Go.Vm
theorem OwnEm.pushed {σ : List VObj} {x : XV} {cells : List XV} (h : OwnEm σ x cells) (o : VObj) : OwnEm (σ ++ [o]) x cells := by
  cases h with
  | emp h => exact .emp (obj_left h)
  | own h => exact .own (h.pushed _)
theorem rowV_wV {w : List Nat} (h : w ≠ []) : rowV (wZ w) = wV w := by
  rw [wV_ne h]; simp [rowV, wZ]
end Go.Vm
namespace Go.Sc
/-- Which states are marked. -/
def MarkP (n : Nat) (B : List Bool) (fs : List ((Nat × Nat) × List Nat)) : Prop := B.length = n * n ∧ ∀ a b, a < n → b < n → B.getD (a * n + b) false = decide ((a, b) ∈ (fs.drop 1).map Prod.fst)
theorem pair_lt {n a b : Nat} (ha : a < n) (hb : b < n) : a * n + b < n * n := by
  have : (a + 1) * n ≤ n * n := Nat.mul_le_mul_right _ ha
  rw [Nat.add_mul, Nat.one_mul] at this
  omega
theorem pair_inj {n a b a' b' : Nat} (hb : b < n) (hb' : b' < n) (h : a * n + b = a' * n + b') : a = a' ∧ b = b' := by
  have h1 : (b + n * a) / n = (b' + n * a') / n := by rw [Nat.add_comm b, Nat.add_comm b', Nat.mul_comm n a, Nat.mul_comm n a', h]
  rw [Nat.add_mul_div_left _ _ (by omega), Nat.add_mul_div_left _ _ (by omega), Nat.div_eq_of_lt hb, Nat.div_eq_of_lt hb'] at h1
  have : a = a' := by omega
  subst this
  exact ⟨rfl, by omega⟩
theorem MarkP.start (n : Nat) (s : Nat × Nat) : MarkP n (List.replicate (n * n) false) [(s, [])] := ⟨by simp, fun a b ha hb => by
  have := pair_lt ha hb
  simp [this]⟩
theorem MarkP.add {n : Nat} {B : List Bool} {fs : List ((Nat × Nat) × List Nat)} (h : MarkP n B fs) (hne : fs ≠ []) {s : Nat × Nat} (hs : s.1 < n ∧ s.2 < n) (w : List Nat) : MarkP n (B.set (s.1 * n + s.2) true) (fs ++ [(s, w)]) := ⟨by simp [h.1], fun a b ha hb => by
  have h1 := pair_lt ha hb
  have h2 := pair_lt hs.1 hs.2
  have h3 := h.2 a b ha hb
  have hd : (fs ++ [(s, w)]).drop 1 = fs.drop 1 ++ [(s, w)] := by
    cases fs with
    | nil => exact absurd rfl hne
    | cons x xs => rfl
  rw [hd, List.map_append]
  by_cases e : s.1 * n + s.2 = a * n + b
  · obtain ⟨e1, e2⟩ := pair_inj hs.2 hb e
    have es : s = (a, b) := by rw [← e1, ← e2]
    rw [← e]
    rw [decide_eq_true (by rw [es]; simp)]
    simp [h.1, h2]
  · rw [show (B.set (s.1 * n + s.2) true).getD (a * n + b) false = B.getD (a * n + b) false by simp [List.getElem?_set_ne e], h3]
    have : (a, b) ≠ s := fun he => e (by rw [← he])
    simp [this]⟩
theorem addR_len {n : Nat} {fs : List ((Nat × Nat) × List Nat)} (hnd : ((fs.drop 1).map Prod.fst).Nodup) (hok : ∀ p ∈ fs, p.1.1 < n ∧ p.1.2 < n) : fs.length ≤ n * n + 1 := by
  have := nodup_pair hnd (n := n) (m := n) fun x hx => by
    obtain ⟨p, hp, rfl⟩ := List.mem_map.1 hx
    exact hok p (List.mem_of_mem_drop hp)
  simp at this
  omega
end Go.Sc

end
section
/-
  Controllers, without a program: the machine of the classes of states, as the reference makes it.
-/
namespace Go.Sc
section
variable {m : Nat} {nx : Nat → Nat → Nat} {ou : Nat → Nat → Int}
/-- The first states of classes, and the class of each state so far. -/
structure Kept (m : Nat) (nx : Nat → Nat → Nat) (ou : Nat → Nat → Int) (st K : List Nat) (C : Nat → Nat) : Prop where
  inj : ∀ (a b x y : Nat), K[a]? = some x → K[b]? = some y → Eqv m nx ou x y → a = b
  cls : ∀ s ∈ st, ∃ x, K[C s]? = some x ∧ Eqv m nx ou s x
  sub : ∀ x ∈ K, x ∈ st
  hd : ∀ s, st[0]? = some s → K[0]? = some s
theorem Kept.nil (C : Nat → Nat) : Kept m nx ou [] [] C := ⟨fun a b x y h => by simp at h, fun s h => by simp at h, fun x h => by simp at h, fun s h => by simp at h⟩
theorem Kept.old {st K : List Nat} {C : Nat → Nat} (h : Kept m nx ou st K C) {s c x : Nat} (hc : K[c]? = some x) (he : Eqv m nx ou s x) : Kept m nx ou (st ++ [s]) K (fun t => if t = s then c else C t) where
  inj := h.inj
  cls t ht := by
    by_cases e : t = s
    · subst e; exact ⟨x, by rw [if_pos rfl]; exact hc, he⟩
    · obtain ⟨y, h1, h2⟩ := h.cls t (by simpa [e] using ht)
      exact ⟨y, by rw [if_neg e]; exact h1, h2⟩
  sub x hx := List.mem_append.2 (.inl (h.sub x hx))
  hd t ht := by
    cases st with
    | nil =>
      have := h.sub x (List.mem_of_getElem? hc)
      simp at this
    | cons a st => exact h.hd t (by simpa using ht)
theorem Kept.new {st K : List Nat} {C : Nat → Nat} (h : Kept m nx ou st K C) {s : Nat} (hno : ∀ x ∈ K, ¬ Eqv m nx ou s x) : Kept m nx ou (st ++ [s]) (K ++ [s]) (fun t => if t = s then K.length else C t) where
  inj a b x y ha hb he := by
    have key : ∀ (a b x y : Nat), (K ++ [s])[a]? = some x → (K ++ [s])[b]? = some y → Eqv m nx ou x y → a < K.length → a = b := fun a b x y ha hb he hlt => by
      rw [List.getElem?_append_left hlt] at ha
      by_cases hb2 : b < K.length
      · rw [List.getElem?_append_left hb2] at hb; exact h.inj a b x y ha hb he
      · rw [List.getElem?_append_right (by omega)] at hb
        have e0 : b - K.length = 0 := by have := (List.getElem?_eq_some_iff.1 hb).1; simp at this; omega
        rw [e0] at hb; simp at hb; subst hb
        exact absurd he.symm (hno x (List.mem_of_getElem? ha))
    by_cases h1 : a < K.length
    · exact key a b x y ha hb he h1
    · by_cases h2 : b < K.length
      · exact (key b a y x hb ha he.symm h2).symm
      · have l1 := (List.getElem?_eq_some_iff.1 ha).1
        have l2 := (List.getElem?_eq_some_iff.1 hb).1
        simp at l1 l2; omega
  cls t ht := by
    by_cases e : t = s
    · subst e; exact ⟨t, by rw [if_pos rfl]; simp, .refl t⟩
    · obtain ⟨y, h1, h2⟩ := h.cls t (by simpa [e] using ht)
      refine ⟨y, ?_, h2⟩
      show (K ++ [s])[if t = s then K.length else C t]? = some y
      rw [if_neg e, List.getElem?_append_left (List.getElem?_eq_some_iff.1 h1).1]; exact h1
  sub x hx := by
    rcases List.mem_append.1 hx with hx | hx
    · exact List.mem_append.2 (.inl (h.sub x hx))
    · exact List.mem_append.2 (.inr hx)
  hd t ht := by
    cases st with
    | nil =>
      have hK : K = [] := by
        cases K with
        | nil => rfl
        | cons x K => have := h.sub x (.head _); simp at this
      subst hK; simpa using ht
    | cons a st =>
      have h1 := h.hd t (by simpa using ht)
      rw [List.getElem?_append_left (List.getElem?_eq_some_iff.1 h1).1]; exact h1
/-- The machine of the classes. -/
def qx (nx : Nat → Nat → Nat) (K : List Nat) (C : Nat → Nat) (c i : Nat) : Nat := C (nx (K.getD c 0) i)
def qo (ou : Nat → Nat → Int) (K : List Nat) (c i : Nat) : Int := ou (K.getD c 0) i
variable {N : Nat} {st K : List Nat} {C : Nat → Nat}
theorem Kept.at (h : Kept m nx ou st K C) {s : Nat} (hs : s ∈ st) : C s < K.length ∧ Eqv m nx ou s (K.getD (C s) 0) := by
  obtain ⟨x, h1, h2⟩ := h.cls s hs
  refine ⟨(List.getElem?_eq_some_iff.1 h1).1, ?_⟩
  rw [show K.getD (C s) 0 = x by simp [h1]]; exact h2
theorem Kept.eq (h : Kept m nx ou st K C) {s t : Nat} (hs : s ∈ st) (ht : t ∈ st) (he : Eqv m nx ou s t) : C s = C t := by
  obtain ⟨x, h1, h2⟩ := h.cls s hs
  obtain ⟨y, h3, h4⟩ := h.cls t ht
  exact h.inj _ _ x y h1 h3 ((h2.symm.trans he).trans h4)
theorem Kept.mem (h : Kept m nx ou st K C) {c : Nat} (hc : c < K.length) : K.getD c 0 ∈ st := by
  rw [show K.getD c 0 = K[c] by simp [hc]]; exact h.sub _ (List.getElem_mem hc)
theorem Kept.self (h : Kept m nx ou st K C) {c : Nat} (hc : c < K.length) : C (K.getD c 0) = c := by
  obtain ⟨y, h3, h4⟩ := h.cls _ (h.mem hc)
  exact (h.inj c _ (K.getD c 0) y (by simp [hc]) h3 h4).symm
theorem Kept.clo (h : Kept m nx ou st K C) (hcl : ∀ s ∈ st, ∀ i, i < m → nx s i ∈ st) : ∀ c i, c < K.length → i < m → qx nx K C c i < K.length := fun _ i hc hi => (h.at (hcl _ (h.mem hc) i hi)).1
theorem Kept.start (h : Kept m nx ou st K C) (h0 : st[0]? = some 0) : C 0 = 0 ∧ 0 < K.length := by
  have h1 := h.hd 0 h0
  have hl := (List.getElem?_eq_some_iff.1 h1).1
  have := h.self hl
  rw [show K.getD 0 0 = 0 by simp [h1]] at this
  exact ⟨this, hl⟩
theorem Kept.run (h : Kept m nx ou st K C) (hcl : ∀ s ∈ st, ∀ i, i < m → nx s i ∈ st) : ∀ (w : List Nat) (s : Nat), s ∈ st → OkW m w → runW (qx nx K C) (C s) w = C (runW nx s w)
  | [], _, _, _ => rfl
  | i :: w, s, hs, hw => by
    have hi := hw i (.head _)
    show runW (qx nx K C) (qx nx K C (C s) i) w = C (runW nx (nx s i) w)
    have e : qx nx K C (C s) i = C (nx s i) := h.eq (hcl _ (h.mem (h.at hs).1) i hi) (hcl s hs i hi) ((h.at hs).2.step hi).2.symm
    rw [e]
    exact Kept.run h hcl w (nx s i) (hcl s hs i hi) fun j hj => hw j (.tail _ hj)
/-- All classes are found. -/
theorem Kept.all (h : Kept m nx ou st K C) (hcl : ∀ s ∈ st, ∀ i, i < m → nx s i ∈ st) (h0 : st[0]? = some 0) (hre : ∀ s ∈ st, ∃ w, OkW m w ∧ runW nx 0 w = s) :
    Found (qx nx K C) m 0 (bfs (qx nx K C) m K.length 0 [(0, [])]) ∧ (∀ p ∈ bfs (qx nx K C) m K.length 0 [(0, [])], p.1 < K.length) ∧ (bfs (qx nx K C) m K.length 0 [(0, [])]).length = K.length := by
  obtain ⟨c0, k0⟩ := h.start h0
  have hF := found_I (m := m) (n := K.length) k0 (h.clo hcl)
  have hlt : ∀ p ∈ bfs (qx nx K C) m K.length 0 [(0, [])], p.1 < K.length := fun p hp => by
    obtain ⟨a, b⟩ := hF.run p hp
    rw [← a]; exact run_ok (Ok := (· < K.length)) (h.clo hcl) p.2 0 k0 b
  refine ⟨hF, hlt, Nat.le_antisymm ?_ ?_⟩
  · have := nodup_le hF.nd (n := K.length) fun x hx => by obtain ⟨p, hp, rfl⟩ := List.mem_map.1 hx; exact hlt p hp
    simpa using this
  · have := nodup_sub (l := List.range K.length) (l' := (bfs (qx nx K C) m K.length 0 [(0, [])]).map Prod.fst) List.nodup_range fun c hc => by
      have hc := List.mem_range.1 hc
      obtain ⟨w, hw, e⟩ := hre _ (h.mem hc)
      obtain ⟨q, hq, e2, _⟩ := hF.all w hw
      have h2 := h.run hcl w 0 (List.mem_of_getElem? h0) hw
      rw [c0, e, h.self hc] at h2
      exact List.mem_map.2 ⟨q, hq, by rw [e2, h2]⟩
    simpa using this
/-- The machine of the classes, numbered, is the minimal machine. -/
theorem Kept.min (h : Kept m nx ou st K C) (hcl : ∀ s ∈ st, ∀ i, i < m → nx s i ∈ st) (h0 : st[0]? = some 0) (hre : ∀ s ∈ st, ∃ w, OkW m w ∧ runW nx 0 w = s) (hN : ∀ s i, s < N → i < m → nx s i < N) (hN0 : 0 < N) :
    numN (bfs (qx nx K C) m K.length 0 [(0, [])]) (qx nx K C) m = minN m N nx ou ∧ numO (bfs (qx nx K C) m K.length 0 [(0, [])]) (qo ou K) m = minO m N nx ou := by
  obtain ⟨hG, _, hGl⟩ := h.all hcl h0 hre
  obtain ⟨c0, k0⟩ := h.start h0
  let R : Nat → Nat → Prop := fun s c => rep m nx ou s = s ∧ c < K.length ∧ Eqv m nx ou s (K.getD c 0)
  have hstep : ∀ s c i, R s c → i < m → R (nxR m nx ou s i) (qx nx K C c i) := fun s c i hR hi => by
    have hk := hcl _ (h.mem hR.2.1) i hi
    exact ⟨rep_rep _, (h.at hk).1, ((rep_eqv _).symm.trans (hR.2.2.step hi).2).trans (h.at hk).2⟩
  have hu : ∀ s t t', R s t → R s t' → t = t' := fun s t t' a b => h.inj t t' (K.getD t 0) (K.getD t' 0) (by simp [a.2.1]) (by simp [b.2.1]) (a.2.2.symm.trans b.2.2)
  have hv : ∀ s s' t, R s t → R s' t → s = s' := fun s s' t a b => by
    rw [← a.1, ← b.1]; exact rep_iff.2 (a.2.2.trans b.2.2.symm)
  have hF := minF_found (ou := ou) hN hN0
  have e1 : minF m N nx ou = bfs (nxR m nx ou) m (N + K.length) 0 [(0, [])] := (bfs_more N (N + K.length) 0 _ (by omega) (by have := minF_len (ou := ou) hN hN0; exact this)).symm
  have e2 : bfs (qx nx K C) m K.length 0 [(0, [])] = bfs (qx nx K C) m (N + K.length) 0 [(0, [])] := (bfs_more K.length (N + K.length) 0 _ (by omega) (by omega)).symm
  have h00 : R 0 0 := by
    refine ⟨rep_zero, k0, ?_⟩
    have := (h.at (List.mem_of_getElem? h0)).2
    rw [c0] at this; exact this
  have hs : Sim R (minF m N nx ou) (bfs (qx nx K C) m K.length 0 [(0, [])]) := by
    rw [e1, e2]
    refine Sim.bfs hstep hu hv _ _ _ _ ⟨rfl, fun j p q hp hq => ?_⟩
    cases j with
    | zero => simp at hp hq; subst hp hq; exact ⟨h00, rfl⟩
    | succ j => simp at hp
  have := num_same (ou := ou) (ov := qo ou K) hF hG hs hstep hu fun s t i hR hi => (hR.2.2.step hi).1
  exact ⟨this.1.symm, this.2.symm⟩
end
section
variable (m : Nat) (nx : Nat → Nat → Nat) (ou : Nat → Nat → Int)
/-- One more state. -/
noncomputable def keepS (K : List Nat) (s : Nat) : List Nat := @ite _ (∃ x ∈ K, Eqv m nx ou s x) (Classical.propDecidable _) K (K ++ [s])
/-- The first states of the classes. -/
noncomputable def keepK (st : List Nat) : List Nat := st.foldl (keepS m nx ou) []
/-- The class of a state. -/
noncomputable def keepC (K : List Nat) (s : Nat) : Nat := K.findIdx fun x => @decide (Eqv m nx ou s x) (Classical.propDecidable _)
variable {m nx ou}
theorem keepS_old {K : List Nat} {s c x : Nat} (hc : K[c]? = some x) (he : Eqv m nx ou s x) : keepS m nx ou K s = K := if_pos ⟨x, List.mem_of_getElem? hc, he⟩
theorem keepS_new {K : List Nat} {s : Nat} (hno : ∀ x ∈ K, ¬ Eqv m nx ou s x) : keepS m nx ou K s = K ++ [s] := if_neg fun ⟨x, hx, he⟩ => hno x hx he
theorem keepK_snoc (st : List Nat) (s : Nat) : keepK m nx ou (st ++ [s]) = keepS m nx ou (keepK m nx ou st) s := by unfold keepK; rw [List.foldl_append]; rfl
theorem Kept.canon {st K : List Nat} {C : Nat → Nat} (h : Kept m nx ou st K C) {s : Nat} (hs : s ∈ st) : C s = keepC m nx ou K s := by
  obtain ⟨x, h1, h2⟩ := h.cls s hs
  have hlt := (List.getElem?_eq_some_iff.1 h1).1
  have hx : K[C s] = x := (List.getElem?_eq_some_iff.1 h1).2
  have hex : ∃ y ∈ K, (fun x => @decide (Eqv m nx ou s x) (Classical.propDecidable _)) y = true := ⟨x, List.mem_of_getElem? h1, by simp [h2]⟩
  have hf : keepC m nx ou K s < K.length := List.findIdx_lt_length_of_exists hex
  have hp : Eqv m nx ou s K[keepC m nx ou K s] := by
    have := List.findIdx_getElem (p := fun x => @decide (Eqv m nx ou s x) (Classical.propDecidable _)) (w := hf)
    exact @of_decide_eq_true _ (Classical.propDecidable _) this
  exact h.inj _ _ x _ h1 (List.getElem?_eq_getElem hf) (h2.symm.trans hp)
theorem Kept.re {st K : List Nat} {C : Nat → Nat} (h : Kept m nx ou st K C) : Kept m nx ou st K (keepC m nx ou K) :=
  ⟨h.inj, fun s hs => by rw [← h.canon hs]; exact h.cls s hs, h.sub, h.hd⟩
theorem Kept.keepK {st K : List Nat} {C : Nat → Nat} (h : Kept m nx ou st K C) (e : K = keepK m nx ou st) : Kept m nx ou st (Go.Sc.keepK m nx ou st) (keepC m nx ou (Go.Sc.keepK m nx ou st)) := by
  subst e; exact h.re
/-- The same rows. -/
theorem Kept.rows {st K : List Nat} {C : Nat → Nat} (h : Kept m nx ou st K C) (hcl : ∀ s ∈ st, ∀ i, i < m → nx s i ∈ st) {s i : Nat} (hs : s ∈ K) (hi : i < m) : C (nx s i) = keepC m nx ou K (nx s i) := h.canon (hcl s (h.sub s hs) i hi)
end
end Go.Sc

end
