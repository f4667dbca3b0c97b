import Derived.Test.YthbnnffmhnjpjaaVmA
import Derived.WalkKit
/-
  VALUES WITHOUT ADDRESSES, 2: how the machine's memory stands in the world: a new object, a store, an object that is no longer written, an append in place.
-/
namespace Go.Vm
open Go.RowKit

theorem shape_of_heap {w : World} {b : Nat} {cur : Array Value} {ty : TypeId} {fr : Nat × Nat} (h : w.heap[b]? = some (.cells cur ty fr)) : w.shape? b = some (ty, cur.size) := by
  simp [World.shape?, h]

theorem shape_congr {w w' : World} {b : Nat} (h : w'.heap[b]? = w.heap[b]?) : w'.shape? b = w.shape? b := by
  unfold World.shape?; rw [h]

/-- A world that has only grown. -/
theorem ext_of_grown {M : Nat → Prop} {ι ι' : List Nat} {σ σ' : List VObj} {w w' : World} (hpre : ∀ (id b : Nat), ι[id]? = some b → ι'[id]? = some b)
    (hheap : ∀ b, b < w.heap.size → w'.heap[b]? = w.heap[b]?) (hsize : w.heap.size ≤ w'.heap.size) (hm : ∀ b, b < w.heap.size → Mut ι' σ' b → Mut ι σ b) : Ext M ι σ w ι' σ' w' :=
  ⟨hpre, fun b hb _ => hheap b hb, hsize, hm, fun b s hs => by rw [shape_congr (hheap b (lt_of_shape? hs))]; exact hs⟩

theorem getElem?_snoc {α : Type} (l : List α) (x : α) (i : Nat) (y : α) (h : (l ++ [x])[i]? = some y) : (i < l.length ∧ l[i]? = some y) ∨ (i = l.length ∧ y = x) := by
  rw [List.getElem?_append] at h
  split at h
  · exact .inl ⟨‹_›, h⟩
  · right
    have hi : i - l.length = 0 := by
      cases hk : i - l.length with
      | zero => rfl
      | succ k => rw [hk] at h; simp at h
    rw [hi] at h
    simp at h
    exact ⟨by omega, h.symm⟩

theorem getElem?_pre {α : Type} (l : List α) (x : α) (i : Nat) (y : α) (h : l[i]? = some y) : (l ++ [x])[i]? = some y := by
  rw [List.getElem?_append_left (List.getElem?_eq_some_iff.1 h).1]; exact h

/-- Alloc of a new row. -/
theorem Mem.push {M : Nat → Prop} {W0 w : World} {ι : List Nat} {σ : List VObj} (hm : Mem M W0 ι σ w) {w1 : World} (hw1 : w1.heap = w.heap) (hb1 : Below W0.heap.size w w1)
    (cur : Array Value) (ty : TypeId) (cells : List XV) (hlen : cells.length ≤ cur.size)
    (hx : ∀ (i : Nat) (x : XV), cells[i]? = some x → ∃ v, cur[i]? = some v ∧ XRep w ι (Forb M ι σ) v x) :
    Mem M W0 (ι ++ [w.heap.size]) (σ ++ [⟨cells, 0⟩]) (w1.alloc (.cells cur ty)) ∧ Ext M ι σ w (ι ++ [w.heap.size]) (σ ++ [⟨cells, 0⟩]) (w1.alloc (.cells cur ty)) := by
  have hsz : (w1.alloc (.cells cur ty)).heap.size = w.heap.size + 1 := by simp [World.alloc, hw1]
  have hold : ∀ b, b < w.heap.size → (w1.alloc (.cells cur ty)).heap[b]? = w.heap[b]? := fun b hb => by
    rw [Below.heap_alloc _ _ _ (by rw [hw1]; exact hb), hw1]
  have hnew : (w1.alloc (.cells cur ty)).heap[w.heap.size]? = some (.cells cur ty (0, 0)) := by
    have := Go.heap_alloc_new w1 (.cells cur ty)
    rwa [hw1] at this
  have hmut : ∀ b, b < w.heap.size → Mut (ι ++ [w.heap.size]) (σ ++ [⟨cells, 0⟩]) b → Mut ι σ b := by
    rintro b hb ⟨id, o, h1, h2, h3⟩
    rcases getElem?_snoc _ _ _ _ h2 with ⟨_, h2'⟩ | ⟨e, rfl⟩
    · rcases getElem?_snoc _ _ _ _ h1 with ⟨_, h1'⟩ | ⟨e, _⟩
      · exact ⟨id, o, h1', h2', h3⟩
      · have := (List.getElem?_eq_some_iff.1 h2').1; rw [hm.len] at this; omega
    · omega
  have hext : Ext M ι σ w (ι ++ [w.heap.size]) (σ ++ [⟨cells, 0⟩]) (w1.alloc (.cells cur ty)) :=
    ext_of_grown (fun id b h => getElem?_pre _ _ _ _ h) hold (by omega) hmut
  refine ⟨⟨by simp [hm.len], ?_, ?_, ?_, hm.below.trans (hb1.alloc (by rw [hw1]; exact hm.below.size) _), hm.outer⟩, hext⟩
  · intro id o b h1 h2 h3
    rcases getElem?_snoc _ _ _ _ h1 with ⟨hlt, h1'⟩ | ⟨e, rfl⟩
    · rcases getElem?_snoc _ _ _ _ h2 with ⟨_, h2'⟩ | ⟨e, _⟩
      · obtain ⟨cu, t, k1, k2, k3⟩ := hm.objs id o b h1' h2' h3
        refine ⟨cu, t, (hold b (hm.fresh _ _ h2').2).trans k1, k2, fun i x hi => ?_⟩
        obtain ⟨v, kv, kx⟩ := k3 i x hi
        exact ⟨v, kv, kx.ext hext⟩
      · rw [hm.len] at e; omega
    · rcases getElem?_snoc _ _ _ _ h2 with ⟨hlt, _⟩ | ⟨_, rfl⟩
      · rw [hm.len] at hlt; omega
      · refine ⟨cur, ty, hnew, hlen, fun i x hi => ?_⟩
        obtain ⟨v, kv, kx⟩ := hx i x hi
        exact ⟨v, kv, kx.ext hext⟩
  · intro id b h
    rw [hsz]
    rcases getElem?_snoc _ _ _ _ h with ⟨_, h'⟩ | ⟨_, rfl⟩
    · have := hm.fresh _ _ h'; omega
    · have := hm.below.size; omega
  · intro i j oi oj bi bj hij h1 h2 h3 h4 h5 h6
    have hl := hm.len
    rcases getElem?_snoc _ _ _ _ h1 with ⟨_, h1'⟩ | ⟨e1, rfl⟩ <;> rcases getElem?_snoc _ _ _ _ h2 with ⟨_, h2'⟩ | ⟨e2, rfl⟩ <;>
      rcases getElem?_snoc _ _ _ _ h3 with ⟨_, h3'⟩ | ⟨e3, rfl⟩ <;> rcases getElem?_snoc _ _ _ _ h4 with ⟨_, h4'⟩ | ⟨e4, rfl⟩ <;> try omega
    · exact hm.apart i j oi oj bi bj hij h1' h2' h3' h4' h5 h6
    · have := (hm.fresh _ _ h3').2; omega
    · have := (hm.fresh _ _ h4').2; omega

/-- The list with xs in the place of its cells from o on. -/
def splice {α : Type} (cs : List α) (o : Nat) (xs : List α) : List α := cs.take o ++ xs ++ cs.drop (o + xs.length)

theorem length_splice {α : Type} (cs : List α) (o : Nat) (xs : List α) (h : o + xs.length ≤ cs.length) : (splice cs o xs).length = cs.length := by
  simp [splice]; omega

theorem getElem?_splice {α : Type} (cs : List α) (o : Nat) (xs : List α) (h : o + xs.length ≤ cs.length) (i : Nat) :
    (splice cs o xs)[i]? = if o ≤ i ∧ i < o + xs.length then xs[i - o]? else cs[i]? := by
  unfold splice
  have hmin : min o cs.length = o := by omega
  by_cases h1 : i < o
  · rw [if_neg (by omega), List.append_assoc, List.getElem?_append_left (by simp; omega), List.getElem?_take, if_pos h1]
  · by_cases h2 : i < o + xs.length
    · rw [if_pos (by omega), List.append_assoc, List.getElem?_append_right (by simp; omega), List.getElem?_append_left (by simp; omega)]
      simp [hmin]
    · rw [if_neg (by omega), List.append_assoc, List.getElem?_append_right (by simp; omega), List.getElem?_append_right (by simp; omega), List.getElem?_drop]
      congr 1
      simp [hmin]; omega

/-- Writes to the block of an object that may be written. -/
theorem ext_write {M : Nat → Prop} {W0 w : World} {ι : List Nat} {σ : List VObj} (hm : Mem M W0 ι σ w) {id b : Nat} {o : VObj} (ho : σ[id]? = some o) (hb : ι[id]? = some b) (h0 : o.mode = 0)
    {cur cur' : Array Value} {ty : TypeId} (hg : w.heap[b]? = some (.cells cur ty (0, 0))) (hsz : cur'.size = cur.size)
    {ι' : List Nat} {σ' : List VObj} (hpre : ∀ (i c : Nat), ι[i]? = some c → ι'[i]? = some c) (hmt : ∀ c, c < w.heap.size → Mut ι' σ' c → Mut ι σ c) :
    Ext M ι σ w ι' σ' (w.setRow b cur') := by
  refine ⟨hpre, fun c hc hf => ?_, by simp, hmt, fun c s hs => ?_⟩
  · exact setRow_other w b c _ (fun e => hf (.inr ⟨id, o, ho, e ▸ hb, h0⟩))
  · by_cases e : c = b
    · subst e
      rw [shape_of_heap (setRow_heap w c cur cur' ty _ hg)]
      rw [shape_of_heap hg] at hs
      rw [hsz]; exact hs
    · rw [shape_congr (setRow_other w b c _ e)]; exact hs

theorem below_setRow {B : Nat} {w : World} {b : Nat} (hb : B ≤ b) (cur' : Array Value) : Below B w (w.setRow b cur') :=
  ⟨rfl, rfl, rfl, by simp, fun k hk => setRow_other w b k _ (by omega)⟩

theorem set_get {α : Type} (l : List α) (i j : Nat) (x y : α) (h : (l.set i x)[j]? = some y) : (i = j ∧ y = x ∧ j < l.length) ∨ (i ≠ j ∧ l[j]? = some y) := by
  rw [List.getElem?_set] at h
  split at h
  · split at h
    · cases h; exact .inl ⟨‹_›, rfl, by omega⟩
    · cases h
  · exact .inr ⟨‹_›, h⟩

/-- A store of cells into an object that may be written. -/
theorem Mem.write {M : Nat → Prop} {W0 w : World} {ι : List Nat} {σ : List VObj} (hm : Mem M W0 ι σ w) {id b : Nat} {o : VObj} (ho : σ[id]? = some o) (hb : ι[id]? = some b) (h0 : o.mode = 0)
    {cur : Array Value} {ty : TypeId} (hg : w.heap[b]? = some (.cells cur ty (0, 0))) (off : Nat) (vs : List Value) (xs : List XV) (hl : vs.length = xs.length) (hfit : off + xs.length ≤ o.cells.length)
    (hx : ∀ (i : Nat) (v : Value) (x : XV), vs[i]? = some v → xs[i]? = some x → XRep w ι (Forb M ι σ) v x) :
    Mem M W0 ι (σ.set id ⟨splice o.cells off xs, 0⟩) (w.setRow b (splice cur.toList off vs).toArray) ∧ Ext M ι σ w ι (σ.set id ⟨splice o.cells off xs, 0⟩) (w.setRow b (splice cur.toList off vs).toArray) := by
  obtain ⟨cur0, ty0, k1, k2, k3⟩ := hm.objs id o b ho hb (by omega)
  rw [hg] at k1
  cases k1
  have hsz : (splice cur.toList off vs).toArray.size = cur.size := by
    rw [List.size_toArray, length_splice _ _ _ (by simp; omega)]; simp
  have hmt : ∀ c, Mut ι (σ.set id ⟨splice o.cells off xs, 0⟩) c → Mut ι σ c := by
    rintro c ⟨i, p, h1, h2, h3⟩
    rcases set_get _ _ _ _ _ h1 with ⟨rfl, rfl, _⟩ | ⟨_, h1'⟩
    · exact ⟨_, o, ho, h2, h0⟩
    · exact ⟨i, p, h1', h2, h3⟩
  have hext := ext_write hm ho hb h0 hg hsz (ι' := ι) (σ' := σ.set id ⟨splice o.cells off xs, 0⟩) (fun _ _ h => h) (fun c _ h => hmt c h)
  refine ⟨⟨by simp [hm.len], ?_, fun i c h => ?_, ?_, hm.below.trans (below_setRow (hm.fresh _ _ hb).1 _), hm.outer⟩, hext⟩
  · intro i p c h1 h2 h3
    rcases set_get _ _ _ _ _ h1 with ⟨rfl, rfl, _⟩ | ⟨hne, h1'⟩
    · rw [hb] at h2; cases h2
      refine ⟨_, ty, setRow_heap w b cur _ ty _ hg, by rw [hsz, length_splice _ _ _ hfit]; exact k2, fun i x hi => ?_⟩
      rw [getElem?_splice _ _ _ hfit] at hi
      rw [List.getElem?_toArray, getElem?_splice _ _ _ (by simp; omega), hl]
      by_cases hin : off ≤ i ∧ i < off + xs.length
      · rw [if_pos hin] at hi ⊢
        have hlt : i - off < vs.length := by omega
        exact ⟨vs[i - off], List.getElem?_eq_getElem hlt, (hx _ _ _ (List.getElem?_eq_getElem hlt) hi).ext hext⟩
      · rw [if_neg hin] at hi ⊢
        obtain ⟨v, kv, kx⟩ := k3 i x hi
        exact ⟨v, by simpa using kv, kx.ext hext⟩
    · obtain ⟨cu, t, q1, q2, q3⟩ := hm.objs i p c h1' h2 h3
      refine ⟨cu, t, ?_, q2, fun j x hj => ?_⟩
      · rw [setRow_other w b c _ (fun e => hm.apart id i o p b c hne ho h1' hb h2 h0 h3 e.symm)]; exact q1
      · obtain ⟨v, kv, kx⟩ := q3 j x hj
        exact ⟨v, kv, kx.ext hext⟩
  · have := hm.fresh i c h
    simpa using this
  · intro i j oi oj bi bj hij h1 h2 h3 h4 h5 h6
    rcases set_get _ _ _ _ _ h1 with ⟨rfl, rfl, _⟩ | ⟨_, h1'⟩ <;> rcases set_get _ _ _ _ _ h2 with ⟨rfl, rfl, _⟩ | ⟨_, h2'⟩
    · exact absurd rfl hij
    · exact hm.apart _ _ o oj bi bj hij ho h2' h3 h4 h0 h6
    · exact hm.apart _ _ oi o bi bj hij h1' ho h3 h4 h5 (by omega)
    · exact hm.apart _ _ oi oj bi bj hij h1' h2' h3 h4 h5 h6

/-- An append into the spare cells of an object's block: the old object is not looked at any more, a new one has its block. -/
theorem Mem.extend {M : Nat → Prop} {W0 w : World} {ι : List Nat} {σ : List VObj} (hm : Mem M W0 ι σ w) {id b : Nat} {o : VObj} (ho : σ[id]? = some o) (hb : ι[id]? = some b) (h0 : o.mode = 0)
    {cur : Array Value} {ty : TypeId} (hg : w.heap[b]? = some (.cells cur ty (0, 0))) (vs : List Value) (xs : List XV) (hl : vs.length = xs.length) (hfit : o.cells.length + xs.length ≤ cur.size)
    (hx : ∀ (i : Nat) (v : Value) (x : XV), vs[i]? = some v → xs[i]? = some x → XRep w ι (Forb M ι σ) v x) :
    Mem M W0 (ι ++ [b]) ((σ.set id ⟨o.cells, 2⟩) ++ [⟨o.cells ++ xs, 0⟩]) (w.setRow b (splice cur.toList o.cells.length vs).toArray) ∧
      Ext M ι σ w (ι ++ [b]) ((σ.set id ⟨o.cells, 2⟩) ++ [⟨o.cells ++ xs, 0⟩]) (w.setRow b (splice cur.toList o.cells.length vs).toArray) := by
  obtain ⟨cur0, ty0, k1, k2, k3⟩ := hm.objs id o b ho hb (by omega)
  rw [hg] at k1
  cases k1
  have hsz : (splice cur.toList o.cells.length vs).toArray.size = cur.size := by
    rw [List.size_toArray, length_splice _ _ _ (by simp; omega)]; simp
  have hlen := hm.len
  have hmt : ∀ c, Mut (ι ++ [b]) ((σ.set id ⟨o.cells, 2⟩) ++ [⟨o.cells ++ xs, 0⟩]) c → Mut ι σ c := by
    rintro c ⟨i, p, h1, h2, h3⟩
    rcases getElem?_snoc _ _ _ _ h2 with ⟨hlt, h2'⟩ | ⟨e, rfl⟩
    · rcases getElem?_snoc _ _ _ _ h1 with ⟨_, h1'⟩ | ⟨e, _⟩
      · rcases set_get _ _ _ _ _ h1' with ⟨rfl, rfl, _⟩ | ⟨_, h1''⟩
        · cases h3
        · exact ⟨i, p, h1'', h2', h3⟩
      · simp at e; omega
    · exact ⟨id, o, ho, hb, h0⟩
  have hext := ext_write hm ho hb h0 hg hsz (ι' := ι ++ [b]) (σ' := (σ.set id ⟨o.cells, 2⟩) ++ [⟨o.cells ++ xs, 0⟩]) (fun _ _ h => getElem?_pre _ _ _ _ h) (fun c _ h => hmt c h)
  refine ⟨⟨by simp [hm.len], ?_, fun i c h => ?_, ?_, hm.below.trans (below_setRow (hm.fresh _ _ hb).1 _), hm.outer⟩, hext⟩
  · intro i p c h1 h2 h3
    rcases getElem?_snoc _ _ _ _ h1 with ⟨hlt, h1'⟩ | ⟨e, rfl⟩
    · rcases getElem?_snoc _ _ _ _ h2 with ⟨_, h2'⟩ | ⟨e, _⟩
      · rcases set_get _ _ _ _ _ h1' with ⟨rfl, rfl, _⟩ | ⟨hne, h1''⟩
        · exact absurd rfl h3
        · obtain ⟨cu, t, q1, q2, q3⟩ := hm.objs i p c h1'' h2' h3
          refine ⟨cu, t, ?_, q2, fun j x hj => ?_⟩
          · rw [setRow_other w b c _ (fun e => hm.apart id i o p b c hne ho h1'' hb h2' h0 h3 e.symm)]; exact q1
          · obtain ⟨v, kv, kx⟩ := q3 j x hj
            exact ⟨v, kv, kx.ext hext⟩
      · simp at hlt; omega
    · rcases getElem?_snoc _ _ _ _ h2 with ⟨hlt, _⟩ | ⟨_, rfl⟩
      · simp at e; omega
      · refine ⟨_, ty, setRow_heap w c cur _ ty _ hg, by rw [hsz]; simpa using hfit, fun i x hi => ?_⟩
        rw [List.getElem?_toArray, getElem?_splice _ _ _ (by simp; omega), hl]
        by_cases hin : i < o.cells.length
        · rw [if_neg (by omega)]
          rw [List.getElem?_append_left hin] at hi
          obtain ⟨v, kv, kx⟩ := k3 i x hi
          exact ⟨v, by simpa using kv, kx.ext hext⟩
        · rw [List.getElem?_append_right (by omega)] at hi
          have hlt := (List.getElem?_eq_some_iff.1 hi).1
          rw [if_pos (by omega)]
          have hlt' : i - o.cells.length < vs.length := by omega
          exact ⟨vs[i - o.cells.length], List.getElem?_eq_getElem hlt', (hx _ _ _ (List.getElem?_eq_getElem hlt') hi).ext hext⟩
  · have hs : (w.setRow b (splice cur.toList o.cells.length vs).toArray).heap.size = w.heap.size := by simp
    rw [hs]
    rcases getElem?_snoc _ _ _ _ h with ⟨_, h'⟩ | ⟨_, rfl⟩
    · exact hm.fresh _ _ h'
    · exact hm.fresh _ _ hb
  · intro i j oi oj bi bj hij h1 h2 h3 h4 h5 h6
    have e1 : (σ.set id ⟨o.cells, 2⟩).length = σ.length := by simp
    rcases getElem?_snoc _ _ _ _ h1 with ⟨l1, h1'⟩ | ⟨l1, rfl⟩ <;> rcases getElem?_snoc _ _ _ _ h2 with ⟨l2, h2'⟩ | ⟨l2, rfl⟩ <;>
      rcases getElem?_snoc _ _ _ _ h3 with ⟨l3, h3'⟩ | ⟨l3, rfl⟩ <;> rcases getElem?_snoc _ _ _ _ h4 with ⟨l4, h4'⟩ | ⟨l4, rfl⟩ <;> try omega
    · rcases set_get _ _ _ _ _ h1' with ⟨rfl, rfl, _⟩ | ⟨_, h1''⟩
      · cases h5
      rcases set_get _ _ _ _ _ h2' with ⟨rfl, rfl, _⟩ | ⟨_, h2''⟩
      · exact absurd rfl h6
      exact hm.apart _ _ oi oj bi bj hij h1'' h2'' h3' h4' h5 h6
    · rcases set_get _ _ _ _ _ h1' with ⟨rfl, rfl, _⟩ | ⟨hne, h1''⟩
      · cases h5
      exact hm.apart _ _ oi o bi _ (Ne.symm hne) h1'' ho h3' hb h5 (by omega)
    · rcases set_get _ _ _ _ _ h2' with ⟨rfl, rfl, _⟩ | ⟨hne, h2''⟩
      · exact absurd rfl h6
      exact hm.apart _ _ o oj _ bj hne ho h2'' hb h4' h0 h6

/-- Objects that are no longer written, or no longer looked at. -/
theorem Mem.tamed {M : Nat → Prop} {W0 w : World} {ι : List Nat} {σ σ' : List VObj} (hm : Mem M W0 ι σ w) (hlen : σ'.length = σ.length)
    (hs : ∀ (id : Nat) (o' : VObj), σ'[id]? = some o' → ∃ o, σ[id]? = some o ∧ o'.cells = o.cells ∧ (o'.mode = 0 → o.mode = 0) ∧ (o'.mode ≠ 2 → o.mode ≠ 2)) :
    Mem M W0 ι σ' w ∧ Ext M ι σ w ι σ' w := by
  have hmt : ∀ c, Mut ι σ' c → Mut ι σ c := by
    rintro c ⟨i, p, h1, h2, h3⟩
    obtain ⟨o, k1, _, k3, _⟩ := hs i p h1
    exact ⟨i, o, k1, h2, k3 h3⟩
  have hext : Ext M ι σ w ι σ' w := ⟨fun _ _ h => h, fun _ _ _ => rfl, Nat.le_refl _, fun c _ h => hmt c h, fun _ _ h => h⟩
  refine ⟨⟨by rw [hlen, hm.len], ?_, hm.fresh, ?_, hm.below, hm.outer⟩, hext⟩
  · intro id o' b h1 h2 h3
    obtain ⟨o, k1, k2, _, k4⟩ := hs id o' h1
    obtain ⟨cur, ty, q1, q2, q3⟩ := hm.objs id o b k1 h2 (k4 h3)
    refine ⟨cur, ty, q1, by rw [k2]; exact q2, fun i x hi => ?_⟩
    obtain ⟨v, kv, kx⟩ := q3 i x (by rw [← k2]; exact hi)
    exact ⟨v, kv, kx.ext hext⟩
  · intro i j oi oj bi bj hij h1 h2 h3 h4 h5 h6
    obtain ⟨o1, a1, _, a3, _⟩ := hs i oi h1
    obtain ⟨o2, b1, _, _, b4⟩ := hs j oj h2
    exact hm.apart i j o1 o2 bi bj hij a1 b1 h3 h4 (a3 h5) (b4 h6)

end Go.Vm

