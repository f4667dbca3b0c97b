import Derived.Below
import Derived.Orders
import Derived.Tactics
import Derived.WalkKit
import Derived.RangeFuncRecord
import Derived.OrdersIn
import Derived.LoopNIn
import Derived.TacticsIn
section
/-
  VALUES WITHOUT ADDRESSES. A machine on deep values: what a Go function computes when its slices are read as values; memory of the call's own is kept as a list of objects. Here: the values, what it means that a value of the model stands for one, and the machine's operations.
-/
namespace Go.Vm
open Go.RowKit

/-- A deep value: no address of its own memory in it. -/
inductive DV where
  | lit (v : Value)
  | sl (cs : List DV) (len : Nat) (cap : Option Nat)
  | ptr (cs : List DV)
  | tup (ds : List DV)
  | agg (ds : List DV)
  | fn (f : Fn) (first caps : List DV)
  | ifc (t : TypeId) (x : DV)
  | mp (ks : List Value) (ds : List DV)
  deriving Inhabited

/-- A value of a frame: a deep one, or a reference to an object of the call's own. -/
inductive XV where
  | d (x : DV)
  | osl (id off len k lo : Nat) (ex : Bool)
  | optr (id off : Nat)
  | tup (xs : List XV)
  | agg (xs : List XV)
  | fn (f : Fn) (first caps : List XV)
  | ifc (t : TypeId) (x : XV)
  | omp (id : Nat)
  | yl (id : Nat)
  | lp (L : Loop)
  deriving Inhabited

/-- mode: 0 cells that may be written, 1 cells that are only read, 2 not looked at any more; 3 a map that may be written, 4 one that is only read, 5 a walk over a string; 6 the record of a loop over a function. -/
structure VObj where
  cells : List XV
  mode : Nat
  deriving Inhabited

/-- v stands for the deep value x in the world w; no block of M is looked at. -/
inductive DRep (w : World) (M : Nat → Prop) : Value → DV → Prop
  | lit (v : Value) : DRep w M v (.lit v)
  | sl {a : Addr} {len cap : Nat} {cs : List DV} {capo : Option Nat} (vs : List Value) (hl : len ≤ cap) (hc : ∀ c, capo = some c → cap = c)
      (hn : vs.length = cs.length) (ha : cs ≠ [] → a.spot = none ∧ ¬ M a.block) (hcell : ∀ (i : Nat) (v : Value), vs[i]? = some v → w.cell? ⟨a.block, a.off + i, none⟩ = some v)
      (hx : ∀ (i : Nat) (v : Value) x, vs[i]? = some v → cs[i]? = some x → DRep w M v x) : DRep w M (.slice (some a) len cap) (.sl cs len capo)
  | ptr {a : Addr} {cs : List DV} (vs : List Value)
      (hn : vs.length = cs.length) (ha : cs ≠ [] → a.spot = none ∧ ¬ M a.block) (hcell : ∀ (i : Nat) (v : Value), vs[i]? = some v → w.cell? ⟨a.block, a.off + i, none⟩ = some v)
      (hx : ∀ (i : Nat) (v : Value) x, vs[i]? = some v → cs[i]? = some x → DRep w M v x) : DRep w M (.pointer (some a)) (.ptr cs)
  | tup {vs : Array Value} {ds : List DV} (hn : vs.size = ds.length) (hx : ∀ (i : Nat) (v : Value) x, vs[i]? = some v → ds[i]? = some x → DRep w M v x) : DRep w M (.tuple vs) (.tup ds)
  | agg {vs : Array Value} {ds : List DV} (hn : vs.size = ds.length) (hx : ∀ (i : Nat) (v : Value) x, vs[i]? = some v → ds[i]? = some x → DRep w M v x) : DRep w M (.agg vs) (.agg ds)
  | fn {f : Fn} {vs us : Array Value} {ds es : List DV} (hn : vs.size = ds.length) (hx : ∀ (i : Nat) (v : Value) x, vs[i]? = some v → ds[i]? = some x → DRep w M v x)
      (hm : us.size = es.length) (hy : ∀ (i : Nat) (v : Value) x, us[i]? = some v → es[i]? = some x → DRep w M v x) : DRep w M (.func f vs us) (.fn f ds es)
  | ifc {t : TypeId} {v : Value} {x : DV} (hx : DRep w M v x) : DRep w M (.iface t v) (.ifc t x)
  | mp {b : Nat} {es : Array MapEntry} {clock : Nat} {ds : List DV} (ks : List Value) (hb : ¬ M b) (hh : w.heap[b]? = some (.map es clock)) (hk : es.toList.map (·.key) = ks) (hn : es.size = ds.length)
      (hx : ∀ (i : Nat) (e : MapEntry) x, es[i]? = some e → ds[i]? = some x → DRep w M e.val x) : DRep w M (.map (some b)) (.mp ks ds)

/-- v stands for x in the world w; ι: the blocks of the call's own objects. -/
inductive XRep (w : World) (ι : List Nat) (M : Nat → Prop) : Value → XV → Prop
  | d {v : Value} {x : DV} (h : DRep w M v x) : XRep w ι M v (.d x)
  | osl {b off len cap id k lo : Nat} {ex : Bool} (hb : ι[id]? = some b) (hl : len ≤ lo) (hlo : lo ≤ cap) (hex : ex = true → cap = lo)
      (hs : ∃ ty sz, w.shape? b = some (ty, sz) ∧ off + cap * k ≤ sz) : XRep w ι M (.slice (some ⟨b, off, none⟩) len cap) (.osl id off len k lo ex)
  | optr {b off id : Nat} (hb : ι[id]? = some b) : XRep w ι M (.pointer (some ⟨b, off, none⟩)) (.optr id off)
  | tup {vs : Array Value} {ds : List XV} (hn : vs.size = ds.length) (hx : ∀ (i : Nat) (v : Value) x, vs[i]? = some v → ds[i]? = some x → XRep w ι M v x) : XRep w ι M (.tuple vs) (.tup ds)
  | agg {vs : Array Value} {ds : List XV} (hn : vs.size = ds.length) (hx : ∀ (i : Nat) (v : Value) x, vs[i]? = some v → ds[i]? = some x → XRep w ι M v x) : XRep w ι M (.agg vs) (.agg ds)
  | fn {f : Fn} {vs us : Array Value} {ds es : List XV} (hn : vs.size = ds.length) (hx : ∀ (i : Nat) (v : Value) x, vs[i]? = some v → ds[i]? = some x → XRep w ι M v x)
      (hm : us.size = es.length) (hy : ∀ (i : Nat) (v : Value) x, us[i]? = some v → es[i]? = some x → XRep w ι M v x) : XRep w ι M (.func f vs us) (.fn f ds es)
  | ifc {t : TypeId} {v : Value} {x : XV} (hx : XRep w ι M v x) : XRep w ι M (.iface t v) (.ifc t x)
  | omp {b id : Nat} (hb : ι[id]? = some b) : XRep w ι M (.map (some b)) (.omp id)
  | yl {l id : Nat} (hb : ι[id]? = some l) : XRep w ι M (.func (.yield l) #[] #[]) (.yl id)

/-- Modes of what may be written. -/
def Wr (m : Nat) : Prop := m = 0 ∨ m = 3 ∨ m = 5 ∨ m = 6

/-- An entry of a map of the call's own: its key and its value. -/
abbrev XV.ent (k : Value) (x : XV) : XV := .tup [.d (.lit k), x]

/-- The record of a loop but for the values of its temporaries. -/
def _root_.Go.Loop.bare (r : Loop) : Loop := { r with tmps := #[], defers := 0 }

/-- Objects that are not cells. -/
def Spec (w : World) (ι : List Nat) (M : Nat → Prop) (b mode : Nat) (cells : List XV) : Prop :=
  ((mode = 3 ∨ mode = 4) ∧ ∃ es clock, w.heap[b]? = some (.map es clock) ∧ es.size = cells.length ∧
    ∀ (i : Nat) (e : MapEntry) (c : XV), es[i]? = some e → cells[i]? = some c → ∃ x, c = .ent e.key x ∧ XRep w ι M e.val x) ∨
  (mode = 5 ∧ ∃ t pos, w.heap[b]? = some (.stringIter t pos) ∧ cells = [.d (.lit (.string t)), .d (.lit (.int .i64 (pos : Nat)))]) ∨
  (mode = 6 ∧ ∃ r L env, w.heap[b]? = some (.loop r) ∧ cells = .lp L :: env ∧ L = r.bare ∧ r.tmps.size = env.length ∧
    ∀ (i : Nat) (v : Value) (x : XV), r.tmps[i]? = some v → env[i]? = some x → XRep w ι M v x)

/-- Block b is that of an object that may be written. -/
def Mut (ι : List Nat) (σ : List VObj) (b : Nat) : Prop := ∃ (id : Nat) (o : VObj), σ[id]? = some o ∧ ι[id]? = some b ∧ Wr o.mode

/-- The blocks that deep values do not look at. -/
def Forb (M : Nat → Prop) (ι : List Nat) (σ : List VObj) (b : Nat) : Prop := M b ∨ Mut ι σ b

/-- The objects stand in the world. -/
structure Mem (M : Nat → Prop) (W0 : World) (ι : List Nat) (σ : List VObj) (w : World) : Prop where
  len : ι.length = σ.length
  objs : ∀ (id : Nat) (o : VObj) (b : Nat), σ[id]? = some o → ι[id]? = some b → o.mode < 2 → ∃ cur ty, w.heap[b]? = some (.cells cur ty (0, 0)) ∧ o.cells.length ≤ cur.size ∧
    ∀ (i : Nat) (x : XV), o.cells[i]? = some x → ∃ v, cur[i]? = some v ∧ XRep w ι (Forb M ι σ) v x
  spec : ∀ (id : Nat) (o : VObj) (b : Nat), σ[id]? = some o → ι[id]? = some b → 2 < o.mode → Spec w ι (Forb M ι σ) b o.mode o.cells
  fresh : ∀ (id b : Nat), ι[id]? = some b → W0.heap.size ≤ b ∧ b < w.heap.size
  apart : ∀ (i j : Nat) (oi oj : VObj) (bi bj : Nat), i ≠ j → σ[i]? = some oi → σ[j]? = some oj → ι[i]? = some bi → ι[j]? = some bj → Wr oi.mode → oj.mode ≠ 2 → bi ≠ bj
  below : Below W0.heap.size W0 w
  outer : ∀ b, M b → b < W0.heap.size

/-- What a step leaves as it was. -/
structure Ext (M : Nat → Prop) (ι : List Nat) (σ : List VObj) (w : World) (ι' : List Nat) (σ' : List VObj) (w' : World) : Prop where
  pre : ∀ (id b : Nat), ι[id]? = some b → ι'[id]? = some b
  heap : ∀ b, b < w.heap.size → ¬ Forb M ι σ b → w'.heap[b]? = w.heap[b]?
  size : w.heap.size ≤ w'.heap.size
  mt : ∀ b, b < w.heap.size → Mut ι' σ' b → Mut ι σ b
  shape : ∀ b s, w.shape? b = some s → w'.shape? b = some s
  loops : ∀ (b : Nat) (r : Loop), w.heap[b]? = some (Obj.loop r) → ∃ r' : Loop, w'.heap[b]? = some (Obj.loop r')

theorem lt_of_cell? {w : World} {p : Addr} {v : Value} (h : w.cell? p = some v) : p.block < w.heap.size := by
  unfold World.cell? at h
  split at h
  · rename_i heq
    exact (Array.getElem?_eq_some_iff.1 heq).1
  · cases h

theorem cell?_of_heap {w w' : World} {p : Addr} (h : w'.heap[p.block]? = w.heap[p.block]?) : w'.cell? p = w.cell? p := by
  unfold World.cell?; rw [h]

theorem lt_of_shape? {w : World} {b : Nat} {s : TypeId × Nat} (h : w.shape? b = some s) : b < w.heap.size := by
  unfold World.shape? at h
  split at h
  · rename_i heq
    exact (Array.getElem?_eq_some_iff.1 heq).1
  · cases h

/-- Deep values read as before where the blocks that they look at have not turned. -/
theorem DRep.ext {w w' : World} {M M' : Nat → Prop} {v : Value} {x : DV} (h : DRep w M v x)
    (hheap : ∀ b, b < w.heap.size → ¬ M b → w'.heap[b]? = w.heap[b]?) (hM : ∀ b, b < w.heap.size → M' b → M b) : DRep w' M' v x := by
  induction h with
  | lit v => exact .lit v
  | @sl a len cap cs capo vs hl hc hn ha hcell hx ih =>
    have key : cs ≠ [] → a.block < w.heap.size := by
      intro hne
      cases vs with
      | nil => cases cs with
        | nil => exact absurd rfl hne
        | cons _ _ => simp at hn
      | cons v vs => exact lt_of_cell? (p := ⟨a.block, a.off + 0, none⟩) (hcell 0 v rfl)
    refine .sl vs hl hc hn (fun hne => ⟨(ha hne).1, fun hm => (ha hne).2 (hM _ (key hne) hm)⟩) (fun i v hv => ?_) ih
    have hne : cs ≠ [] := by
      intro e; subst e
      have : vs = [] := List.length_eq_zero_iff.1 (by simpa using hn)
      subst this; simp at hv
    rw [cell?_of_heap (w := w) (p := ⟨a.block, a.off + i, none⟩) (hheap _ (key hne) (ha hne).2)]
    exact hcell i v hv
  | @ptr a cs vs hn ha hcell hx ih =>
    have key : cs ≠ [] → a.block < w.heap.size := by
      intro hne
      cases vs with
      | nil => cases cs with
        | nil => exact absurd rfl hne
        | cons _ _ => simp at hn
      | cons v vs => exact lt_of_cell? (p := ⟨a.block, a.off + 0, none⟩) (hcell 0 v rfl)
    refine .ptr vs hn (fun hne => ⟨(ha hne).1, fun hm => (ha hne).2 (hM _ (key hne) hm)⟩) (fun i v hv => ?_) ih
    have hne : cs ≠ [] := by
      intro e; subst e
      have : vs = [] := List.length_eq_zero_iff.1 (by simpa using hn)
      subst this; simp at hv
    rw [cell?_of_heap (w := w) (p := ⟨a.block, a.off + i, none⟩) (hheap _ (key hne) (ha hne).2)]
    exact hcell i v hv
  | tup hn _ ih => exact .tup hn ih
  | agg hn _ ih => exact .agg hn ih
  | fn hn _ hm _ ih1 ih2 => exact .fn hn ih1 hm ih2
  | ifc _ ih => exact .ifc ih
  | @mp b es clock ds ks hb hh hk hn _ ih =>
    have hlt := (Array.getElem?_eq_some_iff.1 hh).1
    exact .mp ks (fun hm => hb (hM _ hlt hm)) ((hheap _ hlt hb).trans hh) hk hn ih

theorem Ext.forb {M : Nat → Prop} {ι ι' : List Nat} {σ σ' : List VObj} {w w' : World} (h : Ext M ι σ w ι' σ' w') : ∀ b, b < w.heap.size → Forb M ι' σ' b → Forb M ι σ b :=
  fun b hb hf => hf.imp id (h.mt b hb)

theorem XRep.ext {M : Nat → Prop} {ι ι' : List Nat} {σ σ' : List VObj} {w w' : World} {v : Value} {x : XV} (h : XRep w ι (Forb M ι σ) v x) (e : Ext M ι σ w ι' σ' w') :
    XRep w' ι' (Forb M ι' σ') v x := by
  induction h with
  | d h => exact .d (h.ext e.heap e.forb)
  | osl hb hl hlo hex hs =>
    obtain ⟨ty, sz, h1, h2⟩ := hs
    exact .osl (e.pre _ _ hb) hl hlo hex ⟨ty, sz, e.shape _ _ h1, h2⟩
  | optr hb => exact .optr (e.pre _ _ hb)
  | tup hn _ ih => exact .tup hn ih
  | agg hn _ ih => exact .agg hn ih
  | fn hn _ hm _ ih1 ih2 => exact .fn hn ih1 hm ih2
  | ifc _ ih => exact .ifc ih
  | omp hb => exact .omp (e.pre _ _ hb)
  | yl hb => exact .yl (e.pre _ _ hb)

theorem Ext.refl (M : Nat → Prop) (ι : List Nat) (σ : List VObj) (w : World) : Ext M ι σ w ι σ w :=
  ⟨fun _ _ h => h, fun _ _ _ => rfl, Nat.le_refl _, fun _ _ h => h, fun _ _ h => h, fun _ r h => ⟨r, h⟩⟩

theorem Ext.trans {M : Nat → Prop} {ι ι' ι'' : List Nat} {σ σ' σ'' : List VObj} {w w' w'' : World} (h : Ext M ι σ w ι' σ' w') (k : Ext M ι' σ' w' ι'' σ'' w'') : Ext M ι σ w ι'' σ'' w'' :=
  ⟨fun _ _ e => k.pre _ _ (h.pre _ _ e), fun b hb hf => (k.heap b (Nat.lt_of_lt_of_le hb h.size) (fun hf' => hf (h.forb b hb hf'))).trans (h.heap b hb hf), Nat.le_trans h.size k.size,
    fun b hb hm => h.mt b hb (k.mt b (Nat.lt_of_lt_of_le hb h.size) hm), fun b s hs => k.shape b s (h.shape b s hs), fun b r hr => let ⟨r', h'⟩ := h.loops b r hr; k.loops b r' h'⟩

end Go.Vm

end
section
/-
  VALUES WITHOUT ADDRESSES, 2: how the machine's memory stands in the world: a new object, a store, an object that is no longer written, an append in place.
-/
namespace Go.Vm
open Go.RowKit

theorem shape_of_heap {w : World} {b : Nat} {cur : Array Value} {ty : TypeId} {fr : Nat × Nat} (h : w.heap[b]? = some (.cells cur ty fr)) : w.shape? b = some (ty, cur.size) := by
  simp [World.shape?, h]

theorem shape_congr {w w' : World} {b : Nat} (h : w'.heap[b]? = w.heap[b]?) : w'.shape? b = w.shape? b := by
  unfold World.shape?; rw [h]

/-- A world that has only grown. -/
theorem ext_of_grown {M : Nat → Prop} {ι ι' : List Nat} {σ σ' : List VObj} {w w' : World} (hpre : ∀ (id b : Nat), ι[id]? = some b → ι'[id]? = some b)
    (hheap : ∀ b, b < w.heap.size → w'.heap[b]? = w.heap[b]?) (hsize : w.heap.size ≤ w'.heap.size) (hm : ∀ b, b < w.heap.size → Mut ι' σ' b → Mut ι σ b) : Ext M ι σ w ι' σ' w' :=
  ⟨hpre, fun b hb _ => hheap b hb, hsize, hm, fun b s hs => by rw [shape_congr (hheap b (lt_of_shape? hs))]; exact hs, fun b r hr => ⟨r, (hheap b (Array.getElem?_eq_some_iff.1 hr).1).trans hr⟩⟩

theorem Spec.ext {M : Nat → Prop} {ι ι' : List Nat} {σ σ' : List VObj} {w w' : World} {b m : Nat} {cs : List XV} (h : Spec w ι (Forb M ι σ) b m cs) (e : Ext M ι σ w ι' σ' w')
    (hb : w'.heap[b]? = w.heap[b]?) : Spec w' ι' (Forb M ι' σ') b m cs := by
  rcases h with ⟨h1, es, clock, h2, h3, h4⟩ | ⟨h1, t, pos, h2, h3⟩ | ⟨h1, r, L, env, h2, h3, h4, h5, h6⟩
  · refine .inl ⟨h1, es, clock, hb.trans h2, h3, fun i en c hi hc => ?_⟩
    obtain ⟨x, k1, k2⟩ := h4 i en c hi hc
    exact ⟨x, k1, k2.ext e⟩
  · exact .inr (.inl ⟨h1, t, pos, hb.trans h2, h3⟩)
  · exact .inr (.inr ⟨h1, r, L, env, hb.trans h2, h3, h4, h5, fun i v x hv hx => (h6 i v x hv hx).ext e⟩)

/-- Special objects are no cells. -/
theorem Spec.no_cells {M : Nat → Prop} {ι : List Nat} {w : World} {b m : Nat} {cs : List XV} (h : Spec w ι M b m cs) {cur : Array Value} {ty : TypeId} {fr : Nat × Nat} (hc : w.heap[b]? = some (.cells cur ty fr)) : False := by
  rcases h with ⟨_, es, clock, h2, _⟩ | ⟨_, t, pos, h2, _⟩ | ⟨_, r, L, env, h2, _⟩ <;> rw [hc] at h2 <;> cases h2

theorem getElem?_snoc {α : Type} (l : List α) (x : α) (i : Nat) (y : α) (h : (l ++ [x])[i]? = some y) : (i < l.length ∧ l[i]? = some y) ∨ (i = l.length ∧ y = x) := by
  rw [List.getElem?_append] at h
  split at h
  · exact .inl ⟨‹_›, h⟩
  · right
    have hi : i - l.length = 0 := by
      cases hk : i - l.length with
      | zero => rfl
      | succ k => rw [hk] at h; simp at h
    rw [hi] at h
    simp at h
    exact ⟨by omega, h.symm⟩

theorem getElem?_pre {α : Type} (l : List α) (x : α) (i : Nat) (y : α) (h : l[i]? = some y) : (l ++ [x])[i]? = some y := by
  rw [List.getElem?_append_left (List.getElem?_eq_some_iff.1 h).1]; exact h

/-- Alloc of a new row. -/
theorem Mem.push {M : Nat → Prop} {W0 w : World} {ι : List Nat} {σ : List VObj} (hm : Mem M W0 ι σ w) {w1 : World} (hw1 : w1.heap = w.heap) (hb1 : Below W0.heap.size w w1)
    (cur : Array Value) (ty : TypeId) (cells : List XV) (hlen : cells.length ≤ cur.size)
    (hx : ∀ (i : Nat) (x : XV), cells[i]? = some x → ∃ v, cur[i]? = some v ∧ XRep w ι (Forb M ι σ) v x) :
    Mem M W0 (ι ++ [w.heap.size]) (σ ++ [⟨cells, 0⟩]) (w1.alloc (.cells cur ty)) ∧ Ext M ι σ w (ι ++ [w.heap.size]) (σ ++ [⟨cells, 0⟩]) (w1.alloc (.cells cur ty)) := by
  have hsz : (w1.alloc (.cells cur ty)).heap.size = w.heap.size + 1 := by simp [World.alloc, hw1]
  have hold : ∀ b, b < w.heap.size → (w1.alloc (.cells cur ty)).heap[b]? = w.heap[b]? := fun b hb => by
    rw [Below.heap_alloc _ _ _ (by rw [hw1]; exact hb), hw1]
  have hnew : (w1.alloc (.cells cur ty)).heap[w.heap.size]? = some (.cells cur ty (0, 0)) := by
    have := Go.heap_alloc_new w1 (.cells cur ty)
    rwa [hw1] at this
  have hmut : ∀ b, b < w.heap.size → Mut (ι ++ [w.heap.size]) (σ ++ [⟨cells, 0⟩]) b → Mut ι σ b := by
    rintro b hb ⟨id, o, h1, h2, h3⟩
    rcases getElem?_snoc _ _ _ _ h2 with ⟨_, h2'⟩ | ⟨e, rfl⟩
    · rcases getElem?_snoc _ _ _ _ h1 with ⟨_, h1'⟩ | ⟨e, _⟩
      · exact ⟨id, o, h1', h2', h3⟩
      · have := (List.getElem?_eq_some_iff.1 h2').1; rw [hm.len] at this; omega
    · omega
  have hext : Ext M ι σ w (ι ++ [w.heap.size]) (σ ++ [⟨cells, 0⟩]) (w1.alloc (.cells cur ty)) :=
    ext_of_grown (fun id b h => getElem?_pre _ _ _ _ h) hold (by omega) hmut
  refine ⟨⟨by simp [hm.len], ?_, fun id o b h1 h2 h3 => ?_, ?_, ?_, hm.below.trans (hb1.alloc (by rw [hw1]; exact hm.below.size) _), hm.outer⟩, hext⟩
  rotate_left
  · rcases getElem?_snoc _ _ _ _ h1 with ⟨hlt, h1'⟩ | ⟨e, rfl⟩
    · rcases getElem?_snoc _ _ _ _ h2 with ⟨_, h2'⟩ | ⟨e, _⟩
      · exact (hm.spec id o b h1' h2' h3).ext hext (hold b (hm.fresh _ _ h2').2)
      · rw [hm.len] at e; omega
    · simp at h3
  rotate_right
  · intro id o b h1 h2 h3
    rcases getElem?_snoc _ _ _ _ h1 with ⟨hlt, h1'⟩ | ⟨e, rfl⟩
    · rcases getElem?_snoc _ _ _ _ h2 with ⟨_, h2'⟩ | ⟨e, _⟩
      · obtain ⟨cu, t, k1, k2, k3⟩ := hm.objs id o b h1' h2' h3
        refine ⟨cu, t, (hold b (hm.fresh _ _ h2').2).trans k1, k2, fun i x hi => ?_⟩
        obtain ⟨v, kv, kx⟩ := k3 i x hi
        exact ⟨v, kv, kx.ext hext⟩
      · rw [hm.len] at e; omega
    · rcases getElem?_snoc _ _ _ _ h2 with ⟨hlt, _⟩ | ⟨_, rfl⟩
      · rw [hm.len] at hlt; omega
      · refine ⟨cur, ty, hnew, hlen, fun i x hi => ?_⟩
        obtain ⟨v, kv, kx⟩ := hx i x hi
        exact ⟨v, kv, kx.ext hext⟩
  · intro id b h
    rw [hsz]
    rcases getElem?_snoc _ _ _ _ h with ⟨_, h'⟩ | ⟨_, rfl⟩
    · have := hm.fresh _ _ h'; omega
    · have := hm.below.size; omega
  · intro i j oi oj bi bj hij h1 h2 h3 h4 h5 h6
    have hl := hm.len
    rcases getElem?_snoc _ _ _ _ h1 with ⟨_, h1'⟩ | ⟨e1, rfl⟩ <;> rcases getElem?_snoc _ _ _ _ h2 with ⟨_, h2'⟩ | ⟨e2, rfl⟩ <;>
      rcases getElem?_snoc _ _ _ _ h3 with ⟨_, h3'⟩ | ⟨e3, rfl⟩ <;> rcases getElem?_snoc _ _ _ _ h4 with ⟨_, h4'⟩ | ⟨e4, rfl⟩ <;> try omega
    · exact hm.apart i j oi oj bi bj hij h1' h2' h3' h4' h5 h6
    · have := (hm.fresh _ _ h3').2; omega
    · have := (hm.fresh _ _ h4').2; omega

/-- The list with xs in the place of its cells from o on. -/
def splice {α : Type} (cs : List α) (o : Nat) (xs : List α) : List α := cs.take o ++ xs ++ cs.drop (o + xs.length)

theorem length_splice {α : Type} (cs : List α) (o : Nat) (xs : List α) (h : o + xs.length ≤ cs.length) : (splice cs o xs).length = cs.length := by
  simp [splice]; omega

theorem getElem?_splice {α : Type} (cs : List α) (o : Nat) (xs : List α) (h : o + xs.length ≤ cs.length) (i : Nat) :
    (splice cs o xs)[i]? = if o ≤ i ∧ i < o + xs.length then xs[i - o]? else cs[i]? := by
  unfold splice
  have hmin : min o cs.length = o := by omega
  by_cases h1 : i < o
  · rw [if_neg (by omega), List.append_assoc, List.getElem?_append_left (by simp; omega), List.getElem?_take, if_pos h1]
  · by_cases h2 : i < o + xs.length
    · rw [if_pos (by omega), List.append_assoc, List.getElem?_append_right (by simp; omega), List.getElem?_append_left (by simp; omega)]
      simp [hmin]
    · rw [if_neg (by omega), List.append_assoc, List.getElem?_append_right (by simp; omega), List.getElem?_append_right (by simp; omega), List.getElem?_drop]
      congr 1
      simp [hmin]; omega

/-- Writes to the block of an object that may be written. -/
theorem ext_write {M : Nat → Prop} {W0 w : World} {ι : List Nat} {σ : List VObj} (_ : Mem M W0 ι σ w) {id b : Nat} {o : VObj} (ho : σ[id]? = some o) (hb : ι[id]? = some b) (h0 : o.mode = 0)
    {cur cur' : Array Value} {ty : TypeId} (hg : w.heap[b]? = some (.cells cur ty (0, 0))) (hsz : cur'.size = cur.size)
    {ι' : List Nat} {σ' : List VObj} (hpre : ∀ (i c : Nat), ι[i]? = some c → ι'[i]? = some c) (hmt : ∀ c, c < w.heap.size → Mut ι' σ' c → Mut ι σ c) :
    Ext M ι σ w ι' σ' (w.setRow b cur') := by
  refine ⟨hpre, fun c hc hf => ?_, by simp, hmt, fun c s hs => ?_, fun c r hr => ⟨r, by
    rw [setRow_other w b c _ (fun e => by subst e; rw [hg] at hr; cases hr)]; exact hr⟩⟩
  · exact setRow_other w b c _ (fun e => hf (.inr ⟨id, o, ho, e ▸ hb, .inl h0⟩))
  · by_cases e : c = b
    · subst e
      rw [shape_of_heap (setRow_heap w c cur cur' ty _ hg)]
      rw [shape_of_heap hg] at hs
      rw [hsz]; exact hs
    · rw [shape_congr (setRow_other w b c _ e)]; exact hs

theorem below_setRow {B : Nat} {w : World} {b : Nat} (hb : B ≤ b) (cur' : Array Value) : Below B w (w.setRow b cur') :=
  ⟨rfl, rfl, rfl, by simp, fun k hk => setRow_other w b k _ (by omega)⟩

theorem set_get {α : Type} (l : List α) (i j : Nat) (x y : α) (h : (l.set i x)[j]? = some y) : (i = j ∧ y = x ∧ j < l.length) ∨ (i ≠ j ∧ l[j]? = some y) := by
  rw [List.getElem?_set] at h
  split at h
  · split at h
    · cases h; exact .inl ⟨‹_›, rfl, by omega⟩
    · cases h
  · exact .inr ⟨‹_›, h⟩

/-- A store of cells into an object that may be written. -/
theorem Mem.write {M : Nat → Prop} {W0 w : World} {ι : List Nat} {σ : List VObj} (hm : Mem M W0 ι σ w) {id b : Nat} {o : VObj} (ho : σ[id]? = some o) (hb : ι[id]? = some b) (h0 : o.mode = 0)
    {cur : Array Value} {ty : TypeId} (hg : w.heap[b]? = some (.cells cur ty (0, 0))) (off : Nat) (vs : List Value) (xs : List XV) (hl : vs.length = xs.length) (hfit : off + xs.length ≤ o.cells.length)
    (hx : ∀ (i : Nat) (v : Value) (x : XV), vs[i]? = some v → xs[i]? = some x → XRep w ι (Forb M ι σ) v x) :
    Mem M W0 ι (σ.set id ⟨splice o.cells off xs, 0⟩) (w.setRow b (splice cur.toList off vs).toArray) ∧ Ext M ι σ w ι (σ.set id ⟨splice o.cells off xs, 0⟩) (w.setRow b (splice cur.toList off vs).toArray) := by
  obtain ⟨cur0, ty0, k1, k2, k3⟩ := hm.objs id o b ho hb (by omega)
  rw [hg] at k1
  cases k1
  have hsz : (splice cur.toList off vs).toArray.size = cur.size := by
    rw [List.size_toArray, length_splice _ _ _ (by simp; omega)]; simp
  have hmt : ∀ c, Mut ι (σ.set id ⟨splice o.cells off xs, 0⟩) c → Mut ι σ c := by
    rintro c ⟨i, p, h1, h2, h3⟩
    rcases set_get _ _ _ _ _ h1 with ⟨rfl, rfl, _⟩ | ⟨_, h1'⟩
    · exact ⟨_, o, ho, h2, .inl h0⟩
    · exact ⟨i, p, h1', h2, h3⟩
  have hext := ext_write hm ho hb h0 hg hsz (ι' := ι) (σ' := σ.set id ⟨splice o.cells off xs, 0⟩) (fun _ _ h => h) (fun c _ h => hmt c h)
  refine ⟨⟨by simp [hm.len], ?_, fun i p c h1 h2 h3 => ?_, fun i c h => ?_, ?_, hm.below.trans (below_setRow (hm.fresh _ _ hb).1 _), hm.outer⟩, hext⟩
  rotate_left
  · rcases set_get _ _ _ _ _ h1 with ⟨rfl, rfl, _⟩ | ⟨hne, h1'⟩
    · simp at h3
    · exact (hm.spec i p c h1' h2 h3).ext hext (setRow_other w b c _ (fun e => (hm.spec i p c h1' h2 h3).no_cells (e ▸ hg)))
  rotate_right
  · intro i p c h1 h2 h3
    rcases set_get _ _ _ _ _ h1 with ⟨rfl, rfl, _⟩ | ⟨hne, h1'⟩
    · rw [hb] at h2; cases h2
      refine ⟨_, ty, setRow_heap w b cur _ ty _ hg, by rw [hsz, length_splice _ _ _ hfit]; exact k2, fun i x hi => ?_⟩
      rw [getElem?_splice _ _ _ hfit] at hi
      rw [List.getElem?_toArray, getElem?_splice _ _ _ (by simp; omega), hl]
      by_cases hin : off ≤ i ∧ i < off + xs.length
      · rw [if_pos hin] at hi ⊢
        have hlt : i - off < vs.length := by omega
        exact ⟨vs[i - off], List.getElem?_eq_getElem hlt, (hx _ _ _ (List.getElem?_eq_getElem hlt) hi).ext hext⟩
      · rw [if_neg hin] at hi ⊢
        obtain ⟨v, kv, kx⟩ := k3 i x hi
        exact ⟨v, by simpa using kv, kx.ext hext⟩
    · obtain ⟨cu, t, q1, q2, q3⟩ := hm.objs i p c h1' h2 h3
      refine ⟨cu, t, ?_, q2, fun j x hj => ?_⟩
      · rw [setRow_other w b c _ (fun e => hm.apart id i o p b c hne ho h1' hb h2 (.inl h0) (by omega) e.symm)]; exact q1
      · obtain ⟨v, kv, kx⟩ := q3 j x hj
        exact ⟨v, kv, kx.ext hext⟩
  · have := hm.fresh i c h
    simpa using this
  · intro i j oi oj bi bj hij h1 h2 h3 h4 h5 h6
    rcases set_get _ _ _ _ _ h1 with ⟨rfl, rfl, _⟩ | ⟨_, h1'⟩ <;> rcases set_get _ _ _ _ _ h2 with ⟨rfl, rfl, _⟩ | ⟨_, h2'⟩
    · exact absurd rfl hij
    · exact hm.apart _ _ o oj bi bj hij ho h2' h3 h4 (.inl h0) h6
    · exact hm.apart _ _ oi o bi bj hij h1' ho h3 h4 h5 (by omega)
    · exact hm.apart _ _ oi oj bi bj hij h1' h2' h3 h4 h5 h6

/-- An append into the spare cells of an object's block: the old object is not looked at any more, a new one has its block. -/
theorem Mem.extend {M : Nat → Prop} {W0 w : World} {ι : List Nat} {σ : List VObj} (hm : Mem M W0 ι σ w) {id b : Nat} {o : VObj} (ho : σ[id]? = some o) (hb : ι[id]? = some b) (h0 : o.mode = 0)
    {cur : Array Value} {ty : TypeId} (hg : w.heap[b]? = some (.cells cur ty (0, 0))) (vs : List Value) (xs : List XV) (hl : vs.length = xs.length) (hfit : o.cells.length + xs.length ≤ cur.size)
    (hx : ∀ (i : Nat) (v : Value) (x : XV), vs[i]? = some v → xs[i]? = some x → XRep w ι (Forb M ι σ) v x) :
    Mem M W0 (ι ++ [b]) ((σ.set id ⟨o.cells, 2⟩) ++ [⟨o.cells ++ xs, 0⟩]) (w.setRow b (splice cur.toList o.cells.length vs).toArray) ∧
      Ext M ι σ w (ι ++ [b]) ((σ.set id ⟨o.cells, 2⟩) ++ [⟨o.cells ++ xs, 0⟩]) (w.setRow b (splice cur.toList o.cells.length vs).toArray) := by
  obtain ⟨cur0, ty0, k1, k2, k3⟩ := hm.objs id o b ho hb (by omega)
  rw [hg] at k1
  cases k1
  have hsz : (splice cur.toList o.cells.length vs).toArray.size = cur.size := by
    rw [List.size_toArray, length_splice _ _ _ (by simp; omega)]; simp
  have hlen := hm.len
  have hmt : ∀ c, Mut (ι ++ [b]) ((σ.set id ⟨o.cells, 2⟩) ++ [⟨o.cells ++ xs, 0⟩]) c → Mut ι σ c := by
    rintro c ⟨i, p, h1, h2, h3⟩
    rcases getElem?_snoc _ _ _ _ h2 with ⟨hlt, h2'⟩ | ⟨e, rfl⟩
    · rcases getElem?_snoc _ _ _ _ h1 with ⟨_, h1'⟩ | ⟨e, _⟩
      · rcases set_get _ _ _ _ _ h1' with ⟨rfl, rfl, _⟩ | ⟨_, h1''⟩
        · simp [Wr] at h3
        · exact ⟨i, p, h1'', h2', h3⟩
      · simp at e; omega
    · exact ⟨id, o, ho, hb, .inl h0⟩
  have hext := ext_write hm ho hb h0 hg hsz (ι' := ι ++ [b]) (σ' := (σ.set id ⟨o.cells, 2⟩) ++ [⟨o.cells ++ xs, 0⟩]) (fun _ _ h => getElem?_pre _ _ _ _ h) (fun c _ h => hmt c h)
  refine ⟨⟨by simp [hm.len], ?_, fun i p c h1 h2 h3 => ?_, fun i c h => ?_, ?_, hm.below.trans (below_setRow (hm.fresh _ _ hb).1 _), hm.outer⟩, hext⟩
  rotate_left
  · rcases getElem?_snoc _ _ _ _ h1 with ⟨hlt, h1'⟩ | ⟨e, rfl⟩
    · rcases getElem?_snoc _ _ _ _ h2 with ⟨_, h2'⟩ | ⟨e, _⟩
      · rcases set_get _ _ _ _ _ h1' with ⟨rfl, rfl, _⟩ | ⟨hne, h1''⟩
        · simp at h3
        · exact (hm.spec i p c h1'' h2' h3).ext hext (setRow_other w b c _ (fun e => (hm.spec i p c h1'' h2' h3).no_cells (e ▸ hg)))
      · simp at hlt; omega
    · simp at h3
  rotate_right
  · intro i p c h1 h2 h3
    rcases getElem?_snoc _ _ _ _ h1 with ⟨hlt, h1'⟩ | ⟨e, rfl⟩
    · rcases getElem?_snoc _ _ _ _ h2 with ⟨_, h2'⟩ | ⟨e, _⟩
      · rcases set_get _ _ _ _ _ h1' with ⟨rfl, rfl, _⟩ | ⟨hne, h1''⟩
        · simp at h3
        · obtain ⟨cu, t, q1, q2, q3⟩ := hm.objs i p c h1'' h2' h3
          refine ⟨cu, t, ?_, q2, fun j x hj => ?_⟩
          · rw [setRow_other w b c _ (fun e => hm.apart id i o p b c hne ho h1'' hb h2' (.inl h0) (by omega) e.symm)]; exact q1
          · obtain ⟨v, kv, kx⟩ := q3 j x hj
            exact ⟨v, kv, kx.ext hext⟩
      · simp at hlt; omega
    · rcases getElem?_snoc _ _ _ _ h2 with ⟨hlt, _⟩ | ⟨_, rfl⟩
      · simp at e; omega
      · refine ⟨_, ty, setRow_heap w c cur _ ty _ hg, by rw [hsz]; simpa using hfit, fun i x hi => ?_⟩
        rw [List.getElem?_toArray, getElem?_splice _ _ _ (by simp; omega), hl]
        by_cases hin : i < o.cells.length
        · rw [if_neg (by omega)]
          rw [List.getElem?_append_left hin] at hi
          obtain ⟨v, kv, kx⟩ := k3 i x hi
          exact ⟨v, by simpa using kv, kx.ext hext⟩
        · rw [List.getElem?_append_right (by omega)] at hi
          have hlt := (List.getElem?_eq_some_iff.1 hi).1
          rw [if_pos (by omega)]
          have hlt' : i - o.cells.length < vs.length := by omega
          exact ⟨vs[i - o.cells.length], List.getElem?_eq_getElem hlt', (hx _ _ _ (List.getElem?_eq_getElem hlt') hi).ext hext⟩
  · have hs : (w.setRow b (splice cur.toList o.cells.length vs).toArray).heap.size = w.heap.size := by simp
    rw [hs]
    rcases getElem?_snoc _ _ _ _ h with ⟨_, h'⟩ | ⟨_, rfl⟩
    · exact hm.fresh _ _ h'
    · exact hm.fresh _ _ hb
  · intro i j oi oj bi bj hij h1 h2 h3 h4 h5 h6
    have e1 : (σ.set id ⟨o.cells, 2⟩).length = σ.length := by simp
    rcases getElem?_snoc _ _ _ _ h1 with ⟨l1, h1'⟩ | ⟨l1, rfl⟩ <;> rcases getElem?_snoc _ _ _ _ h2 with ⟨l2, h2'⟩ | ⟨l2, rfl⟩ <;>
      rcases getElem?_snoc _ _ _ _ h3 with ⟨l3, h3'⟩ | ⟨l3, rfl⟩ <;> rcases getElem?_snoc _ _ _ _ h4 with ⟨l4, h4'⟩ | ⟨l4, rfl⟩ <;> try omega
    · rcases set_get _ _ _ _ _ h1' with ⟨rfl, rfl, _⟩ | ⟨_, h1''⟩
      · simp [Wr] at h5
      rcases set_get _ _ _ _ _ h2' with ⟨rfl, rfl, _⟩ | ⟨_, h2''⟩
      · exact absurd rfl h6
      exact hm.apart _ _ oi oj bi bj hij h1'' h2'' h3' h4' h5 h6
    · rcases set_get _ _ _ _ _ h1' with ⟨rfl, rfl, _⟩ | ⟨hne, h1''⟩
      · simp [Wr] at h5
      exact hm.apart _ _ oi o bi _ (Ne.symm hne) h1'' ho h3' hb h5 (by omega)
    · rcases set_get _ _ _ _ _ h2' with ⟨rfl, rfl, _⟩ | ⟨hne, h2''⟩
      · exact absurd rfl h6
      exact hm.apart _ _ o oj _ bj hne ho h2'' hb h4' (.inl h0) h6

/-- How objects may be tamed. -/
def Tame (m m' : Nat) : Prop := m' = m ∨ m' = 2 ∨ (m = 0 ∧ m' = 1) ∨ (m = 3 ∧ m' = 4)

/-- Objects that are no longer written, or no longer looked at. -/
theorem Mem.tamed {M : Nat → Prop} {W0 w : World} {ι : List Nat} {σ σ' : List VObj} (hm : Mem M W0 ι σ w) (hlen : σ'.length = σ.length)
    (hs : ∀ (id : Nat) (o' : VObj), σ'[id]? = some o' → ∃ o, σ[id]? = some o ∧ o'.cells = o.cells ∧ Tame o.mode o'.mode) :
    Mem M W0 ι σ' w ∧ Ext M ι σ w ι σ' w := by
  have hmt : ∀ c, Mut ι σ' c → Mut ι σ c := by
    rintro c ⟨i, p, h1, h2, h3⟩
    obtain ⟨o, k1, _, k3⟩ := hs i p h1
    exact ⟨i, o, k1, h2, by simp only [Wr, Tame] at *; omega⟩
  have hext : Ext M ι σ w ι σ' w := ⟨fun _ _ h => h, fun _ _ _ => rfl, Nat.le_refl _, fun c _ h => hmt c h, fun _ _ h => h, fun _ r h => ⟨r, h⟩⟩
  refine ⟨⟨by rw [hlen, hm.len], ?_, fun id o' b h1 h2 h3 => ?_, hm.fresh, ?_, hm.below, hm.outer⟩, hext⟩
  rotate_left
  · obtain ⟨o, k1, k2, k4⟩ := hs id o' h1
    have := (hm.spec id o b k1 h2 (by simp only [Tame] at *; omega)).ext hext rfl
    rw [k2]
    rcases k4 with e | e | ⟨e1, e2⟩ | ⟨e1, e2⟩
    · rw [e]; exact this
    · omega
    · omega
    · rw [e1] at this; rw [e2]
      rcases this with ⟨_, k⟩ | ⟨e, _⟩ | ⟨e, _⟩
      · exact .inl ⟨.inr rfl, k⟩
      · omega
      · omega
  rotate_right
  · intro id o' b h1 h2 h3
    obtain ⟨o, k1, k2, k4⟩ := hs id o' h1
    obtain ⟨cur, ty, q1, q2, q3⟩ := hm.objs id o b k1 h2 (by simp only [Tame] at *; omega)
    refine ⟨cur, ty, q1, by rw [k2]; exact q2, fun i x hi => ?_⟩
    obtain ⟨v, kv, kx⟩ := q3 i x (by rw [← k2]; exact hi)
    exact ⟨v, kv, kx.ext hext⟩
  · intro i j oi oj bi bj hij h1 h2 h3 h4 h5 h6
    obtain ⟨o1, a1, _, a3⟩ := hs i oi h1
    obtain ⟨o2, b1, _, b4⟩ := hs j oj h2
    exact hm.apart i j o1 o2 bi bj hij a1 b1 h3 h4 (by simp only [Wr, Tame] at *; omega) (by simp only [Tame] at *; omega)

/-- A new special object. -/
theorem Mem.pushG {M : Nat → Prop} {W0 w : World} {ι : List Nat} {σ : List VObj} (hm : Mem M W0 ι σ w) (obj : Obj) (mode : Nat) (cells : List XV) (h2 : 2 < mode)
    (hx : ∀ w', Ext M ι σ w (ι ++ [w.heap.size]) (σ ++ [⟨cells, mode⟩]) w' → w'.heap[w.heap.size]? = some obj → Spec w' (ι ++ [w.heap.size]) (Forb M (ι ++ [w.heap.size]) (σ ++ [⟨cells, mode⟩])) w.heap.size mode cells) :
    Mem M W0 (ι ++ [w.heap.size]) (σ ++ [⟨cells, mode⟩]) (w.alloc obj) ∧ Ext M ι σ w (ι ++ [w.heap.size]) (σ ++ [⟨cells, mode⟩]) (w.alloc obj) := by
  have hsz : (w.alloc obj).heap.size = w.heap.size + 1 := by unfold World.alloc; simp
  have hold : ∀ b, b < w.heap.size → (w.alloc obj).heap[b]? = w.heap[b]? := fun b hb => Below.heap_alloc _ _ _ hb
  have hnew : (w.alloc obj).heap[w.heap.size]? = some obj := Go.heap_alloc_new w obj
  have hmut : ∀ b, b < w.heap.size → Mut (ι ++ [w.heap.size]) (σ ++ [⟨cells, mode⟩]) b → Mut ι σ b := by
    rintro b hb ⟨id, o, h1, h2, h3⟩
    rcases getElem?_snoc _ _ _ _ h2 with ⟨_, h2'⟩ | ⟨e, rfl⟩
    · rcases getElem?_snoc _ _ _ _ h1 with ⟨_, h1'⟩ | ⟨e, _⟩
      · exact ⟨id, o, h1', h2', h3⟩
      · have := (List.getElem?_eq_some_iff.1 h2').1; rw [hm.len] at this; omega
    · omega
  have hext : Ext M ι σ w (ι ++ [w.heap.size]) (σ ++ [⟨cells, mode⟩]) (w.alloc obj) :=
    ext_of_grown (fun id b h => getElem?_pre _ _ _ _ h) hold (by omega) hmut
  refine ⟨⟨by simp [hm.len], ?_, ?_, ?_, ?_, hm.below.trans ((Below.refl _ w).alloc hm.below.size _), hm.outer⟩, hext⟩
  · intro id o b h1 h2' h3
    rcases getElem?_snoc _ _ _ _ h1 with ⟨hlt, h1'⟩ | ⟨e, rfl⟩
    · rcases getElem?_snoc _ _ _ _ h2' with ⟨_, h2'⟩ | ⟨e, _⟩
      · obtain ⟨cu, t, k1, k2, k3⟩ := hm.objs id o b h1' h2' h3
        refine ⟨cu, t, (hold b (hm.fresh _ _ h2').2).trans k1, k2, fun i x hi => ?_⟩
        obtain ⟨v, kv, kx⟩ := k3 i x hi
        exact ⟨v, kv, kx.ext hext⟩
      · rw [hm.len] at e; omega
    · simp only at h3; omega
  · intro id o b h1 h2' h3
    rcases getElem?_snoc _ _ _ _ h1 with ⟨hlt, h1'⟩ | ⟨e, rfl⟩
    · rcases getElem?_snoc _ _ _ _ h2' with ⟨_, h2'⟩ | ⟨e, _⟩
      · exact (hm.spec id o b h1' h2' h3).ext hext (hold b (hm.fresh _ _ h2').2)
      · rw [hm.len] at e; omega
    · rcases getElem?_snoc _ _ _ _ h2' with ⟨hlt, _⟩ | ⟨_, rfl⟩
      · rw [hm.len] at hlt; omega
      · exact hx _ hext hnew
  · intro id b h
    rw [hsz]
    rcases getElem?_snoc _ _ _ _ h with ⟨_, h'⟩ | ⟨_, rfl⟩
    · have := hm.fresh _ _ h'; omega
    · have := hm.below.size; omega
  · intro i j oi oj bi bj hij h1 h2 h3 h4 h5 h6
    have hl := hm.len
    rcases getElem?_snoc _ _ _ _ h1 with ⟨_, h1'⟩ | ⟨e1, rfl⟩ <;> rcases getElem?_snoc _ _ _ _ h2 with ⟨_, h2'⟩ | ⟨e2, rfl⟩ <;>
      rcases getElem?_snoc _ _ _ _ h3 with ⟨_, h3'⟩ | ⟨e3, rfl⟩ <;> rcases getElem?_snoc _ _ _ _ h4 with ⟨_, h4'⟩ | ⟨e4, rfl⟩ <;> try omega
    · exact hm.apart i j oi oj bi bj hij h1' h2' h3' h4' h5 h6
    · have := (hm.fresh _ _ h3').2; omega
    · have := (hm.fresh _ _ h4').2; omega

/-- A world whose block b has turned. -/
def World.setObj' (w : World) (b : Nat) (obj : Obj) : World := { w with heap := w.heap.setIfInBounds b obj }

theorem setObj_get (w : World) (b : Nat) (obj : Obj) (h : b < w.heap.size) : (World.setObj' w b obj).heap[b]? = some obj := by simp [World.setObj', h]
theorem setObj_other (w : World) (b c : Nat) (obj : Obj) (h : c ≠ b) : (World.setObj' w b obj).heap[c]? = w.heap[c]? := by
  simp only [World.setObj']; rw [Array.getElem?_setIfInBounds_ne (fun e => h e.symm)]

/-- A special object that is written. -/
theorem Mem.writeG {M : Nat → Prop} {W0 w : World} {ι : List Nat} {σ : List VObj} (hm : Mem M W0 ι σ w) {id b : Nat} {o : VObj} (ho : σ[id]? = some o) (hb : ι[id]? = some b) (h0 : o.mode = 3 ∨ o.mode = 5 ∨ o.mode = 6)
    (obj : Obj) (_ : ∀ cur ty fr, obj ≠ .cells cur ty fr) (cells : List XV) (hlp : ∀ r : Loop, w.heap[b]? = some (Obj.loop r) → ∃ r' : Loop, obj = Obj.loop r')
    (hx : ∀ w' σ', Ext M ι σ w ι σ' w' → w'.heap[b]? = some obj → Spec w' ι (Forb M ι σ') b o.mode cells) :
    Mem M W0 ι (σ.set id ⟨cells, o.mode⟩) (World.setObj' w b obj) ∧ Ext M ι σ w ι (σ.set id ⟨cells, o.mode⟩) (World.setObj' w b obj) := by
  have hsp := hm.spec id o b ho hb (by omega)
  have hbl := (hm.fresh _ _ hb).2
  have hmt : ∀ c, Mut ι (σ.set id ⟨cells, o.mode⟩) c → Mut ι σ c := by
    rintro c ⟨i, p, h1, h2, h3⟩
    rcases set_get _ _ _ _ _ h1 with ⟨rfl, rfl, _⟩ | ⟨_, h1'⟩
    · exact ⟨_, o, ho, h2, h3⟩
    · exact ⟨i, p, h1', h2, h3⟩
  have hwr : Wr o.mode := by simp only [Wr]; omega
  have hext : Ext M ι σ w ι (σ.set id ⟨cells, o.mode⟩) (World.setObj' w b obj) := by
    refine ⟨fun _ _ h => h, fun c hc hf => setObj_other w b c obj (fun e => hf (.inr ⟨id, o, ho, e ▸ hb, hwr⟩)), by simp [World.setObj'], fun c _ h => hmt c h, fun c s hs => ?_, fun c r hr => ?_⟩
    · by_cases e : c = b
      · subst e
        exfalso
        unfold World.shape? at hs
        split at hs
        · rename_i heq; exact hsp.no_cells heq
        · cases hs
      · rw [shape_congr (setObj_other w b c obj e)]; exact hs
    · by_cases e : c = b
      · subst e
        obtain ⟨r', rfl⟩ := hlp r hr
        exact ⟨r', setObj_get w c _ hbl⟩
      · exact ⟨r, (setObj_other w b c obj e).trans hr⟩
  refine ⟨⟨by simp [hm.len], ?_, ?_, fun i c h => by simpa [World.setObj'] using hm.fresh i c h, ?_, hm.below.trans ⟨rfl, rfl, rfl, by simp [World.setObj'], fun k hk => setObj_other w b k obj (by have := (hm.fresh _ _ hb).1; omega)⟩, hm.outer⟩, hext⟩
  · intro i p c h1 h2 h3
    rcases set_get _ _ _ _ _ h1 with ⟨rfl, rfl, _⟩ | ⟨hne, h1'⟩
    · simp only at h3; omega
    · obtain ⟨cu, t, q1, q2, q3⟩ := hm.objs i p c h1' h2 h3
      refine ⟨cu, t, ?_, q2, fun j x hj => ?_⟩
      · rw [setObj_other w b c obj (fun e => hm.apart id i o p b c hne ho h1' hb h2 hwr (by omega) e.symm)]; exact q1
      · obtain ⟨v, kv, kx⟩ := q3 j x hj
        exact ⟨v, kv, kx.ext hext⟩
  · intro i p c h1 h2 h3
    rcases set_get _ _ _ _ _ h1 with ⟨rfl, rfl, _⟩ | ⟨hne, h1'⟩
    · rw [hb] at h2; cases h2
      exact hx _ _ hext (setObj_get w b obj hbl)
    · exact (hm.spec i p c h1' h2 h3).ext hext (setObj_other w b c obj (fun e => hm.apart id i o p b c hne ho h1' hb h2 hwr (by omega) e.symm))
  · intro i j oi oj bi bj hij h1 h2 h3 h4 h5 h6
    rcases set_get _ _ _ _ _ h1 with ⟨rfl, rfl, _⟩ | ⟨_, h1'⟩ <;> rcases set_get _ _ _ _ _ h2 with ⟨rfl, rfl, _⟩ | ⟨_, h2'⟩
    · exact absurd rfl hij
    · exact hm.apart _ _ o oj bi bj hij ho h2' h3 h4 hwr h6
    · exact hm.apart _ _ oi o bi bj hij h1' ho h3 h4 h5 (by omega)
    · exact hm.apart _ _ oi oj bi bj hij h1' h2' h3 h4 h5 h6

end Go.Vm

end
section
/-
  VALUES WITHOUT ADDRESSES, 3: the operations. 'evalOp' says what an operation makes of the values of a frame; 'evalOp_sound': the model's operation does so in every world in which the objects stand.
-/
namespace Go.Vm
open Go.RowKit

def upd (env : Nat → XV) (t : Nat) (x : XV) : Nat → XV := fun s => if s = t then x else env s

structure St where
  σ : List VObj
  env : Nat → XV

def evalX (env : Nat → XV) : Operand → XV
  | .tmp t => env t
  | .const v => .d (.lit v)
  | .global g => .d (.lit (.pointer (some ⟨g, 0, none⟩)))
  | .func f => .d (.fn (.func f) [] [])

def litOf : XV → Option Value
  | .d (.lit v) => some v
  | _ => none

/-- What a run that neither reads nor writes memory gives. -/
def pureRun {α : Type} (P : Program) : Sem α → Option α
  | .pure a => some a
  | .program k => pureRun P (k P)
  | .mark _ k => pureRun P k
  | _ => none

theorem pureRun_ok {α : Type} {P : Program} {s : Sem α} {a : α} (h : pureRun P s = some a) (w : World) : s.run P w = .ok a w := by
  induction s with
  | pure b => simp [pureRun] at h; subst h; rfl
  | program k ih => exact ih P h
  | mark m k ih => exact ih h
  | _ => simp [pureRun] at h

def isSelect : Op → Bool
  | .select _ _ => true
  | _ => false

/-- An operation on plain values alone. -/
def litOp (P : Program) (env : Nat → XV) (o : Oper) : Option Value :=
  if o.op.operands.all (fun x => (litOf (evalX env x)).isSome) && !isSelect o.op then
    match pureRun P (execOp (fun x => (litOf (evalX env x)).getD undef) o) with
    | some (.value v) => some v
    | _ => none
  else none

def fnLit (env : Nat → XV) : Operand → Option Value
  | .func f => some (.func (.func f) #[] #[])
  | x => litOf (evalX env x)

/-- A call of a function without a body, on plain values. -/
def opExt (P : Program) (env : Nat → XV) (o : Oper) : Option Value :=
  if o.op.operands.all (fun x => (fnLit env x).isSome) && !isSelect o.op then
    match pureRun P (execOp (fun x => (fnLit env x).getD undef) o) with
    | some (.value v) => some v
    | _ => none
  else none

/-- The cells of a value. -/
def cellsX : XV → List XV
  | .d (.lit v) => v.cells.toList.map fun v => .d (.lit v)
  | .d (.agg ds) => ds.map .d
  | .agg xs => xs
  | x => [x]

def oneX : XV → Bool
  | .d (.lit v) => v.oneCell'
  | .d (.agg _) | .d (.tup _) | .agg _ | .tup _ => false
  | _ => true

def isAggT (P : Program) (t : TypeId) : Option Bool :=
  match P.underlying t with
  | some (.struct _) | some (.array _ _) => some true
  | some _ => some false
  | none => none

def sizeT (P : Program) (t : TypeId) : Option Nat := (P.info? t).map (·.size)

def allD : List XV → Option (List DV)
  | [] => some []
  | .d x :: xs => (allD xs).map (x :: ·)
  | _ => none

/-- A struct or array: deep if its cells are. -/
def aggX (xs : List XV) : XV :=
  match allD xs with
  | some ds => .d (.agg ds)
  | none => .agg xs

/-- The value of a variable of type t at the head of some cells. -/
def takeVar (P : Program) (t : TypeId) (cs : List XV) : Option XV :=
  match isAggT P t, sizeT P t with
  | some true, some n => if n ≤ cs.length then some (aggX (cs.take n)) else none
  | some false, _ => cs.head?
  | _, _ => none

def opLoad (P : Program) (σ : List VObj) (t : TypeId) : XV → Option (XV × Nat)
  | .d (.ptr cs) => (takeVar P t (cs.map .d)).map (·, 0)
  | .optr id off => match σ[id]? with
    | some ob => if ¬ ob.mode < 2 then none else (takeVar P t (ob.cells.drop off)).map (·, 1)
    | none => none
  | _ => none

def opStore (P : Program) (σ : List VObj) (t : TypeId) (a x : XV) : Option (List VObj) :=
  match a with
  | .optr id off => match σ[id]? with
    | some ob => if ob.mode = 0 ∧ sizeT P t = some (cellsX x).length ∧ off + (cellsX x).length ≤ ob.cells.length ∧ (cellsX x).all oneX then some (σ.set id ⟨splice ob.cells off (cellsX x), 0⟩) else none
    | none => none
  | _ => none

def zeroT (P : Program) (t : TypeId) : Option Value := (P.info? t).bind (·.zero)

def opAlloc (P : Program) (σ : List VObj) (t : TypeId) : Option (XV × List VObj) :=
  (zeroT P t).map fun z => (.optr σ.length 0, σ ++ [⟨z.cells.toList.map (fun v => .d (.lit v)), 0⟩])

def opBox (σ : List VObj) (x : XV) : XV × List VObj := (.optr σ.length 0, σ ++ [⟨cellsX x, 0⟩])

def opIndexAddr (P : Program) (t : TypeId) (x i : XV) : Option XV :=
  match litOf i, P.underlying t with
  | some (.int _ n), some (.slice e) => match sizeT P e, x with
    | some k, .d (.sl cs len _) => if 0 ≤ n ∧ n < len then some (.d (.ptr (cs.drop (n.toNat * k)))) else none
    | some k, .osl id off len k' _ _ => if 0 ≤ n ∧ n < len ∧ k' = k then some (.optr id (off + n.toNat * k)) else none
    | _, _ => none
  | some (.int _ n), some (.array len e) => match sizeT P e, x with
    | some k, .d (.ptr cs) => if 0 ≤ n ∧ n < len then some (.d (.ptr (cs.drop (n.toNat * k)))) else none
    | some k, .optr id off => if 0 ≤ n ∧ n < len then some (.optr id (off + n.toNat * k)) else none
    | _, _ => none
  | _, _ => none

/-- The cells of a struct or array. -/
def aggCells : XV → Option (List XV)
  | .agg xs => some xs
  | .d (.agg ds) => some (ds.map .d)
  | .d (.lit (.agg vs)) => some (vs.toList.map fun v => .d (.lit v))
  | _ => none

def fieldT (P : Program) (t : TypeId) (f : Nat) : Option Field :=
  match P.underlying t with
  | some (.struct fs) => fs[f]?
  | _ => none

def opField (P : Program) (t : TypeId) (x : XV) (f : Nat) : Option XV :=
  match fieldT P t f, aggCells x with
  | some fd, some cs => takeVar P fd.type (cs.drop fd.offset)
  | _, _ => none

def opIndex (P : Program) (t : TypeId) (x i : XV) : Option XV :=
  match litOf i, P.underlying t, aggCells x with
  | some (.int _ n), some (.array len e), some cs => match sizeT P e with
    | some k => if 0 ≤ n ∧ n < len then takeVar P e (cs.drop (n.toNat * k)) else none
    | none => none
  | _, _, _ => none

def opFieldAddr (P : Program) (t : TypeId) (x : XV) (f : Nat) : Option XV :=
  match fieldT P t f with
  | some fd => match sizeT P fd.type with
    | some (_ + 1) => match x with
      | .d (.ptr cs) => some (.d (.ptr (cs.drop fd.offset)))
      | .optr id off => some (.optr id (off + fd.offset))
      | _ => none
    | _ => none
  | none => none

/-- Parts laid over cells. -/
def fillP (place : Nat → Option (Nat × Nat)) (cells : List XV) : List (Nat × XV) → Option (List XV)
  | [] => some cells
  | (i, x) :: rest => match place i with
    | some (off, k) => if (cellsX x).length = k ∧ off + k ≤ cells.length then fillP place (splice cells off (cellsX x)) rest else none
    | none => none

def placesT (P : Program) (fs : Array Field) : Option (Array (Nat × Nat)) := pureRun P (fs.mapM fun f => do pure (f.offset, ← sizeOf f.type) : Sem (Array (Nat × Nat)))

def opBuild (P : Program) (t : TypeId) (parts : List (Nat × XV)) : Option XV :=
  match zeroT P t with
  | some z => match P.underlying t with
    | some (.struct fs) => match placesT P fs with
      | some ps => (fillP (ps[·]?) (z.cells.toList.map fun v => .d (.lit v)) parts).map aggX
      | none => none
    | some (.array _ e) => match sizeT P e with
      | some k => (fillP (fun i => some (i * k, k)) (z.cells.toList.map fun v => .d (.lit v)) parts).map aggX
      | none => none
    | _ => none
  | none => none

def isSliceT (P : Program) (t : TypeId) : Bool := match P.underlying t with | some (.slice _) => true | _ => false

def isNilSl : XV → Bool
  | .d (.lit (.slice none _ _)) => true
  | _ => false

def isSl : XV → Bool
  | .d (.sl _ _ _) | .osl _ _ _ _ _ _ => true
  | _ => false

def opEqNil (P : Program) (op : BinOp) (t : TypeId) (x y : XV) : Option XV :=
  if isSliceT P t && isSl x && isNilSl y then
    match op with
    | .eql => some (.d (.lit (.bool false)))
    | .neq => some (.d (.lit (.bool true)))
    | _ => none
  else none

def litsOf : List DV → Option (List Value)
  | [] => some []
  | .lit v :: ds => (litsOf ds).map (v :: ·)
  | _ => none

/-- A plain value, or a struct of plain values. -/
def litOf2 : XV → Option Value
  | .d (.lit v) => some v
  | .d (.agg ds) => (litsOf ds).map fun vs => .agg vs.toArray
  | _ => none

/-- An operation on structs of plain values. -/
def opBin2 (P : Program) (op : BinOp) (t : TypeId) (ox oy : Operand) (x y : XV) : Option Value :=
  match litOf2 x, litOf2 y with
  | some a, some b => pureRun P (do eqGuard op t ox oy a b; binOp op t a b : Sem Value)
  | _, _ => none

def opExtract (x : XV) (i : Nat) : Option XV :=
  match x with
  | .tup xs => xs[i]?
  | .d (.tup ds) => (ds[i]?).map .d
  | _ => none

def opLen (P : Program) (ts : Array TypeId) (x : XV) : Option XV :=
  match ts[0]? with
  | some t => if isSliceT P t then match x with
    | .d (.sl _ len _) | .osl _ _ len _ _ _ => some (.d (.lit (.int .i64 len)))
    | _ => none else none
  | none => none

def opCap (P : Program) (ts : Array TypeId) (x : XV) : Option XV :=
  match ts[0]? with
  | some t => if isSliceT P t then match x with
    | .d (.sl _ _ (some c)) => some (.d (.lit (.int .i64 c)))
    | .osl _ _ _ _ lo true => some (.d (.lit (.int .i64 lo)))
    | _ => none else none
  | none => none

def boundOf (x : Option XV) (dflt : Nat) : Option Nat :=
  match x with
  | none => some dflt
  | some x => match litOf x with
    | some (.int _ n) => if 0 ≤ n then some n.toNat else none
    | _ => none

def opSlice (P : Program) (t : TypeId) (x : XV) (lo hi : Option XV) (mx : Option XV) : Option XV :=
  match P.underlying t, mx with
  | some (.slice e), none => match sizeT P e, x with
    | some k, .d (.sl cs len capo) => match boundOf lo 0, boundOf hi len with
      | some l, some h => if l ≤ h ∧ h ≤ len ∧ h * k ≤ cs.length then some (.d (.sl ((cs.drop (l * k)).take ((h - l) * k)) (h - l) (capo.map (· - l)))) else none
      | _, _ => none
    | some k, .osl id off len k' lo' ex => match boundOf lo 0, boundOf hi len with
      | some l, some h => if l ≤ h ∧ h ≤ lo' ∧ k' = k ∧ (l < lo' ∨ l = 0) then some (.osl id (off + l * k) (h - l) k (lo' - l) ex) else none
      | _, _ => none
    | _, _ => none
  | some (.slice e), some m => match sizeT P e, x with
    | some k, .d (.sl cs len _) => match boundOf lo 0, boundOf hi 0, boundOf (some m) 0 with
      | some l, some h, some m => if hi.isSome ∧ l ≤ h ∧ h ≤ m ∧ m ≤ len ∧ h * k ≤ cs.length then some (.d (.sl ((cs.drop (l * k)).take ((h - l) * k)) (h - l) (some (m - l)))) else none
      | _, _, _ => none
    | _, _ => none
  | _, _ => none

/-- A slice of an array of the call's own. -/
def opSliceA (P : Program) (σ : List VObj) (t : TypeId) (x : XV) (lo hi : Option XV) (mx : Option XV) : Option XV :=
  match x with
  | .optr id off => match P.underlying t, mx with
    | some (.array n e), none => match σ[id]? with
      | some ob => match sizeT P e, boundOf lo 0, boundOf hi n with
        | some k, some l, some h => if ob.mode < 2 ∧ l ≤ h ∧ h ≤ n ∧ l < n ∧ off + n * k ≤ ob.cells.length then some (.osl id (off + l * k) (h - l) k (n - l) true) else none
        | _, _, _ => none
      | none => none
    | _, _ => none
  | _ => none

/-- The cells that are appended: of a slice that is read. -/
def srcCells (σ : List VObj) (k : Nat) : XV → Option (List XV × Nat × Nat)
  | .d (.lit (.slice none 0 0)) => some ([], 0, 0)
  | .d (.sl cs len _) => if len * k ≤ cs.length then some ((cs.take (len * k)).map .d, len, 0) else none
  | .osl id off len k' _ _ => match σ[id]? with
    | some ob => if ob.mode < 2 ∧ k' = k ∧ off + len * k ≤ ob.cells.length then some ((ob.cells.drop off).take (len * k), len, 1) else none
    | none => none
  | _ => none

/-- copy into a slice of the call's own. -/
def opCopy (P : Program) (σ : List VObj) (ts : Array TypeId) (d x : XV) : Option (XV × List VObj) :=
  match d with
  | .osl id off len k' _ _ => match (ts[0]?).bind P.underlying with
    | some (.slice e) => match sizeT P e, σ[id]?, srcCells σ k' x with
      | some k, some ob, some (news, m, _) => if k' = k ∧ ob.mode = 0 ∧ off + min m len * k ≤ ob.cells.length ∧ news.all oneX ∧ 0 < m then some (.d (.lit (.int .i64 (min m len : Nat))), σ.set id ⟨splice ob.cells off (news.take (min m len * k)), 0⟩) else none
      | _, _, _ => none
    | _ => none
  | _ => none

def bytesT (P : Program) (t : TypeId) : Nat := ((P.info? t).map (·.bytes)).getD 0

/-- An append that certainly makes a new row. -/
def growTo (P : Program) (σ : List VObj) (e : TypeId) (k need : Nat) (cells : List XV) : Option (XV × List VObj) :=
  if need ≤ 1073741824 ∧ bytesT P e ≤ 65536 ∧ (zeroT P e).map (·.cells.size) = some k then some (.osl σ.length 0 need k need false, σ ++ [⟨cells, 0⟩]) else none

def opAppend (P : Program) (σ : List VObj) (ts : Array TypeId) (s x : XV) : Option (XV × List VObj) :=
  match ts.toList with
  | [t, u] => if t = u then match P.underlying t with
    | some (.slice e) => match sizeT P e with
      | some k => match srcCells σ k x with
        | some (news, m, _) => if news.all oneX then
          (if m = 0 then (match s with
            | .d (.lit (.slice none 0 0)) => some (s, σ)
            | .d (.sl _ _ _) => some (s, σ)
            | .osl _ _ _ _ _ _ => some (s, σ)
            | _ => none)
          else match s with
          | .d (.lit (.slice none 0 0)) => growTo P σ e k m news
          | .d (.sl cs len (some c)) => if c < len + m ∧ len * k ≤ cs.length then growTo P σ e k (len + m) ((cs.take (len * k)).map .d ++ news) else none
          | .osl id off len k' lo ex => match σ[id]? with
            | some ob => if k' = k then
                (if len + m ≤ lo then
                  (if ob.mode = 0 ∧ off + (len + m) * k ≤ ob.cells.length then some (.osl id off (len + m) k lo ex, σ.set id ⟨splice ob.cells (off + len * k) news, 0⟩) else none)
                else if ex then
                  (if ob.mode < 2 ∧ off + len * k ≤ ob.cells.length then growTo P σ e k (len + m) ((ob.cells.drop off).take (len * k) ++ news) else none)
                else if ob.mode = 0 ∧ off = 0 ∧ len * k = ob.cells.length ∧ len + m ≤ 1073741824 ∧ bytesT P e ≤ 65536 ∧ (zeroT P e).map (·.cells.size) = some k then
                  some (.osl σ.length 0 (len + m) k (len + m) false, (σ.set id ⟨ob.cells, 2⟩) ++ [⟨ob.cells ++ news, 0⟩])
                else none) else none
            | none => none
          | _ => none) else none
        | none => none
      | none => none
    | _ => none else none
  | _ => none


def zeroRow (z : Value) (n : Nat) : List XV := (List.range n).map fun i => .d (.lit (z.cells[i % z.cells.size]!))

/-- make's zeros onto nil: append(nil, make([]T, n)...). -/
def opAppendZ (P : Program) (σ : List VObj) (ts : Array TypeId) (s x : XV) : Option (XV × List VObj) :=
  match ts.toList, s, litOf x with
  | [t, u], .d (.lit (.slice none 0 0)), some (.int _ n) => match P.underlying t, P.underlying u with
    | some (.slice e), some (.int _) => match sizeT P e, zeroT P e with
      | some k, some z => if 0 < n ∧ 0 < k then growTo P σ e k n.toNat (zeroRow z (n.toNat * k)) else none
      | _, _ => none
    | _, _ => none
  | _, _, _ => none

def opMakeSlice (P : Program) (σ : List VObj) (t : TypeId) (l c : XV) : Option (XV × List VObj) :=
  match litOf l, litOf c, P.underlying t with
  | some (.int _ l), some (.int _ c), some (.slice e) => match sizeT P e, zeroT P e with
    | some k, some z => if 0 ≤ l ∧ l ≤ c ∧ c ≤ 1073741824 ∧ bytesT P e ≤ 65536 then some (.osl σ.length 0 l.toNat k c.toNat true, σ ++ [⟨zeroRow z (c.toNat * k), 0⟩]) else none
    | _, _ => none
  | _, _, _ => none

/-- The parts of a literal, laid over its zero cells. -/
def fillX (k : Nat) (cells : List XV) : List (Nat × XV) → Option (List XV)
  | [] => some cells
  | (i, x) :: rest => if (cellsX x).length = k ∧ i * k + k ≤ cells.length then fillX k (splice cells (i * k) (cellsX x)) rest else none

def opBuildSlice (P : Program) (σ : List VObj) (t : TypeId) (n : Nat) (parts : List (Nat × XV)) : Option (XV × List VObj) :=
  match P.underlying t with
  | some (.slice e) => match sizeT P e, zeroT P e with
    | some k, some z => if n * k ≤ 16777216 then (fillX k (zeroRow z (n * k)) parts).map fun cells => (.osl σ.length 0 n k n true, σ ++ [⟨cells, 0⟩]) else none
    | _, _ => none
  | _ => none

/-- An operation that calls no Go function: its value, the objects behind it, and what it did with them (0 nothing, 1 it read, 2 it wrote, 3 it made some). -/
def evalOp (P : Program) (o : Oper) (s : St) : Option (XV × List VObj × Nat) :=
  match litOp P s.env o with
  | some v => some (.d (.lit v), s.σ, 0)
  | none => match o.op with
    | .move x | .assign x => some (evalX s.env x, s.σ, 0)
    | .pick c a b => match litOf (evalX s.env c) with
      | some (.bool t) => some (if t then evalX s.env a else evalX s.env b, s.σ, 0)
      | _ => none
    | .alloc t => (opAlloc P s.σ t).map fun r => (r.1, r.2, 3)
    | .box _ x => some ((opBox s.σ (evalX s.env x)).1, (opBox s.σ (evalX s.env x)).2, 3)
    | .load t a => (opLoad P s.σ t (evalX s.env a)).map fun r => (r.1, s.σ, r.2)
    | .store t a x => (opStore P s.σ t (evalX s.env a) (evalX s.env x)).map fun σ' => (.d (.lit undef), σ', 2)
    | .binOp op t x y _ => match opEqNil P op t (evalX s.env x) (evalX s.env y) with
      | some r => some (r, s.σ, 0)
      | none => (opBin2 P op t x y (evalX s.env x) (evalX s.env y)).map fun v => (.d (.lit v), s.σ, 0)
    | .makeFunc f first caps => some (.fn f (first.toList.map (evalX s.env)) (caps.toList.map (evalX s.env)), s.σ, 0)
    | .makeSlice t l c => (opMakeSlice P s.σ t (evalX s.env l) (evalX s.env c)).map fun r => (r.1, r.2, 3)
    | .slice t x lo hi mx => match opSlice P t (evalX s.env x) (lo.map (evalX s.env)) (hi.map (evalX s.env)) (mx.map (evalX s.env)) with
      | some r => some (r, s.σ, 0)
      | none => (opSliceA P s.σ t (evalX s.env x) (lo.map (evalX s.env)) (hi.map (evalX s.env)) (mx.map (evalX s.env))).map fun r => (r, s.σ, 1)
    | .indexAddr t x i => (opIndexAddr P t (evalX s.env x) (evalX s.env i)).map fun r => (r, s.σ, 0)
    | .field t x f => (opField P t (evalX s.env x) f).map fun r => (r, s.σ, 0)
    | .index t x i => (opIndex P t (evalX s.env x) (evalX s.env i)).map fun r => (r, s.σ, 0)
    | .fieldAddr t x f => (opFieldAddr P t (evalX s.env x) f).map fun r => (r, s.σ, 0)
    | .build t parts => (opBuild P t (parts.toList.map fun p => (p.1, evalX s.env p.2))).map fun r => (r, s.σ, 0)
    | .extract x i => (opExtract (evalX s.env x) i).map fun r => (r, s.σ, 0)
    | .buildSlice t n parts => (opBuildSlice P s.σ t n (parts.toList.map fun p => (p.1, evalX s.env p.2))).map fun r => (r.1, r.2, 3)
    | .call { callee := .builtin .len, args, argTypes } => match args.toList with
      | [x] => (opLen P argTypes (evalX s.env x)).map fun r => (r, s.σ, 0)
      | _ => none
    | .call { callee := .builtin .cap, args, argTypes } => match args.toList with
      | [x] => (opCap P argTypes (evalX s.env x)).map fun r => (r, s.σ, 0)
      | _ => none
    | .call { callee := .builtin .append, args, argTypes } => match args.toList with
      | [a, x] => match opAppend P s.σ argTypes (evalX s.env a) (evalX s.env x) with
        | some r => some (r.1, r.2, 2)
        | none => (opAppendZ P s.σ argTypes (evalX s.env a) (evalX s.env x)).map fun r => (r.1, r.2, 2)
      | _ => none
    | .call { callee := .builtin .copy, args, argTypes } => match args.toList with
      | [a, x] => (opCopy P s.σ argTypes (evalX s.env a) (evalX s.env x)).map fun r => (r.1, r.2, 2)
      | _ => none
    | .call { callee := .value _, .. } => (opExt P s.env o).map fun v => (.d (.lit v), s.σ, 0)
    | _ => none

end Go.Vm

end
section
/-
  VALUES WITHOUT ADDRESSES, 4: the operations are sound.
-/
namespace Go.Vm
open Go.RowKit

section
variable {P : Program} {M : Nat → Prop} {W0 w : World} {ι : List Nat} {σ : List VObj}

/-- The operation gives the value and leaves the objects. -/
def Good (P : Program) (M : Nat → Prop) (W0 : World) (ι : List Nat) (σ : List VObj) (w : World) (s : Sem Next) (x : XV) (σ' : List VObj) : Prop :=
  ∃ (ι' : List Nat) (w' : World) (v : Value), (s.run P w = .ok (.value v) w' ∨ (s.run P w = .ok .skip w' ∧ v = undef)) ∧ Mem M W0 ι' σ' w' ∧ Ext M ι σ w ι' σ' w' ∧ XRep w' ι' (Forb M ι' σ') v x

theorem Good.pure (hm : Mem M W0 ι σ w) {s : Sem Next} {x : XV} {v : Value} (hr : s.run P w = .ok (.value v) w) (hx : XRep w ι (Forb M ι σ) v x) : Good P M W0 ι σ w s x σ :=
  ⟨ι, w, v, .inl hr, hm, .refl _ _ _ _, hx⟩

theorem evalX_rep {a : Act} {env : Nat → XV} {F : Nat → Prop} (he : ∀ t, XRep w ι F (a.tmps.getD t undef) (env t)) (x : Operand) : XRep w ι F (a.eval x) (evalX env x) := by
  cases x with
  | tmp t => exact he t
  | const v => exact .d (.lit v)
  | global g => exact .d (.lit _)
  | func f => exact .d (.fn rfl (fun i v x h => by simp at h) rfl (fun i v x h => by simp at h))

theorem litOf_rep {F : Nat → Prop} {v u : Value} {x : XV} (h : XRep w ι F v x) (hl : litOf x = some u) : v = u := by
  unfold litOf at hl
  split at hl
  · cases hl; cases h with | d h => cases h; rfl
  · cases hl

theorem litOp_sound {a : Act} {env : Nat → XV} {o : Oper} {u : Value} (hm : Mem M W0 ι σ w) (he : ∀ t, XRep w ι (Forb M ι σ) (a.tmps.getD t undef) (env t))
    (h : litOp P env o = some u) : Good P M W0 ι σ w (execOp a.eval o) (.d (.lit u)) σ := by
  unfold litOp at h
  split at h
  · rename_i hc
    simp only [Bool.and_eq_true, Bool.not_eq_true'] at hc
    split at h
    · rename_i v hv
      cases h
      have hcong : execOp a.eval o = execOp (fun x => (litOf (evalX env x)).getD undef) o := by
        refine execOp_congr o (fun cs b e => ?_) (fun x hx => ?_)
        · rw [e] at hc; simp [isSelect] at hc
        · have := Array.all_eq_true_iff_forall_mem.1 hc.1 x hx
          obtain ⟨v', hv'⟩ := Option.isSome_iff_exists.1 this
          rw [hv']
          exact litOf_rep (evalX_rep he x) hv'
      refine .pure hm (v := u) ?_ (.d (.lit u))
      rw [hcong]
      exact pureRun_ok hv w
    · cases h
  · cases h

theorem fnLit_rep {a : Act} {env : Nat → XV} {F : Nat → Prop} (he : ∀ t, XRep w ι F (a.tmps.getD t undef) (env t)) {x : Operand} {v : Value} (h : fnLit env x = some v) : a.eval x = v := by
  cases x with
  | func f => simp [fnLit] at h; subst h; rfl
  | tmp t => exact litOf_rep (evalX_rep he (.tmp t)) h
  | const c => exact litOf_rep (evalX_rep he (.const c)) h
  | global g => exact litOf_rep (evalX_rep he (.global g)) h

theorem opExt_sound {a : Act} {env : Nat → XV} {o : Oper} {u : Value} (hm : Mem M W0 ι σ w) (he : ∀ t, XRep w ι (Forb M ι σ) (a.tmps.getD t undef) (env t))
    (h : opExt P env o = some u) : Good P M W0 ι σ w (execOp a.eval o) (.d (.lit u)) σ := by
  unfold opExt at h
  split at h
  · rename_i hc
    simp only [Bool.and_eq_true, Bool.not_eq_true'] at hc
    split at h
    · rename_i v hv
      cases h
      have hcong : execOp a.eval o = execOp (fun x => (fnLit env x).getD undef) o := by
        refine execOp_congr o (fun cs b e => ?_) (fun x hx => ?_)
        · rw [e] at hc; simp [isSelect] at hc
        · have := Array.all_eq_true_iff_forall_mem.1 hc.1 x hx
          obtain ⟨v', hv'⟩ := Option.isSome_iff_exists.1 this
          rw [hv']
          exact fnLit_rep he hv'
      refine .pure hm (v := u) ?_ (.d (.lit u))
      rw [hcong]
      exact pureRun_ok hv w
    · cases h
  · cases h

/-- The cells of a value stand for those of what it stands for. -/
theorem cellsX_rep {F : Nat → Prop} {v : Value} {x : XV} (h : XRep w ι F v x) :
    v.cells.size = (cellsX x).length ∧ ∀ (i : Nat) (u : Value) (y : XV), v.cells[i]? = some u → (cellsX x)[i]? = some y → XRep w ι F u y := by
  have one : ∀ (v : Value) (x : XV), XRep w ι F v x → v.cells = #[v] → cellsX x = [x] →
      v.cells.size = (cellsX x).length ∧ ∀ (i : Nat) (u : Value) (y : XV), v.cells[i]? = some u → (cellsX x)[i]? = some y → XRep w ι F u y := by
    intro v x h h1 h2
    rw [h1, h2]
    refine ⟨rfl, fun i u y hu hy => ?_⟩
    cases i with
    | zero => simp at hu hy; rw [← hu, ← hy]; exact h
    | succ i => simp at hu
  cases h with
  | d h =>
    cases h with
    | lit v =>
      refine ⟨by simp [cellsX], fun i u y hu hy => ?_⟩
      simp only [cellsX, List.getElem?_map, Array.getElem?_toList, hu, Option.map_some, Option.some.injEq] at hy
      subst hy
      exact .d (.lit u)
    | agg hn hx =>
      refine ⟨by simp [cellsX, Value.cells, hn], fun i u y hu hy => ?_⟩
      simp only [cellsX, List.getElem?_map, Option.map_eq_some_iff] at hy
      obtain ⟨z, hz, rfl⟩ := hy
      exact .d (hx i u z hu hz)
    | sl => exact one _ _ (.d (by first | (constructor <;> assumption) | assumption)) rfl rfl
    | ptr => exact one _ _ (.d (by first | (constructor <;> assumption) | assumption)) rfl rfl
    | tup => exact one _ _ (.d (by first | (constructor <;> assumption) | assumption)) rfl rfl
    | fn => exact one _ _ (.d (by first | (constructor <;> assumption) | assumption)) rfl rfl
    | ifc => exact one _ _ (.d (by first | (constructor <;> assumption) | assumption)) rfl rfl
    | mp ks hb hh hk hn hx => exact one _ _ (.d (.mp ks hb hh hk hn hx)) rfl rfl
  | osl hb hl hlo hex hs => exact one _ _ (.osl hb hl hlo hex hs) rfl rfl
  | optr hb => exact one _ _ (.optr hb) rfl rfl
  | tup hn hx => exact one _ _ (.tup hn hx) rfl rfl
  | agg hn hx => exact ⟨by simpa [cellsX, Value.cells] using hn, fun i u y hu hy => hx i u y hu hy⟩
  | fn h1 h2 h3 h4 => exact one _ _ (.fn h1 h2 h3 h4) rfl rfl
  | ifc h => exact one _ _ (.ifc h) rfl rfl
  | omp hb => exact one _ _ (.omp hb) rfl rfl
  | yl hb => exact one _ _ (.yl hb) rfl rfl

theorem oneX_rep {F : Nat → Prop} {v : Value} {x : XV} (h : XRep w ι F v x) (h1 : oneX x = true) : v.oneCell' = true := by
  cases h with
  | d h => cases h <;> first | rfl | (simp [oneX] at h1; done) | (simpa [oneX] using h1)
  | _ => first | rfl | (simp [oneX] at h1)

/-- Cells of the world that stand for a list. -/
structure Cells (w : World) (ι : List Nat) (F : Nat → Prop) (b off : Nat) (vs : List Value) (cs : List XV) : Prop where
  len : vs.length = cs.length
  cell : ∀ (i : Nat) (v : Value), vs[i]? = some v → w.cell? ⟨b, off + i, none⟩ = some v
  rep : ∀ (i : Nat) (v : Value) (x : XV), vs[i]? = some v → cs[i]? = some x → XRep w ι F v x

theorem Cells.take {F : Nat → Prop} {b off : Nat} {vs : List Value} {cs : List XV} (h : Cells w ι F b off vs cs) (n : Nat) : Cells w ι F b off (vs.take n) (cs.take n) := by
  refine ⟨by simp [h.len], fun i v hv => h.cell i v ?_, fun i v x hv hx => h.rep i v x ?_ ?_⟩
  · rw [List.getElem?_take] at hv; split at hv <;> first | exact hv | cases hv
  · rw [List.getElem?_take] at hv; split at hv <;> first | exact hv | cases hv
  · rw [List.getElem?_take] at hx; split at hx <;> first | exact hx | cases hx

theorem Cells.drop {F : Nat → Prop} {b off : Nat} {vs : List Value} {cs : List XV} (h : Cells w ι F b off vs cs) (n : Nat) : Cells w ι F b (off + n) (vs.drop n) (cs.drop n) := by
  refine ⟨by simp [h.len], fun i v hv => ?_, fun i v x hv hx => h.rep (n + i) v x ?_ ?_⟩
  · rw [List.getElem?_drop] at hv
    have := h.cell _ _ hv
    rwa [Nat.add_assoc]
  · rwa [List.getElem?_drop] at hv
  · rwa [List.getElem?_drop] at hx

theorem add_lit' (b off i : Nat) : (⟨b, off, none⟩ : Addr).add i = ⟨b, off + i, none⟩ := by
  unfold Addr.add; split
  · rename_i h; subst h; rfl
  · rfl

theorem addr_eta {a : Addr} (h : a.spot = none) : a = ⟨a.block, a.off, none⟩ := by cases a; simp at h; subst h; rfl

theorem underlying_of_isAggT {t : TypeId} {b : Bool} (h : isAggT P t = some b) (w : World) : (isAgg t).run P w = .ok b w := by
  unfold isAggT at h
  cases hu : P.underlying t with
  | none => rw [hu] at h; simp at h
  | some d =>
    rw [hu] at h
    unfold isAgg
    rw [Sem.run_bind, run_underlying hu]
    cases d <;> simp at h <;> subst h <;> simp

theorem run_sizeOf' {t : TypeId} {n : Nat} (h : sizeT P t = some n) (w : World) : (sizeOf t).run P w = .ok n w := by
  unfold sizeT at h
  cases hi : P.info? t with
  | none => rw [hi] at h; simp at h
  | some i => rw [hi] at h; simp at h; subst h; simp [sizeOf, typeInfo, hi]

/-- A variable that is read. -/
theorem allD_eq : ∀ {xs : List XV} {ds : List DV}, allD xs = some ds → xs = ds.map .d
  | [], ds, h => by simp [allD] at h; subst h; rfl
  | .d x :: xs, ds, h => by
    simp only [allD, Option.map_eq_some_iff] at h
    obtain ⟨es, he, rfl⟩ := h
    rw [allD_eq he]; rfl
  | .osl .. :: _, _, h => by simp [allD] at h
  | .optr .. :: _, _, h => by simp [allD] at h
  | .tup .. :: _, _, h => by simp [allD] at h
  | .agg .. :: _, _, h => by simp [allD] at h
  | .fn .. :: _, _, h => by simp [allD] at h
  | .ifc .. :: _, _, h => by simp [allD] at h

theorem XRep.deep {F : Nat → Prop} {v : Value} {x : DV} (h : XRep w ι F v (.d x)) : DRep w F v x := by cases h; assumption

theorem aggX_rep {F : Nat → Prop} {vs : Array Value} {xs : List XV} (hn : vs.size = xs.length) (hx : ∀ (i : Nat) (v : Value) (x : XV), vs[i]? = some v → xs[i]? = some x → XRep w ι F v x) : XRep w ι F (.agg vs) (aggX xs) := by
  unfold aggX
  split
  · rename_i ds hd
    have := allD_eq hd
    subst this
    refine .d (.agg (by simpa using hn) fun i v x hv hd' => (hx i v (.d x) hv ?_).deep)
    rw [List.getElem?_map, hd']; rfl
  · exact .agg hn hx

theorem loadVar_sound {F : Nat → Prop} {t : TypeId} {b off : Nat} {vs : List Value} {cs : List XV} (hc : Cells w ι F b off vs cs) {x : XV} (h : takeVar P t cs = some x) :
    ∃ v, (loadVar t ⟨b, off, none⟩).run P w = .ok v w ∧ XRep w ι F v x := by
  unfold takeVar at h
  split at h
  · rename_i n ha hs
    split at h
    · rename_i hle
      cases h
      have ht := hc.take n
      have hr := run_loadCells_list (P := P) w ⟨b, off, none⟩ (vs.take n) (fun j v hv => by rw [add_lit']; exact ht.cell j v hv)
      have hlen : (vs.take n).length = n := by rw [List.length_take, hc.len]; omega
      rw [hlen] at hr
      refine ⟨.agg (vs.take n).toArray, ?_, aggX_rep (by rw [List.size_toArray]; exact ht.len) (fun i v x hv hx => ht.rep i v x (by simpa using hv) hx)⟩
      unfold loadVar
      simp [Sem.run_bind, underlying_of_isAggT ha, run_sizeOf' hs, hr]
    · cases h
  · rename_i ha
    cases cs with
    | nil => simp at h
    | cons y cs =>
      simp at h; subst h
      cases vs with
      | nil => have := hc.len; simp at this
      | cons v vs =>
        refine ⟨v, ?_, hc.rep 0 v y rfl rfl⟩
        have hcell := hc.cell 0 v rfl
        unfold loadVar
        simp [Sem.run_bind, underlying_of_isAggT ha]
        rw [show (⟨b, off, none⟩ : Addr) = ⟨b, off + 0, none⟩ from rfl, hcell]
  · cases h

/-- An object's cells, as they lie in the world. -/
theorem Mem.cells (hm : Mem M W0 ι σ w) {id b : Nat} {ob : VObj} (ho : σ[id]? = some ob) (hb : ι[id]? = some b) (h2 : ob.mode < 2) :
    ∃ cur ty, w.heap[b]? = some (.cells cur ty (0, 0)) ∧ ob.cells.length ≤ cur.size ∧ Cells w ι (Forb M ι σ) b 0 (cur.toList.take ob.cells.length) ob.cells := by
  obtain ⟨cur, ty, k1, k2, k3⟩ := hm.objs id ob b ho hb h2
  refine ⟨cur, ty, k1, k2, by simp; omega, fun i v hv => ?_, fun i v x hv hx => ?_⟩
  · rw [List.getElem?_take] at hv
    split at hv
    · simp [World.cell?, k1]; simpa using hv
    · cases hv
  · obtain ⟨u, ku, kx⟩ := k3 i x hx
    rw [List.getElem?_take] at hv
    split at hv
    · rw [Array.getElem?_toList, ku] at hv; cases hv; exact kx
    · cases hv

theorem Cells.of_d {F : Nat → Prop} {b off : Nat} {vs : List Value} {cs : List DV} (hn : vs.length = cs.length) (hcell : ∀ (i : Nat) (v : Value), vs[i]? = some v → w.cell? ⟨b, off + i, none⟩ = some v)
    (hx : ∀ (i : Nat) (v : Value) x, vs[i]? = some v → cs[i]? = some x → DRep w F v x) : Cells w ι F b off vs (cs.map .d) := by
  refine ⟨by simpa using hn, hcell, fun i v x hv hx' => ?_⟩
  simp only [List.getElem?_map, Option.map_eq_some_iff] at hx'
  obtain ⟨z, hz, rfl⟩ := hx'
  exact .d (hx i v z hv hz)

theorem takeVar_ne {t : TypeId} {x : XV} (h : takeVar P t [] = some x) : ∃ n, isAggT P t = some true ∧ sizeT P t = some n ∧ n = 0 ∧ x = .d (.agg []) := by
  unfold takeVar at h
  split at h
  · rename_i n ha hs
    split at h
    · rename_i hle
      cases h
      simp at hle
      exact ⟨n, ha, hs, hle, by simp [aggX, allD]⟩
    · cases h
  · simp at h
  · cases h

theorem opLoad_sound (hm : Mem M W0 ι σ w) {t : TypeId} {v : Value} {x : XV} (hx : XRep w ι (Forb M ι σ) v x) {r : XV × Nat} (h : opLoad P σ t x = some r) :
    ∃ u, (Instr.loadAt t v).run P w = .ok u w ∧ XRep w ι (Forb M ι σ) u r.1 := by
  unfold opLoad at h
  split at h
  · rename_i cs
    simp only [Option.map_eq_some_iff] at h
    obtain ⟨y, hy, rfl⟩ := h
    cases hx with
    | d hx => cases hx with
      | @ptr a _ vs hn ha hcell hxx =>
        by_cases hne : cs = []
        · subst hne
          obtain ⟨n, h1, h2, rfl, rfl⟩ := takeVar_ne hy
          refine ⟨.agg #[], ?_, .d (.agg rfl (fun i v x hv _ => by simp at hv))⟩
          simp [Instr.loadAt, Instr.sureAddr, loadVar, Sem.run_bind, underlying_of_isAggT h1, run_sizeOf' h2, loadCells, loadCellsFrom]
        · have hspot := (ha hne).1
          obtain ⟨u, h1, h2⟩ := loadVar_sound (P := P) (Cells.of_d (ι := ι) hn hcell hxx) hy
          refine ⟨u, ?_, h2⟩
          simp only [Instr.loadAt, Instr.sureAddr, Sem.run_bind, Sem.run_pure, Result.andThen_ok]
          rw [addr_eta hspot]; exact h1
  · rename_i id off
    split at h
    · rename_i ob ho
      split at h
      · cases h
      · rename_i h2
        simp only [Option.map_eq_some_iff] at h
        obtain ⟨y, hy, rfl⟩ := h
        cases hx with
        | optr hb =>
          obtain ⟨cur, ty, _, _, hc⟩ := hm.cells ho hb (by omega)
          have hc' := hc.drop off
          rw [Nat.zero_add] at hc'
          obtain ⟨u, h1, h2⟩ := loadVar_sound (P := P) hc' hy
          refine ⟨u, ?_, h2⟩
          simp only [Instr.loadAt, Instr.sureAddr, Sem.run_bind, Sem.run_pure, Result.andThen_ok]
          exact h1
    · cases h
  · cases h

theorem opStore_sound (hm : Mem M W0 ι σ w) {t : TypeId} {va vx : Value} {a x : XV} (ha : XRep w ι (Forb M ι σ) va a) (hx : XRep w ι (Forb M ι σ) vx x) {σ' : List VObj}
    (h : opStore P σ t a x = some σ') : ∃ (ι' : List Nat) (w' : World), (Instr.storeAt t va vx).run P w = .ok () w' ∧ Mem M W0 ι' σ' w' ∧ Ext M ι σ w ι' σ' w' := by
  unfold opStore at h
  split at h
  · rename_i id off
    split at h
    · rename_i ob ho
      split at h
      · rename_i hc
        cases h
        obtain ⟨h0, hs, hfit, hone⟩ := hc
        cases ha with
        | @optr b _ _ hb =>
          obtain ⟨cur, ty, k1, k2, hcs⟩ := hm.cells ho hb (by omega)
          obtain ⟨e1, e2⟩ := cellsX_rep hx
          obtain ⟨hmem, hext⟩ := hm.write ho hb h0 k1 off vx.cells.toList (cellsX x) (by simpa using e1) hfit (fun i v y hv hy => e2 i v y (by simpa using hv) hy)
          refine ⟨ι, _, ?_, hmem, hext⟩
          have hst := run_storeCells_at P b off ty vx.cells.toList 0 cur w k1 (by simp [e1]; omega) (fun v hv => by
            obtain ⟨i, hi⟩ := List.getElem?_of_mem hv
            have hlt : i < (cellsX x).length := by rw [← e1]; have := (List.getElem?_eq_some_iff.1 hi).1; simpa using this
            exact oneX_rep (e2 i v _ (by simpa using hi) (List.getElem?_eq_getElem hlt)) (List.all_eq_true.1 hone _ (List.getElem_mem hlt)))
          simp only [Nat.add_zero] at hst
          simp only [Instr.storeAt, Instr.sureAddr, Sem.run_bind, Sem.run_pure, Result.andThen_ok, storeVar, run_sizeOf' hs]
          rw [if_neg (by simpa using e1)]
          exact hst
      · cases h
    · cases h
  · cases h

end
end Go.Vm

end
section
/-
  VALUES WITHOUT ADDRESSES, 5: the operations are sound: new rows, slices, appends; and all of them together.
-/
namespace Go.Vm
open Go.RowKit

section
variable {P : Program} {M : Nat → Prop} {W0 w : World} {ι : List Nat} {σ : List VObj}

theorem info_of_size {t : TypeId} {n : Nat} (h : sizeT P t = some n) : ∃ i, P.info? t = some i ∧ i.size = n := by
  unfold sizeT at h
  cases hi : P.info? t with
  | none => rw [hi] at h; simp at h
  | some i => rw [hi] at h; simp at h; exact ⟨i, rfl, h⟩

theorem info_of_zero {t : TypeId} {z : Value} (h : zeroT P t = some z) : ∃ i, P.info? t = some i ∧ i.zero = some z := by
  unfold zeroT at h
  cases hi : P.info? t with
  | none => rw [hi] at h; simp at h
  | some i => rw [hi] at h; exact ⟨i, rfl, by simpa using h⟩

theorem below_refl (B : Nat) (w : World) : Below B w w := Below.refl _ _

theorem opAlloc_sound (hm : Mem M W0 ι σ w) {t : TypeId} {r : XV × List VObj} (h : opAlloc P σ t = some r) :
    ∃ (ι' : List Nat) (w' : World) (v : Value), (Instr.alloc t true (.tuple #[])).run P w = .ok v w' ∧ Mem M W0 ι' r.2 w' ∧ Ext M ι σ w ι' r.2 w' ∧ XRep w' ι' (Forb M ι' r.2) v r.1 := by
  unfold opAlloc at h
  simp only [Option.map_eq_some_iff] at h
  obtain ⟨z, hz, rfl⟩ := h
  obtain ⟨i, hi, hzi⟩ := info_of_zero hz
  obtain ⟨h1, h2⟩ := hm.push rfl (below_refl _ w) z.cells t (z.cells.toList.map (fun v => XV.d (.lit v))) (by simp) (fun i x hx => by
    simp only [List.getElem?_map, Option.map_eq_some_iff] at hx
    obtain ⟨v, hv, rfl⟩ := hx
    exact ⟨v, by simpa using hv, .d (.lit v)⟩)
  refine ⟨_, _, .pointer (some ⟨w.heap.size, 0, none⟩), ?_, h1, h2, .optr (by simp [hm.len])⟩
  simp [Instr.alloc, zeroValue, typeInfo, hi, hzi, newVar, newRow]

theorem opBox_sound (hm : Mem M W0 ι σ w) {t : TypeId} {v : Value} {x : XV} (hx : XRep w ι (Forb M ι σ) v x) :
    ∃ (ι' : List Nat) (w' : World) (u : Value), (Instr.box t v).run P w = .ok u w' ∧ Mem M W0 ι' (opBox σ x).2 w' ∧ Ext M ι σ w ι' (opBox σ x).2 w' ∧ XRep w' ι' (Forb M ι' (opBox σ x).2) u (opBox σ x).1 := by
  obtain ⟨e1, e2⟩ := cellsX_rep hx
  obtain ⟨h1, h2⟩ := hm.push rfl (below_refl _ w) v.cells t (cellsX x) (by omega) (fun i y hy => by
    have hlt : i < v.cells.size := by rw [e1]; exact (List.getElem?_eq_some_iff.1 hy).1
    exact ⟨v.cells[i], Array.getElem?_eq_getElem hlt, e2 i _ y (Array.getElem?_eq_getElem hlt) hy⟩)
  refine ⟨_, _, .pointer (some ⟨w.heap.size, 0, none⟩), ?_, h1, h2, .optr (by simp [hm.len])⟩
  simp [Instr.box, newVar, newRow]

theorem opIndexAddr_sound {F : Nat → Prop} {t : TypeId} {vx vi : Value} {x i r : XV} (hx : XRep w ι F vx x) (hi : XRep w ι F vi i) (h : opIndexAddr P t x i = some r) :
    ∃ u, (Instr.indexAt t vx vi).run P w = .ok u w ∧ XRep w ι F u r := by
  unfold opIndexAddr at h
  split at h
  · rename_i k n e hl hu
    have hvi := litOf_rep hi hl
    subst hvi
    split at h
    · rename_i sz cs len c hs
      split at h
      · rename_i hb
        cases h
        cases hx with
        | d hx => cases hx with
          | @sl a _ cap _ _ vs hle hc hn ha hcell hxx =>
            refine ⟨.pointer (some (a.add (n.toNat * sz))), ?_, .d ?_⟩
            · simp [Instr.indexAt, asIntOf, run_underlying hu, run_sizeOf' hs, hb.1, hb.2]
            · by_cases hne : cs.drop (n.toNat * sz) = []
              · rw [hne]
                exact .ptr [] rfl (fun h => absurd rfl h) (fun i v h => by simp at h) (fun i v x h => by simp at h)
              · have hne0 : cs ≠ [] := by intro e; subst e; simp at hne
                obtain ⟨hsp, hf⟩ := ha hne0
                rw [addr_eta hsp, add_lit']
                refine .ptr (vs.drop (n.toNat * sz)) (by simp [hn]) (fun _ => ⟨rfl, hf⟩) (fun i v hv => ?_) (fun i v x hv hx => ?_)
                · rw [List.getElem?_drop] at hv
                  have := hcell _ _ hv
                  simpa [Nat.add_assoc] using this
                · rw [List.getElem?_drop] at hv hx
                  exact hxx _ _ _ hv hx
      · cases h
    · rename_i sz id off len k' lo ex hs
      split at h
      · rename_i hb
        cases h
        obtain ⟨h1, h2, rfl⟩ := hb
        cases hx with
        | osl hb hl hlo hex hsz =>
          refine ⟨_, ?_, .optr hb⟩
          simp [Instr.indexAt, asIntOf, run_underlying hu, run_sizeOf' hs, h1, h2, add_lit']
      · cases h
    · cases h
  · rename_i k n len e hl hu
    have hvi := litOf_rep hi hl
    subst hvi
    split at h
    · rename_i sz cs hs
      split at h
      · rename_i hb
        cases h
        cases hx with
        | d hx => cases hx with
          | @ptr a _ vs hn ha hcell hxx =>
            refine ⟨.pointer (some (a.add (n.toNat * sz))), ?_, .d ?_⟩
            · simp [Instr.indexAt, asIntOf, Instr.sureAddr, run_underlying hu, run_sizeOf' hs, hb.1, hb.2]
            · by_cases hne : cs.drop (n.toNat * sz) = []
              · rw [hne]
                exact .ptr [] rfl (fun h => absurd rfl h) (fun i v h => by simp at h) (fun i v x h => by simp at h)
              · have hne0 : cs ≠ [] := by intro e; subst e; simp at hne
                obtain ⟨hsp, hf⟩ := ha hne0
                rw [addr_eta hsp, add_lit']
                refine .ptr (vs.drop (n.toNat * sz)) (by simp [hn]) (fun _ => ⟨rfl, hf⟩) (fun i v hv => ?_) (fun i v x hv hx => ?_)
                · rw [List.getElem?_drop] at hv
                  have := hcell _ _ hv
                  simpa [Nat.add_assoc] using this
                · rw [List.getElem?_drop] at hv hx
                  exact hxx _ _ _ hv hx
      · cases h
    · rename_i sz id off hs
      split at h
      · rename_i hb
        cases h
        cases hx with
        | optr hb' =>
          refine ⟨_, ?_, .optr hb'⟩
          simp [Instr.indexAt, asIntOf, Instr.sureAddr, run_underlying hu, run_sizeOf' hs, hb.1, hb.2, add_lit']
      · cases h
    · cases h
  · cases h

theorem isSliceT_iff {t : TypeId} (h : isSliceT P t = true) : ∃ e, P.underlying t = some (.slice e) := by
  unfold isSliceT at h
  split at h
  · exact ⟨_, by assumption⟩
  · cases h

theorem isSl_rep {F : Nat → Prop} {v : Value} {x : XV} (h : XRep w ι F v x) (hs : isSl x = true) : ∃ a len cap, v = .slice (some a) len cap := by
  cases h with
  | d h => cases h <;> first | exact ⟨_, _, _, rfl⟩ | (simp [isSl] at hs)
  | osl => exact ⟨_, _, _, rfl⟩
  | _ => simp [isSl] at hs

theorem isNilSl_rep {F : Nat → Prop} {v : Value} {x : XV} (h : XRep w ι F v x) (hs : isNilSl x = true) : ∃ len cap, v = .slice none len cap := by
  unfold isNilSl at hs
  split at hs
  · cases h with | d h => cases h; exact ⟨_, _, rfl⟩
  · cases hs

theorem eqIn_slice_nil {t e : TypeId} (he : P.underlying t = some (.slice e)) (d : Nat) (a : Addr) (l c l2 c2 : Nat) : (Op.equalIn (d + 1) t (.slice (some a) l c) (.slice none l2 c2)).run P w = .ok false w := by
  simp [Op.equalIn, run_underlying he]

theorem equal_slice_nil {t e : TypeId} (he : P.underlying t = some (.slice e)) (a : Addr) (l c l2 c2 : Nat) : (Op.equal t (.slice (some a) l c) (.slice none l2 c2)).run P w = .ok false w :=
  eqIn_slice_nil he 9999 a l c l2 c2

theorem opEqNil_sound {F : Nat → Prop} {op : BinOp} {t : TypeId} {ox oy : Operand} {vx vy : Value} {x y r : XV} (hx : XRep w ι F vx x) (hy : XRep w ι F vy y) (h : opEqNil P op t x y = some r) :
    ∃ u, (do eqGuard op t ox oy vx vy; binOp op t vx vy : Sem Value).run P w = .ok u w ∧ XRep w ι F u r := by
  unfold opEqNil at h
  split at h
  · rename_i hc
    simp only [Bool.and_eq_true] at hc
    obtain ⟨e, he⟩ := isSliceT_iff hc.1.1
    obtain ⟨a, len, cap, rfl⟩ := isSl_rep hx hc.1.2
    obtain ⟨l2, c2, rfl⟩ := isNilSl_rep hy hc.2
    split at h <;> cases h
    · refine ⟨.bool false, ?_, .d (.lit _)⟩
      simp [eqGuard, binOp, equal_slice_nil he]
    · refine ⟨.bool true, ?_, .d (.lit _)⟩
      simp [eqGuard, binOp, equal_slice_nil he]
  · cases h

theorem litsOf_eq : ∀ {ds : List DV} {vs : List Value}, litsOf ds = some vs → ds = vs.map .lit
  | [], vs, h => by simp [litsOf] at h; subst h; rfl
  | .lit v :: ds, vs, h => by
    simp only [litsOf, Option.map_eq_some_iff] at h
    obtain ⟨us, hu, rfl⟩ := h
    rw [litsOf_eq hu]; rfl
  | .sl .. :: _, _, h => by simp [litsOf] at h
  | .ptr .. :: _, _, h => by simp [litsOf] at h
  | .tup .. :: _, _, h => by simp [litsOf] at h
  | .agg .. :: _, _, h => by simp [litsOf] at h
  | .fn .. :: _, _, h => by simp [litsOf] at h
  | .ifc .. :: _, _, h => by simp [litsOf] at h

theorem lit_eq {F : Nat → Prop} {v u : Value} (h : DRep w F v (.lit u)) : v = u := by cases h; rfl

theorem litOf2_rep {F : Nat → Prop} {v u : Value} {x : XV} (h : XRep w ι F v x) (hl : litOf2 x = some u) : v = u := by
  unfold litOf2 at hl
  split at hl
  · cases hl; cases h with | d h => cases h; rfl
  · rename_i ds
    simp only [Option.map_eq_some_iff] at hl
    obtain ⟨vs, hv, rfl⟩ := hl
    have := litsOf_eq hv
    subst this
    cases h with
    | d h => cases h with
      | @agg us _ hn hx =>
        congr 1
        apply Array.ext
        · simpa using hn
        · intro i h1 h2
          have h3 : i < vs.length := by simpa using h2
          have h4 := hx i us[i] (.lit vs[i]) (Array.getElem?_eq_getElem h1) (by simp [h3])
          have h5 := lit_eq h4
          simpa using h5
  · cases hl

theorem opBin2_sound {F : Nat → Prop} {op : BinOp} {t : TypeId} {ox oy : Operand} {vx vy u : Value} {x y : XV} (hx : XRep w ι F vx x) (hy : XRep w ι F vy y) (h : opBin2 P op t ox oy x y = some u) :
    (do eqGuard op t ox oy vx vy; binOp op t vx vy : Sem Value).run P w = .ok u w := by
  unfold opBin2 at h
  split at h
  · rename_i a b ha hb
    rw [litOf2_rep hx ha, litOf2_rep hy hb]
    exact pureRun_ok h w
  · cases h

theorem opExtract_sound {F : Nat → Prop} {i : Nat} {v : Value} {x r : XV} (hx : XRep w ι F v x) (h : opExtract x i = some r) : ∃ u, (Instr.extract v i).run P w = .ok u w ∧ XRep w ι F u r := by
  unfold opExtract at h
  split at h
  · cases hx with
    | @tup vs _ hn hxx =>
      have hlt : i < vs.size := by rw [hn]; exact (List.getElem?_eq_some_iff.1 h).1
      exact ⟨vs[i], by simp [Instr.extract, hlt], hxx i _ r (Array.getElem?_eq_getElem hlt) h⟩
  · simp only [Option.map_eq_some_iff] at h
    obtain ⟨y, hy, rfl⟩ := h
    cases hx with
    | d hx => cases hx with
      | @tup vs _ hn hxx =>
        have hlt : i < vs.size := by rw [hn]; exact (List.getElem?_eq_some_iff.1 hy).1
        exact ⟨vs[i], by simp [Instr.extract, hlt], .d (hxx i _ y (Array.getElem?_eq_getElem hlt) hy)⟩
  · cases h

theorem opLen_sound {F : Nat → Prop} {ts : Array TypeId} {ty : TypeId} {v : Value} {x r : XV} (hx : XRep w ι F v x) (h : opLen P ts x = some r) :
    ∃ u, (Builtin.len_ ts ty #[v]).run P w = .ok u w ∧ XRep w ι F u r := by
  unfold opLen at h
  split at h
  · rename_i t ht
    split at h
    · rename_i hs
      obtain ⟨e, he⟩ := isSliceT_iff hs
      split at h
      · cases h
        cases hx with
        | d hx => cases hx; exact ⟨_, by simp [Builtin.len_, ht, run_underlying he, goInt], .d (.lit _)⟩
      · cases h
        cases hx; exact ⟨_, by simp [Builtin.len_, ht, run_underlying he, goInt], .d (.lit _)⟩
      · cases h
    · cases h
  · cases h

theorem opCap_sound {F : Nat → Prop} {ts : Array TypeId} {ty : TypeId} {v : Value} {x r : XV} (hx : XRep w ι F v x) (h : opCap P ts x = some r) :
    ∃ u, (Builtin.cap_ ts ty #[v]).run P w = .ok u w ∧ XRep w ι F u r := by
  unfold opCap at h
  split at h
  · rename_i t ht
    split at h
    · rename_i hs
      obtain ⟨e, he⟩ := isSliceT_iff hs
      split at h
      · cases h
        cases hx with
        | d hx => cases hx with
          | sl vs hl hc => have := hc _ rfl; subst this; exact ⟨_, by simp [Builtin.cap_, ht, run_underlying he, goInt], .d (.lit _)⟩
      · cases h
        cases hx with
        | osl hb hl hlo hex hsz => have := hex rfl; subst this; exact ⟨_, by simp [Builtin.cap_, ht, run_underlying he, goInt], .d (.lit _)⟩
      · cases h
    · cases h
  · cases h

/-- A bound of a slice expression. -/
theorem boundOf_some {F : Nat → Prop} {v : Value} {x : XV} {d n : Nat} (hx : XRep w ι F v x) (h : boundOf (some x) d = some n) (y : Nat) (code : BoundsCode) (hle : n ≤ y) :
    (Instr.sliceBound v y code).run P w = .ok n w := by
  unfold boundOf at h
  simp only at h
  split at h
  · rename_i k i hl
    split at h
    · rename_i h0
      cases h
      have := litOf_rep hx hl
      subst this
      have : i ≤ (y : Int) := by omega
      simp [Instr.sliceBound, asIntOf, h0, this]
    · cases h
  · cases h

end
end Go.Vm

end
section
/-
  VALUES WITHOUT ADDRESSES, 6: the operations are sound: slices of slices, appends, new slices.
-/
namespace Go.Vm
open Go.RowKit

section
variable {P : Program} {M : Nat → Prop} {W0 w : World} {ι : List Nat} {σ : List VObj}

theorem low_run {F : Nat → Prop} {a : Act} {env : Nat → XV} (he : ∀ t, XRep w ι F (a.tmps.getD t undef) (env t)) (lo : Option Operand) {l h : Nat} (code : BoundsCode)
    (hl : boundOf (lo.map (evalX env)) 0 = some l) (hle : l ≤ h) :
    (match lo.map a.eval with
      | some v => Instr.sliceBound v h code
      | none => (pure 0 : Sem Nat)).run P w = .ok l w := by
  cases lo with
  | none => simp [boundOf] at hl; subst hl; simp
  | some x => exact boundOf_some (evalX_rep he x) hl h code hle

theorem bounds_run {F : Nat → Prop} {a : Act} {env : Nat → XV} (he : ∀ t, XRep w ι F (a.tmps.getD t undef) (env t)) (lo hi : Option Operand) {l h len cap : Nat}
    (hl : boundOf (lo.map (evalX env)) 0 = some l) (hh : boundOf (hi.map (evalX env)) len = some h) (h1 : l ≤ h) (h2 : h ≤ cap) :
    (Instr.sliceBounds true len cap (lo.map a.eval) (hi.map a.eval) none).run P w = .ok (l, h, cap) w := by
  have hlow := low_run (P := P) he lo .sliceB hl h1
  cases hi with
  | none =>
    simp [boundOf] at hh; subst hh
    simp only [Instr.sliceBounds, Option.map_none, Option.isSome_none, Bool.false_eq_true, if_false, Sem.run_bind, Sem.run_pure, Result.andThen_ok]
    cases lo <;> simp_all
  | some x =>
    have hr := boundOf_some (P := P) (evalX_rep he x) hh cap .sliceAcap h2
    simp only [Instr.sliceBounds, Option.map_some, Option.isSome_none, Bool.false_eq_true, if_false, if_true, Sem.run_bind, Sem.run_pure, Result.andThen_ok, hr]
    cases lo <;> simp_all

theorem bounds3_run {F : Nat → Prop} {a : Act} {env : Nat → XV} (he : ∀ t, XRep w ι F (a.tmps.getD t undef) (env t)) (lo : Option Operand) (hi mx : Operand) {l h m len cap : Nat}
    (hl : boundOf (lo.map (evalX env)) 0 = some l) (hh : boundOf (some (evalX env hi)) 0 = some h) (hm : boundOf (some (evalX env mx)) 0 = some m) (h1 : l ≤ h) (h2 : h ≤ m) (h3 : m ≤ cap) :
    (Instr.sliceBounds true len cap (lo.map a.eval) (some (a.eval hi)) (some (a.eval mx))).run P w = .ok (l, h, m) w := by
  have hlow := low_run (P := P) he lo .slice3C hl h1
  have hr := boundOf_some (P := P) (evalX_rep he hi) hh m .slice3B h2
  have hr2 := boundOf_some (P := P) (evalX_rep he mx) hm cap .slice3Acap h3
  simp only [Instr.sliceBounds, Option.isSome_some, if_true, Sem.run_bind, Result.andThen_ok, hr, hr2]
  cases lo <;> simp_all

/-- A part of a deep slice. -/
theorem dslice {F : Nat → Prop} {a : Addr} {len cap k l h m : Nat} {cs : List DV} {capo capo' : Option Nat} (hx : DRep w F (.slice (some a) len cap) (.sl cs len capo)) (h1 : l ≤ h) (h2 : h ≤ m) (h3 : h * k ≤ cs.length)
    (hc' : ∀ c, capo' = some c → m - l = c) :
    DRep w F (.slice (some (if m = l then a else a.add (l * k))) (h - l) (m - l)) (.sl ((cs.drop (l * k)).take ((h - l) * k)) (h - l) capo') := by
  cases hx with
  | sl vs hl hc hn ha hcell hxx =>
    have hnil : DRep w F (.slice (some (if m = l then a else a.add (l * k))) (h - l) (m - l)) (.sl [] (h - l) capo') :=
      .sl [] (by omega) hc' rfl (fun h => absurd rfl h) (fun i v h => by simp at h) (fun i v x h => by simp at h)
    by_cases hne : (cs.drop (l * k)).take ((h - l) * k) = []
    · rw [hne]; exact hnil
    · have hne0 : cs ≠ [] := by intro e; subst e; simp at hne
      have hlt : l < h := by
        rcases Nat.lt_or_ge l h with h | h
        · exact h
        · exfalso; apply hne; rw [Nat.sub_eq_zero_of_le h]; simp
      rw [if_neg (by omega)]
      obtain ⟨hsp, hf⟩ := ha hne0
      rw [addr_eta hsp, add_lit']
      refine .sl ((vs.drop (l * k)).take ((h - l) * k)) (by omega) hc' (by simp [hn]) (fun _ => ⟨rfl, hf⟩) (fun i v hv => ?_) (fun i v x hv hx => ?_)
      · rw [List.getElem?_take] at hv
        split at hv
        · rw [List.getElem?_drop] at hv
          have := hcell _ _ hv
          simpa [Nat.add_assoc] using this
        · cases hv
      · rw [List.getElem?_take] at hv hx
        split at hv
        · rename_i hlt
          rw [if_pos hlt] at hx
          rw [List.getElem?_drop] at hv hx
          exact hxx _ _ _ hv hx
        · cases hv

theorem opSlice_sound {F : Nat → Prop} {a : Act} {env : Nat → XV} (he : ∀ t, XRep w ι F (a.tmps.getD t undef) (env t)) {t : TypeId} (ox : Operand) (lo hi mx : Option Operand) {r : XV}
    (h : opSlice P t (evalX env ox) (lo.map (evalX env)) (hi.map (evalX env)) (mx.map (evalX env)) = some r) :
    ∃ u, (Instr.sliceAt t (a.eval ox) (lo.map a.eval) (hi.map a.eval) (mx.map a.eval)).run P w = .ok u w ∧ XRep w ι F u r := by
  have hx := evalX_rep he ox
  revert h hx
  generalize evalX env ox = x
  generalize a.eval ox = vx
  intro h hx
  unfold opSlice at h
  split at h
  · rename_i e hu hmx
    cases mx with
    | some _ => simp at hmx
    | none =>
    split at h
    · rename_i k cs len capo hs
      split at h
      · rename_i l hh hl hhi
        split at h
        · rename_i hc
          cases h
          cases hx with
          | d hx => cases hx with
            | @sl ad _ cap _ _ vs hle hcc hn ha hcell hxx =>
              refine ⟨_, ?_, .d (dslice (m := cap) (.sl vs hle hcc hn ha hcell hxx) hc.1 (by omega) hc.2.2 (fun c hcc' => ?_))⟩
              · simp [Instr.sliceAt, Instr.slice, run_underlying hu, bounds_run (P := P) he lo hi hl hhi hc.1 (by omega : hh ≤ cap), run_sizeOf' hs]
                by_cases e : cap = l <;> simp [e]
              · cases capo with
                | none => simp at hcc'
                | some c0 => simp at hcc'; have := hcc _ rfl; omega
        · cases h
      · cases h
    · rename_i k id off len k' lo' ex hs
      split at h
      · rename_i l hh hl hhi
        split at h
        · rename_i hc
          cases h
          obtain ⟨h1, h2, rfl, h4⟩ := hc
          cases hx with
          | @osl b _ _ cap _ _ _ _ hb hl' hlo hex hsz =>
            obtain ⟨ty, sz, s1, s2⟩ := hsz
            refine ⟨.slice (some ⟨b, off + l * k', none⟩) (hh - l) (cap - l), ?_, .osl hb (by omega) (by omega) (fun h => by have := hex h; omega) ⟨ty, sz, s1, ?_⟩⟩
            · simp [Instr.sliceAt, Instr.slice, run_underlying hu, bounds_run (P := P) he lo hi hl hhi h1 (by omega : hh ≤ cap), run_sizeOf' hs]
              by_cases e : cap = l
              · rcases h4 with h4 | h4
                · omega
                · subst h4; simp [e]
              · simp [e, add_lit']
            · rw [Nat.add_assoc, ← Nat.add_mul]
              have : l + (cap - l) = cap := by omega
              rw [this]; exact s2
        · cases h
      · cases h
    · cases h
  · rename_i e m hu hmx
    split at h
    · rename_i k cs len capo hs
      split at h
      · rename_i l hh m' hl hhi hmm
        split at h
        · rename_i hc
          cases h
          obtain ⟨c1, c2, c3, c4, c5⟩ := hc
          cases mx with
          | none => simp at hmx
          | some omx =>
          cases hi with
          | none => simp at c1
          | some ohi =>
          simp at hmx
          subst hmx
          cases hx with
          | d hx => cases hx with
            | @sl ad _ cap _ _ vs hle hcc hn ha hcell hxx =>
              refine ⟨_, ?_, .d (dslice (m := m') (.sl vs hle hcc hn ha hcell hxx) c2 c3 c5 (fun c hcc' => by cases hcc'; rfl))⟩
              · simp [Instr.sliceAt, Instr.slice, run_underlying hu, bounds3_run (P := P) (len := len) he lo ohi omx hl hhi hmm c2 c3 (by omega : m' ≤ cap), run_sizeOf' hs]
                by_cases e : m' = l <;> simp [e]
        · cases h
      · cases h
    · cases h
  · cases h

/-- The source of an append: its cells in the world. -/
theorem boundsA_run {F : Nat → Prop} {a : Act} {env : Nat → XV} (he : ∀ t, XRep w ι F (a.tmps.getD t undef) (env t)) (lo hi : Option Operand) {l h len cap : Nat}
    (hl : boundOf (lo.map (evalX env)) 0 = some l) (hh : boundOf (hi.map (evalX env)) len = some h) (h1 : l ≤ h) (h2 : h ≤ cap) :
    (Instr.sliceBounds false len cap (lo.map a.eval) (hi.map a.eval) none).run P w = .ok (l, h, cap) w := by
  have hlow := low_run (P := P) he lo .sliceB hl h1
  cases hi with
  | none =>
    simp [boundOf] at hh; subst hh
    simp only [Instr.sliceBounds, Option.map_none, Option.isSome_none, Bool.false_eq_true, if_false, Sem.run_bind, Sem.run_pure, Result.andThen_ok]
    cases lo <;> simp_all
  | some x =>
    have hr := boundOf_some (P := P) (evalX_rep he x) hh cap .sliceAlen h2
    simp only [Instr.sliceBounds, Option.map_some, Option.isSome_none, Bool.false_eq_true, if_false, Sem.run_bind, Sem.run_pure, Result.andThen_ok, hr]
    cases lo <;> simp_all

theorem opSliceA_sound (hm : Mem M W0 ι σ w) {a : Act} {env : Nat → XV} (he : ∀ t, XRep w ι (Forb M ι σ) (a.tmps.getD t undef) (env t)) {t : TypeId} (ox : Operand) (lo hi mx : Option Operand) {r : XV}
    (h : opSliceA P σ t (evalX env ox) (lo.map (evalX env)) (hi.map (evalX env)) (mx.map (evalX env)) = some r) :
    ∃ u, (Instr.sliceAt t (a.eval ox) (lo.map a.eval) (hi.map a.eval) (mx.map a.eval)).run P w = .ok u w ∧ XRep w ι (Forb M ι σ) u r := by
  have hx := evalX_rep he ox
  revert h hx
  generalize evalX env ox = x
  generalize a.eval ox = vx
  intro h hx
  unfold opSliceA at h
  split at h
  case h_2 => cases h
  rename_i id off
  split at h
  case h_2 => cases h
  rename_i n e hu hmx
  cases mx with
  | some _ => simp at hmx
  | none =>
  split at h
  case h_2 => cases h
  rename_i ob ho
  split at h
  case h_2 => cases h
  rename_i k l hh hk hl hhi
  split at h
  case isFalse => cases h
  rename_i hc
  cases h
  obtain ⟨h2, c1, c2, c3, c4⟩ := hc
  cases hx with
  | @optr b _ _ hb =>
  obtain ⟨cur, ty, q1, q2, _⟩ := hm.cells ho hb h2
  refine ⟨.slice (some ⟨b, off + l * k, none⟩) (hh - l) (n - l), ?_, .osl hb (by omega) (Nat.le_refl _) (fun _ => rfl) ⟨ty, _, shape_of_heap q1, ?_⟩⟩
  · simp [Instr.sliceAt, Instr.sureAddr, run_underlying hu, boundsA_run (P := P) he lo hi hl hhi c1 c2, run_sizeOf' hk, add_lit', show ¬ n = l by omega]
  · rw [Nat.add_assoc, ← Nat.add_mul, show l + (n - l) = n by omega]; omega

theorem srcCells_sound (hm : Mem M W0 ι σ w) {k : Nat} {v : Value} {x : XV} (hx : XRep w ι (Forb M ι σ) v x) {news : List XV} {m fl : Nat} (h : srcCells σ k x = some (news, m, fl)) :
    (v = .slice none 0 0 ∧ m = 0 ∧ news = []) ∨
    ∃ (ad : Addr) (cap : Nat) (vs : List Value), v = .slice (some ad) m cap ∧ vs.length = m * k ∧ news.length = m * k ∧ (∀ j v, vs[j]? = some v → w.cell? (ad.add j) = some v) ∧
      (∀ (i : Nat) (v : Value) (x : XV), vs[i]? = some v → news[i]? = some x → XRep w ι (Forb M ι σ) v x) := by
  unfold srcCells at h
  split at h
  · cases h
    cases hx with
    | d hx => cases hx; exact .inl ⟨rfl, rfl, rfl⟩
  · rename_i cs len capo
    split at h
    · rename_i hle
      cases h
      right
      cases hx with
      | d hx => cases hx with
        | @sl ad _ cap _ _ vs hl hcc hn ha hcell hxx =>
          refine ⟨ad, cap, vs.take (m * k), rfl, by simp [hn]; omega, by simp; omega, fun j v hv => ?_, fun i v x hv hx' => ?_⟩
          · rw [List.getElem?_take] at hv
            split at hv
            · have hne : cs ≠ [] := by intro e; subst e; simp at hn; subst hn; simp at hv
              rw [addr_eta (ha hne).1, add_lit']; exact hcell j v hv
            · cases hv
          · rw [List.getElem?_take] at hv
            simp only [List.getElem?_map, List.getElem?_take, Option.map_eq_some_iff] at hx'
            obtain ⟨z, hz, rfl⟩ := hx'
            split at hv
            · rename_i hlt
              rw [if_pos hlt] at hz
              exact .d (hxx i v z hv hz)
            · cases hv
    · cases h
  · rename_i id off len k' lo ex
    split at h
    · rename_i ob ho
      split at h
      · rename_i hc
        cases h
        obtain ⟨h2, rfl, hle⟩ := hc
        right
        cases hx with
        | @osl b _ _ cap _ _ _ _ hb hl' hlo hex hsz =>
          obtain ⟨cur, ty, k1, k2, hcs⟩ := hm.cells ho hb h2
          have hcs' := (hcs.drop off).take (m * k')
          refine ⟨⟨b, off, none⟩, cap, _, rfl, ?_, by simp; omega, fun j v hv => by rw [add_lit']; simpa using hcs'.cell j v hv, hcs'.rep⟩
          rw [hcs'.len]; simp; omega
      · cases h
    · cases h
  · cases h

theorem ones {F : Nat → Prop} {vs : List Value} {xs : List XV} (hl : vs.length = xs.length) (hx : ∀ (i : Nat) (v : Value) (x : XV), vs[i]? = some v → xs[i]? = some x → XRep w ι F v x) (h1 : xs.all oneX = true) :
    ∀ v ∈ vs, v.oneCell' = true := by
  intro v hv
  obtain ⟨i, hi⟩ := List.getElem?_of_mem hv
  have hlt : i < xs.length := by rw [← hl]; exact (List.getElem?_eq_some_iff.1 hi).1
  exact oneX_rep (hx i v _ hi (List.getElem?_eq_getElem hlt)) (List.all_eq_true.1 h1 _ (List.getElem_mem hlt))

theorem bytes_of_info {t : TypeId} {i : TypeInfo} (h : P.info? t = some i) : bytesT P t = i.bytes := by simp [bytesT, h]

/-- A new row for what was there and what is appended. -/
theorem grow_sound (hm : Mem M W0 ι σ w) {e : TypeId} {k need old : Nat} {cells : List XV} {r : XV × List VObj} (h : growTo P σ e k need cells = some r) (_ : sizeT P e = some k)
    {vs : List Value} (hl : vs.length = cells.length) (hn : cells.length = need * k) (hx : ∀ (i : Nat) (v : Value) (x : XV), vs[i]? = some v → cells[i]? = some x → XRep w ι (Forb M ι σ) v x)
    {z : Value} {i : TypeInfo} (hi : P.info? e = some i) (hz : i.zero = some z) :
    ∃ (ι' : List Nat), Mem M W0 ι' r.2 (w.drew.alloc (.cells (vs.toArray ++ Builtin.zeroCells z.cells (grownCap w need old e - need)) e)) ∧
      Ext M ι σ w ι' r.2 (w.drew.alloc (.cells (vs.toArray ++ Builtin.zeroCells z.cells (grownCap w need old e - need)) e)) ∧
      XRep (w.drew.alloc (.cells (vs.toArray ++ Builtin.zeroCells z.cells (grownCap w need old e - need)) e)) ι' (Forb M ι' r.2) (.slice (some ⟨w.heap.size, 0, none⟩) need (grownCap w need old e)) r.1 := by
  unfold growTo at h
  split at h
  · rename_i hc
    cases h
    obtain ⟨c1, c2, c3⟩ := hc
    have hzs : z.cells.size = k := by
      simp [zeroT, hi, hz] at c3; exact c3
    obtain ⟨h1, h2⟩ := hm.push (w1 := w.drew) rfl (Below.drew (below_refl _ w)) (vs.toArray ++ Builtin.zeroCells z.cells (grownCap w need old e - need)) e cells (by simp; omega) (fun i x hx' => by
      have hlt : i < vs.length := by rw [hl]; exact (List.getElem?_eq_some_iff.1 hx').1
      refine ⟨vs[i], ?_, hx i _ x (List.getElem?_eq_getElem hlt) hx'⟩
      rw [Array.getElem?_append_left (by simpa using hlt)]; simp [hlt])
    refine ⟨_, h1, h2, .osl (by simp [hm.len]) (Nat.le_refl _) (grownCap_ge w need old e) (fun h => by cases h) ⟨e, _, shape_of_heap (Go.heap_alloc_new _ _), ?_⟩⟩
    simp only [Array.size_append, List.size_toArray, size_zeroCells, hzs, hl, hn, Nat.zero_add, ← Nat.add_mul]
    have := grownCap_ge w need old e
    exact Nat.mul_le_mul_right _ (by omega)
  · cases h

theorem grow_info {e : TypeId} {k need : Nat} {cells : List XV} {r : XV × List VObj} (h : growTo P σ e k need cells = some r) : ∃ z i, P.info? e = some i ∧ i.zero = some z ∧ need ≤ 1073741824 ∧ i.bytes ≤ 65536 := by
  unfold growTo at h
  split at h
  · rename_i hc
    obtain ⟨c1, c2, c3⟩ := hc
    simp only [Option.map_eq_some_iff] at c3
    obtain ⟨z, hz, _⟩ := c3
    obtain ⟨i, hi, hzi⟩ := info_of_zero hz
    exact ⟨z, i, hi, hzi, c1, by rw [← bytes_of_info hi]; exact c2⟩
  · cases h

theorem mul_small {n b : Nat} (h1 : n ≤ 1073741824) (h2 : b ≤ 65536) : n * b ≤ 140737488355328 :=
  Nat.le_trans (Nat.mul_le_mul h1 h2) (by decide)

end
end Go.Vm

end
section
/-
  VALUES WITHOUT ADDRESSES, 7: append, make, literals; all operations together.
-/
namespace Go.Vm
open Go.RowKit

section
variable {P : Program} {M : Nat → Prop} {W0 w : World} {ι : List Nat} {σ : List VObj}

theorem run_append_zero {t ty e : TypeId} {k : Nat} (ht : P.underlying t = some (.slice e)) (hk : sizeT P e = some k) (base : Option Addr) (n cap : Nat) (hn : n ≤ cap) (vx : Value)
    (hx : vx = .slice none 0 0 ∨ ∃ ad c, vx = .slice (some ad) 0 c) :
    (Builtin.append_ #[t, t] ty #[.slice base n cap, vx]).run P w = .ok (.slice base n cap) w := by
  obtain ⟨i, hi, rfl⟩ := info_of_size hk
  rcases hx with rfl | ⟨ad, c, rfl⟩ <;> cases base <;>
    simp [Builtin.append_, run_underlying ht, sizeOf, typeInfo, hi, Builtin.lenOf, Builtin.firstCells, loadCells, loadCellsFrom, storeCells, hn]

theorem run_append_here {t ty e : TypeId} {k : Nat} (ht : P.underlying t = some (.slice e)) (hk : sizeT P e = some k)
    (g off sLen sCap : Nat) (cur : Array Value) (et : TypeId) (hg : w.heap[g]? = some (.cells cur et (0, 0)))
    (a : Addr) (m c : Nat) (news : List Value) (hl : news.length = m * k) (hnews : ∀ j u, news[j]? = some u → w.cell? (a.add j) = some u) (h1 : ∀ u ∈ news, u.oneCell' = true)
    (hroom : sLen + m ≤ sCap) (hfit : off + sLen * k + news.length ≤ cur.size) :
    (Builtin.append_ #[t, t] ty #[.slice (some ⟨g, off, none⟩) sLen sCap, .slice (some a) m c]).run P w =
      .ok (.slice (some ⟨g, off, none⟩) (sLen + m) sCap) (w.setRow g (splice cur.toList (off + sLen * k) news).toArray) := by
  obtain ⟨i, hi, rfl⟩ := info_of_size hk
  have hf := run_firstCells_some (P := P) w i.size m a m c news hl hnews
  have hst := run_storeCells_at P g (off + sLen * i.size) et news 0 cur w hg (by simpa using hfit) h1
  simp only [Nat.add_zero] at hst
  simp [Builtin.append_, run_underlying ht, sizeOf, typeInfo, hi, Builtin.lenOf, hroom, hf, add_lit', hst, splice]

theorem small63 {n : Nat} (h : n ≤ 1073741824) : ((n : Nat) : Int) ≤ 9223372036854775807 := by omega

set_option maxHeartbeats 1000000 in
theorem opAppend_sound (hm : Mem M W0 ι σ w) {ts : Array TypeId} {ty : TypeId} {vs vx : Value} {s x : XV} (hs : XRep w ι (Forb M ι σ) vs s) (hx : XRep w ι (Forb M ι σ) vx x) {r : XV × List VObj}
    (h : opAppend P σ ts s x = some r) :
    ∃ (ι' : List Nat) (w' : World) (v : Value), (Builtin.append_ ts ty #[vs, vx]).run P w = .ok v w' ∧ Mem M W0 ι' r.2 w' ∧ Ext M ι σ w ι' r.2 w' ∧ XRep w' ι' (Forb M ι' r.2) v r.1 := by
  unfold opAppend at h
  split at h
  case h_2 => cases h
  rename_i t u hts
  split at h
  case isFalse => cases h
  rename_i htu
  subst htu
  have hts' : ts = #[t, t] := by cases ts; simp at hts; subst hts; rfl
  subst hts'
  split at h
  case h_2 => cases h
  rename_i e hu
  split at h
  case h_2 => cases h
  rename_i k hk
  split at h
  case h_2 => cases h
  rename_i news m fl hsrc
  split at h
  case isFalse => cases h
  rename_i hone
  have hsrc' := srcCells_sound hm hx hsrc
  split at h
  · -- nothing is appended
    rename_i hm0
    subst hm0
    have hx0 : vx = .slice none 0 0 ∨ ∃ ad c, vx = .slice (some ad) 0 c := by
      rcases hsrc' with ⟨h1, _⟩ | ⟨ad, c, _, h1, _⟩
      · exact .inl h1
      · exact .inr ⟨ad, c, h1⟩
    split at h
    · cases h
      cases hs with
      | d hs => cases hs; exact ⟨ι, w, _, run_append_zero hu hk none 0 0 (Nat.le_refl _) vx hx0, hm, .refl _ _ _ _, .d (.lit _)⟩
    · cases h
      cases hs with
      | d hs => cases hs with
        | sl us hl hc hn ha hcell hxx => exact ⟨ι, w, _, run_append_zero hu hk _ _ _ hl vx hx0, hm, .refl _ _ _ _, .d (.sl us hl hc hn ha hcell hxx)⟩
    · cases h
      cases hs with
      | osl hb hl hlo hex hsz => exact ⟨ι, w, _, run_append_zero hu hk _ _ _ (by omega) vx hx0, hm, .refl _ _ _ _, .osl hb hl hlo hex hsz⟩
    · cases h
  · rename_i hm0
    rcases hsrc' with ⟨_, h1, _⟩ | ⟨ad, c, vn, rfl, hvl, hnl, hvc, hvr⟩
    · exact absurd h1 hm0
    have h1s := ones (by omega) hvr hone
    split at h
    · -- onto nil
      cases hs with
      | d hs =>
      cases hs
      obtain ⟨z, i, hi, hz, c1, c2⟩ := grow_info h
      obtain ⟨_, hi', hke⟩ := info_of_size hk
      rw [hi] at hi'; cases hi'
      obtain ⟨ι', g1, g2, g3⟩ := grow_sound hm (old := 0) h hk (vs := vn) (by omega) hnl hvr hi hz
      refine ⟨ι', _, _, ?_, g1, g2, g3⟩
      exact run_append_nil w t ty e i z hu hi hz ad m c vn (by rw [hke]; exact hvl) hvc (by omega) (small63 c1) (by have := mul_small c1 c2; omega)
    · -- onto a deep slice without room
      rename_i cs len c0
      split at h
      · rename_i hc
        cases hs with
        | d hs => cases hs with
          | @sl a0 _ cap _ _ us hl hcc hn ha hcell hxx =>
          have := hcc _ rfl
          subst this
          obtain ⟨z, i, hi, hz, c1, c2⟩ := grow_info h
          obtain ⟨_, hi', hke⟩ := info_of_size hk
          rw [hi] at hi'; cases hi'
          have hul : (us.take (len * k)).length = len * k := by simp [hn]; omega
          obtain ⟨ι', g1, g2, g3⟩ := grow_sound hm (old := cap) h hk (vs := us.take (len * k) ++ vn) (by simp [hn, hvl, hnl]) (by simp [hnl, Nat.add_mul]; omega) (fun j v y hv hy => by
            by_cases hj : j < len * k
            · rw [List.getElem?_append_left (by omega), List.getElem?_take, if_pos hj] at hv
              rw [List.getElem?_append_left (by simp; omega), List.getElem?_map, List.getElem?_take, if_pos hj] at hy
              simp only [Option.map_eq_some_iff] at hy
              obtain ⟨q, hq, rfl⟩ := hy
              exact .d (hxx j v q hv hq)
            · rw [List.getElem?_append_right (by omega), hul] at hv
              have hcl : ((cs.take (len * k)).map XV.d).length = len * k := by simp; omega
              rw [List.getElem?_append_right (by omega), hcl] at hy
              exact hvr _ _ _ hv hy) hi hz
          refine ⟨ι', _, _, ?_, g1, g2, g3⟩
          have hr := run_append_grow (P := P) w t ty e i z hu hi hz a0 len cap (us.take (len * k)) (by rw [hke]; exact hul) (fun j v hv => by
              rw [List.getElem?_take] at hv
              split at hv
              · have hne : cs ≠ [] := by intro e; subst e; simp at hn; subst hn; simp at hv
                rw [addr_eta (ha hne).1, add_lit']; exact hcell j v hv
              · cases hv) ad m c vn (by rw [hke]; exact hvl) hvc hc.1 (small63 c1) (growslice_fits hc.1 (mul_small c1 c2))
          simpa using hr
      · cases h
    · -- onto a slice of the call's own
      rename_i id off len k' lo ex
      split at h
      case h_2 => cases h
      rename_i ob ho
      split at h
      case isFalse => cases h
      rename_i hkk
      subst hkk
      cases hs with
      | @osl b _ _ cap _ _ _ _ hb hl hlo hex hsz =>
      obtain ⟨sty, sz, s1, s2⟩ := hsz
      split at h
      · -- there is room
        rename_i hroom
        split at h
        case isFalse => cases h
        rename_i hc
        cases h
        obtain ⟨h0, hfit⟩ := hc
        obtain ⟨cur, et, q1, q2, hcs⟩ := hm.cells ho hb (by omega)
        rw [Nat.add_mul, ← Nat.add_assoc] at hfit
        obtain ⟨w1, w2⟩ := hm.write ho hb h0 q1 (off + len * k') vn news (by omega) (by omega) hvr
        refine ⟨ι, _, _, run_append_here hu hk b off len cap cur et q1 ad m c vn hvl hvc h1s (by omega) (by omega), w1, w2, ?_⟩
        exact .osl (w2.pre _ _ hb) hroom hlo hex ⟨sty, sz, w2.shape _ _ s1, s2⟩
      · rename_i hroom
        split at h
        · -- the capacity is known, and there is no room
          rename_i hexx
          split at h
          case isFalse => cases h
          rename_i hc
          have hcap := hex hexx
          subst hcap
          obtain ⟨cur, et, q1, q2, hcs⟩ := hm.cells ho hb hc.1
          have hcs' := (hcs.drop off).take (len * k')
          obtain ⟨z, i, hi, hz, c1, c2⟩ := grow_info h
          obtain ⟨_, hi', hke⟩ := info_of_size hk
          rw [hi] at hi'; cases hi'
          have hol : ((ob.cells.drop off).take (len * k')).length = len * k' := by simp; omega
          have hul : (((cur.toList.take ob.cells.length).drop off).take (len * k')).length = len * k' := by rw [hcs'.len, hol]
          obtain ⟨ι', g1, g2, g3⟩ := grow_sound hm (old := cap) h hk (vs := ((cur.toList.take ob.cells.length).drop off).take (len * k') ++ vn)
            (by rw [List.length_append, List.length_append, hul, hol]; omega) (by rw [List.length_append, hol, Nat.add_mul]; omega) (fun j v y hv hy => by
            by_cases hj : j < len * k'
            · rw [List.getElem?_append_left (by omega)] at hv hy
              exact hcs'.rep j v y hv hy
            · rw [List.getElem?_append_right (by omega), hul] at hv
              rw [List.getElem?_append_right (by omega), hol] at hy
              exact hvr _ _ _ hv hy) hi hz
          refine ⟨ι', _, _, ?_, g1, g2, g3⟩
          have hr := run_append_grow (P := P) w t ty e i z hu hi hz ⟨b, off, none⟩ len cap _ (by rw [hke]; exact hul) (fun j v hv => by
              rw [add_lit']; simpa using hcs'.cell j v hv) ad m c vn (by rw [hke]; exact hvl) hvc (by omega) (small63 c1) (growslice_fits (by omega) (mul_small c1 c2))
          simpa using hr
        · -- the capacity is not known: both ways
          split at h
          case isFalse => cases h
          rename_i hc
          cases h
          obtain ⟨h0, rfl, hlen, c1, c2, c3⟩ := hc
          obtain ⟨cur, et, q1, q2, hcs⟩ := hm.cells ho hb (by omega)
          have hsz : sz = cur.size := by rw [shape_of_heap q1] at s1; cases s1; rfl
          subst hsz
          by_cases hin : len + m ≤ cap
          · have hle : (len + m) * k' ≤ cap * k' := Nat.mul_le_mul_right _ hin
            rw [Nat.add_mul] at hle
            obtain ⟨w1, w2⟩ := hm.extend ho hb h0 q1 vn news (by omega) (by omega) hvr
            have hr := run_append_here (P := P) (ty := ty) hu hk b 0 len cap cur et q1 ad m c vn hvl hvc h1s hin (by omega)
            rw [show 0 + len * k' = ob.cells.length by omega] at hr
            exact ⟨ι ++ [b], _, _, hr, w1, w2, .osl (by simp [hm.len]) (Nat.le_refl _) hin (fun h => by cases h) ⟨sty, _, w2.shape _ _ s1, s2⟩⟩
          · obtain ⟨t1, t2⟩ := hm.tamed (σ' := σ.set id ⟨ob.cells, 2⟩) (by simp) (fun j o' hj => by
              rcases set_get _ _ _ _ _ hj with ⟨rfl, rfl, _⟩ | ⟨_, hj'⟩
              · exact ⟨ob, ho, rfl, .inr (.inl rfl)⟩
              · exact ⟨o', hj', rfl, .inl rfl⟩)
            simp only [Option.map_eq_some_iff] at c3
            obtain ⟨z, hz0, hzs⟩ := c3
            obtain ⟨i, hi, hz⟩ := info_of_zero hz0
            obtain ⟨_, hi', hke⟩ := info_of_size hk
            rw [hi] at hi'; cases hi'
            rw [bytes_of_info hi] at c2
            have hgr : growTo P (σ.set id ⟨ob.cells, 2⟩) e k' (len + m) (ob.cells ++ news) = some (.osl σ.length 0 (len + m) k' (len + m) false, (σ.set id ⟨ob.cells, 2⟩) ++ [⟨ob.cells ++ news, 0⟩]) := by
              simp [growTo, c1, bytes_of_info hi, c2, hz0, hzs]
            have hul : (cur.toList.take ob.cells.length).length = ob.cells.length := hcs.len
            obtain ⟨ι', g1, g2, g3⟩ := grow_sound t1 (old := cap) hgr hk (vs := cur.toList.take ob.cells.length ++ vn)
              (by rw [List.length_append, List.length_append, hul]; omega) (by rw [List.length_append, Nat.add_mul]; omega) (fun j v y hv hy => by
              by_cases hj : j < ob.cells.length
              · rw [List.getElem?_append_left (by omega)] at hv hy
                exact (hcs.rep j v y hv hy).ext t2
              · rw [List.getElem?_append_right (by omega), hul] at hv
                rw [List.getElem?_append_right (by omega)] at hy
                exact (hvr _ _ _ hv hy).ext t2) hi hz
            refine ⟨ι', _, _, ?_, g1, t2.trans g2, g3⟩
            have hr := run_append_grow (P := P) w t ty e i z hu hi hz ⟨b, 0, none⟩ len cap (cur.toList.take ob.cells.length) (by rw [hke]; omega) (fun j v hv => by
                rw [add_lit']; simpa using hcs.cell j v hv) ad m c vn (by rw [hke]; exact hvl) hvc (by omega) (small63 c1) (growslice_fits (by omega) (mul_small c1 c2))
            simpa using hr
    · cases h


theorem opCopy_sound (hm : Mem M W0 ι σ w) {ts : Array TypeId} {ty : TypeId} {vd vx : Value} {d x : XV} (hd : XRep w ι (Forb M ι σ) vd d) (hx : XRep w ι (Forb M ι σ) vx x) {r : XV × List VObj}
    (h : opCopy P σ ts d x = some r) :
    ∃ (ι' : List Nat) (w' : World) (v : Value), (Builtin.copy_ ts ty #[vd, vx]).run P w = .ok v w' ∧ Mem M W0 ι' r.2 w' ∧ Ext M ι σ w ι' r.2 w' ∧ XRep w' ι' (Forb M ι' r.2) v r.1 := by
  unfold opCopy at h
  split at h
  case h_2 => cases h
  rename_i id off len k' lo ex
  split at h
  case h_2 => cases h
  rename_i e hu
  simp only [Option.bind_eq_some_iff] at hu
  obtain ⟨t, ht, hu⟩ := hu
  split at h
  case h_2 => cases h
  rename_i k ob news m fl hk ho hsrc
  split at h
  case isFalse => cases h
  rename_i hc
  cases h
  obtain ⟨rfl, h0, hfit, hone, hm0⟩ := hc
  cases hd with
  | @osl b _ _ cap _ _ _ _ hb hl hlo hex hsz =>
  obtain ⟨cur, et, q1, q2, hcs⟩ := hm.cells ho hb (by omega)
  obtain ⟨i, hi, hke⟩ := info_of_size hk
  rcases srcCells_sound hm hx hsrc with ⟨rfl, rfl, rfl⟩ | ⟨ad, c, vn, rfl, hvl, hnl, hvc, hvr⟩
  · omega
  · generalize hq : min m len = q at *
    have hqm : q ≤ m := by omega
    have hle : q * k' ≤ m * k' := Nat.mul_le_mul_right _ hqm
    have hvl' : (vn.take (q * k')).length = q * k' := by rw [List.length_take]; omega
    have hnl' : (news.take (q * k')).length = q * k' := by rw [List.length_take]; omega
    have hvr' : ∀ (i : Nat) (v : Value) (x : XV), (vn.take (q * k'))[i]? = some v → (news.take (q * k'))[i]? = some x → XRep w ι (Forb M ι σ) v x := fun i v x h1 h2 => by
      rw [List.getElem?_take] at h1 h2
      split at h1
      · rename_i hlt; rw [if_pos hlt] at h2; exact hvr i v x h1 h2
      · cases h1
    have hvc' : ∀ j v, (vn.take (q * k'))[j]? = some v → w.cell? (ad.add j) = some v := fun j v h1 => by
      rw [List.getElem?_take] at h1
      split at h1
      · exact hvc j v h1
      · cases h1
    obtain ⟨w1, w2⟩ := hm.write ho hb h0 q1 off (vn.take (q * k')) (news.take (q * k')) (by omega) (by omega) hvr'
    refine ⟨ι, _, .int .i64 ((q : Nat) : Int), ?_, w1, w2, .d (.lit _)⟩
    have h1s := ones (by omega) hvr' (List.all_eq_true.2 fun x hx => List.all_eq_true.1 hone x (List.mem_of_mem_take hx))
    have hf := run_firstCells_some (P := P) w i.size (q) ad m c (vn.take (q * k')) (by rw [hke]; exact hvl') hvc'
    have hst := run_storeCells_at P b off et (vn.take (q * k')) 0 cur w q1 (by simp only [Nat.add_zero]; omega) h1s
    simp only [Nat.add_zero] at hst
    have hq' : Nat.min m len = q := hq
    simp only [Builtin.copy_, ht, sizeOf, typeInfo, Builtin.lenOf]
    simp [run_underlying hu, hi, hq, hf, hst, goInt, splice]

theorem range_map_get (z : Value) (n : Nat) (i : Nat) (x : XV) (h : (zeroRow z n)[i]? = some x) : ∃ v, ((Array.range n).map (z.cells[· % z.cells.size]!))[i]? = some v ∧ x = .d (.lit v) := by
  unfold zeroRow at h
  simp only [List.getElem?_map, Option.map_eq_some_iff] at h
  obtain ⟨j, hj, rfl⟩ := h
  have hlt0 := hj
  rw [List.getElem?_range (by have := (List.getElem?_eq_some_iff.1 hj).1; simpa using this)] at hj
  cases hj
  refine ⟨_, ?_, rfl⟩
  have hlt : i < n := by
    rcases Nat.lt_or_ge i n with h | h
    · exact h
    · simp [h] at hlt0
  simp [hlt]

theorem opMakeSlice_sound (hm : Mem M W0 ι σ w) {t : TypeId} {vl vc : Value} {l c : XV} (hl : XRep w ι (Forb M ι σ) vl l) (hc : XRep w ι (Forb M ι σ) vc c) {r : XV × List VObj}
    (h : opMakeSlice P σ t l c = some r) :
    ∃ (ι' : List Nat) (w' : World) (v : Value), (Instr.makeSlice t vl vc).run P w = .ok v w' ∧ Mem M W0 ι' r.2 w' ∧ Ext M ι σ w ι' r.2 w' ∧ XRep w' ι' (Forb M ι' r.2) v r.1 := by
  unfold opMakeSlice at h
  split at h
  case h_2 => cases h
  rename_i kl ln kc cn e h1 h2 hu
  split at h
  case h_2 => cases h
  rename_i k z hk hz
  split at h
  case isFalse => cases h
  rename_i hcond
  cases h
  obtain ⟨c1, c2, c3, c4⟩ := hcond
  have e1 := litOf_rep hl h1
  have e2 := litOf_rep hc h2
  subst e1; subst e2
  obtain ⟨i, hi, hke⟩ := info_of_size hk
  have hzi : i.zero = some z := by simpa [zeroT, hi] using hz
  rw [bytes_of_info hi] at c4
  obtain ⟨m1, m2⟩ := hm.push rfl (below_refl _ w) ((Array.range (cn.toNat * k)).map (z.cells[· % z.cells.size]!)) e (zeroRow z (cn.toNat * k)) (by simp [zeroRow]) (fun j x hx => by
    obtain ⟨v, hv, rfl⟩ := range_map_get _ _ _ _ hx
    exact ⟨v, hv, .d (.lit v)⟩)
  refine ⟨_, _, .slice (some ⟨w.heap.size, 0, none⟩) ln.toNat cn.toNat, ?_, m1, m2, .osl (by simp [hm.len]) (by omega) (Nat.le_refl _) (fun _ => rfl) ⟨e, _, shape_of_heap (Go.heap_alloc_new _ _), by simp⟩⟩
  have w1 : IntKind.i64.wrap ln = ln := by simp [IntKind.wrap, IntKind.bits, IntKind.signed]; omega
  have w2 : IntKind.i64.wrap cn = cn := by simp [IntKind.wrap, IntKind.bits, IntKind.signed]; omega
  have hb : (i.bytes : Int) * cn ≤ 2 ^ 48 := by
    have : i.bytes * cn.toNat ≤ 65536 * 1073741824 := Nat.mul_le_mul c4 (by omega)
    have h3 : ((i.bytes * cn.toNat : Nat) : Int) = (i.bytes : Int) * cn := by rw [Int.natCast_mul, Int.toNat_of_nonneg (by omega)]
    omega
  have hno : ¬ ((decide (cn < 0) || decide ((i.bytes : Int) * cn > 2 ^ 48) || decide (ln < 0) || decide (ln > cn)) = true) := by simp; omega
  have hz2 : ∀ w : World, (zeroValue e).run P w = .ok z w := fun w => by simp [zeroValue, typeInfo, hi, hzi]
  by_cases hn : cn.toNat * k = 0
  · have hcells : (Array.range 0).map (z.cells[· % z.cells.size]!) = (Array.range 0).map fun i => ((#[] : Array Value)[i % (#[] : Array Value).size]!) := by
      apply Array.ext <;> simp
    simp only [Instr.makeSlice, run_underlying hu, asInt, asIntOf, typeInfo, hi, w1, w2, sizeOf, Sem.run_bind, Sem.run_pure, Result.andThen_ok, run_program]
    rw [if_neg hno]
    simp only [Sem.run_bind, run_askRoom, Result.andThen_ok, run_program, Sem.run_pure, hi, hke, newRow, hn, hcells]
    rfl
  · simp only [Instr.makeSlice, run_underlying hu, asInt, asIntOf, typeInfo, hi, w1, w2, sizeOf, Sem.run_bind, Sem.run_pure, Result.andThen_ok, run_program]
    rw [if_neg hno]
    simp only [Sem.run_bind, run_askRoom, Result.andThen_ok, run_program, Sem.run_pure, hi, hke, if_neg hn, newRow, hz2]
    rfl

theorem run_append_zeros {t u ty e : TypeId} {ik vk : IntKind} {k : Nat} (ht : P.underlying t = some (.slice e)) (hu : P.underlying u = some (.int ik)) {i : TypeInfo} {z : Value} (hi : P.info? e = some i) (hz : i.zero = some z)
    (hk : i.size = k) (hk0 : 0 < k) (n : Int) (h0 : 0 < n) (h1 : n.toNat ≤ 1073741824) (h2 : i.bytes ≤ 65536) :
    (Builtin.append_ #[t, u] ty #[.slice none 0 0, .int vk n]).run P w =
      .ok (.slice (some ⟨w.heap.size, 0, none⟩) n.toNat (grownCap w n.toNat 0 e)) (w.drew.alloc (.cells (Builtin.zeroCells z.cells n.toNat ++ Builtin.zeroCells z.cells (grownCap w n.toNat 0 e - n.toNat)) e)) := by
  have w1 : IntKind.i64.wrap n = n := by simp [IntKind.wrap, IntKind.bits, IntKind.signed]; omega
  have hsm := mul_small h1 h2
  have hnc : Builtin.nextslicecap n.toNat 0 * i.bytes ≤ 281474976710656 := growslice_fits (by omega) hsm
  have hb : ¬ (n * (i.bytes : Int) > 2 ^ 48) := by
    have e : ((n.toNat * i.bytes : Nat) : Int) = n * (i.bytes : Int) := by rw [Int.natCast_mul, Int.toNat_of_nonneg (by omega)]
    omega
  have hnk : ¬ n.toNat * i.size = 0 := by
    rw [hk]; intro e
    rcases Nat.mul_eq_zero.1 e with h | h <;> omega
  have hn : n.toNat ≠ 0 := by omega
  have hn0 : ¬ n < 0 := by omega
  have hne : ¬ n ≤ 0 := by omega
  have hk' : i.size ≠ 0 := by omega
  have h63' : ¬ (9223372036854775807 < (n.toNat : Int)) := by omega
  have h63'' : ¬ (9223372036854775807 < n) := by omega
  have h48' : ¬ (281474976710656 < Builtin.nextslicecap n.toNat 0 * i.bytes) := by omega
  have hb' : ¬ (281474976710656 < n * (i.bytes : Int)) := by simpa using hb
  simp [Builtin.append_, run_underlying ht, run_underlying hu, sizeOf, typeInfo, zeroValue, hi, hz, asInt, asIntOf, w1, hn0, hne, hb', h48', Question.forced, run_firstCells_none, newRow, grownCap, IntKind.max, IntKind.signed, IntKind.bits]
  rw [if_neg (by omega), if_neg hnk]

theorem zeroCells_eq (z : Array Value) (n : Nat) : Builtin.zeroCells z n = (Array.range (n * z.size)).map (z[· % z.size]!) := rfl

theorem opAppendZ_sound (hm : Mem M W0 ι σ w) {ts : Array TypeId} {ty : TypeId} {vs vx : Value} {s x : XV} (hs : XRep w ι (Forb M ι σ) vs s) (hx : XRep w ι (Forb M ι σ) vx x) {r : XV × List VObj}
    (h : opAppendZ P σ ts s x = some r) :
    ∃ (ι' : List Nat) (w' : World) (v : Value), (Builtin.append_ ts ty #[vs, vx]).run P w = .ok v w' ∧ Mem M W0 ι' r.2 w' ∧ Ext M ι σ w ι' r.2 w' ∧ XRep w' ι' (Forb M ι' r.2) v r.1 := by
  unfold opAppendZ at h
  split at h
  case h_2 => cases h
  rename_i t u vk n hts hl
  have hts' : ts = #[t, u] := by cases ts; simp at hts; subst hts; rfl
  subst hts'
  have e1 := litOf_rep hx hl
  subst e1
  cases hs with
  | d hs =>
  cases hs
  split at h
  case h_2 => cases h
  rename_i e ik ht hu
  split at h
  case h_2 => cases h
  rename_i k z hk hz
  split at h
  case isFalse => cases h
  rename_i hc
  obtain ⟨i, hi, hke⟩ := info_of_size hk
  have hzi : i.zero = some z := by simpa [zeroT, hi] using hz
  have hzs : z.cells.size = k := by
    have h' := h
    unfold growTo at h'
    split at h'
    · rename_i hh; simpa [hz] using hh.2.2
    · cases h'
  obtain ⟨z', i', hi', hzi', c1, c2⟩ := grow_info h
  rw [hi] at hi'; cases hi'
  rw [hzi] at hzi'; cases hzi'
  obtain ⟨ι', g1, g2, g3⟩ := grow_sound hm (old := 0) h hk (vs := (Builtin.zeroCells z.cells n.toNat).toList) (by simp [zeroRow, zeroCells_eq, hzs]) (by simp [zeroRow]) (fun j v y hv hy => by
    obtain ⟨v', hv', rfl⟩ := range_map_get _ _ _ _ hy
    rw [zeroCells_eq, hzs, Array.getElem?_toList, hzs.symm] at hv
    rw [hzs.symm] at hv'
    rw [hv'] at hv; cases hv; exact .d (.lit _)) hi hzi
  rw [Array.toArray_toList] at g1 g2 g3
  exact ⟨ι', _, _, run_append_zeros ht hu hi hzi hke hc.2 n hc.1 c1 c2, g1, g2, g3⟩

end
end Go.Vm

end
section
/-
  VALUES WITHOUT ADDRESSES, 8: literals of slices; every operation that calls no Go function is sound.
-/
namespace Go.Vm
open Go.RowKit

theorem splice_cons {α : Type} (cs : List α) (o : Nat) (x : α) (xs : List α) (h : o + (x :: xs).length ≤ cs.length) : splice (cs.set o x) (o + 1) xs = splice cs o (x :: xs) := by
  simp only [List.length_cons] at h
  apply List.ext_getElem?
  intro i
  rw [getElem?_splice _ _ _ (by simp; omega), getElem?_splice _ _ _ (by simp; omega)]
  simp only [List.length_cons]
  by_cases h1 : o + 1 ≤ i ∧ i < o + 1 + xs.length
  · rw [if_pos h1, if_pos (by omega)]
    rw [show i - o = (i - (o + 1)) + 1 by omega]; rfl
  · rw [if_neg h1, List.getElem?_set]
    by_cases h2 : o = i
    · subst h2
      rw [if_pos rfl, if_pos (by omega), if_pos (by omega)]
      simp
    · rw [if_neg h2, if_neg (by omega)]

theorem splice_nil {α : Type} (cs : List α) (o : Nat) : splice cs o [] = cs := by simp [splice]

theorem foldl_set (off : Nat) : ∀ (l : List Value) (k : Nat) (cs : Array Value), off + k + l.length ≤ cs.size →
    ((l.zipIdx k).foldl (fun cs p => cs.setIfInBounds (off + p.2) p.1) cs).toList = splice cs.toList (off + k) l
  | [], k, cs, _ => by simp [splice_nil]
  | v :: l, k, cs, h => by
    simp only [List.zipIdx_cons, List.foldl_cons]
    simp only [List.length_cons] at h
    rw [foldl_set off l (k + 1) _ (by simp; omega)]
    rw [Array.toList_setIfInBounds, ← Nat.add_assoc]
    exact splice_cons _ _ _ _ (by simp; omega)

theorem fill_foldl (off : Nat) (v : Array Value) (cs : Array Value) (h : off + v.size ≤ cs.size) :
    (v.zipIdx.foldl (fun cs (c, j) => cs.setIfInBounds (off + j) c) cs) = (splice cs.toList off v.toList).toArray := by
  apply Array.ext'
  rw [← Array.foldl_toList, Array.toList_zipIdx]
  have := foldl_set off v.toList 0 cs (by simpa using h)
  simpa using this

section
variable {P : Program} {M : Nat → Prop} {W0 w : World} {ι : List Nat} {σ : List VObj}

theorem fillX_sound {F : Nat → Prop} (k : Nat) : ∀ (ps : List (Nat × Value)) (qs : List (Nat × XV)) (cur : Array Value) (cells out : List XV),
    ps.length = qs.length → (∀ (i : Nat) (p : Nat × Value) (q : Nat × XV), ps[i]? = some p → qs[i]? = some q → p.1 = q.1 ∧ XRep w ι F p.2 q.2) →
    cur.size = cells.length → (∀ (i : Nat) (v : Value) (x : XV), cur[i]? = some v → cells[i]? = some x → XRep w ι F v x) → fillX k cells qs = some out →
    ∃ cur', Instr.fill (fun i => some (i * k, k)) cur ps = some cur' ∧ cur'.size = out.length ∧ ∀ (i : Nat) (v : Value) (x : XV), cur'[i]? = some v → out[i]? = some x → XRep w ι F v x
  | [], [], cur, cells, out, _, _, hs, hx, h => by
    simp [fillX] at h; subst h
    exact ⟨cur, rfl, hs, hx⟩
  | [], _ :: _, _, _, _, hl, _, _, _, _ => by simp at hl
  | _ :: _, [], _, _, _, hl, _, _, _, _ => by simp at hl
  | (i, v) :: ps, (j, x) :: qs, cur, cells, out, hl, hp, hs, hx, h => by
    obtain ⟨rfl, hvx⟩ := hp 0 (i, v) (j, x) rfl rfl
    simp only at hvx
    obtain ⟨e1, e2⟩ := cellsX_rep hvx
    simp only [fillX] at h
    split at h
    case isFalse => cases h
    rename_i hc
    have hfit : i * k + (cellsX x).length ≤ cells.length := by omega
    have hsz : (splice cur.toList (i * k) v.cells.toList).length = cur.size := by rw [length_splice _ _ _ (by simp; omega)]; simp
    obtain ⟨cur', k1, k2, k3⟩ := fillX_sound k ps qs (splice cur.toList (i * k) v.cells.toList).toArray (splice cells (i * k) (cellsX x)) out (by simpa using hl)
      (fun n p q h1 h2 => hp (n + 1) p q h1 h2) (by rw [List.size_toArray, hsz, length_splice _ _ _ hfit, hs]) (fun n u y h1 h2 => by
        rw [List.getElem?_toArray, getElem?_splice _ _ _ (by simp; omega)] at h1
        rw [getElem?_splice _ _ _ hfit] at h2
        simp only [Array.length_toList, e1] at h1
        by_cases hin : i * k ≤ n ∧ n < i * k + (cellsX x).length
        · rw [if_pos hin] at h1 h2
          exact e2 _ _ _ (by simpa using h1) h2
        · rw [if_neg hin] at h1 h2
          exact hx n u y (by simpa using h1) h2) h
    refine ⟨cur', ?_, k2, k3⟩
    simp only [Instr.fill]
    rw [if_neg (by simp; omega), fill_foldl _ _ _ (by omega)]
    exact k1

theorem opBuildSlice_sound (hm : Mem M W0 ι σ w) {t : TypeId} {n : Nat} {ps : List (Nat × Value)} {qs : List (Nat × XV)} (hl : ps.length = qs.length)
    (hp : ∀ (i : Nat) (p : Nat × Value) (q : Nat × XV), ps[i]? = some p → qs[i]? = some q → p.1 = q.1 ∧ XRep w ι (Forb M ι σ) p.2 q.2) {r : XV × List VObj}
    (h : opBuildSlice P σ t n qs = some r) :
    ∃ (ι' : List Nat) (w' : World) (v : Value), (Instr.buildSlice t n ps.toArray).run P w = .ok v w' ∧ Mem M W0 ι' r.2 w' ∧ Ext M ι σ w ι' r.2 w' ∧ XRep w' ι' (Forb M ι' r.2) v r.1 := by
  unfold opBuildSlice at h
  split at h
  case h_2 => cases h
  rename_i e hu
  split at h
  case h_2 => cases h
  rename_i k z hk hz
  split at h
  case isFalse => cases h
  rename_i hsmall
  simp only [Option.map_eq_some_iff] at h
  obtain ⟨cells, hf, rfl⟩ := h
  obtain ⟨i, hi, hke⟩ := info_of_size hk
  have hzi : i.zero = some z := by simpa [zeroT, hi] using hz
  have hz2 : ∀ w : World, (zeroValue e).run P w = .ok z w := fun w => by simp [zeroValue, typeInfo, hi, hzi]
  obtain ⟨cur', k1, k2, k3⟩ := fillX_sound k ps qs ((Array.range (n * k)).map (z.cells[· % z.cells.size]!)) (zeroRow z (n * k)) cells hl hp (by simp [zeroRow]) (fun j v x hv hx => by
    obtain ⟨u, hu', rfl⟩ := range_map_get _ _ _ _ hx
    rw [hu'] at hv; cases hv; exact .d (.lit _)) hf
  have hlen : cells.length = n * k := by
    have : ∀ (qs : List (Nat × XV)) (cs out : List XV), fillX k cs qs = some out → out.length = cs.length := by
      intro qs
      induction qs with
      | nil => intro cs out h; simp [fillX] at h; subst h; rfl
      | cons q qs ih =>
        intro cs out h
        obtain ⟨j, x⟩ := q
        simp only [fillX] at h
        split at h
        · rename_i hc; rw [ih _ _ h, length_splice _ _ _ (by omega)]
        · cases h
    rw [this _ _ _ hf]; simp [zeroRow]
  obtain ⟨m1, m2⟩ := hm.push rfl (below_refl _ w) cur' e cells (by omega) (fun j x hx => by
    have hlt : j < cur'.size := by rw [k2]; exact (List.getElem?_eq_some_iff.1 hx).1
    exact ⟨cur'[j], Array.getElem?_eq_getElem hlt, k3 j _ x (Array.getElem?_eq_getElem hlt) hx⟩)
  refine ⟨_, _, .slice (some ⟨w.heap.size, 0, none⟩) n n, ?_, m1, m2, .osl (by simp [hm.len]) (Nat.le_refl _) (Nat.le_refl _) (fun _ => rfl) ⟨e, _, shape_of_heap (Go.heap_alloc_new _ _), by omega⟩⟩
  by_cases hn : n * k = 0
  · have hcells : (Array.range 0).map (z.cells[· % z.cells.size]!) = (Array.range 0).map fun i => ((#[] : Array Value)[i % (#[] : Array Value).size]!) := by
      apply Array.ext <;> simp
    simp only [hn, hcells] at k1
    simp only [Instr.buildSlice, run_underlying hu, sizeOf, typeInfo, hi, hke, Sem.run_bind, Sem.run_pure, Result.andThen_ok, run_program]
    rw [if_neg (by omega)]
    simp only [hn, if_true, Sem.run_bind, Result.andThen_ok, Sem.run_pure, newRow, k1]
    rfl
  · simp only [Instr.buildSlice, run_underlying hu, sizeOf, typeInfo, hi, hke, Sem.run_bind, Sem.run_pure, Result.andThen_ok, run_program]
    rw [if_neg (by omega)]
    simp only [Sem.run_bind, Result.andThen_ok, Sem.run_pure, if_neg hn, newRow, hz2, k1]
    rfl

theorem aggCells_rep {F : Nat → Prop} {v : Value} {x : XV} {cs : List XV} (hx : XRep w ι F v x) (h : aggCells x = some cs) :
    ∃ vs, v = .agg vs ∧ vs.size = cs.length ∧ ∀ (i : Nat) (u : Value) (y : XV), vs[i]? = some u → cs[i]? = some y → XRep w ι F u y := by
  unfold aggCells at h
  split at h
  · cases h
    cases hx with
    | agg hn hx => exact ⟨_, rfl, hn, hx⟩
  · cases h
    cases hx with
    | d hx => cases hx with
      | agg hn hx =>
        refine ⟨_, rfl, by simpa using hn, fun i u y hu hy => ?_⟩
        simp only [List.getElem?_map, Option.map_eq_some_iff] at hy
        obtain ⟨z, hz, rfl⟩ := hy
        exact .d (hx i u z hu hz)
  · cases h
    cases hx with
    | d hx => cases hx with
      | lit =>
        refine ⟨_, rfl, by simp, fun i u y hu hy => ?_⟩
        simp only [List.getElem?_map, Array.getElem?_toList, hu, Option.map_some, Option.some.injEq] at hy
        subst hy
        exact .d (.lit _)
  · cases h

theorem part_sound {F : Nat → Prop} {t : TypeId} {off : Nat} {vs : Array Value} {cs : List XV} (hn : vs.size = cs.length) (hx : ∀ (i : Nat) (u : Value) (y : XV), vs[i]? = some u → cs[i]? = some y → XRep w ι F u y)
    {r : XV} (h : takeVar P t (cs.drop off) = some r) : ∃ u, (part t vs off).run P w = .ok u w ∧ XRep w ι F u r := by
  unfold takeVar at h
  split at h
  · rename_i n ha hs
    split at h
    · rename_i hle
      cases h
      refine ⟨.agg (vs.extract off (off + n)), ?_, aggX_rep ?_ fun i v x hv hx' => ?_⟩
      · unfold part
        simp [Sem.run_bind, underlying_of_isAggT ha, run_sizeOf' hs]
      · simp at hle ⊢; omega
      · rw [Array.getElem?_extract] at hv
        split at hv
        · rw [List.getElem?_take] at hx'
          split at hx'
          · rw [List.getElem?_drop] at hx'
            exact hx _ _ _ hv hx'
          · cases hx'
        · cases hv
    · cases h
  · rename_i ha
    rw [List.head?_drop] at h
    have hlt : off < vs.size := by rw [hn]; exact (List.getElem?_eq_some_iff.1 h).1
    refine ⟨vs[off], ?_, hx off _ r (Array.getElem?_eq_getElem hlt) h⟩
    unfold part
    simp [Sem.run_bind, underlying_of_isAggT ha, Array.getElem?_eq_getElem hlt]
  · cases h

theorem fieldT_some {t : TypeId} {f : Nat} {fd : Field} (h : fieldT P t f = some fd) : ∃ fs, P.underlying t = some (.struct fs) ∧ fs[f]? = some fd := by
  unfold fieldT at h
  split at h
  · rename_i fs hu; exact ⟨fs, hu, h⟩
  · cases h

theorem opField_sound {F : Nat → Prop} {t : TypeId} {v : Value} {x r : XV} {f : Nat} (hx : XRep w ι F v x) (h : opField P t x f = some r) : ∃ u, (Instr.field t v f).run P w = .ok u w ∧ XRep w ι F u r := by
  unfold opField at h
  split at h
  case h_2 => cases h
  rename_i fd cs hf hc
  obtain ⟨fs, hu, hfs⟩ := fieldT_some hf
  obtain ⟨vs, rfl, hn, hr⟩ := aggCells_rep hx hc
  obtain ⟨u, k1, k2⟩ := part_sound (P := P) hn hr h
  refine ⟨u, ?_, k2⟩
  simp [Instr.field, run_underlying hu, hfs, asAgg, k1]

theorem opIndex_sound {F : Nat → Prop} {t : TypeId} {v vi : Value} {x i r : XV} (hx : XRep w ι F v x) (hi : XRep w ι F vi i) (h : opIndex P t x i = some r) : ∃ u, (Instr.index t v vi).run P w = .ok u w ∧ XRep w ι F u r := by
  unfold opIndex at h
  split at h
  case h_2 => cases h
  rename_i k n len e cs hl hu hc
  have hvi := litOf_rep hi hl
  subst hvi
  split at h
  case h_2 => cases h
  rename_i sz hs
  split at h
  case isFalse => cases h
  rename_i hb
  obtain ⟨vs, rfl, hn, hr⟩ := aggCells_rep hx hc
  obtain ⟨u, k1, k2⟩ := part_sound (P := P) hn hr h
  refine ⟨u, ?_, k2⟩
  simp [Instr.index, asIntOf, run_underlying hu, run_sizeOf' hs, hb.1, hb.2, k1]

theorem opFieldAddr_sound {F : Nat → Prop} {t : TypeId} {v : Value} {x r : XV} {f : Nat} (hx : XRep w ι F v x) (h : opFieldAddr P t x f = some r) : ∃ u, (Instr.fieldAt t v f).run P w = .ok u w ∧ XRep w ι F u r := by
  unfold opFieldAddr at h
  split at h
  case h_2 => cases h
  rename_i fd hf
  obtain ⟨fs, hu, hfs⟩ := fieldT_some hf
  split at h
  case h_2 => cases h
  rename_i k hs
  split at h
  · rename_i cs
    cases h
    cases hx with
    | d hx => cases hx with
      | @ptr a _ vs hn ha hcell hxx =>
        refine ⟨.pointer (some (a.add fd.offset)), ?_, .d ?_⟩
        · simp [Instr.fieldAt, run_underlying hu, hfs, Instr.sureAddr, fieldPlace, run_sizeOf' hs]
        · by_cases hne : cs.drop fd.offset = []
          · rw [hne]
            exact .ptr [] rfl (fun h => absurd rfl h) (fun i v h => by simp at h) (fun i v x h => by simp at h)
          · have hne0 : cs ≠ [] := by intro e; subst e; simp at hne
            obtain ⟨hsp, hf⟩ := ha hne0
            rw [addr_eta hsp, add_lit']
            refine .ptr (vs.drop fd.offset) (by simp [hn]) (fun _ => ⟨rfl, hf⟩) (fun i v hv => ?_) (fun i v x hv hx => ?_)
            · rw [List.getElem?_drop] at hv
              have := hcell _ _ hv
              simpa [Nat.add_assoc] using this
            · rw [List.getElem?_drop] at hv hx
              exact hxx _ _ _ hv hx
  · cases h
    cases hx with
    | optr hb =>
      refine ⟨_, ?_, .optr hb⟩
      simp [Instr.fieldAt, run_underlying hu, hfs, Instr.sureAddr, fieldPlace, run_sizeOf' hs, add_lit']
  · cases h

theorem fillP_sound {F : Nat → Prop} (place : Nat → Option (Nat × Nat)) : ∀ (ps : List (Nat × Value)) (qs : List (Nat × XV)) (cur : Array Value) (cells out : List XV),
    ps.length = qs.length → (∀ (i : Nat) (p : Nat × Value) (q : Nat × XV), ps[i]? = some p → qs[i]? = some q → p.1 = q.1 ∧ XRep w ι F p.2 q.2) →
    cur.size = cells.length → (∀ (i : Nat) (v : Value) (x : XV), cur[i]? = some v → cells[i]? = some x → XRep w ι F v x) → fillP place cells qs = some out →
    ∃ cur', Instr.fill place cur ps = some cur' ∧ cur'.size = out.length ∧ ∀ (i : Nat) (v : Value) (x : XV), cur'[i]? = some v → out[i]? = some x → XRep w ι F v x
  | [], [], cur, cells, out, _, _, hs, hx, h => by
    simp [fillP] at h; subst h
    exact ⟨cur, rfl, hs, hx⟩
  | [], _ :: _, _, _, _, hl, _, _, _, _ => by simp at hl
  | _ :: _, [], _, _, _, hl, _, _, _, _ => by simp at hl
  | (i, v) :: ps, (j, x) :: qs, cur, cells, out, hl, hp, hs, hx, h => by
    obtain ⟨rfl, hvx⟩ := hp 0 (i, v) (j, x) rfl rfl
    simp only at hvx
    obtain ⟨e1, e2⟩ := cellsX_rep hvx
    simp only [fillP] at h
    split at h
    case h_2 => cases h
    rename_i off k hpl
    split at h
    case isFalse => cases h
    rename_i hc
    have hfit : off + (cellsX x).length ≤ cells.length := by omega
    have hsz : (splice cur.toList off v.cells.toList).length = cur.size := by rw [length_splice _ _ _ (by simp; omega)]; simp
    obtain ⟨cur', k1, k2, k3⟩ := fillP_sound place ps qs (splice cur.toList off v.cells.toList).toArray (splice cells off (cellsX x)) out (by simpa using hl)
      (fun n p q h1 h2 => hp (n + 1) p q h1 h2) (by rw [List.size_toArray, hsz, length_splice _ _ _ hfit, hs]) (fun n u y h1 h2 => by
        rw [List.getElem?_toArray, getElem?_splice _ _ _ (by simp; omega)] at h1
        rw [getElem?_splice _ _ _ hfit] at h2
        simp only [Array.length_toList, e1] at h1
        by_cases hin : off ≤ n ∧ n < off + (cellsX x).length
        · rw [if_pos hin] at h1 h2
          exact e2 _ _ _ (by simpa using h1) h2
        · rw [if_neg hin] at h1 h2
          exact hx n u y (by simpa using h1) h2) h
    refine ⟨cur', ?_, k2, k3⟩
    simp only [Instr.fill, hpl]
    rw [if_neg (by simp; omega), fill_foldl _ _ _ (by omega)]
    exact k1

theorem opBuild_sound {F : Nat → Prop} {t : TypeId} {ps : List (Nat × Value)} {qs : List (Nat × XV)} (hl : ps.length = qs.length)
    (hp : ∀ (i : Nat) (p : Nat × Value) (q : Nat × XV), ps[i]? = some p → qs[i]? = some q → p.1 = q.1 ∧ XRep w ι F p.2 q.2) {r : XV}
    (h : opBuild P t qs = some r) : ∃ v, (Instr.build t ps.toArray).run P w = .ok v w ∧ XRep w ι F v r := by
  unfold opBuild at h
  split at h
  case h_2 => cases h
  rename_i z hz
  obtain ⟨i, hi, hzi⟩ := info_of_zero hz
  have hz2 : (zeroValue t).run P w = .ok z w := by simp [zeroValue, typeInfo, hi, hzi]
  have h0 : ∀ (i : Nat) (v : Value) (x : XV), z.cells[i]? = some v → (z.cells.toList.map fun v => XV.d (.lit v))[i]? = some x → XRep w ι F v x := fun i v x hv hx => by
    simp only [List.getElem?_map, Array.getElem?_toList, hv, Option.map_some, Option.some.injEq] at hx
    subst hx
    exact .d (.lit _)
  split at h
  · rename_i fs hu
    split at h
    case h_2 => cases h
    rename_i pl hpl
    simp only [Option.map_eq_some_iff] at h
    obtain ⟨out, ho, rfl⟩ := h
    obtain ⟨cur', k1, k2, k3⟩ := fillP_sound _ ps qs z.cells _ out hl hp (by simp) h0 ho
    refine ⟨.agg cur', ?_, aggX_rep k2 k3⟩
    have hpl' := pureRun_ok hpl w
    simp only [Instr.build, Sem.run_bind, hz2, Result.andThen_ok, run_underlying hu, hpl', k1]
    rfl
  · rename_i n e hu
    split at h
    case h_2 => cases h
    rename_i k hk
    simp only [Option.map_eq_some_iff] at h
    obtain ⟨out, ho, rfl⟩ := h
    obtain ⟨cur', k1, k2, k3⟩ := fillP_sound _ ps qs z.cells _ out hl hp (by simp) h0 ho
    refine ⟨.agg cur', ?_, aggX_rep k2 k3⟩
    simp only [Instr.build, Sem.run_bind, hz2, Result.andThen_ok, run_underlying hu, run_sizeOf' hk, k1]
    rfl
  · cases h

theorem run_v {s : Sem Value} {u : Value} {w' : World} (h : s.run P w = .ok u w') : ((do pure (.value (← s)) : Sem Next)).run P w = .ok (.value u) w' := by
  simp [h]

theorem run_u {s : Sem Unit} {w' : World} (h : s.run P w = .ok () w') : ((do s; pure .skip : Sem Next)).run P w = .ok .skip w' := by
  simp [h]

set_option maxHeartbeats 1000000 in
/-- EVERY OPERATION THAT CALLS NO Go FUNCTION IS SOUND. -/
theorem evalOp_sound {a : Act} {s : St} {o : Oper} {r : XV × List VObj × Nat} (hm : Mem M W0 ι s.σ w) (he : ∀ t, XRep w ι (Forb M ι s.σ) (a.tmps.getD t undef) (s.env t))
    (h : evalOp P o s = some r) : Good P M W0 ι s.σ w (execOp a.eval o) r.1 r.2.1 := by
  unfold evalOp at h
  split at h
  · rename_i v hv
    cases h
    exact litOp_sound hm he hv
  · have hx := fun x => evalX_rep (a := a) he x
    obtain ⟨dst, op, type, pos, after, guard⟩ := o
    simp only at h
    split at h
    · cases h; exact .pure hm (v := a.eval _) (by simp [execOp]) (hx _)
    · cases h; exact .pure hm (v := a.eval _) (by simp [execOp]) (hx _)
    · rename_i c x y _
      split at h
      · rename_i t hl
        cases h
        have := litOf_rep (hx c) hl
        refine .pure hm (v := if t then a.eval x else a.eval y) ?_ ?_
        · simp [execOp, this, asBool]
        · cases t <;> simp [hx]
      · cases h
    · simp only [Option.map_eq_some_iff] at h
      obtain ⟨q, hq, rfl⟩ := h
      obtain ⟨ι', w', v, k1, k2, k3, k4⟩ := opAlloc_sound hm hq
      exact ⟨ι', w', v, .inl (run_v k1), k2, k3, k4⟩
    · cases h
      obtain ⟨ι', w', v, k1, k2, k3, k4⟩ := opBox_sound (P := P) hm (hx _)
      exact ⟨ι', w', v, .inl (run_v k1), k2, k3, k4⟩
    · simp only [Option.map_eq_some_iff] at h
      obtain ⟨q, hq, rfl⟩ := h
      obtain ⟨u, k1, k2⟩ := opLoad_sound hm (hx _) hq
      exact .pure hm (run_v k1) k2
    · simp only [Option.map_eq_some_iff] at h
      obtain ⟨q, hq, rfl⟩ := h
      obtain ⟨ι', w', k1, k2, k3⟩ := opStore_sound hm (hx _) (hx _) hq
      exact ⟨ι', w', undef, .inr ⟨run_u k1, rfl⟩, k2, k3, .d (.lit _)⟩
    · split at h
      · rename_i q hq
        cases h
        obtain ⟨u, k1, k2⟩ := opEqNil_sound (P := P) (hx _) (hx _) hq
        exact .pure hm (run_v k1) k2
      · simp only [Option.map_eq_some_iff] at h
        obtain ⟨q, hq, rfl⟩ := h
        exact .pure hm (run_v (opBin2_sound (P := P) (hx _) (hx _) hq)) (.d (.lit _))
    · cases h
      rename_i f first caps _
      refine .pure hm (v := .func f (first.map a.eval) (caps.map a.eval)) (by simp [execOp, Instr.makeFunc]) (.fn (by simp) (fun i v x hv hx' => ?_) (by simp) (fun i v x hv hx' => ?_))
      · simp only [Array.getElem?_map, Option.map_eq_some_iff, List.getElem?_map, Array.getElem?_toList] at hv hx'
        obtain ⟨p, hp, rfl⟩ := hv
        obtain ⟨q, hq, rfl⟩ := hx'
        rw [hp] at hq; cases hq; exact hx _
      · simp only [Array.getElem?_map, Option.map_eq_some_iff, List.getElem?_map, Array.getElem?_toList] at hv hx'
        obtain ⟨p, hp, rfl⟩ := hv
        obtain ⟨q, hq, rfl⟩ := hx'
        rw [hp] at hq; cases hq; exact hx _
    · simp only [Option.map_eq_some_iff] at h
      obtain ⟨q, hq, rfl⟩ := h
      obtain ⟨ι', w', v, k1, k2, k3, k4⟩ := opMakeSlice_sound hm (hx _) (hx _) hq
      exact ⟨ι', w', v, .inl (run_v k1), k2, k3, k4⟩
    · split at h
      · rename_i q hq
        cases h
        obtain ⟨u, k1, k2⟩ := opSlice_sound (P := P) he _ _ _ _ hq
        exact .pure hm (run_v k1) k2
      · simp only [Option.map_eq_some_iff] at h
        obtain ⟨q, hq, rfl⟩ := h
        obtain ⟨u, k1, k2⟩ := opSliceA_sound (P := P) hm he _ _ _ _ hq
        exact .pure hm (run_v k1) k2
    · simp only [Option.map_eq_some_iff] at h
      obtain ⟨q, hq, rfl⟩ := h
      obtain ⟨u, k1, k2⟩ := opIndexAddr_sound (P := P) (hx _) (hx _) hq
      exact .pure hm (run_v k1) k2
    · simp only [Option.map_eq_some_iff] at h
      obtain ⟨q, hq, rfl⟩ := h
      obtain ⟨u, k1, k2⟩ := opField_sound (P := P) (hx _) hq
      exact .pure hm (run_v k1) k2
    · simp only [Option.map_eq_some_iff] at h
      obtain ⟨q, hq, rfl⟩ := h
      obtain ⟨u, k1, k2⟩ := opIndex_sound (P := P) (hx _) (hx _) hq
      exact .pure hm (run_v k1) k2
    · simp only [Option.map_eq_some_iff] at h
      obtain ⟨q, hq, rfl⟩ := h
      obtain ⟨u, k1, k2⟩ := opFieldAddr_sound (P := P) (hx _) hq
      exact .pure hm (run_v k1) k2
    · simp only [Option.map_eq_some_iff] at h
      obtain ⟨q, hq, rfl⟩ := h
      rename_i t parts _
      obtain ⟨u, k1, k2⟩ := opBuild_sound (P := P) (ps := (parts.map fun p => (p.1, a.eval p.2)).toList) (by simp) (fun i p q hp hq' => by
        simp only [Array.toList_map, List.getElem?_map, Option.map_eq_some_iff] at hp hq'
        obtain ⟨p', hp', rfl⟩ := hp
        obtain ⟨q', hq'', rfl⟩ := hq'
        rw [hp'] at hq''; cases hq''; exact ⟨rfl, hx _⟩) hq
      exact .pure hm (run_v (by rw [Array.toArray_toList] at k1; exact k1)) k2
    · simp only [Option.map_eq_some_iff] at h
      obtain ⟨q, hq, rfl⟩ := h
      obtain ⟨u, k1, k2⟩ := opExtract_sound (P := P) (hx _) hq
      exact .pure hm (run_v k1) k2
    · simp only [Option.map_eq_some_iff] at h
      obtain ⟨q, hq, rfl⟩ := h
      rename_i t n parts _
      obtain ⟨ι', w', v, k1, k2, k3, k4⟩ := opBuildSlice_sound hm (ps := (parts.map fun p => (p.1, a.eval p.2)).toList) (by simp) (fun i p q hp hq' => by
        simp only [Array.toList_map, List.getElem?_map, Option.map_eq_some_iff] at hp hq'
        obtain ⟨p', hp', rfl⟩ := hp
        obtain ⟨q', hq'', rfl⟩ := hq'
        rw [hp'] at hq''; cases hq''; exact ⟨rfl, hx _⟩) hq
      exact ⟨ι', w', v, .inl (run_v (by rw [Array.toArray_toList] at k1; exact k1)), k2, k3, k4⟩
    · rename_i args argTypes _
      split at h
      · rename_i x hargs
        simp only [Option.map_eq_some_iff] at h
        obtain ⟨q, hq, rfl⟩ := h
        obtain ⟨u, k1, k2⟩ := opLen_sound (P := P) (ty := type) (hx _) hq
        have ha : args = #[x] := by cases args; simp at hargs; subst hargs; rfl
        subst ha
        refine .pure hm (v := u) ?_ k2
        simp [execOp, resolve, invoke, builtin, k1]
      · cases h
    · rename_i args argTypes _
      split at h
      · rename_i x hargs
        simp only [Option.map_eq_some_iff] at h
        obtain ⟨q, hq, rfl⟩ := h
        obtain ⟨u, k1, k2⟩ := opCap_sound (P := P) (ty := type) (hx _) hq
        have ha : args = #[x] := by cases args; simp at hargs; subst hargs; rfl
        subst ha
        refine .pure hm (v := u) ?_ k2
        simp [execOp, resolve, invoke, builtin, k1]
      · cases h
    · rename_i args argTypes _
      split at h
      · rename_i x y hargs
        have ha : args = #[x, y] := by cases args; simp at hargs; subst hargs; rfl
        subst ha
        split at h
        · rename_i q hq
          cases h
          obtain ⟨ι', w', v, k1, k2, k3, k4⟩ := opAppend_sound (P := P) (ty := type) hm (hx _) (hx _) hq
          refine ⟨ι', w', v, .inl ?_, k2, k3, k4⟩
          simp [execOp, resolve, invoke, builtin, k1]
        · simp only [Option.map_eq_some_iff] at h
          obtain ⟨q, hq, rfl⟩ := h
          obtain ⟨ι', w', v, k1, k2, k3, k4⟩ := opAppendZ_sound (P := P) (ty := type) hm (hx _) (hx _) hq
          refine ⟨ι', w', v, .inl ?_, k2, k3, k4⟩
          simp [execOp, resolve, invoke, builtin, k1]
      · cases h
    · rename_i args argTypes _
      split at h
      · rename_i x y hargs
        have ha : args = #[x, y] := by cases args; simp at hargs; subst hargs; rfl
        subst ha
        simp only [Option.map_eq_some_iff] at h
        obtain ⟨q, hq, rfl⟩ := h
        obtain ⟨ι', w', v, k1, k2, k3, k4⟩ := opCopy_sound (P := P) (ty := type) hm (hx _) (hx _) hq
        refine ⟨ι', w', v, .inl ?_, k2, k3, k4⟩
        simp [execOp, resolve, invoke, builtin, k1]
      · cases h
    · simp only [Option.map_eq_some_iff] at h
      obtain ⟨q, hq, rfl⟩ := h
      exact opExt_sound hm he hq
    · cases h

end
end Go.Vm

end
section
/-
  VALUES WITHOUT ADDRESSES, 9: calls, and lists of operations in the text's order.
-/
namespace Go.Vm
open Go.RowKit

/-- THE CONTRACT OF A FUNCTION ON DEEP VALUES: in whatever world the arguments stand for args, the call returns what stands for res, and nothing that was there has turned. -/
def DeepCall (P : Program) (f : FuncId) (args : List DV) (res : DV) : Prop :=
  ∀ (M : Nat → Prop) (w : World) (vs : List Value), (∀ b, M b → b < w.heap.size) → vs.length = args.length → (∀ (i : Nat) (v : Value) (x : DV), vs[i]? = some v → args[i]? = some x → DRep w M v x) →
    Calls P f vs.toArray w fun e w' => ∃ v, e = .returned v ∧ DRep w' M v res ∧ Below w.heap.size w w'

/-- The same among objects of the caller's own, which the call may write. -/
def InCall (P : Program) (M : Nat → Prop) (W0 : World) (f : FuncId) (σ : List VObj) (args : List XV) (Q : List VObj → XV → Prop) : Prop :=
  ∀ (ι : List Nat) (w : World) (vs : List Value), Mem M W0 ι σ w → vs.length = args.length → (∀ (i : Nat) (v : Value) (x : XV), vs[i]? = some v → args[i]? = some x → XRep w ι (Forb M ι σ) v x) →
    Calls P f vs.toArray w fun e w' => ∃ (ι' : List Nat) (σ' : List VObj) (x : XV) (v : Value), e = .returned v ∧ Mem M W0 ι' σ' w' ∧ Ext M ι σ w ι' σ' w' ∧ XRep w' ι' (Forb M ι' σ') v x ∧ Q σ' x

def freezeIds (σ : List VObj) (ids : List Nat) : List VObj := σ.mapIdx fun i o => if ids.contains i && o.mode == 0 then ⟨o.cells, 1⟩ else if ids.contains i && o.mode == 3 then ⟨o.cells, 4⟩ else o

def freezeAll (σ : List VObj) : List VObj := σ.map fun o => if o.mode == 0 then ⟨o.cells, 1⟩ else if o.mode == 3 then ⟨o.cells, 4⟩ else o

/-- The key and the value of an entry. -/
def entOf : XV → Option (Value × XV)
  | .tup [.d (.lit k), x] => some (k, x)
  | _ => none

/-- A value with the objects that it refers to written out: they are no longer written. -/
def deepen (σ : List VObj) : Nat → XV → Option DV
  | 0, _ => none
  | n + 1, x => match x with
    | .d x => some x
    | .osl id off len k lo ex => match σ[id]? with
      | some ob => if ob.mode = 1 ∧ off + len * k ≤ ob.cells.length then
          (((ob.cells.drop off).take (len * k)).mapM (deepen σ n)).map fun cs => .sl cs len (if ex then some lo else none) else none
      | none => none
    | .optr id off => match σ[id]? with
      | some ob => if ob.mode = 1 then ((ob.cells.drop off).mapM (deepen σ n)).map .ptr else none
      | none => none
    | .tup xs => (xs.mapM (deepen σ n)).map .tup
    | .agg xs => (xs.mapM (deepen σ n)).map .agg
    | .fn f a b => match a.mapM (deepen σ n), b.mapM (deepen σ n) with
      | some a, some b => some (.fn f a b)
      | _, _ => none
    | .ifc t x => (deepen σ n x).map (.ifc t)
    | .omp id => match σ[id]? with
      | some ob => if ob.mode = 4 then match ob.cells.mapM entOf with
          | some es => ((es.map (·.2)).mapM (deepen σ n)).map (.mp (es.map (·.1)))
          | none => none
        else none
      | none => none
    | .yl _ => none
    | .lp _ => none

theorem mapM_get {α β : Type} {f : α → Option β} : ∀ {l : List α} {r : List β}, l.mapM f = some r → l.length = r.length ∧ ∀ (i : Nat) (x : α) (y : β), l[i]? = some x → r[i]? = some y → f x = some y
  | [], r, h => by simp at h; subst h; exact ⟨rfl, fun i x y h => by simp at h⟩
  | a :: l, r, h => by
    rw [List.mapM_cons] at h
    cases hfa : f a with
    | none => rw [hfa] at h; simp at h
    | some b =>
      cases hl : l.mapM f with
      | none => rw [hfa, hl] at h; simp at h
      | some bs =>
        rw [hfa, hl] at h
        simp at h
        subst h
        obtain ⟨h1, h2⟩ := mapM_get hl
        refine ⟨by simp [h1], fun i x y hx hy => ?_⟩
        cases i with
        | zero => simp at hx hy; subst hx; subst hy; exact hfa
        | succ i => exact h2 i x y (by simpa using hx) (by simpa using hy)

section
variable {P : Program} {M : Nat → Prop} {W0 w : World} {ι : List Nat} {σ : List VObj}

theorem Mem.calm (hm : Mem M W0 ι σ w) {id b : Nat} {ob : VObj} (ho : σ[id]? = some ob) (hb : ι[id]? = some b) (h1 : ob.mode = 1 ∨ ob.mode = 4) : ¬ Forb M ι σ b := by
  rintro (h | ⟨j, oj, h2, h3, h4⟩)
  · have := hm.outer b h; have := (hm.fresh _ _ hb).1; omega
  · by_cases e : j = id
    · subst e; rw [ho] at h2; cases h2; simp only [Wr] at h4; omega
    · exact hm.apart j id oj ob b b e h2 ho h3 hb h4 (by omega) rfl

theorem deepen_sound (hm : Mem M W0 ι σ w) : ∀ (n : Nat) (v : Value) (x : XV) (y : DV), XRep w ι (Forb M ι σ) v x → deepen σ n x = some y → DRep w (Forb M ι σ) v y
  | 0, _, _, _, _, h => by simp [deepen] at h
  | n + 1, v, x, y, hx, h => by
    have ih := deepen_sound hm n
    cases hx with
    | d hx => simp [deepen] at h; subst h; exact hx
    | @osl b off len cap id k lo ex hb hl hlo hex hs =>
      simp only [deepen] at h
      split at h
      · rename_i ob ho
        split at h
        · rename_i hc
          simp only [Option.map_eq_some_iff] at h
          obtain ⟨cs, hcs, rfl⟩ := h
          obtain ⟨h1, h2⟩ := mapM_get hcs
          obtain ⟨cur, ty, k1, k2, hce⟩ := hm.cells ho hb (by omega)
          have hce' := (hce.drop off).take (len * k)
          refine .sl _ (by omega) (fun c hc' => ?_) (hce'.len.trans h1) (fun _ => ⟨rfl, hm.calm ho hb (.inl hc.1)⟩) (fun i v hv => by simpa using hce'.cell i v hv) (fun i v x hv hx => ?_)
          · cases ex with
            | true => simp at hc'; rw [hex rfl, hc']
            | false => simp at hc'
          · have hlt : i < ((ob.cells.drop off).take (len * k)).length := by rw [h1]; exact (List.getElem?_eq_some_iff.1 hx).1
            exact ih _ _ _ (hce'.rep i v _ hv (List.getElem?_eq_getElem hlt)) (h2 i _ x (List.getElem?_eq_getElem hlt) hx)
        · cases h
      · cases h
    | @optr b off id hb =>
      simp only [deepen] at h
      split at h
      · rename_i ob ho
        split at h
        · rename_i hc
          simp only [Option.map_eq_some_iff] at h
          obtain ⟨cs, hcs, rfl⟩ := h
          obtain ⟨h1, h2⟩ := mapM_get hcs
          obtain ⟨cur, ty, k1, k2, hce⟩ := hm.cells ho hb (by omega)
          have hce' := hce.drop off
          refine .ptr _ (hce'.len.trans h1) (fun _ => ⟨rfl, hm.calm ho hb (.inl hc)⟩) (fun i v hv => by simpa using hce'.cell i v hv) (fun i v x hv hx => ?_)
          have hlt : i < (ob.cells.drop off).length := by rw [h1]; exact (List.getElem?_eq_some_iff.1 hx).1
          exact ih _ _ _ (hce'.rep i v _ hv (List.getElem?_eq_getElem hlt)) (h2 i _ x (List.getElem?_eq_getElem hlt) hx)
        · cases h
      · cases h
    | tup hn hxx =>
      simp only [deepen, Option.map_eq_some_iff] at h
      obtain ⟨cs, hcs, rfl⟩ := h
      obtain ⟨h1, h2⟩ := mapM_get hcs
      refine .tup (hn.trans h1) (fun i v x hv hx => ?_)
      have hlt : i < _ := (List.getElem?_eq_some_iff.1 hx).1
      rw [← h1] at hlt
      exact ih _ _ _ (hxx i v _ hv (List.getElem?_eq_getElem hlt)) (h2 i _ x (List.getElem?_eq_getElem hlt) hx)
    | agg hn hxx =>
      simp only [deepen, Option.map_eq_some_iff] at h
      obtain ⟨cs, hcs, rfl⟩ := h
      obtain ⟨h1, h2⟩ := mapM_get hcs
      refine .agg (hn.trans h1) (fun i v x hv hx => ?_)
      have hlt : i < _ := (List.getElem?_eq_some_iff.1 hx).1
      rw [← h1] at hlt
      exact ih _ _ _ (hxx i v _ hv (List.getElem?_eq_getElem hlt)) (h2 i _ x (List.getElem?_eq_getElem hlt) hx)
    | fn hn hxx hm' hyy =>
      simp only [deepen] at h
      split at h
      · rename_i a' b' ha hb
        cases h
        obtain ⟨h1, h2⟩ := mapM_get ha
        obtain ⟨h3, h4⟩ := mapM_get hb
        refine .fn (hn.trans h1) (fun i v x hv hx => ?_) (hm'.trans h3) (fun i v x hv hx => ?_)
        · have hlt : i < _ := (List.getElem?_eq_some_iff.1 hx).1
          rw [← h1] at hlt
          exact ih _ _ _ (hxx i v _ hv (List.getElem?_eq_getElem hlt)) (h2 i _ x (List.getElem?_eq_getElem hlt) hx)
        · have hlt : i < _ := (List.getElem?_eq_some_iff.1 hx).1
          rw [← h3] at hlt
          exact ih _ _ _ (hyy i v _ hv (List.getElem?_eq_getElem hlt)) (h4 i _ x (List.getElem?_eq_getElem hlt) hx)
      · cases h
    | ifc hxx =>
      simp only [deepen, Option.map_eq_some_iff] at h
      obtain ⟨cs, hcs, rfl⟩ := h
      exact .ifc (ih _ _ _ hxx hcs)
    | @omp b id hb =>
      simp only [deepen] at h
      split at h
      · rename_i ob ho
        split at h
        · rename_i hc
          split at h
          · rename_i es hes
            simp only [Option.map_eq_some_iff] at h
            obtain ⟨cs, hcs, rfl⟩ := h
            obtain ⟨h1, h2⟩ := mapM_get hes
            obtain ⟨h3, h4⟩ := mapM_get hcs
            rcases hm.spec id ob b ho hb (by omega) with ⟨_, en, clock, k1, k2, k3⟩ | ⟨e, _⟩ | ⟨e, _⟩
            · have hent : ∀ (i : Nat) (e : MapEntry), en[i]? = some e → ∃ p, es[i]? = some p ∧ p.1 = e.key ∧ XRep w ι (Forb M ι σ) e.val p.2 := fun i e he => by
                have hlt : i < ob.cells.length := by rw [← k2]; exact (Array.getElem?_eq_some_iff.1 he).1
                obtain ⟨x, e1, e2⟩ := k3 i e _ he (List.getElem?_eq_getElem hlt)
                have hlt2 : i < es.length := by rw [← h1]; exact hlt
                have e3 := h2 i _ _ (List.getElem?_eq_getElem hlt) (List.getElem?_eq_getElem hlt2)
                rw [e1] at e3
                simp only [entOf, Option.some.injEq] at e3
                exact ⟨_, List.getElem?_eq_getElem hlt2, by rw [← e3], by rw [← e3]; exact e2⟩
              refine .mp (es := en) (clock := clock) _ (hm.calm ho hb (.inr hc)) k1 ?_ (by simp at h3; omega) (fun i e x he hx => ?_)
              · apply List.ext_getElem?
                intro i
                cases he : en[i]? with
                | none =>
                  have : en.size ≤ i := by simpa using he
                  rw [List.getElem?_eq_none (by simp; omega), List.getElem?_eq_none (by simp; omega)]
                | some e =>
                  obtain ⟨p, p1, p2, _⟩ := hent i e he
                  simp [he, p1, p2]
              · obtain ⟨p, p1, p2, p3⟩ := hent i e he
                exact ih _ _ _ p3 (h4 i p.2 x (by simp [p1]) hx)
            · omega
            · omega
          · cases h
        · cases h
      · cases h
    | yl hb => simp [deepen] at h

theorem freezeIds_tamed (hm : Mem M W0 ι σ w) (ids : List Nat) : Mem M W0 ι (freezeIds σ ids) w ∧ Ext M ι σ w ι (freezeIds σ ids) w :=
  hm.tamed (by simp [freezeIds]) (fun id o' h => by
    simp only [freezeIds, List.getElem?_mapIdx, Option.map_eq_some_iff] at h
    obtain ⟨o, ho, rfl⟩ := h
    refine ⟨o, ho, ?_⟩
    split
    · rename_i hc
      simp at hc
      refine ⟨rfl, .inr (.inr (.inl ⟨by omega, rfl⟩))⟩
    · split
      · rename_i hc
        simp at hc
        refine ⟨rfl, .inr (.inr (.inr ⟨by omega, rfl⟩))⟩
      · exact ⟨rfl, .inl rfl⟩)

theorem freezeAll_tamed (hm : Mem M W0 ι σ w) : Mem M W0 ι (freezeAll σ) w ∧ Ext M ι σ w ι (freezeAll σ) w :=
  hm.tamed (by simp [freezeAll]) (fun id o' h => by
    simp only [freezeAll, List.getElem?_map, Option.map_eq_some_iff] at h
    obtain ⟨o, ho, rfl⟩ := h
    refine ⟨o, ho, ?_⟩
    split
    · rename_i hc
      simp at hc
      refine ⟨rfl, .inr (.inr (.inl ⟨by omega, rfl⟩))⟩
    · split
      · rename_i hc
        simp at hc
        refine ⟨rfl, .inr (.inr (.inr ⟨by omega, rfl⟩))⟩
      · exact ⟨rfl, .inl rfl⟩)

/-- A world that has grown by a call. -/
theorem Mem.grown (hm : Mem M W0 ι σ w) {w' : World} (hb : Below w.heap.size w w') : Mem M W0 ι σ w' ∧ Ext M ι σ w ι σ w' := by
  have hext : Ext M ι σ w ι σ w' := ext_of_grown (fun _ _ h => h) (fun b h => hb.block b h) hb.size (fun _ _ h => h)
  refine ⟨⟨hm.len, fun id o b h1 h2 h3 => ?_, fun id o b h1 h2 h3 => (hm.spec id o b h1 h2 h3).ext hext (hb.block b (hm.fresh _ _ h2).2), fun id b h => ?_, hm.apart, hm.below.trans (hb.mono hm.below.size), hm.outer⟩, hext⟩
  · obtain ⟨cur, ty, k1, k2, k3⟩ := hm.objs id o b h1 h2 h3
    refine ⟨cur, ty, (hb.block b (hm.fresh _ _ h2).2).trans k1, k2, fun i x hi => ?_⟩
    obtain ⟨v, kv, kx⟩ := k3 i x hi
    exact ⟨v, kv, kx.ext hext⟩
  · have := hm.fresh id b h; have := hb.size; omega

theorem Mem.forb_lt (hm : Mem M W0 ι σ w) : ∀ b, Forb M ι σ b → b < w.heap.size := by
  rintro b (h | ⟨j, oj, _, h3, _⟩)
  · have := hm.outer b h; have := hm.below.size; omega
  · exact (hm.fresh _ _ h3).2

end

def plainFn (P : Program) (f : FuncId) : Bool :=
  match P.funcs[f]? with
  | some fn => !(fn.name == "runtime.NumGoroutine") && fn.body.isSome
  | none => false

/-- The function that a value is, and what it brings of its own. -/
def asFn : XV → Option (FuncId × List XV × List XV)
  | .d (.fn (.func f) a b) => some (f, a.map .d, b.map .d)
  | .d (.lit (.func (.func f) a b)) => some (f, a.toList.map (fun v => .d (.lit v)), b.toList.map (fun v => .d (.lit v)))
  | .fn (.func f) a b => some (f, a, b)
  | _ => none

/-- A call of a loop's yield: one round. -/
def InRound (P : Program) (M : Nat → Prop) (W0 : World) (id : Nat) (σ : List VObj) (args : List XV) (Q : List VObj → Bool → Prop) : Prop :=
  ∀ (ι : List Nat) (w : World) (l : Nat) (vs : List Value), Mem M W0 ι σ w → ι[id]? = some l → vs.length = args.length → (∀ (i : Nat) (v : Value) (x : XV), vs[i]? = some v → args[i]? = some x → XRep w ι (Forb M ι σ) v x) →
    ∃ fn tmps assign body, (Instr.yield l vs.toArray).run P w = .ok (.round l fn tmps assign body) w ∧
      RoundIn Fence.wide 0 P l fn tmps assign body w fun e w' => ∃ (ι' : List Nat) (σ' : List VObj) (b : Bool), e = .returned (.bool b) ∧ Mem M W0 ι' σ' w' ∧ Ext M ι σ w ι' σ' w' ∧ Q σ' b

/-- An operation gives a value, leaves objects, and did something with them. -/
inductive Ev (P : Program) (o : Oper) (s : St) : XV → List VObj → Nat → Prop
  | op {x : XV} {σ' : List VObj} {fl : Nat} (h : evalOp P o s = some (x, σ', fl)) : Ev P o s x σ' fl
  | call {callee : Operand} {args : Array Operand} {ts : Array TypeId} {f : FuncId} {first caps : List XV} {dargs : List DV} {res : DV} (ho : o.op = .call ⟨.value callee, args, ts⟩)
      (hf : asFn (evalX s.env callee) = some (f, first, caps)) (hp : plainFn P f = true) (hd : first ++ args.toList.map (evalX s.env) ++ caps = dargs.map .d) (hc : DeepCall P f dargs res) : Ev P o s (.d res) s.σ 0
  | callF {callee : Operand} {args : Array Operand} {ts : Array TypeId} {f : FuncId} {first caps : List XV} {dargs : List DV} {res : DV} (ids : List Nat) (n : Nat) (ho : o.op = .call ⟨.value callee, args, ts⟩)
      (hf : asFn (evalX s.env callee) = some (f, first, caps)) (hp : plainFn P f = true) (hd : (first ++ args.toList.map (evalX s.env) ++ caps).mapM (deepen (freezeIds s.σ ids) n) = some dargs) (hc : DeepCall P f dargs res) :
      Ev P o s (.d res) (freezeIds s.σ ids) 3
  | inl {callee : Operand} {args : Array Operand} {ts : Array TypeId} {f : FuncId} {first caps : List XV} {x : XV} {σ' : List VObj} (ho : o.op = .call ⟨.value callee, args, ts⟩)
      (hf : asFn (evalX s.env callee) = some (f, first, caps)) (hp : plainFn P f = true)
      (hc : ∀ (M : Nat → Prop) (W0 : World), InCall P M W0 f s.σ (first ++ args.toList.map (evalX s.env) ++ caps) (fun σ2 x2 => σ2 = σ' ∧ x2 = x)) : Ev P o s x σ' 2
  | inlG {callee : Operand} {args : Array Operand} {ts : Array TypeId} {f : FuncId} {first caps : List XV} {x : XV} {τ : List VObj} (ho : o.op = .call ⟨.value callee, args, ts⟩)
      (hf : asFn (evalX s.env callee) = some (f, first, caps)) (hp : plainFn P f = true)
      (hc : ∀ (M : Nat → Prop) (W0 : World), InCall P M W0 f s.σ (first ++ args.toList.map (evalX s.env) ++ caps) (fun σ2 x2 => σ2 = s.σ ++ τ ∧ x2 = x)) : Ev P o s x (s.σ ++ τ) 3
  | yld {callee : Operand} {args : Array Operand} {ts : Array TypeId} {id : Nat} {b : Bool} {σ' : List VObj} (ho : o.op = .call ⟨.value callee, args, ts⟩) (hv : evalX s.env callee = .yl id)
      (hc : ∀ (M : Nat → Prop) (W0 : World), InRound P M W0 id s.σ (args.toList.map (evalX s.env)) (fun σ2 b2 => σ2 = σ' ∧ b2 = b)) : Ev P o s (.d (.lit (.bool b))) σ' 2
  | semP {x : XV} (hs : ∀ (F : Nat → Prop) (ι : List Nat) (w : World) (ev : Operand → Value), (∀ y ∈ o.op.operands, XRep w ι F (ev y) (evalX s.env y)) → ∃ v, (execOp ev o).run P w = .ok (.value v) w ∧ XRep w ι F v x) : Ev P o s x s.σ 0
  | hid {x : DV} (hs : ∀ (F : Nat → Prop) (ι : List Nat) (w : World) (ev : Operand → Value), (∀ b, F b → b < w.heap.size) → (∀ y ∈ o.op.operands, XRep w ι F (ev y) (evalX s.env y)) → ∃ v w', (execOp ev o).run P w = .ok (.value v) w' ∧ Below w.heap.size w w' ∧ DRep w' F v x) : Ev P o s (.d x) s.σ 0
  | semG {x : XV} {τ : List VObj} (hs : ∀ (M : Nat → Prop) (W0 : World) (ι : List Nat) (w : World) (ev : Operand → Value), Mem M W0 ι s.σ w → (∀ y ∈ o.op.operands, XRep w ι (Forb M ι s.σ) (ev y) (evalX s.env y)) → Good P M W0 ι s.σ w (execOp ev o) x (s.σ ++ τ)) : Ev P o s x (s.σ ++ τ) 3
  | semW {x : XV} {σ' : List VObj} (hs : ∀ (M : Nat → Prop) (W0 : World) (ι : List Nat) (w : World) (ev : Operand → Value), Mem M W0 ι s.σ w → (∀ y ∈ o.op.operands, XRep w ι (Forb M ι s.σ) (ev y) (evalX s.env y)) → Good P M W0 ι s.σ w (execOp ev o) x σ') : Ev P o s x σ' 2

/-- What stands around a frame: where its call began to make blocks; whether it is a round of a loop over a function, and of which. -/
structure Ctx where
  B : Nat
  ro : Option Nat

/-- No bound on the machine; a frame of a function, or of a round. -/
abbrev FR (ro : Option Nat) : Fence := { Fence.wide with round := ro }

/-- The marks that loops over functions have left behind. -/
def Marks (M : Nat → Prop) (B : Nat) (ι : List Nat) (σ : List VObj) (w : World) (ds : List Deferred) : Prop :=
  B ≤ w.heap.size ∧ ∃ Ds : List Nat, ds = Ds.map (fun D => { target := .collected D, args := #[] }) ∧ Ds.Nodup ∧ ∀ D ∈ Ds, B ≤ D ∧ ¬ Forb M ι σ D ∧ w.heap[D]? = some (.deferred (some []))

theorem Marks.ext {M : Nat → Prop} {B : Nat} {ι ι' : List Nat} {σ σ' : List VObj} {w w' : World} {ds : List Deferred} (h : Marks M B ι σ w ds) (e : Ext M ι σ w ι' σ' w') : Marks M B ι' σ' w' ds := by
  obtain ⟨h0, Ds, h1, h2, h3⟩ := h
  refine ⟨Nat.le_trans h0 e.size, Ds, h1, h2, fun D hD => ?_⟩
  obtain ⟨k1, k2, k3⟩ := h3 D hD
  have hlt := (Array.getElem?_eq_some_iff.1 k3).1
  exact ⟨k1, fun hf => k2 (e.forb D hlt hf), (e.heap D hlt k2).trans k3⟩

/-- A frame of the machine and one of the model. -/
structure Fr (M : Nat → Prop) (W0 : World) (C : Ctx) (n : Nat) (ι : List Nat) (s : St) (a : Act) (w : World) : Prop where
  mem : Mem M W0 ι s.σ w
  env : ∀ t, XRep w ι (Forb M ι s.σ) (a.tmps.getD t undef) (s.env t)
  size : a.tmps.size = n
  defers : Marks M C.B ι s.σ w a.defers
  round : ∀ l, C.ro = some l → ∃ r : Loop, w.heap[l]? = some (Obj.loop r)

theorem callsIn_FR {P : Program} {ro : Option Nat} {n : Nat} {f : FuncId} {args : Array Value} {w : World} {R : Ending → World → Prop} (h : Calls P f args w R) : CallsIn (FR ro) n P f args w R :=
  (callsIn_wide.2 h : CallsIn Fence.wide n P f args w R)

theorem calls_FR {P : Program} {ro : Option Nat} {n : Nat} {f : FuncId} {args : Array Value} {w : World} {R : Ending → World → Prop} (h : CallsIn (FR ro) n P f args w R) : Calls P f args w R :=
  callsIn_wide.1 (show CallsIn Fence.wide n P f args w R from h)

theorem semAt_of {P : Program} {ro : Option Nat} {ρ : Operand → Value} {o : Oper} {w w' : World} {nx : Next} (h : (execOp ρ o).run P w = .ok nx w') (hn : ∀ d, nx ≠ .defer d) : (o.semAt ro ρ).run P w = .ok nx w' := by
  rw [Oper.semAt_eq]
  · exact h
  · intro c hc
    unfold execOp at h
    rw [hc] at h
    simp only [Sem.run_bind] at h
    cases hr : (resolve ρ c o.type).run P w with
    | ok d w2 => rw [hr] at h; simp [Result.andThen] at h; exact hn d h.1.symm
    | halt x w2 => rw [hr] at h; simp [Result.andThen] at h

def undefX : XV := .d (.lit undef)

def putE (env : Nat → XV) (dst : Option Tmp) (x : XV) : Nat → XV :=
  match dst with
  | some d => upd env d x
  | none => env

def dstOk (n : Nat) (dst : Option Tmp) : Bool :=
  match dst with
  | some d => decide (d < n)
  | none => true

def guardX (ops : Array Oper) (env : Nat → XV) (o : Oper) : Option Bool :=
  match o.guard with
  | none => some true
  | some (j, want) => match (ops[j]?).bind (·.dst) with
    | some d => match litOf (env d) with
      | some (.bool b) => some (b == want)
      | some _ => some false
      | none => none
    | none => some false

section
variable {P : Program} {M : Nat → Prop} {W0 w : World} {ι : List Nat} {σ : List VObj} {n : Nat}

theorem guardX_sound {F : Nat → Prop} {ops : Array Oper} {a : Act} {env : Nat → XV} {o : Oper} {b : Bool} (he : ∀ t, XRep w ι F (a.tmps.getD t undef) (env t)) (h : guardX ops env o = some b) :
    Region.wanted o (yielded ops a.tmps) = b := by
  unfold guardX at h
  unfold Region.wanted
  split at h
  · rename_i hg; rw [hg]; cases h; rfl
  · rename_i j want hg
    rw [hg]
    simp only [yielded]
    cases hd : (ops[j]?).bind (·.dst) with
    | none => rw [hd] at h; cases h; simp
    | some d =>
      rw [hd] at h
      simp only [Option.bind_some]
      simp only at h
      cases hl : litOf (env d) with
      | none => rw [hl] at h; cases h
      | some v =>
        rw [hl] at h
        have hv := litOf_rep (he d) hl
        by_cases hlt : d < a.tmps.size
        · have e : a.tmps[d]? = some v := by rw [← hv]; simp [hlt]
          rw [e]
          cases v <;> simp at h <;> subst h <;> simp
        · have e : a.tmps[d]? = none := Array.getElem?_eq_none (Nat.le_of_not_lt hlt)
          rw [e]
          have hu : v = undef := by rw [← hv]; simp [hlt]
          subst hu
          simp [undef] at h
          subst h
          simp

theorem put_env {F : Nat → Prop} {a : Act} {env : Nat → XV} {dst : Option Tmp} {v : Value} {x : XV} (hd : dstOk a.tmps.size dst = true) (he : ∀ t, XRep w ι F (a.tmps.getD t undef) (env t)) (hx : XRep w ι F v x) :
    ∀ t, XRep w ι F ((a.put dst v).tmps.getD t undef) (putE env dst x t) := by
  intro t
  cases dst with
  | none => exact he t
  | some d =>
    simp only [dstOk, decide_eq_true_eq] at hd
    simp only [Act.put, putE, upd]
    by_cases e : t = d
    · subst e; rw [if_pos rfl]; simpa [hd] using hx
    · rw [if_neg e]
      have : (a.tmps.setIfInBounds d v).getD t undef = a.tmps.getD t undef := by
        simp only [Array.getD_eq_getD_getElem?]
        rw [Array.getElem?_setIfInBounds_ne (by omega)]
      rw [this]; exact he t

theorem Fr.put {C : Ctx} {s : St} {a : Act} (h : Fr M W0 C n ι s a w) {dst : Option Tmp} (hd : dstOk n dst = true) {ι' : List Nat} {σ' : List VObj} {w' : World} {v : Value} {x : XV} (hm : Mem M W0 ι' σ' w') (hext : Ext M ι s.σ w ι' σ' w')
    (hx : XRep w' ι' (Forb M ι' σ') v x) : Fr M W0 C n ι' ⟨σ', putE s.env dst x⟩ (a.put dst v) w' :=
  ⟨hm, put_env (by rw [h.size]; exact hd) (fun t => (h.env t).ext hext) hx, by cases dst <;> simp [Act.put, h.size], by cases dst <;> exact h.defers.ext hext, fun l hl => let ⟨r, hr⟩ := h.round l hl; hext.loops l r hr⟩

theorem asFn_rep {F : Nat → Prop} {v : Value} {x : XV} {f : FuncId} {first caps : List XV} (hx : XRep w ι F v x) (h : asFn x = some (f, first, caps)) :
    ∃ vs us : Array Value, v = .func (.func f) vs us ∧ vs.size = first.length ∧ us.size = caps.length ∧ (∀ (i : Nat) (v : Value) (x : XV), vs[i]? = some v → first[i]? = some x → XRep w ι F v x) ∧
      ∀ (i : Nat) (v : Value) (x : XV), us[i]? = some v → caps[i]? = some x → XRep w ι F v x := by
  unfold asFn at h
  split at h
  · cases h
    cases hx with
    | d hx => cases hx with
      | fn hn hxx hm hyy =>
        refine ⟨_, _, rfl, by simpa using hn, by simpa using hm, fun i v x hv hx => ?_, fun i v x hv hx => ?_⟩
        · simp only [List.getElem?_map, Option.map_eq_some_iff] at hx
          obtain ⟨z, hz, rfl⟩ := hx
          exact .d (hxx i v z hv hz)
        · simp only [List.getElem?_map, Option.map_eq_some_iff] at hx
          obtain ⟨z, hz, rfl⟩ := hx
          exact .d (hyy i v z hv hz)
  · cases h
    cases hx with
    | d hx => cases hx with
      | lit =>
        refine ⟨_, _, rfl, by simp, by simp, fun i v x hv hx => ?_, fun i v x hv hx => ?_⟩
        · simp only [List.getElem?_map, Option.map_eq_some_iff] at hx
          obtain ⟨z, hz, rfl⟩ := hx
          rw [Array.getElem?_toList, hv] at hz; cases hz; exact .d (.lit _)
        · simp only [List.getElem?_map, Option.map_eq_some_iff] at hx
          obtain ⟨z, hz, rfl⟩ := hx
          rw [Array.getElem?_toList, hv] at hz; cases hz; exact .d (.lit _)
  · cases h
    cases hx with
    | fn hn hxx hm hyy => exact ⟨_, _, rfl, hn, hm, hxx, hyy⟩
  · cases h

/-- What a call of a Go function asks. -/
theorem call_run {a : Act} {o : Oper} {callee : Operand} {args : Array Operand} {ts : Array TypeId} {f : FuncId} {vs us : Array Value} (ho : o.op = .call ⟨.value callee, args, ts⟩)
    (hv : a.eval callee = .func (.func f) vs us) (hp : plainFn P f = true) : (execOp a.eval o).run P w = .ok (.enter f (vs ++ args.map a.eval ++ us)) w := by
  unfold plainFn at hp
  split at hp
  · rename_i fn hfn
    simp only [Bool.and_eq_true, Bool.not_eq_true'] at hp
    obtain ⟨h1, h2⟩ := hp
    have h3 : ¬ fn.body = none := by intro e; rw [e] at h2; simp at h2
    have h4 : ¬ fn.name = "runtime.NumGoroutine" := by simpa using h1
    simp [execOp, ho, resolve, hv, Deferred.ofValue, invoke, callFunc, hfn, h4, h3]
  · cases hp

theorem args_rep {F : Nat → Prop} {a : Act} {env : Nat → XV} (he : ∀ t, XRep w ι F (a.tmps.getD t undef) (env t)) {args : Array Operand} {vs us : Array Value} {first caps : List XV} (h1 : vs.size = first.length)
    (h2 : us.size = caps.length) (h3 : ∀ (i : Nat) (v : Value) (x : XV), vs[i]? = some v → first[i]? = some x → XRep w ι F v x) (h4 : ∀ (i : Nat) (v : Value) (x : XV), us[i]? = some v → caps[i]? = some x → XRep w ι F v x) :
    (vs ++ args.map a.eval ++ us).toList.length = (first ++ args.toList.map (evalX env) ++ caps).length ∧
    ∀ (i : Nat) (v : Value) (x : XV), (vs ++ args.map a.eval ++ us).toList[i]? = some v → (first ++ args.toList.map (evalX env) ++ caps)[i]? = some x → XRep w ι F v x := by
  refine ⟨by simp [h1, h2], fun i v x hv hx => ?_⟩
  have e1 : (vs ++ args.map a.eval).toList.length = (first ++ args.toList.map (evalX env)).length := by simp [h1]
  rw [Array.toList_append] at hv
  by_cases hi : i < (first ++ args.toList.map (evalX env)).length
  · rw [List.getElem?_append_left (by omega)] at hv
    rw [List.getElem?_append_left hi] at hx
    rw [Array.toList_append] at hv
    by_cases hj : i < first.length
    · rw [List.getElem?_append_left (by simp; omega)] at hv
      rw [List.getElem?_append_left hj] at hx
      exact h3 i v x (by simpa using hv) hx
    · rw [List.getElem?_append_right (by simp; omega)] at hv
      rw [List.getElem?_append_right (by omega)] at hx
      simp only [Array.toList_map, List.getElem?_map, Option.map_eq_some_iff, Array.length_toList, h1] at hv hx
      obtain ⟨p, hp, rfl⟩ := hv
      obtain ⟨q, hq, rfl⟩ := hx
      rw [hp] at hq; cases hq
      exact evalX_rep he p
  · rw [List.getElem?_append_right (by omega)] at hv
    rw [List.getElem?_append_right (by omega)] at hx
    rw [e1] at hv
    exact h4 _ v x (by simpa using hv) hx

/-- AN OPERATION, IN THE MODEL. -/
theorem Ev.wp {ro : Option Nat} {o : Oper} {s : St} {x : XV} {σ' : List VObj} {fl : Nat} (h : Ev P o s x σ' fl) {a : Act} (hm : Mem M W0 ι s.σ w) (he : ∀ t, XRep w ι (Forb M ι s.σ) (a.tmps.getD t undef) (s.env t))
    {K : Act → World → Prop} {Q : Exit → Act → World → Prop}
    (hk : ∀ (ι' : List Nat) (v : Value) (w' : World), Mem M W0 ι' σ' w' → Ext M ι s.σ w ι' σ' w' → XRep w' ι' (Forb M ι' σ') v x → K (a.put o.dst v) w') : o.wpIn (FR ro) 0 P a w K Q := by
  cases h with
  | op h =>
    obtain ⟨ι', w', v, hr, h1, h2, h3⟩ := evalOp_sound hm he h
    refine ⟨fun _ _ => trivial, ?_⟩
    rcases hr with hr | ⟨hr, rfl⟩
    · rw [semAt_of hr (by simp)]; exact hk ι' v w' h1 h2 h3
    · rw [semAt_of hr (by simp)]; exact hk ι' undef w' h1 h2 h3
  | call ho hf hp hd hc =>
    rename_i callee args ts f first caps dargs res
    obtain ⟨vs, us, e1, e2, e3, e4, e5⟩ := asFn_rep (evalX_rep he callee) hf
    obtain ⟨a1, a2⟩ := args_rep (args := args) he e2 e3 e4 e5
    refine ⟨fun _ _ => trivial, ?_⟩
    rw [semAt_of (call_run ho e1 hp) (by simp)]
    refine ⟨fun h => Bool.noConfusion (show false = true from h), callsIn_FR ?_⟩
    have hcall := hc (Forb M ι s.σ) w (vs ++ args.map a.eval ++ us).toList hm.forb_lt (by rw [a1, hd]; simp) (fun i v x hv hx => by
      have hx' : (first ++ args.toList.map (evalX s.env) ++ caps)[i]? = some (.d x) := by rw [hd]; simp [hx]
      cases a2 i v _ hv hx' with
      | d h => exact h)
    rw [Array.toArray_toList] at hcall
    refine hcall.mono fun e w' => ?_
    rintro ⟨v, rfl, h1, h2⟩
    obtain ⟨g1, g2⟩ := hm.grown h2
    exact hk ι v w' g1 g2 (.d h1)
  | callF ids n ho hf hp hd hc =>
    rename_i callee args ts f first caps dargs res
    obtain ⟨f1, f2⟩ := freezeIds_tamed hm ids
    obtain ⟨vs, us, e1, e2, e3, e4, e5⟩ := asFn_rep (evalX_rep he callee) hf
    obtain ⟨a1, a2⟩ := args_rep (args := args) he e2 e3 e4 e5
    obtain ⟨d1, d2⟩ := mapM_get hd
    refine ⟨fun _ _ => trivial, ?_⟩
    rw [semAt_of (call_run ho e1 hp) (by simp)]
    refine ⟨fun h => Bool.noConfusion (show false = true from h), callsIn_FR ?_⟩
    have hcall := hc (Forb M ι (freezeIds s.σ ids)) w (vs ++ args.map a.eval ++ us).toList f1.forb_lt (by rw [a1, d1]) (fun i v x hv hx => by
      have hlt : i < (first ++ args.toList.map (evalX s.env) ++ caps).length := by rw [d1]; exact (List.getElem?_eq_some_iff.1 hx).1
      exact deepen_sound f1 n v _ x ((a2 i v _ hv (List.getElem?_eq_getElem hlt)).ext f2) (d2 i _ x (List.getElem?_eq_getElem hlt) hx))
    rw [Array.toArray_toList] at hcall
    refine hcall.mono fun e w' => ?_
    rintro ⟨v, rfl, h1, h2⟩
    obtain ⟨g1, g2⟩ := f1.grown h2
    exact hk ι v w' g1 (f2.trans g2) (.d h1)
  | inl ho hf hp hc =>
    rename_i callee args ts f first caps
    obtain ⟨vs, us, e1, e2, e3, e4, e5⟩ := asFn_rep (evalX_rep he callee) hf
    obtain ⟨a1, a2⟩ := args_rep (args := args) he e2 e3 e4 e5
    refine ⟨fun _ _ => trivial, ?_⟩
    rw [semAt_of (call_run ho e1 hp) (by simp)]
    refine ⟨fun h => Bool.noConfusion (show false = true from h), callsIn_FR ?_⟩
    have hcall := hc M W0 ι w (vs ++ args.map a.eval ++ us).toList hm a1 a2
    rw [Array.toArray_toList] at hcall
    refine hcall.mono fun e w' => ?_
    rintro ⟨ι', σ2, x2, v, rfl, h1, h2, h3, rfl, rfl⟩
    exact hk ι' v w' h1 h2 h3
  | inlG ho hf hp hc =>
    rename_i callee args ts f first caps τ
    obtain ⟨vs, us, e1, e2, e3, e4, e5⟩ := asFn_rep (evalX_rep he callee) hf
    obtain ⟨a1, a2⟩ := args_rep (args := args) he e2 e3 e4 e5
    refine ⟨fun _ _ => trivial, ?_⟩
    rw [semAt_of (call_run ho e1 hp) (by simp)]
    refine ⟨fun h => Bool.noConfusion (show false = true from h), callsIn_FR ?_⟩
    have hcall := hc M W0 ι w (vs ++ args.map a.eval ++ us).toList hm a1 a2
    rw [Array.toArray_toList] at hcall
    refine hcall.mono fun e w' => ?_
    rintro ⟨ι', σ2, x2, v, rfl, h1, h2, h3, rfl, rfl⟩
    exact hk ι' v w' h1 h2 h3
  | yld ho hv hc =>
    rename_i callee args ts id b
    have e1 := evalX_rep he callee
    rw [hv] at e1
    generalize hcv : a.eval callee = cv at e1
    cases e1 with
    | yl hb =>
      rename_i l
      obtain ⟨a1, a2⟩ := args_rep (args := args) (vs := #[]) (us := #[]) (first := []) (caps := []) he rfl rfl (by simp) (by simp)
      obtain ⟨fn, tmps, assign, body, k1, k2⟩ := hc M W0 ι w l (args.map a.eval).toList hm hb (by simp) (fun i v x h1 h2 => a2 i v x (by simpa using h1) (by simpa using h2))
      rw [Array.toArray_toList] at k1
      have hrun : (execOp a.eval o).run P w = .ok (.round l fn tmps assign body) w := by
        simp [execOp, ho, resolve, hcv, Deferred.ofValue, invoke, k1]
      refine ⟨fun _ _ => trivial, ?_⟩
      rw [semAt_of hrun (by simp)]
      refine ⟨fun h => Bool.noConfusion (show false = true from h), ?_⟩
      refine RoundIn.mono (show RoundIn (FR ro) 0 P l fn tmps assign body w _ from k2) fun e w' => ?_
      rintro ⟨ι', σ2, b2, rfl, h1, h2, rfl, rfl⟩
      exact hk ι' _ w' h1 h2 (.d (.lit _))
  | semP hs =>
    obtain ⟨v, h1, h2⟩ := hs (Forb M ι s.σ) ι w a.eval (fun y _ => evalX_rep he y)
    refine ⟨fun _ _ => trivial, ?_⟩
    rw [semAt_of h1 (by simp)]; exact hk ι v w hm (.refl _ _ _ _) h2
  | hid hs =>
    obtain ⟨v, w', h1, h2, h3⟩ := hs (Forb M ι s.σ) ι w a.eval hm.forb_lt (fun y _ => evalX_rep he y)
    refine ⟨fun _ _ => trivial, ?_⟩
    rw [semAt_of h1 (by simp)]
    obtain ⟨g1, g2⟩ := hm.grown h2
    exact hk ι v w' g1 g2 (.d h3)
  | semG hs =>
    obtain ⟨ι', w', v, hr, h1, h2, h3⟩ := hs M W0 ι w a.eval hm (fun y _ => evalX_rep he y)
    refine ⟨fun _ _ => trivial, ?_⟩
    rcases hr with hr | ⟨hr, rfl⟩
    · rw [semAt_of hr (by simp)]; exact hk ι' v w' h1 h2 h3
    · rw [semAt_of hr (by simp)]; exact hk ι' undef w' h1 h2 h3
  | semW hs =>
    obtain ⟨ι', w', v, hr, h1, h2, h3⟩ := hs M W0 ι w a.eval hm (fun y _ => evalX_rep he y)
    refine ⟨fun _ _ => trivial, ?_⟩
    rcases hr with hr | ⟨hr, rfl⟩
    · rw [semAt_of hr (by simp)]; exact hk ι' v w' h1 h2 h3
    · rw [semAt_of hr (by simp)]; exact hk ι' undef w' h1 h2 h3

end
end Go.Vm

end
section
/-
  VALUES WITHOUT ADDRESSES, 10: code: lists of operations in the text's order, branches, blocks, loops; from a body to a contract.
-/
namespace Go.Vm
open Go.RowKit

/-- A list of operations, in the text's order. -/
def WpL (P : Program) (M : Nat → Prop) (W0 : World) (n : Nat) (ops : Array Oper) (l : List Oper) (s : St) (T : St → Prop) : Prop :=
  ∀ (C : Ctx) (ι : List Nat) (a : Act) (w : World), Fr M W0 C n ι s a w → ∀ Q : Exit → Act → World → Prop,
    (∀ (ι' : List Nat) (s' : St) (a' : Act) (w' : World), T s' → Fr M W0 C n ι' s' a' w' → Ext M ι s.σ w ι' s'.σ w' → Q .normal a' w') → wpListIn (FR C.ro) 0 P ops Q l a w

def Wp (P : Program) (M : Nat → Prop) (W0 : World) (n : Nat) (c : Code) (s : St) (T : Exit → St → Prop) : Prop :=
  ∀ (C : Ctx) (ι : List Nat) (a : Act) (w : World), Fr M W0 C n ι s a w → ∀ Q : Exit → Act → World → Prop,
    (∀ (e : Exit) (ι' : List Nat) (s' : St) (a' : Act) (w' : World), T e s' → Fr M W0 C n ι' s' a' w' → Ext M ι s.σ w ι' s'.σ w' → Q e a' w') → c.wpIn (FR C.ro) 0 P Q a w

/-- What follows a piece of code. -/
def thenT (T1 : St → Prop) (T : Exit → St → Prop) : Exit → St → Prop
  | .normal, s => T1 s
  | e, s => T e s

def blockT (id : Nat) (T : Exit → St → Prop) : Exit → St → Prop
  | .exit id', s => if id' = id then T .normal s else T (.exit id') s
  | e, s => T e s

section
variable {P : Program} {M : Nat → Prop} {W0 : World} {n : Nat} {ops : Array Oper} {l : List Oper} {o : Oper} {s : St}

theorem WpL.mono {T T' : St → Prop} (h : WpL P M W0 n ops l s T) (ht : ∀ s, T s → T' s) : WpL P M W0 n ops l s T' :=
  fun C ι a w hf Q hq => h C ι a w hf Q fun ι' s' a' w' h1 h2 h3 => hq ι' s' a' w' (ht _ h1) h2 h3

theorem WpL.nil {T : St → Prop} (h : T s) : WpL P M W0 n ops [] s T :=
  fun _ ι a w hf _ hq => hq ι s a w h hf (.refl _ _ _ _)

theorem WpL.skip {T : St → Prop} (hg : guardX ops s.env o = some false) (hd : dstOk n o.dst = true) (h : WpL P M W0 n ops l ⟨s.σ, putE s.env o.dst undefX⟩ T) : WpL P M W0 n ops (o :: l) s T := by
  intro C ι a w hf Q hq
  unfold wpListIn
  rw [if_neg (by rw [guardX_sound hf.env hg]; simp)]
  refine ⟨fun _ _ => trivial, ?_⟩
  exact h C ι _ w (hf.put hd hf.mem (.refl _ _ _ _) (.d (.lit _))) Q hq

theorem WpL.step {T : St → Prop} {x : XV} {σ' : List VObj} {fl : Nat} (hg : guardX ops s.env o = some true) (he : Ev P o s x σ' fl) (hd : dstOk n o.dst = true)
    (h : WpL P M W0 n ops l ⟨σ', putE s.env o.dst x⟩ T) : WpL P M W0 n ops (o :: l) s T := by
  intro C ι a w hf Q hq
  unfold wpListIn
  rw [if_pos (by rw [guardX_sound hf.env hg])]
  refine he.wp hf.mem hf.env fun ι' v w' h1 h2 h3 => ?_
  exact h C ι' _ w' (hf.put hd h1 h2 h3) Q fun ι'' s' a' w'' k1 k2 k3 => hq ι'' s' a' w'' k1 k2 (h2.trans k3)

/-- A call that shares the caller's objects. -/
theorem WpL.inl {T : St → Prop} {callee : Operand} {args : Array Operand} {ts : Array TypeId} {f : FuncId} {first caps : List XV} {R : List VObj → XV → Prop} (hg : guardX ops s.env o = some true)
    (ho : o.op = .call ⟨.value callee, args, ts⟩) (hf : asFn (evalX s.env callee) = some (f, first, caps)) (hp : plainFn P f = true) (hc : InCall P M W0 f s.σ (first ++ args.toList.map (evalX s.env) ++ caps) R)
    (hd : dstOk n o.dst = true) (h : ∀ σ' x, R σ' x → WpL P M W0 n ops l ⟨σ', putE s.env o.dst x⟩ T) : WpL P M W0 n ops (o :: l) s T := by
  intro C ι a w hfr Q hq
  unfold wpListIn
  rw [if_pos (by rw [guardX_sound hfr.env hg])]
  obtain ⟨vs, us, e1, e2, e3, e4, e5⟩ := asFn_rep (evalX_rep hfr.env callee) hf
  obtain ⟨a1, a2⟩ := args_rep (args := args) hfr.env e2 e3 e4 e5
  refine ⟨fun _ _ => trivial, ?_⟩
  rw [semAt_of (call_run ho e1 hp) (by simp)]
  refine ⟨fun h => Bool.noConfusion (show false = true from h), callsIn_FR ?_⟩
  have hcall := hc ι w (vs ++ args.map a.eval ++ us).toList hfr.mem a1 a2
  rw [Array.toArray_toList] at hcall
  refine hcall.mono fun e w' => ?_
  rintro ⟨ι', σ', x, v, rfl, h1, h2, h3, h4⟩
  exact h σ' x h4 C ι' _ w' (hfr.put hd h1 h2 h3) Q fun ι'' s' a' w'' k1 k2 k3 => hq ι'' s' a' w'' k1 k2 (h2.trans k3)

theorem Wp.mono {c : Code} {T T' : Exit → St → Prop} (h : Wp P M W0 n c s T) (ht : ∀ e s, T e s → T' e s) : Wp P M W0 n c s T' :=
  fun C ι a w hf Q hq => h C ι a w hf Q fun e ι' s' a' w' h1 h2 h3 => hq e ι' s' a' w' (ht _ _ h1) h2 h3

theorem Wp.region {id : Nat} {T : Exit → St → Prop} (h : WpL P M W0 n ops ops.toList s (T .normal)) : Wp P M W0 n (.region id ops false) s T :=
  fun C ι a w hf Q hq => wpIn_region_list (h C ι a w hf Q fun ι' s' a' w' h1 h2 h3 => hq .normal ι' s' a' w' h1 h2 h3)

theorem Wp.skip {T : Exit → St → Prop} (h : T .normal s) : Wp P M W0 n .skip s T :=
  fun _ ι a w hf _ hq => wpIn_skip (hq .normal ι s a w h hf (.refl _ _ _ _))

theorem Wp.label {k : Nat} {T : Exit → St → Prop} (h : T .normal s) : Wp P M W0 n (.label k) s T :=
  fun _ ι a w hf _ hq => wpIn_label (hq .normal ι s a w h hf (.refl _ _ _ _))

theorem Wp.ret {T : Exit → St → Prop} (h : T .ret s) : Wp P M W0 n .ret s T :=
  fun _ ι a w hf _ hq => wpIn_ret (hq .ret ι s a w h hf (.refl _ _ _ _))

theorem Wp.exit {id : Nat} {T : Exit → St → Prop} (h : T (.exit id) s) : Wp P M W0 n (.exit id) s T :=
  fun _ ι a w hf _ hq => wpIn_exit (hq (.exit id) ι s a w h hf (.refl _ _ _ _))

theorem Wp.seq {x y : Code} {T : Exit → St → Prop} (h : Wp P M W0 n x s (thenT (fun s' => Wp P M W0 n y s' T) T)) : Wp P M W0 n (.seq x y) s T := by
  intro C ι a w hf Q hq
  refine wpIn_seq (h C ι a w hf _ fun e ι' s' a' w' h1 h2 h3 => ?_)
  cases e with
  | normal => exact h1 C ι' a' w' h2 Q fun e ι'' s'' a'' w'' k1 k2 k3 => hq e ι'' s'' a'' w'' k1 k2 (h3.trans k3)
  | exit id => exact hq (.exit id) ι' s' a' w' h1 h2 h3
  | goto k => exact hq (.goto k) ι' s' a' w' h1 h2 h3
  | ret => exact hq .ret ι' s' a' w' h1 h2 h3
  | panic c => exact hq (.panic c) ι' s' a' w' h1 h2 h3
  | outgrown => exact hq .outgrown ι' s' a' w' h1 h2 h3

theorem Wp.cond {c : Operand} {x y : Code} {t : Bool} {T : Exit → St → Prop} (hc : litOf (evalX s.env c) = some (.bool t)) (h : Wp P M W0 n (if t then x else y) s T) : Wp P M W0 n (.cond c x y) s T :=
  fun C ι a w hf Q hq => wpIn_cond (litOf_rep (evalX_rep hf.env c) hc) (h C ι a w hf Q hq)

theorem Wp.block {id : Nat} {c : Code} {T : Exit → St → Prop} (h : Wp P M W0 n c s (blockT id T)) : Wp P M W0 n (.block id c) s T := by
  intro C ι a w hf Q hq
  refine wpIn_block (h C ι a w hf _ fun e ι' s' a' w' h1 h2 h3 => ?_)
  cases e with
  | exit k =>
    simp only [blockT] at h1
    simp only [Exit.inBlock]
    split at h1
    · rename_i e; rw [if_pos e]; exact hq .normal ι' s' a' w' h1 h2 h3
    · rename_i e; rw [if_neg e]; exact hq (.exit k) ι' s' a' w' h1 h2 h3
  | normal => exact hq .normal ι' s' a' w' h1 h2 h3
  | goto k => exact hq (.goto k) ι' s' a' w' h1 h2 h3
  | ret => exact hq .ret ι' s' a' w' h1 h2 h3
  | panic c => exact hq (.panic c) ι' s' a' w' h1 h2 h3
  | outgrown => exact hq .outgrown ι' s' a' w' h1 h2 h3

/-- A loop: I holds at every round's head, μ gets less. -/
theorem Wp.loop {c : Code} {T : Exit → St → Prop} (I : St → Prop) (μ : St → Nat) (hI : I s) (h : ∀ s, I s → Wp P M W0 n c s (thenT (fun s' => I s' ∧ μ s' < μ s) T)) : Wp P M W0 n (.loop c) s T := by
  have key : ∀ (k : Nat) (s : St), μ s < k → I s → ∀ (C : Ctx) (ι : List Nat) (a : Act) (w : World), Fr M W0 C n ι s a w → ∀ Q : Exit → Act → World → Prop,
      (∀ (e : Exit) (ι' : List Nat) (s' : St) (a' : Act) (w' : World), T e s' → Fr M W0 C n ι' s' a' w' → Ext M ι s.σ w ι' s'.σ w' → Q e a' w') → Code.roundsIn (FR C.ro) 0 P c Q k a w := by
    intro k
    induction k with
    | zero => intro s hk; omega
    | succ k ih =>
      intro s hk hs C ι a w hf Q hq
      rw [roundsIn_succ]
      refine h s hs C ι a w hf _ fun e ι' s' a' w' h1 h2 h3 => ?_
      cases e with
      | normal =>
        obtain ⟨k1, k2⟩ := h1
        exact ih s' (by omega) k1 C ι' a' w' h2 Q fun e ι'' s'' a'' w'' q1 q2 q3 => hq e ι'' s'' a'' w'' q1 q2 (h3.trans q3)
      | exit id => exact hq (.exit id) ι' s' a' w' h1 h2 h3
      | goto k => exact hq (.goto k) ι' s' a' w' h1 h2 h3
      | ret => exact hq .ret ι' s' a' w' h1 h2 h3
      | panic c => exact hq (.panic c) ι' s' a' w' h1 h2 h3
      | outgrown => exact hq .outgrown ι' s' a' w' h1 h2 h3
  exact fun C ι a w hf Q hq => wpIn_loop_rounds (μ s + 1) (key _ s (Nat.lt_succ_self _) hI C ι a w hf Q hq)

/-- One result of a function. -/
def resVar (P : Program) (s : St) : ResultVar → Option XV
  | .tmp t => some (s.env t)
  | .cell a t => (opLoad P s.σ t (s.env a)).map (·.1)

/-- What a function hands back. -/
def resX (P : Program) (fn : Func) (s : St) : Option XV :=
  match fn.results.toList.mapM (resVar P s) with
  | some [x] => some x
  | some xs => some (.tup xs)
  | none => none

def resOne (tmps : Array Value) (r : ResultVar) : Sem Value :=
  match r with
  | .tmp t => pure (tmps.getD t undef)
  | .cell a t => do loadVar t (← asAddr (tmps.getD a undef))

theorem results_eq (fn : Func) (tmps : Array Value) : results fn tmps = (do
    let vs ← fn.results.mapM (resOne tmps)
    pure (if h : vs.size = 1 then vs[0] else .tuple vs)) := by
  unfold results
  congr 1

theorem resVar_run {ι : List Nat} {w : World} (hm : Mem M W0 ι s.σ w) {a : Act} (he : ∀ t, XRep w ι (Forb M ι s.σ) (a.tmps.getD t undef) (s.env t)) : ∀ (l : List ResultVar) (xs : List XV), l.mapM (resVar P s) = some xs →
    ∃ vs : List Value, (l.mapM (resOne a.tmps)).run P w = .ok vs w ∧ vs.length = xs.length ∧
      ∀ (i : Nat) (v : Value) (x : XV), vs[i]? = some v → xs[i]? = some x → XRep w ι (Forb M ι s.σ) v x
  | [], xs, h => by simp at h; subst h; exact ⟨[], by simp, rfl, fun i v x h => by simp at h⟩
  | r :: l, xs, h => by
    rw [List.mapM_cons] at h
    cases hr : resVar P s r with
    | none => rw [hr] at h; simp at h
    | some y =>
      cases hl : l.mapM (resVar P s) with
      | none => rw [hr, hl] at h; simp at h
      | some ys =>
        rw [hr, hl] at h
        simp at h
        subst h
        obtain ⟨vs, h1, h2, h3⟩ := resVar_run hm he l ys hl
        have hone : ∃ v, (resOne a.tmps r).run P w = .ok v w ∧ XRep w ι (Forb M ι s.σ) v y := by
          cases r with
          | tmp t => simp [resVar] at hr; subst hr; exact ⟨a.tmps.getD t undef, rfl, he t⟩
          | cell b t =>
            simp only [resVar, Option.map_eq_some_iff] at hr
            obtain ⟨q, hq, rfl⟩ := hr
            obtain ⟨u, k1, k2⟩ := opLoad_sound hm (he b) hq
            refine ⟨u, ?_, k2⟩
            simp only [resOne, Instr.loadAt, Sem.run_bind] at k1 ⊢
            revert k1
            generalize a.tmps.getD b undef = v0
            intro k1
            cases v0 <;> first | (simp [Instr.sureAddr, stuck] at k1; done) | skip
            rename_i ad
            cases ad with
            | none => simp [Instr.sureAddr, stuck] at k1
            | some ad => simpa [Instr.sureAddr, asAddr] using k1
        obtain ⟨v, k1, k2⟩ := hone
        refine ⟨v :: vs, ?_, by simp [h2], fun i u x hv hx => ?_⟩
        · rw [List.mapM_cons]
          simp only [Sem.run_bind, k1, Result.andThen_ok, h1, Sem.run_pure]
        · cases i with
          | zero => simp at hv hx; subst hv; subst hx; exact k2
          | succ i => exact h3 i u x (by simpa using hv) (by simpa using hx)

theorem resX_run {ι : List Nat} {w : World} (hm : Mem M W0 ι s.σ w) {a : Act} (he : ∀ t, XRep w ι (Forb M ι s.σ) (a.tmps.getD t undef) (s.env t)) {fn : Func} {x : XV} (h : resX P fn s = some x) :
    ∃ v, (results fn a.tmps).run P w = .ok v w ∧ XRep w ι (Forb M ι s.σ) v x := by
  have key : ∀ xs, fn.results.toList.mapM (resVar P s) = some xs → ∃ vs : List Value, (results fn a.tmps).run P w = .ok (if h : vs.toArray.size = 1 then vs.toArray[0] else .tuple vs.toArray) w ∧ vs.length = xs.length ∧
      ∀ (i : Nat) (v : Value) (x : XV), vs[i]? = some v → xs[i]? = some x → XRep w ι (Forb M ι s.σ) v x := by
    intro xs hxs
    obtain ⟨vs, h1, h2, h3⟩ := resVar_run hm he _ xs hxs
    refine ⟨vs, ?_, h2, h3⟩
    rw [results_eq, Sem.run_bind, Array.mapM_eq_mapM_toList]
    have e : (List.toArray <$> fn.results.toList.mapM (resOne a.tmps)) = (fn.results.toList.mapM (resOne a.tmps) >>= fun l => pure l.toArray) := by simp
    rw [e, Sem.run_bind, h1]
    simp only [Result.andThen_ok, Sem.run_pure]
  unfold resX at h
  split at h
  · rename_i y hy
    cases h
    obtain ⟨vs, h1, h2, h3⟩ := key _ hy
    match vs, h2 with
    | [v], _ => exact ⟨v, by simpa using h1, h3 0 v x rfl rfl⟩
  · rename_i xs hne hxs
    cases h
    obtain ⟨vs, h1, h2, h3⟩ := key _ hxs
    have hn1 : ¬ vs.toArray.size = 1 := by
      intro e
      rw [List.size_toArray, h2] at e
      match xs, e with
      | [y], _ => exact hne y rfl
    rw [dif_neg hn1] at h1
    exact ⟨_, h1, .tup (by simpa using h2) (fun i v x hv hx => h3 i v x (by simpa using hv) hx)⟩
  · cases h

/-- The frame of a call. -/
def enter (σ : List VObj) (args : List XV) : St := ⟨σ, fun t => (args[t]?).getD undefX⟩

/-- Block D, which no value looks at, is shut. -/
structure Shut (D : Nat) (w w' : World) : Prop where
  was : w.heap[D]? = some (.deferred (some []))
  now : w'.heap[D]? = some (.deferred none)
  same : ∀ c, c ≠ D → w'.heap[c]? = w.heap[c]?
  size : w'.heap.size = w.heap.size
  os : w'.os = w.os
  tape : w'.tape = w.tape
  output : w'.output = w.output

theorem DRep.shut {D : Nat} {w w' : World} (hs : Shut D w w') {F : Nat → Prop} {v : Value} {x : DV} (h : DRep w F v x) : DRep w' F v x := by
  have cell : ∀ (a : Addr) (i : Nat) (v : Value), w.cell? ⟨a.block, a.off + i, none⟩ = some v → w'.cell? ⟨a.block, a.off + i, none⟩ = some v := fun a i v hv => by
    by_cases e : a.block = D
    · exfalso
      unfold World.cell? at hv
      simp only [e, hs.was] at hv
      cases hv
    · rw [cell?_of_heap (w := w) (p := ⟨a.block, a.off + i, none⟩) (hs.same _ e)]; exact hv
  induction h with
  | lit v => exact .lit v
  | sl vs hl hc hn ha hcell hx ih => exact .sl vs hl hc hn ha (fun i v hv => cell _ i v (hcell i v hv)) ih
  | ptr vs hn ha hcell hx ih => exact .ptr vs hn ha (fun i v hv => cell _ i v (hcell i v hv)) ih
  | tup hn _ ih => exact .tup hn ih
  | agg hn _ ih => exact .agg hn ih
  | fn hn _ hm _ ih1 ih2 => exact .fn hn ih1 hm ih2
  | ifc _ ih => exact .ifc ih
  | mp ks hb hh hk hn _ ih => exact .mp ks hb ((hs.same _ (fun e => by rw [e, hs.was] at hh; cases hh)).trans hh) hk hn ih

theorem Shut.shape {D : Nat} {w w' : World} (hs : Shut D w w') {b : Nat} {s : TypeId × Nat} (h : w.shape? b = some s) : w'.shape? b = some s := by
  rw [shape_congr (hs.same _ (fun e => by
    unfold World.shape? at h
    rw [e, hs.was] at h; cases h))]; exact h

theorem XRep.shut {D : Nat} {w w' : World} (hs : Shut D w w') {ι : List Nat} {F : Nat → Prop} {v : Value} {x : XV} (h : XRep w ι F v x) : XRep w' ι F v x := by
  induction h with
  | d h => exact .d (h.shut hs)
  | osl hb hl hlo hex hsh =>
    obtain ⟨ty, sz, h1, h2⟩ := hsh
    exact .osl hb hl hlo hex ⟨ty, sz, hs.shape h1, h2⟩
  | optr hb => exact .optr hb
  | tup hn _ ih => exact .tup hn ih
  | agg hn _ ih => exact .agg hn ih
  | fn hn _ hm _ ih1 ih2 => exact .fn hn ih1 hm ih2
  | ifc _ ih => exact .ifc ih
  | omp hb => exact .omp hb
  | yl hb => exact .yl hb

theorem Mem.shut {M : Nat → Prop} {W0 w w' : World} {ι : List Nat} {σ : List VObj} {D : Nat} (hm : Mem M W0 ι σ w) (hs : Shut D w w') (hD : W0.heap.size ≤ D) : Mem M W0 ι σ w' := by
  refine ⟨hm.len, fun id o b h1 h2 h3 => ?_, fun id o b h1 h2 h3 => ?_, fun id b h => by rw [hs.size]; exact hm.fresh id b h, hm.apart, ?_, hm.outer⟩
  · obtain ⟨cu, ty, q1, q2, q3⟩ := hm.objs id o b h1 h2 h3
    refine ⟨cu, ty, (hs.same b (fun e => by rw [e, hs.was] at q1; cases q1)).trans q1, q2, fun i x hi => ?_⟩
    obtain ⟨v, kv, kx⟩ := q3 i x hi
    exact ⟨v, kv, kx.shut hs⟩
  · rcases hm.spec id o b h1 h2 h3 with ⟨k1, es, clock, k2, k3, k4⟩ | ⟨k1, t, pos, k2, k3⟩ | ⟨k1, r, L, env, k2, k3, k4, k5, k6⟩
    · refine .inl ⟨k1, es, clock, (hs.same b (fun e => by rw [e, hs.was] at k2; cases k2)).trans k2, k3, fun i en c hi hc => ?_⟩
      obtain ⟨x, e1, e2⟩ := k4 i en c hi hc
      exact ⟨x, e1, e2.shut hs⟩
    · exact .inr (.inl ⟨k1, t, pos, (hs.same b (fun e => by rw [e, hs.was] at k2; cases k2)).trans k2, k3⟩)
    · exact .inr (.inr ⟨k1, r, L, env, (hs.same b (fun e => by rw [e, hs.was] at k2; cases k2)).trans k2, k3, k4, k5, fun i v x hv hx => (k6 i v x hv hx).shut hs⟩)
  · exact hm.below.trans ⟨hs.os, hs.tape, hs.output, Nat.le_of_eq hs.size.symm, fun k hk => hs.same k (by omega)⟩

theorem shut_of {w : World} {D : Nat} (h : w.heap[D]? = some (.deferred (some []))) : Shut D w (w.putObj D (.deferred none)) :=
  ⟨h, World.putObj_heap_same (Array.getElem?_eq_some_iff.1 h).1, fun _ hc => World.putObj_heap_other hc, World.putObj_size, rfl, rfl, rfl⟩

theorem Ext.shut {M : Nat → Prop} {ι ι' : List Nat} {σ σ' : List VObj} {w w1 w2 : World} {D : Nat} (e : Ext M ι σ w ι' σ' w1) (hs : Shut D w1 w2) (hD : w.heap.size ≤ D) : Ext M ι σ w ι' σ' w2 :=
  ⟨e.pre, fun b hb hf => (hs.same b (by omega)).trans (e.heap b hb hf), by rw [hs.size]; exact e.size, e.mt, fun b s h => hs.shape (e.shape b s h), fun b r h => by
    obtain ⟨r', h'⟩ := e.loops b r h
    exact ⟨r', (hs.same b (fun e => by rw [e, hs.was] at h'; cases h')).trans h'⟩⟩

/-- The way out of a function: its marks are come to, one after the other. -/
theorem leaves_marks {P : Program} {M : Nat → Prop} {W0 w0 : World} {ι0 ι : List Nat} {σ0 σ : List VObj} {fn : Func} {tmps : Array Value} {env : Nat → XV} {R : Ending → World → Prop} (hW : W0.heap.size ≤ w0.heap.size)
    (hres : ∀ w, Mem M W0 ι σ w → Ext M ι0 σ0 w0 ι σ w → (∀ t, XRep w ι (Forb M ι σ) (tmps.getD t undef) (env t)) → ∃ v, (results fn tmps).run P w = .ok v w ∧ R (.returned v) w) :
    ∀ (Ds : List Nat) (w : World), Ds.Nodup → (∀ D ∈ Ds, w0.heap.size ≤ D ∧ w.heap[D]? = some (.deferred (some []))) → Mem M W0 ι σ w → Ext M ι0 σ0 w0 ι σ w → (∀ t, XRep w ι (Forb M ι σ) (tmps.getD t undef) (env t)) →
      LeavesInM Fence.wide 0 P fn tmps R (Ds.map fun D => { target := .collected D, args := #[] }) .returning w
  | [], w, _, _, hm, he, hx => hres w hm he hx
  | D :: Ds, w, hn, hd, hm, he, hx => by
    obtain ⟨d1, d2⟩ := hd D (by simp)
    rw [List.nodup_cons] at hn
    have hs := shut_of d2
    refine ⟨by simp, .inl ⟨D, _, rfl, run_takeDeferred d2, leaves_marks hW hres Ds _ hn.2 (fun E hE => ?_) (hm.shut hs (by omega)) (he.shut hs d1) (fun t => (hx t).shut hs)⟩⟩
    obtain ⟨k1, k2⟩ := hd E (by simp [hE])
    exact ⟨k1, (hs.same E (fun e => hn.1 (e ▸ hE))).trans k2⟩

/-- FROM A BODY TO A CONTRACT, among the caller's objects. -/
theorem inCall_of {f : FuncId} {fn : Func} {c : Code} {σ : List VObj} {args : List XV} {R : List VObj → XV → Prop} (hf : P.funcs[f]? = some fn) (hb : fn.body = some c) (hn : args.length ≤ fn.ntmps)
    (h : Wp P M W0 fn.ntmps c (enter σ args) (fun e s => (e = .ret ∨ e = .normal) ∧ ∃ x, resX P fn s = some x ∧ R s.σ x)) : InCall P M W0 f σ args R := by
  intro ι w vs hm hl hx
  refine calls_FR (ro := none) (n := 0) (callsIn_of_wp_marks hf hb trivial (h ⟨w.heap.size, none⟩ ι _ w ⟨hm, fun t => ?_, by simp [hl]; omega, ⟨Nat.le_refl _, [], rfl, List.nodup_nil, fun D h => by simp at h⟩, fun l h => by simp at h⟩ _ fun e ι' s' a' w' h1 h2 h3 => ?_))
  · simp only [enter]
    by_cases ht : t < vs.length
    · have e1 : (vs.toArray ++ Array.replicate (fn.ntmps - vs.toArray.size) undef).getD t undef = vs[t] := by
        simp only [Array.getD_eq_getD_getElem?]
        rw [Array.getElem?_append_left (by simpa using ht)]; simp [ht]
      rw [e1]
      have ht' : t < args.length := by omega
      rw [List.getElem?_eq_getElem ht', Option.getD_some]
      exact hx t _ _ (List.getElem?_eq_getElem ht) (List.getElem?_eq_getElem ht')
    · have e1 : (vs.toArray ++ Array.replicate (fn.ntmps - vs.toArray.size) undef).getD t undef = undef := by
        simp only [Array.getD_eq_getD_getElem?]
        rw [Array.getElem?_append_right (by simp; omega), Array.getElem?_replicate]
        split <;> rfl
      rw [e1, List.getElem?_eq_none (by omega)]
      exact .d (.lit _)
  · obtain ⟨he, x, hr, hR⟩ := h1
    obtain ⟨_, Ds, e1, e2, e3⟩ := h2.defers
    have key := leaves_marks (P := P) (M := M) (W0 := W0) (w0 := w) (ι0 := ι) (ι := ι') (σ0 := σ) (σ := s'.σ) (fn := fn) (tmps := a'.tmps) (env := s'.env) (R := fun e w' => ∃ (ι' : List Nat) (σ' : List VObj) (x : XV) (v : Value), e = .returned v ∧ Mem M W0 ι' σ' w' ∧ Ext M ι σ w ι' σ' w' ∧ XRep w' ι' (Forb M ι' σ') v x ∧ R σ' x) hm.below.size
      (fun w2 q1 q2 q3 => by
        obtain ⟨v, k1, k2⟩ := resX_run q1 q3 hr
        exact ⟨v, k1, ι', s'.σ, x, v, rfl, q1, q2, k2, hR⟩) Ds w' e2 (fun D hD => ⟨(e3 D hD).1, (e3 D hD).2.2⟩) h2.mem h3 h2.env
    rcases he with rfl | rfl
    · show LeavesInM Fence.wide 0 P fn a'.tmps _ a'.defers .returning w'
      rw [e1]; exact key
    · show LeavesInM Fence.wide 0 P fn a'.tmps _ a'.defers .returning w'
      rw [e1]; exact key

/-- What a deep call's result is, at the end of its body. -/
def deepRes (P : Program) (fn : Func) (k : Nat) (s : St) (res : DV) : Prop := ∃ x, resX P fn s = some x ∧ deepen (freezeAll s.σ) k x = some res

theorem Mem.start (M : Nat → Prop) (w : World) (h : ∀ b, M b → b < w.heap.size) : Mem M w [] [] w :=
  ⟨rfl, fun id o b h => by simp at h, fun id o b h => by simp at h, fun id b h => by simp at h, fun i j oi oj bi bj _ h => by simp at h, Below.refl _ _, h⟩

theorem forb_nil (M : Nat → Prop) : ∀ b, Forb M [] [] b → M b := by
  rintro b (h | ⟨id, o, h, _⟩)
  · exact h
  · simp at h

theorem deepCall_of_inCall {f : FuncId} {args : List DV} {res : DV} (k : Nat) (h : ∀ (M : Nat → Prop) (W0 : World), InCall P M W0 f [] (args.map .d) (fun σ' x => deepen (freezeAll σ') k x = some res)) : DeepCall P f args res := by
  intro M w vs hM hl hx
  have hrep : ∀ (i : Nat) (v : Value) (x : XV), vs[i]? = some v → (args.map XV.d)[i]? = some x → XRep w [] (Forb M [] []) v x := by
    intro i v x hv hx'
    simp only [List.getElem?_map, Option.map_eq_some_iff] at hx'
    obtain ⟨z, hz, rfl⟩ := hx'
    exact .d ((hx i v z hv hz).ext (fun _ _ _ => rfl) (fun b _ h => forb_nil M b h))
  refine (h M w [] w vs (Mem.start M w hM) (by simpa using hl) hrep).mono fun e w' => ?_
  rintro ⟨ι', σ', x, v, rfl, h1, h2, h3, h4⟩
  obtain ⟨f1, f2⟩ := freezeAll_tamed h1
  exact ⟨v, rfl, (deepen_sound f1 k v x res (h3.ext f2) h4).ext (fun _ _ _ => rfl) (fun b _ h => .inl h), h1.below⟩

/-- FROM A BODY TO A CONTRACT ON DEEP VALUES. -/
theorem deepCall_of {f : FuncId} {fn : Func} {c : Code} {args : List DV} {res : DV} (k : Nat) (hf : P.funcs[f]? = some fn) (hb : fn.body = some c) (hn : args.length ≤ fn.ntmps)
    (h : ∀ (M : Nat → Prop) (W0 : World), Wp P M W0 fn.ntmps c (enter [] (args.map .d)) (fun e s => (e = .ret ∨ e = .normal) ∧ deepRes P fn k s res)) : DeepCall P f args res :=
  deepCall_of_inCall k fun M W0 => inCall_of hf hb (by simpa using hn) ((h M W0).mono fun e s ⟨h1, x, h2, h3⟩ => ⟨h1, x, h2, h3⟩)

end
end Go.Vm

end
section
/-
  VALUES WITHOUT ADDRESSES, 11: a statement that leaves its order open: where the order does not matter, the text's order tells what it does.
-/
namespace Go.Vm
open Go.RowKit

theorem evalOp_congr {P : Program} {o : Oper} {σ : List VObj} {env env2 : Nat → XV} (h : ∀ x ∈ o.op.operands, evalX env2 x = evalX env x) : evalOp P o ⟨σ, env2⟩ = evalOp P o ⟨σ, env⟩ := by
  have hl : litOp P env2 o = litOp P env o := by
    unfold litOp
    have e1 : o.op.operands.all (fun x => (litOf (evalX env2 x)).isSome) = o.op.operands.all (fun x => (litOf (evalX env x)).isSome) := by
      rw [Bool.eq_iff_iff, Array.all_eq_true_iff_forall_mem, Array.all_eq_true_iff_forall_mem]
      exact ⟨fun hh x hx => by rw [← h x hx]; exact hh x hx, fun hh x hx => by rw [h x hx]; exact hh x hx⟩
    rw [e1]
    by_cases hs : isSelect o.op = true
    · simp [hs]
    · have e2 : execOp (fun x => (litOf (evalX env2 x)).getD undef) o = execOp (fun x => (litOf (evalX env x)).getD undef) o :=
        execOp_congr o (fun cs b e => hs (by rw [e]; rfl)) (fun x hx => by simp only [h x hx])
      rw [e2]
  have hx : opExt P env2 o = opExt P env o := by
    have hf : ∀ x ∈ o.op.operands, fnLit env2 x = fnLit env x := fun x hx => by cases x <;> first | rfl | (simp only [fnLit]; rw [h _ hx])
    unfold opExt
    have e1 : o.op.operands.all (fun x => (fnLit env2 x).isSome) = o.op.operands.all (fun x => (fnLit env x).isSome) := by
      rw [Bool.eq_iff_iff, Array.all_eq_true_iff_forall_mem, Array.all_eq_true_iff_forall_mem]
      exact ⟨fun hh x hx => by rw [← hf x hx]; exact hh x hx, fun hh x hx => by rw [hf x hx]; exact hh x hx⟩
    rw [e1]
    by_cases hs : isSelect o.op = true
    · simp [hs]
    · have e2 : execOp (fun x => (fnLit env2 x).getD undef) o = execOp (fun x => (fnLit env x).getD undef) o :=
        execOp_congr o (fun cs b e => hs (by rw [e]; rfl)) (fun x hx => by simp only [hf x hx])
      rw [e2]
  unfold evalOp
  simp only [hl, hx]
  clear hx
  obtain ⟨dst, op, type, pos, after, guard⟩ := o
  simp only at h ⊢
  have hmap : ∀ ps : Array (Nat × Operand), (∀ x ∈ (ps.toList.map (·.2)).toArray, evalX env2 x = evalX env x) → (ps.toList.map fun p => (p.1, evalX env2 p.2)) = ps.toList.map fun p => (p.1, evalX env p.2) := by
    intro ps hp
    refine List.map_congr_left fun p hpm => ?_
    rw [hp p.2 (by simp; exact ⟨p.1, by simpa using hpm⟩)]
  split
  · rfl
  · cases op with
    | move x => simp [h x (by simp [Op.operands])]
    | assign x => simp [h x (by simp [Op.operands])]
    | pick c a b => simp [h c (by simp [Op.operands]), h a (by simp [Op.operands]), h b (by simp [Op.operands])]
    | alloc t => rfl
    | box t x => simp [h x (by simp [Op.operands])]
    | load t a => simp [h a (by simp [Op.operands])]
    | store t a x => simp [h a (by simp [Op.operands]), h x (by simp [Op.operands])]
    | binOp op t x y u => simp [h x (by simp [Op.operands]), h y (by simp [Op.operands])]
    | makeFunc f first caps =>
      have e1 : first.toList.map (evalX env2) = first.toList.map (evalX env) := List.map_congr_left fun x hx => h x (by simp [Op.operands]; exact .inl (by simpa using hx))
      have e2 : caps.toList.map (evalX env2) = caps.toList.map (evalX env) := List.map_congr_left fun x hx => h x (by simp [Op.operands]; exact .inr (by simpa using hx))
      simp only [e1, e2]
    | makeSlice t l c => simp [h l (by simp [Op.operands]), h c (by simp [Op.operands])]
    | slice t x lo hi mx =>
      have e0 := h x (by simp [Op.operands])
      have e1 : lo.map (evalX env2) = lo.map (evalX env) := by cases lo with | none => rfl | some y => simp [h y (by simp [Op.operands])]
      have e2 : hi.map (evalX env2) = hi.map (evalX env) := by cases hi with | none => rfl | some y => simp [h y (by simp [Op.operands])]
      have e3 : mx.map (evalX env2) = mx.map (evalX env) := by cases mx with | none => rfl | some y => simp [h y (by simp [Op.operands])]
      simp only [e0, e1, e2, e3]
    | indexAddr t x i => simp [h x (by simp [Op.operands]), h i (by simp [Op.operands])]
    | extract x i => simp [h x (by simp [Op.operands])]
    | field t x f => simp [h x (by simp [Op.operands])]
    | index t x i => simp [h x (by simp [Op.operands]), h i (by simp [Op.operands])]
    | fieldAddr t x f => simp [h x (by simp [Op.operands])]
    | build t parts => simp only [hmap parts (fun x hx => h x (by simpa [Op.operands] using hx))]
    | buildSlice t n parts => simp only [hmap parts (fun x hx => h x (by simpa [Op.operands] using hx))]
    | call c =>
      obtain ⟨callee, args, ts⟩ := c
      cases callee with
      | builtin b =>
        have hargs : ∀ x ∈ args.toList, evalX env2 x = evalX env x := fun x hx => h x (by simp [Op.operands, Call.operands]; simpa using hx)
        cases b <;> first | rfl | skip
        all_goals
          simp only
          cases hal : args.toList with
          | nil => rfl
          | cons y ys =>
            rw [hal] at hargs
            cases ys with
            | nil => simp [hargs y (by simp)]
            | cons z zs => cases zs with
              | nil => simp [hargs y (by simp), hargs z (by simp)]
              | cons _ _ => rfl
      | value f => rfl
      | invoke r m => rfl
    | _ => rfl

theorem opLoad_pure {P : Program} {σ σ2 : List VObj} {t : TypeId} {x y : XV} (h : opLoad P σ t x = some (y, 0)) : opLoad P σ2 t x = some (y, 0) := by
  unfold opLoad at h ⊢
  cases x with
  | d x => cases x <;> simp_all
  | optr id off =>
    simp only at h
    split at h
    · split at h
      · cases h
      · simp at h
    · cases h
  | _ => simp at h

theorem evalOp_pure {P : Program} {o : Oper} {σ σ' : List VObj} {env : Nat → XV} {x : XV} (h : evalOp P o ⟨σ, env⟩ = some (x, σ', 0)) : ∀ σ2, evalOp P o ⟨σ2, env⟩ = some (x, σ2, 0) := by
  intro σ2
  unfold evalOp at h ⊢
  simp only at h ⊢
  split at h
  · simp at h ⊢; exact h.1
  · rename_i hn
    obtain ⟨dst, op, type, pos, after, guard⟩ := o
    simp only at h ⊢
    cases op with
    | move y => simp at h ⊢; exact h.1
    | assign y => simp at h ⊢; exact h.1
    | pick c a b =>
      simp only at h ⊢
      split at h
      · simp at h ⊢; exact h.1
      · cases h
    | alloc t => simp at h
    | box t y => simp at h
    | load t a =>
      simp only [Option.map_eq_some_iff, Prod.mk.injEq] at h ⊢
      obtain ⟨r, hr, h1, h2, h3⟩ := h
      obtain ⟨r1, r2⟩ := r
      simp at h1 h3
      subst h1; subst h3
      exact ⟨_, opLoad_pure hr, rfl, trivial, rfl⟩
    | store t a y => simp at h
    | binOp op t a b u =>
      simp only at h ⊢
      split at h
      · rename_i q hq
        simp only [Option.some.injEq, Prod.mk.injEq] at h
        obtain ⟨h1, _⟩ := h
        subst h1
        rfl
      · simp at h ⊢; obtain ⟨r, hr, h1, _⟩ := h; subst h1; exact ⟨_, hr, rfl⟩
    | makeFunc f first caps => simp at h ⊢; exact h.1
    | makeSlice t l c => simp at h
    | slice t a lo hi mx =>
      simp only at h ⊢
      split at h
      · rename_i q hq
        simp only [Option.some.injEq, Prod.mk.injEq] at h
        obtain ⟨h1, _⟩ := h
        subst h1
        rfl
      · simp at h
    | indexAddr t a i => simp at h ⊢; obtain ⟨r, hr, h1, _⟩ := h; subst h1; exact hr
    | extract a i => simp at h ⊢; obtain ⟨r, hr, h1, _⟩ := h; subst h1; exact hr
    | field t a f => simp at h ⊢; obtain ⟨r, hr, h1, _⟩ := h; subst h1; exact hr
    | index t a i => simp at h ⊢; obtain ⟨r, hr, h1, _⟩ := h; subst h1; exact hr
    | fieldAddr t a f => simp at h ⊢; obtain ⟨r, hr, h1, _⟩ := h; subst h1; exact hr
    | build t parts => simp at h ⊢; obtain ⟨r, hr, h1, _⟩ := h; subst h1; exact hr
    | buildSlice t n parts => simp at h
    | call c =>
      obtain ⟨callee, args, ts⟩ := c
      cases callee with
      | builtin b =>
        cases b <;> simp only at h ⊢ <;> first | (cases h; done) | skip
        all_goals
          revert h
          cases args.toList with
          | nil => simp
          | cons y ys => cases ys with
            | nil => first | (simp; done) | (simp; intro r hr h1 _; subst h1; exact hr)
            | cons z zs => cases zs with
              | nil => first | (simp; done) | (simp only; intro h; split at h <;> simp at h)
              | cons _ _ => simp
      | value f => simp at h ⊢; obtain ⟨r, hr, h1, _⟩ := h; subst h1; exact ⟨_, hr, rfl⟩
      | invoke r m => simp at h
    | _ => simp at h

theorem evalOp_read {P : Program} {o : Oper} {s : St} {σ' : List VObj} {x : XV} {fl : Nat} (h : evalOp P o s = some (x, σ', fl)) (hf : fl < 2) : σ' = s.σ := by
  unfold evalOp at h
  split at h
  · simp at h; exact h.2.1.symm
  · obtain ⟨dst, op, type, pos, after, guard⟩ := o
    simp only at h
    cases op with
    | call c =>
      obtain ⟨callee, args, ts⟩ := c
      cases callee with
      | builtin b =>
        cases b <;> simp only at h <;> first | (cases h; done) | skip
        all_goals
          revert h
          cases args.toList with
          | nil => simp
          | cons y ys => cases ys with
            | nil => simp <;> (intros; simp_all)
            | cons z zs => cases zs with
              | nil => first | (simp; done) | (simp only; intro h; simp only [Option.map_eq_some_iff, Prod.mk.injEq] at h; obtain ⟨_, _, _, _, h⟩ := h; omega) | (simp only; intro h; split at h <;> simp at h <;> first | (exfalso; obtain ⟨_, _, h3⟩ := h; omega) | (obtain ⟨_, _, _, _, _, h⟩ := h; omega))
              | cons _ _ => simp
      | value f => simp at h; obtain ⟨_, _, _, h2, _⟩ := h; exact h2.symm
      | invoke r m => simp at h
    | binOp op t a b u =>
      simp only at h
      split at h
      · simp at h; exact h.2.1.symm
      · simp at h; obtain ⟨_, _, _, h2, _⟩ := h; exact h2.symm
    | pick c a b =>
      simp only at h
      split at h
      · simp at h; exact h.2.1.symm
      · cases h
    | slice t a lo hi mx =>
      simp only at h
      split at h
      · simp at h; exact h.2.1.symm
      · simp at h; obtain ⟨_, _, _, h2, _⟩ := h; exact h2.symm
    | _ => simp at h <;> first | exact h.2.1.symm | (exfalso; obtain ⟨_, _, h3⟩ := h; omega) | (obtain ⟨_, _, _, h2, h3⟩ := h; first | exact h2.symm | (exfalso; omega)) | (obtain ⟨_, _, _, _, h2, h3⟩ := h; first | exact h2.symm | (exfalso; omega)) | (simp_all; done)

/-- What only makes new objects. -/
theorem evalOp_grow {P : Program} {o : Oper} {s : St} {σ' : List VObj} {x : XV} {fl : Nat} (h : evalOp P o s = some (x, σ', fl)) (hf : fl ≠ 2) : ∃ τ, σ' = s.σ ++ τ := by
  by_cases hf2 : fl < 2
  · exact ⟨[], by rw [evalOp_read h hf2, List.append_nil]⟩
  unfold evalOp at h
  split at h
  · simp at h; exact ⟨[], by rw [List.append_nil]; exact h.2.1.symm⟩
  · obtain ⟨dst, op, type, pos, after, guard⟩ := o
    simp only at h
    cases op with
    | alloc t =>
      simp only [Option.map_eq_some_iff, Prod.mk.injEq] at h
      obtain ⟨r, hr, _, h2, _⟩ := h
      simp only [opAlloc, Option.map_eq_some_iff] at hr
      obtain ⟨z, _, rfl⟩ := hr
      exact ⟨_, h2.symm⟩
    | box t y =>
      simp only [Option.some.injEq, Prod.mk.injEq] at h
      exact ⟨_, h.2.1.symm⟩
    | makeSlice t l c =>
      simp only [Option.map_eq_some_iff, Prod.mk.injEq] at h
      obtain ⟨r, hr, _, h2, _⟩ := h
      unfold opMakeSlice at hr
      split at hr
      · split at hr
        · split at hr
          · cases hr; exact ⟨_, h2.symm⟩
          · cases hr
        · cases hr
      · cases hr
    | buildSlice t n parts =>
      simp only [Option.map_eq_some_iff, Prod.mk.injEq] at h
      obtain ⟨r, hr, _, h2, _⟩ := h
      unfold opBuildSlice at hr
      split at hr
      · split at hr
        · split at hr
          · simp only [Option.map_eq_some_iff] at hr
            obtain ⟨cs, _, rfl⟩ := hr
            exact ⟨_, h2.symm⟩
          · cases hr
        · cases hr
      · cases hr
    | call c =>
      obtain ⟨callee, args, ts⟩ := c
      cases callee with
      | builtin b =>
        cases b <;> simp only at h <;> first | (cases h; done) | skip
        all_goals
          revert h
          cases args.toList with
          | nil => simp
          | cons y ys => cases ys with
            | nil => first | (simp; done) | (simp only; intro h; simp only [Option.map_eq_some_iff, Prod.mk.injEq] at h; obtain ⟨_, _, _, _, h⟩ := h; omega)
            | cons z zs => cases zs with
              | nil => first | (simp; done) | (simp only; intro h; simp only [Option.map_eq_some_iff, Prod.mk.injEq] at h; obtain ⟨_, _, _, _, h⟩ := h; omega) | (simp only; intro h; split at h <;> simp at h <;> first | (exfalso; obtain ⟨_, _, h3⟩ := h; omega) | (obtain ⟨_, _, _, _, _, h⟩ := h; omega))
              | cons _ _ => simp
      | value f => simp at h; obtain ⟨_, _, _, _, h⟩ := h; omega
      | invoke r m => simp at h
    | binOp op t a b u =>
      simp only at h
      split at h
      · simp at h; omega
      · simp at h; obtain ⟨_, _, _, _, h⟩ := h; omega
    | pick c a b =>
      simp only at h
      split at h
      · simp at h; omega
      · cases h
    | slice t a lo hi mx =>
      simp only at h
      split at h
      · simp at h; omega
      · simp at h; obtain ⟨_, _, _, _, h⟩ := h; omega
    | load t a =>
      simp only [Option.map_eq_some_iff, Prod.mk.injEq] at h
      obtain ⟨r, hr, _, h2, _⟩ := h
      exact ⟨[], by rw [List.append_nil]; exact h2.symm⟩
    | _ => simp at h <;> first | (exfalso; obtain ⟨_, _, h3⟩ := h; omega) | (obtain ⟨_, _, _, h2, h3⟩ := h; exfalso; omega) | (obtain ⟨_, _, _, _, h2, h3⟩ := h; exfalso; omega) | (simp_all; done)

/-- What reads reads the same where the objects that it looks at are there. -/
theorem evalOp_one {P : Program} {o : Oper} {σ σ' σ2 : List VObj} {env : Nat → XV} {x : XV} (h : evalOp P o ⟨σ, env⟩ = some (x, σ', 1))
    (h2 : ∀ y ∈ o.op.operands, ∀ id off, evalX env y = .optr id off → ∀ ob, σ[id]? = some ob → ∃ ob', σ2[id]? = some ob' ∧ ob'.cells = ob.cells ∧ (ob'.mode < 2 ↔ ob.mode < 2)) : evalOp P o ⟨σ2, env⟩ = some (x, σ2, 1) := by
  unfold evalOp at h ⊢
  simp only at h ⊢
  split at h
  · simp at h
  · rename_i hn
    obtain ⟨dst, op, type, pos, after, guard⟩ := o
    simp only at h h2 ⊢
    cases op with
    | load t a =>
      simp only [Option.map_eq_some_iff, Prod.mk.injEq] at h ⊢
      obtain ⟨r, hr, e1, _, e3⟩ := h
      have hl := h2 a (by simp [Op.operands])
      refine ⟨r, ?_, e1, trivial, e3⟩
      revert hr hl
      generalize evalX env a = xa
      intro hr hl
      unfold opLoad at hr ⊢
      cases xa with
      | d y => cases y <;> exact hr
      | optr id off =>
        simp only at hr ⊢
        split at hr
        · rename_i ob ho
          obtain ⟨ob', q1, q2, q3⟩ := hl id off rfl ob ho
          rw [q1]
          simp only [q2, q3]
          exact hr
        · cases hr
      | _ => cases hr
    | slice t a lo hi mx =>
      simp only at h ⊢
      split at h
      · simp at h
      · rename_i hns
        simp only [Option.map_eq_some_iff, Prod.mk.injEq] at h ⊢
        obtain ⟨r, hr, e1, _, e3⟩ := h
        have hl := h2 a (by simp [Op.operands])
        refine ⟨r, ?_, e1, by first | trivial | exact ⟨rfl, rfl⟩ | simp⟩
        revert hr hl
        generalize evalX env a = xa
        intro hr hl
        unfold opSliceA at hr ⊢
        cases xa with
        | optr id off =>
          simp only at hr ⊢
          split at hr
          · split at hr
            · rename_i ob ho
              obtain ⟨ob', q1, q2, q3⟩ := hl id off rfl ob ho
              rw [q1]
              simp only [q2, q3]
              exact hr
            · cases hr
          · cases hr
        | _ => cases hr
    | binOp op t a b u =>
      simp only at h
      split at h
      · simp at h
      · simp at h
    | pick c a b =>
      simp only at h
      split at h
      · simp at h
      · cases h
    | call c =>
      obtain ⟨callee, args, ts⟩ := c
      cases callee with
      | builtin b =>
        exfalso
        cases b <;> simp only at h <;> first | (cases h; done) | skip
        all_goals
          revert h
          cases args.toList with
          | nil => simp
          | cons y ys => cases ys with
            | nil => simp
            | cons z zs => cases zs with
              | nil => first | (simp; done) | (simp only; intro h; split at h <;> simp at h)
              | cons _ _ => simp
      | value f => simp at h
      | invoke r m => simp at h
    | _ => simp at h

end Go.Vm

end
