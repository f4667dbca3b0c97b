import Derived.Below
import Derived.Orders
import Derived.Tactics
/-
  VALUES WITHOUT ADDRESSES. A machine on deep values: what a Go function computes when its slices are read as values; memory of the call's own is kept as a list of objects. Here: the values, what it means that a value of the model stands for one, and the machine's operations.
-/
namespace Go.Vm
open Go.RowKit

/-- A deep value: no address of its own memory in it. -/
inductive DV where
  | lit (v : Value)
  | sl (cs : List DV) (len : Nat) (cap : Option Nat)
  | ptr (cs : List DV)
  | tup (ds : List DV)
  | agg (ds : List DV)
  | fn (f : Fn) (first caps : List DV)
  | ifc (t : TypeId) (x : DV)
  deriving Inhabited

/-- A value of a frame: a deep one, or a reference to an object of the call's own. -/
inductive XV where
  | d (x : DV)
  | osl (id off len k lo : Nat) (ex : Bool)
  | optr (id off : Nat)
  | tup (xs : List XV)
  | agg (xs : List XV)
  | fn (f : Fn) (first caps : List XV)
  | ifc (t : TypeId) (x : XV)
  deriving Inhabited

/-- mode: 0 it may be written, 1 it is only read, 2 it is not looked at any more. -/
structure VObj where
  cells : List XV
  mode : Nat
  deriving Inhabited

/-- v stands for the deep value x in the world w; no block of M is looked at. -/
inductive DRep (w : World) (M : Nat → Prop) : Value → DV → Prop
  | lit (v : Value) : DRep w M v (.lit v)
  | sl {a : Addr} {len cap : Nat} {cs : List DV} {capo : Option Nat} (vs : List Value) (hl : len ≤ cap) (hc : ∀ c, capo = some c → cap = c)
      (hn : vs.length = cs.length) (ha : cs ≠ [] → a.spot = none ∧ ¬ M a.block) (hcell : ∀ (i : Nat) (v : Value), vs[i]? = some v → w.cell? ⟨a.block, a.off + i, none⟩ = some v)
      (hx : ∀ (i : Nat) (v : Value) x, vs[i]? = some v → cs[i]? = some x → DRep w M v x) : DRep w M (.slice (some a) len cap) (.sl cs len capo)
  | ptr {a : Addr} {cs : List DV} (vs : List Value)
      (hn : vs.length = cs.length) (ha : cs ≠ [] → a.spot = none ∧ ¬ M a.block) (hcell : ∀ (i : Nat) (v : Value), vs[i]? = some v → w.cell? ⟨a.block, a.off + i, none⟩ = some v)
      (hx : ∀ (i : Nat) (v : Value) x, vs[i]? = some v → cs[i]? = some x → DRep w M v x) : DRep w M (.pointer (some a)) (.ptr cs)
  | tup {vs : Array Value} {ds : List DV} (hn : vs.size = ds.length) (hx : ∀ (i : Nat) (v : Value) x, vs[i]? = some v → ds[i]? = some x → DRep w M v x) : DRep w M (.tuple vs) (.tup ds)
  | agg {vs : Array Value} {ds : List DV} (hn : vs.size = ds.length) (hx : ∀ (i : Nat) (v : Value) x, vs[i]? = some v → ds[i]? = some x → DRep w M v x) : DRep w M (.agg vs) (.agg ds)
  | fn {f : Fn} {vs us : Array Value} {ds es : List DV} (hn : vs.size = ds.length) (hx : ∀ (i : Nat) (v : Value) x, vs[i]? = some v → ds[i]? = some x → DRep w M v x)
      (hm : us.size = es.length) (hy : ∀ (i : Nat) (v : Value) x, us[i]? = some v → es[i]? = some x → DRep w M v x) : DRep w M (.func f vs us) (.fn f ds es)
  | ifc {t : TypeId} {v : Value} {x : DV} (hx : DRep w M v x) : DRep w M (.iface t v) (.ifc t x)

/-- v stands for x in the world w; ι: the blocks of the call's own objects. -/
inductive XRep (w : World) (ι : List Nat) (M : Nat → Prop) : Value → XV → Prop
  | d {v : Value} {x : DV} (h : DRep w M v x) : XRep w ι M v (.d x)
  | osl {b off len cap id k lo : Nat} {ex : Bool} (hb : ι[id]? = some b) (hl : len ≤ lo) (hlo : lo ≤ cap) (hex : ex = true → cap = lo)
      (hs : ∃ ty sz, w.shape? b = some (ty, sz) ∧ off + cap * k ≤ sz) : XRep w ι M (.slice (some ⟨b, off, none⟩) len cap) (.osl id off len k lo ex)
  | optr {b off id : Nat} (hb : ι[id]? = some b) : XRep w ι M (.pointer (some ⟨b, off, none⟩)) (.optr id off)
  | tup {vs : Array Value} {ds : List XV} (hn : vs.size = ds.length) (hx : ∀ (i : Nat) (v : Value) x, vs[i]? = some v → ds[i]? = some x → XRep w ι M v x) : XRep w ι M (.tuple vs) (.tup ds)
  | agg {vs : Array Value} {ds : List XV} (hn : vs.size = ds.length) (hx : ∀ (i : Nat) (v : Value) x, vs[i]? = some v → ds[i]? = some x → XRep w ι M v x) : XRep w ι M (.agg vs) (.agg ds)
  | fn {f : Fn} {vs us : Array Value} {ds es : List XV} (hn : vs.size = ds.length) (hx : ∀ (i : Nat) (v : Value) x, vs[i]? = some v → ds[i]? = some x → XRep w ι M v x)
      (hm : us.size = es.length) (hy : ∀ (i : Nat) (v : Value) x, us[i]? = some v → es[i]? = some x → XRep w ι M v x) : XRep w ι M (.func f vs us) (.fn f ds es)
  | ifc {t : TypeId} {v : Value} {x : XV} (hx : XRep w ι M v x) : XRep w ι M (.iface t v) (.ifc t x)

/-- Block b is that of an object that may be written. -/
def Mut (ι : List Nat) (σ : List VObj) (b : Nat) : Prop := ∃ (id : Nat) (o : VObj), σ[id]? = some o ∧ ι[id]? = some b ∧ o.mode = 0

/-- The blocks that deep values do not look at. -/
def Forb (M : Nat → Prop) (ι : List Nat) (σ : List VObj) (b : Nat) : Prop := M b ∨ Mut ι σ b

/-- The objects stand in the world. -/
structure Mem (M : Nat → Prop) (W0 : World) (ι : List Nat) (σ : List VObj) (w : World) : Prop where
  len : ι.length = σ.length
  objs : ∀ (id : Nat) (o : VObj) (b : Nat), σ[id]? = some o → ι[id]? = some b → o.mode ≠ 2 → ∃ cur ty, w.heap[b]? = some (.cells cur ty (0, 0)) ∧ o.cells.length ≤ cur.size ∧
    ∀ (i : Nat) (x : XV), o.cells[i]? = some x → ∃ v, cur[i]? = some v ∧ XRep w ι (Forb M ι σ) v x
  fresh : ∀ (id b : Nat), ι[id]? = some b → W0.heap.size ≤ b ∧ b < w.heap.size
  apart : ∀ (i j : Nat) (oi oj : VObj) (bi bj : Nat), i ≠ j → σ[i]? = some oi → σ[j]? = some oj → ι[i]? = some bi → ι[j]? = some bj → oi.mode = 0 → oj.mode ≠ 2 → bi ≠ bj
  below : Below W0.heap.size W0 w
  outer : ∀ b, M b → b < W0.heap.size

/-- What a step leaves as it was. -/
structure Ext (M : Nat → Prop) (ι : List Nat) (σ : List VObj) (w : World) (ι' : List Nat) (σ' : List VObj) (w' : World) : Prop where
  pre : ∀ (id b : Nat), ι[id]? = some b → ι'[id]? = some b
  heap : ∀ b, b < w.heap.size → ¬ Forb M ι σ b → w'.heap[b]? = w.heap[b]?
  size : w.heap.size ≤ w'.heap.size
  mt : ∀ b, b < w.heap.size → Mut ι' σ' b → Mut ι σ b
  shape : ∀ b s, w.shape? b = some s → w'.shape? b = some s

theorem lt_of_cell? {w : World} {p : Addr} {v : Value} (h : w.cell? p = some v) : p.block < w.heap.size := by
  unfold World.cell? at h
  split at h
  · rename_i heq
    exact (Array.getElem?_eq_some_iff.1 heq).1
  · cases h

theorem cell?_of_heap {w w' : World} {p : Addr} (h : w'.heap[p.block]? = w.heap[p.block]?) : w'.cell? p = w.cell? p := by
  unfold World.cell?; rw [h]

theorem lt_of_shape? {w : World} {b : Nat} {s : TypeId × Nat} (h : w.shape? b = some s) : b < w.heap.size := by
  unfold World.shape? at h
  split at h
  · rename_i heq
    exact (Array.getElem?_eq_some_iff.1 heq).1
  · cases h

/-- Deep values read as before where the blocks that they look at have not turned. -/
theorem DRep.ext {w w' : World} {M M' : Nat → Prop} {v : Value} {x : DV} (h : DRep w M v x)
    (hheap : ∀ b, b < w.heap.size → ¬ M b → w'.heap[b]? = w.heap[b]?) (hM : ∀ b, b < w.heap.size → M' b → M b) : DRep w' M' v x := by
  induction h with
  | lit v => exact .lit v
  | @sl a len cap cs capo vs hl hc hn ha hcell hx ih =>
    have key : cs ≠ [] → a.block < w.heap.size := by
      intro hne
      cases vs with
      | nil => cases cs with
        | nil => exact absurd rfl hne
        | cons _ _ => simp at hn
      | cons v vs => exact lt_of_cell? (p := ⟨a.block, a.off + 0, none⟩) (hcell 0 v rfl)
    refine .sl vs hl hc hn (fun hne => ⟨(ha hne).1, fun hm => (ha hne).2 (hM _ (key hne) hm)⟩) (fun i v hv => ?_) ih
    have hne : cs ≠ [] := by
      intro e; subst e
      have : vs = [] := List.length_eq_zero_iff.1 (by simpa using hn)
      subst this; simp at hv
    rw [cell?_of_heap (w := w) (p := ⟨a.block, a.off + i, none⟩) (hheap _ (key hne) (ha hne).2)]
    exact hcell i v hv
  | @ptr a cs vs hn ha hcell hx ih =>
    have key : cs ≠ [] → a.block < w.heap.size := by
      intro hne
      cases vs with
      | nil => cases cs with
        | nil => exact absurd rfl hne
        | cons _ _ => simp at hn
      | cons v vs => exact lt_of_cell? (p := ⟨a.block, a.off + 0, none⟩) (hcell 0 v rfl)
    refine .ptr vs hn (fun hne => ⟨(ha hne).1, fun hm => (ha hne).2 (hM _ (key hne) hm)⟩) (fun i v hv => ?_) ih
    have hne : cs ≠ [] := by
      intro e; subst e
      have : vs = [] := List.length_eq_zero_iff.1 (by simpa using hn)
      subst this; simp at hv
    rw [cell?_of_heap (w := w) (p := ⟨a.block, a.off + i, none⟩) (hheap _ (key hne) (ha hne).2)]
    exact hcell i v hv
  | tup hn _ ih => exact .tup hn ih
  | agg hn _ ih => exact .agg hn ih
  | fn hn _ hm _ ih1 ih2 => exact .fn hn ih1 hm ih2
  | ifc _ ih => exact .ifc ih

theorem Ext.forb {M : Nat → Prop} {ι ι' : List Nat} {σ σ' : List VObj} {w w' : World} (h : Ext M ι σ w ι' σ' w') : ∀ b, b < w.heap.size → Forb M ι' σ' b → Forb M ι σ b :=
  fun b hb hf => hf.imp id (h.mt b hb)

theorem XRep.ext {M : Nat → Prop} {ι ι' : List Nat} {σ σ' : List VObj} {w w' : World} {v : Value} {x : XV} (h : XRep w ι (Forb M ι σ) v x) (e : Ext M ι σ w ι' σ' w') :
    XRep w' ι' (Forb M ι' σ') v x := by
  induction h with
  | d h => exact .d (h.ext e.heap e.forb)
  | osl hb hl hlo hex hs =>
    obtain ⟨ty, sz, h1, h2⟩ := hs
    exact .osl (e.pre _ _ hb) hl hlo hex ⟨ty, sz, e.shape _ _ h1, h2⟩
  | optr hb => exact .optr (e.pre _ _ hb)
  | tup hn _ ih => exact .tup hn ih
  | agg hn _ ih => exact .agg hn ih
  | fn hn _ hm _ ih1 ih2 => exact .fn hn ih1 hm ih2
  | ifc _ ih => exact .ifc ih

theorem Ext.refl (M : Nat → Prop) (ι : List Nat) (σ : List VObj) (w : World) : Ext M ι σ w ι σ w :=
  ⟨fun _ _ h => h, fun _ _ _ => rfl, Nat.le_refl _, fun _ _ h => h, fun _ _ h => h⟩

theorem Ext.trans {M : Nat → Prop} {ι ι' ι'' : List Nat} {σ σ' σ'' : List VObj} {w w' w'' : World} (h : Ext M ι σ w ι' σ' w') (k : Ext M ι' σ' w' ι'' σ'' w'') : Ext M ι σ w ι'' σ'' w'' :=
  ⟨fun _ _ e => k.pre _ _ (h.pre _ _ e), fun b hb hf => (k.heap b (Nat.lt_of_lt_of_le hb h.size) (fun hf' => hf (h.forb b hb hf'))).trans (h.heap b hb hf), Nat.le_trans h.size k.size,
    fun b hb hm => h.mt b hb (k.mt b (Nat.lt_of_lt_of_le hb h.size) hm), fun b s hs => k.shape b s (h.shape b s hs)⟩

end Go.Vm

