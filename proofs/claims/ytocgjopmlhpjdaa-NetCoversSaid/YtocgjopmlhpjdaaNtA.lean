import Derived.Test.YtocgjopmlhpjdaaNetE
import Derived.Test.YtocgjopmlhpjdaaVmY
import Derived.Test.YtocgjopmlhpjdaaVmKi
/-
  Nets: keys, the graph in memory, place.
-/
namespace Go.Proofs.Ytocgjopmlhpjdaa
open Go.Vm Go.RowKit Go.Nt
theorem K.lenOW {P : Program} {σ : List VObj} {kn : Kn} {dst : Option Tmp} {ty : TypeId} {pos : String} {af : Array Edge} {g : Option (Nat × Bool)} {x : Operand} {t e : TypeId} {k m : Nat} {sx : XV} {cells : List XV} (hx : evK kn x = some sx) (h : OwnK k σ sx cells) (hm : cells.length = m * k) (hk : 0 < k) (ht : P.underlying t = some (.slice e)) :
    KEv P ⟨dst, .call ⟨.builtin .len, #[x], #[t]⟩, ty, pos, af, g⟩ σ kn (.d (DI (m : Nat))) σ 0 := by
  cases h with
  | nil =>
    have : m = 0 := by
      rcases Nat.mul_eq_zero.1 (show m * k = 0 from hm.symm) with h | h
      · exact h
      · omega
    subst this
    exact K.len (R := fun _ (_ : Nat) => True) (l := []) hx .nil ht
  | @sl id n cells h hn =>
    have : m = n := Nat.mul_right_cancel hk (hm.symm.trans hn)
    subst this
    exact K.lenO hx ht
theorem arrK : WideMaps.ArrKey Try.prog 64 3 6 := ⟨Try.underlying64, by kernel_rfl, by kernel_rfl, by kernel_rfl⟩
theorem keyT6 : Try.prog.keyType 64 = true := by kernel_rfl
/-- A marking as a key. -/
def keyM (m : List Int) : Value := .agg #[.int .i64 (tk m 0), .int .i64 (tk m 1), .int .i64 (tk m 2), .int .i64 (tk m 3), .int .i64 (tk m 4), .int .i64 (tk m 5)]
abbrev KeyOk (v : Value) : Prop := ∃ l, keyOf Try.prog 64 v = some l
theorem keyM_lit (m : List Int) : litOf2 (.d (.agg (w6 (tk m)))) = some (keyM m) := rfl
/-- The numbers of a marking are neither negative nor too large. -/
def Bnd (m : List Int) : Prop := ∀ x ∈ m, 0 ≤ x ∧ x ≤ 1099511627776
theorem Bnd.tk {m : List Int} (h : Bnd m) (p : Nat) : 0 ≤ tk m p ∧ tk m p ≤ 1099511627776 := tk_bd (by decide) h p
theorem keyM_ok {m : List Int} (h : Bnd m) : KeyOk (keyM m) := by
  have h0 := h.tk 0; have h1 := h.tk 1; have h2 := h.tk 2; have h3 := h.tk 3; have h4 := h.tk 4; have h5 := h.tk 5
  unfold KeyOk keyM keyOf
  generalize tk m 0 = a0 at *; generalize tk m 1 = a1 at *; generalize tk m 2 = a2 at *; generalize tk m 3 = a3 at *; generalize tk m 4 = a4 at *; generalize tk m 5 = a5 at *
  rw [Try.underlying64]
  simp only [keyT6, Bool.true_and]
  have hf : (Value.agg #[.int .i64 a0, .int .i64 a1, .int .i64 a2, .int .i64 a3, .int .i64 a4, .int .i64 a5]).formed Try.prog 64 = true := by
    unfold Value.formed
    rw [Try.underlying64]
    have h1 : Try.prog.cellsOf 64 = 6 := by kernel_rfl
    simp [h1]
  rw [if_pos hf]
  have hsz : ∃ m, Try.prog.types.size + 1 = m + 2 := ⟨Try.prog.types.size - 1, by have : 1 ≤ Try.prog.types.size := Nat.le_of_ble_eq_true (by kernel_rfl); omega⟩
  obtain ⟨m, hm⟩ := hsz
  have c3 : Try.prog.cellsOf 3 = 1 := by kernel_rfl
  have ck : Try.prog.cellsOf 64 = 6 := by kernel_rfl
  have hl : ∀ x : Int, 0 ≤ x ∧ x ≤ 1099511627776 → Try.prog.keyLits (m + 1) 3 [.int .i64 x] = some [.int .i64 x] := fun x hx => by
    unfold Program.keyLits
    rw [Try.underlying3]
    have : (Lit.int .i64 x).wf = true := by simp [Lit.wf, IntKind.min, IntKind.max, IntKind.signed, IntKind.bits]; omega
    simp [this]
  have h2 : Try.prog.keyLits (m + 2) 64 [.int .i64 a0, .int .i64 a1, .int .i64 a2, .int .i64 a3, .int .i64 a4, .int .i64 a5] = some [.int .i64 a0, .int .i64 a1, .int .i64 a2, .int .i64 a3, .int .i64 a4, .int .i64 a5] := by
    unfold Program.keyLits
    rw [Try.underlying64]
    simp [ck, c3, List.range_succ, hl a0 h0, hl a1 h1, hl a2 h2, hl a3 h3, hl a4 h4, hl a5 h5]
  rw [hm]
  exact ⟨_, by rw [show (Value.agg #[.int .i64 a0, .int .i64 a1, .int .i64 a2, .int .i64 a3, .int .i64 a4, .int .i64 a5]).cells.toList = [.int .i64 a0, .int .i64 a1, .int .i64 a2, .int .i64 a3, .int .i64 a4, .int .i64 a5] from rfl, h2]; rfl⟩
theorem keyM_inj {a b : List Int} (hl : a.length = b.length) (h6 : a.length ≤ 6) (h : keyM a = keyM b) : a = b := by
  simp only [keyM, Value.agg.injEq, Array.mk.injEq, List.cons.injEq, Value.int.injEq, true_and, and_true] at h
  obtain ⟨e0, e1, e2, e3, e4, e5⟩ := h
  refine List.ext_getElem hl fun i h1 h2 => ?_
  rw [← tk_get h1, ← tk_get h2]
  match i, h1 with
  | 0, _ => exact e0
  | 1, _ => exact e1
  | 2, _ => exact e2
  | 3, _ => exact e3
  | 4, _ => exact e4
  | 5, _ => exact e5
  | i + 6, h => omega
/-- The entries of the map that says where a marking stands. -/
def idxM (l : List (List Int)) : List (Value × XV) := l.zipIdx.map fun p => (keyM p.1, .d (DI ((p.2 : Nat) : Int)))
/-- Own slices apart from one another. -/
structure FamP (σ : List VObj) (F : List (Nat × XV × List XV)) : Prop where
  own : ∀ p ∈ F, OwnK p.1 σ p.2.1 p.2.2
  nl : ∀ p ∈ F, p.2.2 = [] → p.2.1 = .d Dnil
  ap : F.Pairwise fun p q => ∀ id, idX p.2.1 = some id → idX q.2.1 ≠ some id
/-- No slice of the family lies there. -/
def Off (F : List (Nat × XV × List XV)) (e : Nat) : Prop := ∀ p ∈ F, idX p.2.1 ≠ some e
theorem FamP.lt {σ : List VObj} {F : List (Nat × XV × List XV)} (h : FamP σ F) {p : Nat × XV × List XV} (hp : p ∈ F) {id : Nat} (hi : idX p.2.1 = some id) : id < σ.length := (h.own p hp).lt hi
theorem FamP.off_new {σ : List VObj} {F : List (Nat × XV × List XV)} (h : FamP σ F) {e : Nat} (he : σ.length ≤ e) : Off F e := fun p hp hi => by have := h.lt hp hi; omega
theorem FamP.keep {σ σ' : List VObj} {F : List (Nat × XV × List XV)} (h : FamP σ F) (hk : ∀ p ∈ F, ∀ j, idX p.2.1 = some j → σ'[j]? = σ[j]?) : FamP σ' F :=
  ⟨fun p hp => (h.own p hp).keep fun j hj => hk p hp j hj, h.nl, h.ap⟩
theorem FamP.push {σ : List VObj} {F : List (Nat × XV × List XV)} (h : FamP σ F) (τ : List VObj) : FamP (σ ++ τ) F := h.keep fun _ hp _ hj => List.getElem?_append_left (h.lt hp hj)
theorem FamP.tail {σ : List VObj} {p : Nat × XV × List XV} {F : List (Nat × XV × List XV)} (h : FamP σ (p :: F)) : FamP σ F ∧ OwnK p.1 σ p.2.1 p.2.2 ∧ (p.2.2 = [] → p.2.1 = .d Dnil) ∧ ∀ id, idX p.2.1 = some id → Off F id := by
  have h1 := h.ap
  rw [List.pairwise_cons] at h1
  exact ⟨⟨fun q hq => h.own q (by simp [hq]), fun q hq => h.nl q (by simp [hq]), h1.2⟩, h.own p (by simp), h.nl p (by simp), fun id hi q hq => h1.1 q hq id hi⟩
theorem FamP.cons {σ : List VObj} {p : Nat × XV × List XV} {F : List (Nat × XV × List XV)} (h : FamP σ F) (ho : OwnK p.1 σ p.2.1 p.2.2) (hn : p.2.2 = [] → p.2.1 = .d Dnil) (ha : ∀ id, idX p.2.1 = some id → Off F id) : FamP σ (p :: F) :=
  ⟨fun q hq => by rcases List.mem_cons.1 hq with rfl | hq; · exact ho
                  · exact h.own q hq, fun q hq => by rcases List.mem_cons.1 hq with rfl | hq; · exact hn
                                                     · exact h.nl q hq, List.pairwise_cons.2 ⟨fun q hq id hi => ha id hi q hq, h.ap⟩⟩
theorem FamP.snoc {σ : List VObj} {p : Nat × XV × List XV} {F : List (Nat × XV × List XV)} (h : FamP σ F) (hx : p.2.1 = .d Dnil) (hc : p.2.2 = []) : FamP σ (F ++ [p]) := by
  refine ⟨fun q hq => ?_, fun q hq => ?_, List.pairwise_append.2 ⟨h.ap, by simp, fun a _ b hb id hi e => ?_⟩⟩
  · rcases List.mem_append.1 hq with hq | hq
    · exact h.own q hq
    · rw [List.mem_singleton.1 hq, hx, hc]; exact .nil
  · rcases List.mem_append.1 hq with hq | hq
    · exact h.nl q hq
    · rw [List.mem_singleton.1 hq]; exact fun _ => hx
  · rw [List.mem_singleton.1 hb, hx] at e; cases e
theorem Off.cons {p : Nat × XV × List XV} {F : List (Nat × XV × List XV)} {e : Nat} : Off (p :: F) e ↔ idX p.2.1 ≠ some e ∧ Off F e :=
  ⟨fun h => ⟨h p (by simp), fun q hq => h q (by simp [hq])⟩, fun h q hq => by rcases List.mem_cons.1 hq with rfl | hq; · exact h.1
                                                                              · exact h.2 q hq⟩
theorem Off.snoc {p : Nat × XV × List XV} {F : List (Nat × XV × List XV)} {e : Nat} (h : Off F e) (hx : p.2.1 = .d Dnil) : Off (F ++ [p]) e := fun q hq => by
  rcases List.mem_append.1 hq with hq | hq
  · exact h q hq
  · rw [List.mem_singleton.1 hq, hx]; intro e; cases e

theorem FamP.put {σ σ' : List VObj} {F : List (Nat × XV × List XV)} (h : FamP σ F) {i : Nat} (hi : i < F.length) {x' : XV} {c' : List XV} (hk : ∀ j, idX F[i].2.1 ≠ some j → j < σ.length → σ'[j]? = σ[j]?)
    (ho : OwnK F[i].1 σ' x' c') (hne : c' ≠ []) (hx : ∃ j, idX x' = some j ∧ σ.length ≤ j) : FamP σ' (F.set i (F[i].1, x', c')) ∧ ∀ e, e < σ.length → Off F e → σ'[e]? = σ[e]? ∧ Off (F.set i (F[i].1, x', c')) e := by
  obtain ⟨j', hj', hl'⟩ := hx
  have hmem : ∀ p ∈ F.set i (F[i].1, x', c'), p = (F[i].1, x', c') ∨ ∃ k, ∃ hk : k < F.length, k ≠ i ∧ p = F[k] := fun p hp => by
    obtain ⟨k, hk1, rfl⟩ := List.getElem_of_mem hp
    rw [List.length_set] at hk1
    rw [List.getElem_set]
    split
    · exact .inl rfl
    · rename_i hne; exact .inr ⟨k, hk1, fun e => hne e.symm, rfl⟩
  have hap := List.pairwise_iff_getElem.1 h.ap
  have apart : ∀ (a b : Nat) (ha : a < F.length) (hb : b < F.length), a ≠ b → ∀ id, idX F[a].2.1 = some id → idX F[b].2.1 ≠ some id := fun a b ha hb hab id hid e => by
    rcases Nat.lt_or_gt_of_ne hab with hlt | hlt
    · exact hap a b ha hb hlt id hid e
    · exact hap b a hb ha hlt id e hid
  refine ⟨⟨fun p hp => ?_, fun p hp => ?_, List.pairwise_iff_getElem.2 fun a b ha hb hab id hid => ?_⟩, fun e he hof => ⟨hk e (hof _ (List.getElem_mem hi)) he, fun p hp => ?_⟩⟩
  · rcases hmem p hp with rfl | ⟨k, hk1, hk2, rfl⟩
    · exact ho
    · exact (h.own _ (List.getElem_mem hk1)).keep fun j hj => hk j (fun e => apart k i hk1 hi hk2 j hj e) (h.lt (List.getElem_mem hk1) hj)
  · rcases hmem p hp with rfl | ⟨k, hk1, hk2, rfl⟩
    · exact fun e => absurd e hne
    · exact h.nl _ (List.getElem_mem hk1)
  · rw [List.length_set] at ha hb
    rw [List.getElem_set] at hid ⊢
    split at hid
    · simp only at hid
      rw [hj'] at hid; cases hid
      rw [if_neg (by omega)]
      intro e3
      have := h.lt (List.getElem_mem hb) e3
      omega
    · split
      · simp only
        rw [hj']
        intro e; cases e
        have := h.lt (List.getElem_mem ha) hid
        omega
      · exact apart a b ha hb (by omega) id hid
  · rcases hmem p hp with rfl | ⟨k, hk1, hk2, rfl⟩
    · simp only; rw [hj']; intro e1; cases e1; omega
    · exact hof _ (List.getElem_mem hk1)
def fdE (e : Ent) : List DV := [DI (e.2.1 : Nat), DI (e.2.2.1 : Nat)]
def arE (p : Nat × Nat) : List DV := [DI (p.1 : Nat), DI (p.2 : Nat)]
def rowsF (R : List XV) (N : List (List (Nat × Nat))) : List (Nat × XV × List XV) := (R.zip N).map fun p => (2, p.1, (p.2.flatMap arE).map .d)
def grF (xn xf xr : XV) (R : List XV) (fs : List Ent) (N : List (List (Nat × Nat))) : List (Nat × XV × List XV) :=
  (6, xn, (flatW (marks fs)).map .d) :: (2, xf, (fs.flatMap fdE).map .d) :: (1, xr, R) :: rowsF R N
/-- The graph that grows. -/
structure GrM (σ : List VObj) (gid mid : Nat) (xn xf xr : XV) (R : List XV) (fs : List Ent) (N : List (List (Nat × Nat))) : Prop where
  g : σ[gid]? = some ⟨[xn, .omp mid, xf, xr], 0⟩
  m : σ[mid]? = some ⟨entX (idxM (marks fs)), 3⟩
  f : FamP σ (grF xn xf xr R fs N)
  og : Off (grF xn xf xr R fs N) gid
  lR : R.length = fs.length
  lN : N.length = fs.length
theorem GrM.ne {σ : List VObj} {gid mid : Nat} {xn xf xr : XV} {R : List XV} {fs : List Ent} {N : List (List (Nat × Nat))} (h : GrM σ gid mid xn xf xr R fs N) : mid ≠ gid := by
  exact obj_ne h.m h.g (by simp)
end Go.Proofs.Ytocgjopmlhpjdaa

