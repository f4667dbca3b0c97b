import Derived.Test.YtocgjopmlhpjdaaNetE
import Derived.Test.YtocgjopmlhpjdaaBigA
import Derived.Test.YtocgjopmlhpjdaaNtWq
/-
  Nets: keys, the graph in memory, place.
-/
namespace Go.Proofs.Ytocgjopmlhpjdaa
open Go.Vm Go.RowKit Go.Nt
theorem plainTry_93 : plainFn Try.prog 93 = true := by kernel_rfl

theorem K.lenOW {P : Program} {σ : List VObj} {kn : Kn} {dst : Option Tmp} {ty : TypeId} {pos : String} {af : Array Edge} {g : Option (Nat × Bool)} {x : Operand} {t e : TypeId} {k m : Nat} {sx : XV} {cells : List XV} (hx : evK kn x = some sx) (h : OwnK k σ sx cells) (hm : cells.length = m * k) (hk : 0 < k) (ht : P.underlying t = some (.slice e)) :
    KEv P ⟨dst, .call ⟨.builtin .len, #[x], #[t]⟩, ty, pos, af, g⟩ σ kn (.d (DI (m : Nat))) σ 0 := by
  cases h with
  | nil =>
    have : m = 0 := by
      rcases Nat.mul_eq_zero.1 (show m * k = 0 from hm.symm) with h | h
      · exact h
      · omega
    subst this
    exact K.len (R := fun _ (_ : Nat) => True) (l := []) hx .nil ht
  | @sl id n cells h hn =>
    have : m = n := Nat.mul_right_cancel hk (hm.symm.trans hn)
    subst this
    exact K.lenO hx ht
theorem arrK : WideMaps.ArrKey Try.prog 64 3 6 := ⟨Try.underlying64, by kernel_rfl, by kernel_rfl, by kernel_rfl⟩
theorem keyT6 : Try.prog.keyType 64 = true := by kernel_rfl
/-- A marking as a key. -/
def keyM (m : List Int) : Value := .agg #[.int .i64 (tk m 0), .int .i64 (tk m 1), .int .i64 (tk m 2), .int .i64 (tk m 3), .int .i64 (tk m 4), .int .i64 (tk m 5)]
abbrev KeyOk (v : Value) : Prop := ∃ l, keyOf Try.prog 64 v = some l
theorem keyR6 : KeyR Try.prog 64 KeyOk := KeyR.law arrK.law
theorem keyM_lit (m : List Int) : litOf2 (.d (.agg (w6 (tk m)))) = some (keyM m) := rfl
/-- The numbers of a marking are neither negative nor too large. -/
def Bnd (m : List Int) : Prop := ∀ x ∈ m, 0 ≤ x ∧ x ≤ 1099511627776
theorem Bnd.tk {m : List Int} (h : Bnd m) (p : Nat) : 0 ≤ tk m p ∧ tk m p ≤ 1099511627776 := tk_bd (by decide) h p
theorem keyM_ok {m : List Int} (h : Bnd m) : KeyOk (keyM m) := by
  have h0 := h.tk 0; have h1 := h.tk 1; have h2 := h.tk 2; have h3 := h.tk 3; have h4 := h.tk 4; have h5 := h.tk 5
  unfold KeyOk keyM keyOf
  generalize tk m 0 = a0 at *; generalize tk m 1 = a1 at *; generalize tk m 2 = a2 at *; generalize tk m 3 = a3 at *; generalize tk m 4 = a4 at *; generalize tk m 5 = a5 at *
  rw [Try.underlying64]
  simp only [keyT6, Bool.true_and]
  have hf : (Value.agg #[.int .i64 a0, .int .i64 a1, .int .i64 a2, .int .i64 a3, .int .i64 a4, .int .i64 a5]).formed Try.prog 64 = true := by
    unfold Value.formed
    rw [Try.underlying64]
    have h1 : Try.prog.cellsOf 64 = 6 := by kernel_rfl
    simp [h1]
  rw [if_pos hf]
  have hsz : ∃ m, Try.prog.types.size + 1 = m + 2 := ⟨Try.prog.types.size - 1, by have : 1 ≤ Try.prog.types.size := Nat.le_of_ble_eq_true (by kernel_rfl); omega⟩
  obtain ⟨m, hm⟩ := hsz
  have c3 : Try.prog.cellsOf 3 = 1 := by kernel_rfl
  have ck : Try.prog.cellsOf 64 = 6 := by kernel_rfl
  have hl : ∀ x : Int, 0 ≤ x ∧ x ≤ 1099511627776 → Try.prog.keyLits (m + 1) 3 [.int .i64 x] = some [.int .i64 x] := fun x hx => by
    unfold Program.keyLits
    rw [Try.underlying3]
    have : (Lit.int .i64 x).wf = true := by simp [Lit.wf, IntKind.min, IntKind.max, IntKind.signed, IntKind.bits]; omega
    simp [this]
  have h2 : Try.prog.keyLits (m + 2) 64 [.int .i64 a0, .int .i64 a1, .int .i64 a2, .int .i64 a3, .int .i64 a4, .int .i64 a5] = some [.int .i64 a0, .int .i64 a1, .int .i64 a2, .int .i64 a3, .int .i64 a4, .int .i64 a5] := by
    unfold Program.keyLits
    rw [Try.underlying64]
    simp [ck, c3, List.range_succ, hl a0 h0, hl a1 h1, hl a2 h2, hl a3 h3, hl a4 h4, hl a5 h5]
  rw [hm]
  exact ⟨_, by rw [show (Value.agg #[.int .i64 a0, .int .i64 a1, .int .i64 a2, .int .i64 a3, .int .i64 a4, .int .i64 a5]).cells.toList = [.int .i64 a0, .int .i64 a1, .int .i64 a2, .int .i64 a3, .int .i64 a4, .int .i64 a5] from rfl, h2]; rfl⟩
theorem keyM_inj {a b : List Int} (hl : a.length = b.length) (h6 : a.length ≤ 6) (h : keyM a = keyM b) : a = b := by
  simp only [keyM, Value.agg.injEq, Array.mk.injEq, List.cons.injEq, Value.int.injEq, true_and, and_true] at h
  obtain ⟨e0, e1, e2, e3, e4, e5⟩ := h
  refine List.ext_getElem hl fun i h1 h2 => ?_
  rw [← tk_get h1, ← tk_get h2]
  match i, h1 with
  | 0, _ => exact e0
  | 1, _ => exact e1
  | 2, _ => exact e2
  | 3, _ => exact e3
  | 4, _ => exact e4
  | 5, _ => exact e5
  | i + 6, h => omega
/-- The entries of the map that says where a marking stands. -/
def idxM (l : List (List Int)) : List (Value × XV) := l.zipIdx.map fun p => (keyM p.1, .d (DI ((p.2 : Nat) : Int)))
theorem idxM_get {l : List (List Int)} {i : Nat} {p : Value × XV} (h : (idxM l)[i]? = some p) : ∃ m, l[i]? = some m ∧ p = (keyM m, .d (DI (i : Int))) := by
  unfold idxM at h
  rw [List.getElem?_map, List.getElem?_zipIdx] at h
  cases hl : l[i]? with
  | none => rw [hl] at h; cases h
  | some m => rw [hl] at h; simp at h; exact ⟨m, rfl, h.symm⟩
theorem idxM_at {n : Nat} (n6 : n ≤ 6) {l : List (List Int)} (hn : ∀ x ∈ l, x.length = n) {m : List Int} (hm : m.length = n) (h : m ∈ l) (hd : l.Nodup) : AtK (idxM l) (keyM m) (place l m) (.d (DI (place l m : Int))) := by
  refine ⟨?_, fun j p hj hp => ?_⟩
  · unfold idxM
    rw [List.getElem?_map, List.getElem?_zipIdx, place_get h]; simp
  · obtain ⟨x, hx, rfl⟩ := idxM_get hj
    have hxm := hn x (List.mem_of_getElem? hx)
    have e := keyM_inj (by omega) (by omega) hp
    subst e
    exact (place_uniq hd hx).symm
theorem idxM_no {n : Nat} (n6 : n ≤ 6) {l : List (List Int)} (hn : ∀ x ∈ l, x.length = n) {m : List Int} (hm : m.length = n) (h : m ∉ l) : NoK (idxM l) (keyM m) := fun p hp e => by
  obtain ⟨i, hi⟩ := List.getElem?_of_mem hp
  obtain ⟨x, hx, rfl⟩ := idxM_get hi
  have hxm := hn x (List.mem_of_getElem? hx)
  exact h (keyM_inj (by omega) (by omega) e ▸ List.mem_of_getElem? hx)
theorem idxM_ok {l : List (List Int)} (hb : ∀ x ∈ l, Bnd x) : ∀ p ∈ idxM l, KeyOk p.1 := fun p hp => by
  obtain ⟨i, hi⟩ := List.getElem?_of_mem hp
  obtain ⟨x, hx, rfl⟩ := idxM_get hi
  exact keyM_ok (hb x (List.mem_of_getElem? hx))
theorem idxM_snoc (l : List (List Int)) (m : List Int) : idxM (l ++ [m]) = idxM l ++ [(keyM m, .d (DI (l.length : Int)))] := by
  unfold idxM; rw [List.zipIdx_append, List.map_append]; simp

/-- Own slices apart from one another. -/
structure FamP (σ : List VObj) (F : List (Nat × XV × List XV)) : Prop where
  own : ∀ p ∈ F, OwnK p.1 σ p.2.1 p.2.2
  nl : ∀ p ∈ F, p.2.2 = [] → p.2.1 = .d Dnil
  ap : F.Pairwise fun p q => ∀ id, idX p.2.1 = some id → idX q.2.1 ≠ some id
/-- No slice of the family lies there. -/
def Off (F : List (Nat × XV × List XV)) (e : Nat) : Prop := ∀ p ∈ F, idX p.2.1 ≠ some e
theorem FamP.lt {σ : List VObj} {F : List (Nat × XV × List XV)} (h : FamP σ F) {p : Nat × XV × List XV} (hp : p ∈ F) {id : Nat} (hi : idX p.2.1 = some id) : id < σ.length := (h.own p hp).lt hi
theorem FamP.off_new {σ : List VObj} {F : List (Nat × XV × List XV)} (h : FamP σ F) {e : Nat} (he : σ.length ≤ e) : Off F e := fun p hp hi => by have := h.lt hp hi; omega
theorem FamP.keep {σ σ' : List VObj} {F : List (Nat × XV × List XV)} (h : FamP σ F) (hk : ∀ p ∈ F, ∀ j, idX p.2.1 = some j → σ'[j]? = σ[j]?) : FamP σ' F :=
  ⟨fun p hp => (h.own p hp).keep fun j hj => hk p hp j hj, h.nl, h.ap⟩
theorem FamP.push {σ : List VObj} {F : List (Nat × XV × List XV)} (h : FamP σ F) (τ : List VObj) : FamP (σ ++ τ) F := h.keep fun _ hp _ hj => List.getElem?_append_left (h.lt hp hj)
theorem FamP.tail {σ : List VObj} {p : Nat × XV × List XV} {F : List (Nat × XV × List XV)} (h : FamP σ (p :: F)) : FamP σ F ∧ OwnK p.1 σ p.2.1 p.2.2 ∧ (p.2.2 = [] → p.2.1 = .d Dnil) ∧ ∀ id, idX p.2.1 = some id → Off F id := by
  have h1 := h.ap
  rw [List.pairwise_cons] at h1
  exact ⟨⟨fun q hq => h.own q (by simp [hq]), fun q hq => h.nl q (by simp [hq]), h1.2⟩, h.own p (by simp), h.nl p (by simp), fun id hi q hq => h1.1 q hq id hi⟩
theorem FamP.cons {σ : List VObj} {p : Nat × XV × List XV} {F : List (Nat × XV × List XV)} (h : FamP σ F) (ho : OwnK p.1 σ p.2.1 p.2.2) (hn : p.2.2 = [] → p.2.1 = .d Dnil) (ha : ∀ id, idX p.2.1 = some id → Off F id) : FamP σ (p :: F) :=
  ⟨fun q hq => by rcases List.mem_cons.1 hq with rfl | hq; · exact ho
                  · exact h.own q hq, fun q hq => by rcases List.mem_cons.1 hq with rfl | hq; · exact hn
                                                     · exact h.nl q hq, List.pairwise_cons.2 ⟨fun q hq id hi => ha id hi q hq, h.ap⟩⟩
theorem FamP.snoc {σ : List VObj} {p : Nat × XV × List XV} {F : List (Nat × XV × List XV)} (h : FamP σ F) (hx : p.2.1 = .d Dnil) (hc : p.2.2 = []) : FamP σ (F ++ [p]) := by
  refine ⟨fun q hq => ?_, fun q hq => ?_, List.pairwise_append.2 ⟨h.ap, by simp, fun a _ b hb id hi e => ?_⟩⟩
  · rcases List.mem_append.1 hq with hq | hq
    · exact h.own q hq
    · rw [List.mem_singleton.1 hq, hx, hc]; exact .nil
  · rcases List.mem_append.1 hq with hq | hq
    · exact h.nl q hq
    · rw [List.mem_singleton.1 hq]; exact fun _ => hx
  · rw [List.mem_singleton.1 hb, hx] at e; cases e
theorem Off.cons {p : Nat × XV × List XV} {F : List (Nat × XV × List XV)} {e : Nat} : Off (p :: F) e ↔ idX p.2.1 ≠ some e ∧ Off F e :=
  ⟨fun h => ⟨h p (by simp), fun q hq => h q (by simp [hq])⟩, fun h q hq => by rcases List.mem_cons.1 hq with rfl | hq; · exact h.1
                                                                              · exact h.2 q hq⟩
theorem Off.snoc {p : Nat × XV × List XV} {F : List (Nat × XV × List XV)} {e : Nat} (h : Off F e) (hx : p.2.1 = .d Dnil) : Off (F ++ [p]) e := fun q hq => by
  rcases List.mem_append.1 hq with hq | hq
  · exact h q hq
  · rw [List.mem_singleton.1 hq, hx]; intro e; cases e

theorem FamP.put {σ σ' : List VObj} {F : List (Nat × XV × List XV)} (h : FamP σ F) {i : Nat} (hi : i < F.length) {x' : XV} {c' : List XV} (hk : ∀ j, idX F[i].2.1 ≠ some j → j < σ.length → σ'[j]? = σ[j]?)
    (ho : OwnK F[i].1 σ' x' c') (hne : c' ≠ []) (hx : ∃ j, idX x' = some j ∧ σ.length ≤ j) : FamP σ' (F.set i (F[i].1, x', c')) ∧ ∀ e, e < σ.length → Off F e → σ'[e]? = σ[e]? ∧ Off (F.set i (F[i].1, x', c')) e := by
  obtain ⟨j', hj', hl'⟩ := hx
  have hmem : ∀ p ∈ F.set i (F[i].1, x', c'), p = (F[i].1, x', c') ∨ ∃ k, ∃ hk : k < F.length, k ≠ i ∧ p = F[k] := fun p hp => by
    obtain ⟨k, hk1, rfl⟩ := List.getElem_of_mem hp
    rw [List.length_set] at hk1
    rw [List.getElem_set]
    split
    · exact .inl rfl
    · rename_i hne; exact .inr ⟨k, hk1, fun e => hne e.symm, rfl⟩
  have hap := List.pairwise_iff_getElem.1 h.ap
  have apart : ∀ (a b : Nat) (ha : a < F.length) (hb : b < F.length), a ≠ b → ∀ id, idX F[a].2.1 = some id → idX F[b].2.1 ≠ some id := fun a b ha hb hab id hid e => by
    rcases Nat.lt_or_gt_of_ne hab with hlt | hlt
    · exact hap a b ha hb hlt id hid e
    · exact hap b a hb ha hlt id e hid
  refine ⟨⟨fun p hp => ?_, fun p hp => ?_, List.pairwise_iff_getElem.2 fun a b ha hb hab id hid => ?_⟩, fun e he hof => ⟨hk e (hof _ (List.getElem_mem hi)) he, fun p hp => ?_⟩⟩
  · rcases hmem p hp with rfl | ⟨k, hk1, hk2, rfl⟩
    · exact ho
    · exact (h.own _ (List.getElem_mem hk1)).keep fun j hj => hk j (fun e => apart k i hk1 hi hk2 j hj e) (h.lt (List.getElem_mem hk1) hj)
  · rcases hmem p hp with rfl | ⟨k, hk1, hk2, rfl⟩
    · exact fun e => absurd e hne
    · exact h.nl _ (List.getElem_mem hk1)
  · rw [List.length_set] at ha hb
    rw [List.getElem_set] at hid ⊢
    split at hid
    · simp only at hid
      rw [hj'] at hid; cases hid
      rw [if_neg (by omega)]
      intro e3
      have := h.lt (List.getElem_mem hb) e3
      omega
    · split
      · simp only
        rw [hj']
        intro e; cases e
        have := h.lt (List.getElem_mem ha) hid
        omega
      · exact apart a b ha hb (by omega) id hid
  · rcases hmem p hp with rfl | ⟨k, hk1, hk2, rfl⟩
    · simp only; rw [hj']; intro e1; cases e1; omega
    · exact hof _ (List.getElem_mem hk1)
theorem FamP.stay {σ σ' : List VObj} {F : List (Nat × XV × List XV)} (h : FamP σ F) {g : Nat} (hg : Off F g) (hk : ∀ j, j ≠ g → σ'[j]? = σ[j]?) : FamP σ' F := h.keep fun p hp j hj => hk j (by rintro rfl; exact hg p hp hj)
def fdE (e : Ent) : List DV := [DI (e.2.1 : Nat), DI (e.2.2.1 : Nat)]
def arE (p : Nat × Nat) : List DV := [DI (p.1 : Nat), DI (p.2 : Nat)]
def rowsF (R : List XV) (N : List (List (Nat × Nat))) : List (Nat × XV × List XV) := (R.zip N).map fun p => (2, p.1, (p.2.flatMap arE).map .d)
def grF (xn xf xr : XV) (R : List XV) (fs : List Ent) (N : List (List (Nat × Nat))) : List (Nat × XV × List XV) :=
  (6, xn, (flatW (marks fs)).map .d) :: (2, xf, (fs.flatMap fdE).map .d) :: (1, xr, R) :: rowsF R N
/-- The graph that grows. -/
structure GrM (σ : List VObj) (gid mid : Nat) (xn xf xr : XV) (R : List XV) (fs : List Ent) (N : List (List (Nat × Nat))) : Prop where
  g : σ[gid]? = some ⟨[xn, .omp mid, xf, xr], 0⟩
  m : σ[mid]? = some ⟨entX (idxM (marks fs)), 3⟩
  f : FamP σ (grF xn xf xr R fs N)
  og : Off (grF xn xf xr R fs N) gid
  lR : R.length = fs.length
  lN : N.length = fs.length
theorem fd_len (fs : List Ent) : ((fs.flatMap fdE).map XV.d).length = fs.length * 2 := by rw [List.length_map]; induction fs with
  | nil => rfl
  | cons e fs ih => simp [fdE] at ih ⊢; omega
theorem nodes_len (fs : List Ent) : ((flatW (marks fs)).map XV.d).length = fs.length * 6 := by rw [List.length_map, flatW_len, marks_len]
theorem rowsF_snoc {R : List XV} {N : List (List (Nat × Nat))} (h : R.length = N.length) : rowsF (R ++ [.d Dnil]) (N ++ [[]]) = rowsF R N ++ [(2, .d Dnil, [])] := by
  unfold rowsF; rw [List.zip_append h, List.map_append]; simp
theorem flatW_app (a : List (List Int)) (m : List Int) : (flatW a).map XV.d ++ (w6 (tk m)).map XV.d = (flatW (a ++ [m])).map XV.d := by
  unfold flatW; rw [List.flatMap_append, List.map_append]; simp
theorem fd_app (fs : List Ent) (e : Ent) : (fs.flatMap fdE).map XV.d ++ (fdE e).map .d = ((fs ++ [e]).flatMap fdE).map .d := by
  rw [List.flatMap_append, List.map_append]; simp
theorem GrM.off_m {σ : List VObj} {gid mid : Nat} {xn xf xr : XV} {R : List XV} {fs : List Ent} {N : List (List (Nat × Nat))} (h : GrM σ gid mid xn xf xr R fs N) : Off (grF xn xf xr R fs N) mid := fun p hp hi => by
  have ho := h.f.own p hp
  have hm := h.m
  generalize p.2.2 = c at ho
  generalize p.2.1 = x at ho hi
  cases ho with
  | nil => cases hi
  | sl h1 _ => cases hi; rw [h1] at hm; cases hm
theorem GrM.ne {σ : List VObj} {gid mid : Nat} {xn xf xr : XV} {R : List XV} {fs : List Ent} {N : List (List (Nat × Nat))} (h : GrM σ gid mid xn xf xr R fs N) : mid ≠ gid := by
  exact obj_ne h.m h.g (by simp)
set_option maxHeartbeats 4000000 in
set_option maxRecDepth 10000 in
theorem place93 {M : Nat → Prop} {W0 : World} {σ : List VObj} {gid mid n : Nat} {xn xf xr : XV} {R : List XV} {fs : List Ent} {N : List (List (Nat × Nat))} (H : GrM σ gid mid xn xf xr R fs N) {m : List Int} (hm : m.length = n) (n6 : n ≤ 6) (hb : Bnd m)
    (hall : ∀ x ∈ marks fs, x.length = n) (hbs : ∀ x ∈ marks fs, Bnd x) (hnd : (marks fs).Nodup) (hl : fs.length ≤ 3000) (t a : Nat) (w : List Nat) : InCall Try.prog M W0 93 σ [.optr gid 0, .d (.agg (w6 (tk m))), .d (.agg [DI (t : Nat), DI (a : Nat)])] (fun σ' x => x = .d (DI (place (marks (addE fs m t a w)) m : Int)) ∧ ∃ xn' xf' xr' R' N', GrM σ' gid mid xn' xf' xr' R' (addE fs m t a w) N' ∧ N' = (if m ∈ marks fs then N else N ++ [[]]) ∧ σ.length ≤ σ'.length ∧
      ∀ e, e < σ.length → e ≠ gid → e ≠ mid → Off (grF xn xf xr R fs N) e → σ'[e]? = σ[e]? ∧ Off (grF xn' xf' xr' R' (addE fs m t a w) N') e) := by
  obtain ⟨Hg, Hm, Hf, Hog, HlR, HlN⟩ := H
  have hne := (GrM.mk Hg Hm Hf Hog HlR HlN).ne
  have hom := (GrM.mk Hg Hm Hf Hog HlR HlN).off_m
  have hgl := obj_lt Hg
  have hml := obj_lt Hm
  refine inCall_K Try.func93 rfl (Nat.le_of_ble_eq_true rfl) ?_
  refine KC.seq ?_
  refine KC.region ?_
  refine KT.step rfl rfl (K.box rfl) ?_
  refine KT.step rfl rfl (K.box rfl) ?_
  refine KT.step rfl rfl (K.assign rfl) ?_
  refine KT.nil ?_
  refine thenK_n ?_
  refine KC.seq ?_
  refine KC.seq ?_
  refine KC.draw Try.mixed ?_
  refine KT.step rfl rfl (K.move rfl) ?_
  refine KT.step rfl rfl (K.nilCheckO rfl) ?_
  refine KT.step rfl rfl (K.fieldAddrO rfl Try.fld71_1 Try.size67) ?_
  refine KT.step rfl rfl (K.loadO rfl (obj_left (obj_left Hg)) (by simp) rfl Try.agg67) ?_
  have b4 : ((σ ++ [(⟨(w6 (tk m)).map .d, 0⟩ : VObj)]) ++ [(⟨[.d (DI (t : Nat)), .d (DI (a : Nat))], 0⟩ : VObj)])[σ.length]? = some ⟨(w6 (tk m)).map .d, 0⟩ := obj_left (List.getElem?_concat_length ..)
  have b5 : ((σ ++ [(⟨(w6 (tk m)).map .d, 0⟩ : VObj)]) ++ [(⟨[.d (DI (t : Nat)), .d (DI (a : Nat))], 0⟩ : VObj)])[(σ ++ [(⟨(w6 (tk m)).map .d, 0⟩ : VObj)]).length]? = some ⟨[.d (DI (t : Nat)), .d (DI (a : Nat))], 0⟩ := (List.getElem?_concat_length ..)
  refine KT.step rfl rfl (K.loadOA (w6 (tk m)) rfl b4 (by decide) Try.agg64 Try.size64 rfl) ?_
  by_cases hmem : m ∈ marks fs
  · skip
    refine KT.step rfl rfl (K.look (k := keyM m) rfl (obj_left (obj_left Hm)) keyR6 Try.underlying67 (idxM_ok hbs) rfl rfl (keyM_ok hb) (idxM_at n6 hall hm hmem hnd)) ?_
    rw [show ∀ x b, lookR true x b = .tup [x, .d (.lit (.bool b))] from fun _ _ => rfl]
    refine KT.step rfl rfl (K.move rfl) ?_
    refine KT.step rfl rfl (K.extractY rfl rfl) ?_
    refine KT.step rfl rfl (K.extractY rfl rfl) ?_
    refine KT.step rfl rfl (K.assign rfl) ?_
    refine KT.step rfl rfl (K.assign rfl) ?_
    refine KT.nil ?_
    refine ⟨by kernel_rfl, ?_⟩
    refine thenK_n ?_
    refine KC.seq ?_
    refine KC.region ?_
    refine KT.step rfl rfl (K.move rfl) ?_
    refine KT.nil ?_
    refine thenK_n ?_
    refine KC.cond rfl (fun hc19 => ?_) (fun hc19 => ?_)
    · skip
      refine KC.seq ?_
      refine KC.region ?_
      refine KT.step rfl rfl (K.move rfl) ?_
      refine KT.step rfl rfl (K.assign rfl) ?_
      refine KT.nil ?_
      refine thenK_n ?_
      refine KC.ret ?_
      refine thenK_r ?_
      refine ⟨.inl rfl, _, rfl, ?_⟩
      rw [show addE fs m t a w = fs from if_pos hmem]
      refine ⟨rfl, xn, xf, xr, R, N, ⟨obj_left (obj_left Hg), obj_left (obj_left Hm), by rw [List.append_assoc]; exact Hf.push _, Hog, HlR, HlN⟩, by rw [if_pos hmem], by simp, fun e h1 h2 h3 h4 => ⟨by rw [List.append_assoc, List.getElem?_append_left h1], h4⟩⟩
    · cases hc19
  · skip
    refine KT.step rfl rfl (K.lookN (k := keyM m) (z := .int .i64 0) rfl (obj_left (obj_left Hm)) keyR6 Try.underlying67 (by kernel_rfl) (idxM_ok hbs) rfl rfl (keyM_ok hb) (idxM_no n6 hall hm hmem)) ?_
    rw [show ∀ x b, lookR true x b = .tup [x, .d (.lit (.bool b))] from fun _ _ => rfl]
    refine KT.step rfl rfl (K.move rfl) ?_
    refine KT.step rfl rfl (K.extractY rfl rfl) ?_
    refine KT.step rfl rfl (K.extractY rfl rfl) ?_
    refine KT.step rfl rfl (K.assign rfl) ?_
    refine KT.step rfl rfl (K.assign rfl) ?_
    refine KT.nil ?_
    refine ⟨by kernel_rfl, ?_⟩
    refine thenK_n ?_
    refine KC.seq ?_
    refine KC.region ?_
    refine KT.step rfl rfl (K.move rfl) ?_
    refine KT.nil ?_
    refine thenK_n ?_
    refine KC.cond rfl (fun hc19 => ?_) (fun hc19 => ?_)
    · cases hc19
    · skip
      refine KC.skip ?_
      refine thenK_n ?_
      refine KC.seq ?_
      show KC Try.prog M W0 _ _ ((σ ++ [(⟨(w6 (tk m)).map .d, 0⟩ : VObj)]) ++ [(⟨[.d (DI (t : Nat)), .d (DI (a : Nat))], 0⟩ : VObj)]) _ _
      generalize hσ1 : ((σ ++ [(⟨(w6 (tk m)).map .d, 0⟩ : VObj)]) ++ [(⟨[.d (DI (t : Nat)), .d (DI (a : Nat))], 0⟩ : VObj)]) = σ1 at *
      have hl1 : σ1.length = σ.length + 2 := by rw [← hσ1]; simp
      have z4 : σ1[σ.length]? = some ⟨(w6 (tk m)).map .d, 0⟩ := by rw [← hσ1]; exact obj_left (List.getElem?_concat_length ..)
      have z5 : σ1[σ.length + 1]? = some ⟨(fdE (m, t, a, w)).map .d, 0⟩ := by rw [← hσ1, List.getElem?_append_right (by simp)]; simp [fdE]
      have g1 : σ1[gid]? = some ⟨[xn, .omp mid, xf, xr], 0⟩ := by rw [← hσ1]; exact obj_left (obj_left Hg)
      have m1 : σ1[mid]? = some ⟨entX (idxM (marks fs)), 3⟩ := by rw [← hσ1]; exact obj_left (obj_left Hm)
      have f1 : FamP σ1 (grF xn xf xr R fs N) := by rw [← hσ1, List.append_assoc]; exact Hf.push _
      have k1 : ∀ e, e < σ.length → σ1[e]? = σ[e]? := fun e he => by rw [← hσ1, List.append_assoc, List.getElem?_append_left he]
      have off4 : Off (grF xn xf xr R fs N) σ.length := Hf.off_new (Nat.le_refl _)
      have off5 : Off (grF xn xf xr R fs N) (σ.length + 1) := Hf.off_new (by omega)
      refine KC.region ?_
      refine KT.step rfl rfl (K.move rfl) ?_
      refine KT.step rfl rfl (K.nilCheckO rfl) ?_
      refine KT.step rfl rfl (K.fieldAddrO rfl Try.fld71_0 Try.size62) ?_
      refine KT.step rfl rfl (K.loadO rfl g1 (by simp) rfl Try.agg62) ?_
      refine KT.step rfl rfl (K.lenOW (k := 6) (m := fs.length) rfl (f1.own _ (List.mem_cons_self)) (nodes_len fs) (by decide) Try.underlying62) ?_
      refine KT.step rfl rfl (K.assign rfl) ?_
      refine KT.nil ?_
      refine thenK_n ?_
      refine KC.seq ?_
      refine KC.draw Try.mixed ?_
      refine KT.step rfl rfl (K.move rfl) ?_
      refine KT.step rfl rfl (K.nilCheckO rfl) ?_
      refine KT.step rfl rfl (K.fieldAddrO rfl Try.fld71_1 Try.size67) ?_
      refine KT.step rfl rfl (K.loadO rfl g1 (by simp) rfl Try.agg67) ?_
      refine KT.step rfl rfl (K.loadOA (w6 (tk m)) rfl z4 (by decide) Try.agg64 Try.size64 rfl) ?_
      refine KT.step rfl rfl (K.move rfl) ?_
      refine KT.step rfl rfl (K.putNew (k := keyM m) rfl m1 keyR6 Try.underlying67 (idxM_ok hbs) rfl rfl (keyM_ok hb) rfl (idxM_no n6 hall hm hmem)) ?_
      obtain ⟨σ2, hσ2, M0, gk, gl⟩ := obj_put m1 ⟨entX (idxM (marks fs) ++ [(keyM m, .d (DI (fs.length : Nat)))]), 3⟩
      rw [hσ2]
      have y0 : σ2[gid]? = some ⟨[xn, .omp mid, xf, xr], 0⟩ := (gk gid (Ne.symm hne)).trans g1
      have z4b := (gk σ.length (by omega)).trans z4
      have f2 := f1.stay hom gk
      have G0 := Hog
      have Q0 := hom
      have O0 : ∀ e, e < σ.length + 2 → e ≠ gid → e ≠ mid → Off (grF xn xf xr R fs N) e → σ2[e]? = σ1[e]? ∧ Off (grF xn xf xr R fs N) e := fun e h1 h2 h3 h4 => ⟨gk e h3, h4⟩
      refine KT.nil ?_
      refine ⟨by kernel_rfl, ?_⟩
      refine thenK_n ?_
      refine KC.seq ?_
      refine KC.draw Try.mixed ?_
      refine KT.step rfl rfl (K.move rfl) ?_
      refine KT.step rfl rfl (K.move rfl) ?_
      refine KT.step rfl rfl (K.nilCheckO rfl) ?_
      refine KT.step rfl rfl (K.fieldAddrO rfl Try.fld71_0 Try.size62) ?_
      refine KT.step rfl rfl (K.loadO rfl y0 (by simp) rfl Try.agg62) ?_
      refine KT.step rfl rfl (K.loadOA (w6 (tk m)) rfl z4b (by decide) Try.agg64 Try.size64 rfl) ?_
      refine KT.step rfl rfl (K.buildK (k := 6) (ds := w6 (tk m)) rfl rfl Try.underlying62 Try.size64 Try.zero64 (by decide)) ?_
      refine KT.appK (k := 6) rfl rfl rfl rfl ((f2.own _ (List.mem_cons_self)).pushed _) (List.getElem?_concat_length ..) (by simp [w6]) (w6_one _) (by rw [nodes_len]; omega) Try.underlying62 Try.size64 (of_decide_eq_true (by kernel_rfl)) (by kernel_rfl) (by decide) fun σ3 xn1 ho3 k3 w3 => ?_
      have P1 := (f2.push [(⟨(w6 (tk m)).map .d, 0⟩ : VObj)]).put (i := 0) (by simp [grF]) k3 ho3 (by intro e; have := congrArg List.length e; simp [w6] at this) w3
      refine KT.step rfl rfl (K.nilCheckO rfl) ?_
      refine KT.step rfl rfl (K.fieldAddrO rfl Try.fld71_0 Try.size62) ?_
      have s3 : σ3[gid]? = some ⟨[xn, .omp mid, xf, xr], 0⟩ := (P1.2 gid (by rw [List.length_append]; omega) G0).1.trans (obj_left y0)
      refine KT.storeG rfl rfl rfl rfl s3 (by simp) ho3.cells.1 ho3.cells.2 Try.size62 fun σ4 l4 u4 v4 => ?_
      have u4 : σ4[gid]? = some ⟨[xn1, .omp mid, xf, xr], 0⟩ := u4
      have f4 := P1.1.stay (P1.2 gid (by rw [List.length_append]; omega) G0).2 v4
      have G1 := (P1.2 gid (by rw [List.length_append]; omega) G0).2
      have O1 : ∀ e, e < σ.length + 2 → e ≠ gid → e ≠ mid → Off (grF xn xf xr R fs N) e → σ4[e]? = σ1[e]? ∧ Off ((6, xn1, ((flatW (marks fs)).map XV.d ++ (w6 (tk m)).map .d)) :: (2, xf, (fs.flatMap fdE).map .d) :: (1, xr, R) :: rowsF R N) e := fun e h1 h2 h3 h4 => by
        have q := O0 e h1 h2 h3 h4
        have q2 := P1.2 e (by rw [List.length_append]; omega) q.2
        exact ⟨(v4 e h2).trans (q2.1.trans ((List.getElem?_append_left (by omega)).trans q.1)), q2.2⟩
      have M1 : σ4[mid]? = some ⟨entX (idxM (marks fs) ++ [(keyM m, .d (DI (fs.length : Nat)))]), 3⟩ := (v4 mid hne).trans ((P1.2 mid (by rw [List.length_append]; omega) Q0).1.trans (obj_left M0))
      have Q1 := (P1.2 mid (by rw [List.length_append]; omega) Q0).2
      have L1 : σ.length + 2 ≤ σ4.length := by have := obj_lt ((O1 (σ.length + 1) (by omega) (by omega) (by omega) off5).1.trans z5); omega
      have y1 := u4
      refine KT.nil ?_
      refine ⟨by kernel_rfl, ?_⟩
      refine thenK_n ?_
      refine KC.seq ?_
      refine KC.draw Try.mixed ?_
      refine KT.step rfl rfl (K.move rfl) ?_
      refine KT.step rfl rfl (K.move rfl) ?_
      refine KT.step rfl rfl (K.nilCheckO rfl) ?_
      refine KT.step rfl rfl (K.fieldAddrO rfl Try.fld71_2 Try.size68) ?_
      refine KT.step rfl rfl (K.loadO rfl y1 (by simp) rfl Try.agg68) ?_
      refine KT.step rfl rfl (K.loadOA (md := 0) (fdE (m, t, a, w)) rfl (by rw [List.length_append]; exact (O1 (σ.length + 1) (by omega) (by omega) (by omega) off5).1.trans z5) (by decide) Try.agg115 Try.size115 rfl) ?_
      refine KT.step rfl rfl (K.buildK (k := 2) (ds := fdE (m, t, a, w)) rfl rfl Try.underlying68 Try.size115 Try.zero115 (by decide)) ?_
      refine KT.appK (k := 2) rfl rfl rfl rfl ((f4.own _ (List.mem_cons_of_mem _ List.mem_cons_self)).pushed _) (List.getElem?_concat_length ..) rfl rfl (by rw [fd_len]; omega) Try.underlying68 Try.size115 (of_decide_eq_true (by kernel_rfl)) (by kernel_rfl) (by decide) fun σ5 xf1 ho5 k5 w5 => ?_
      have P2 := (f4.push [(⟨(fdE (m, t, a, w)).map .d, 0⟩ : VObj)]).put (i := 1) (by simp [grF]) k5 ho5 (by intro e; have := congrArg List.length e; simp [fdE] at this) w5
      refine KT.step rfl rfl (K.nilCheckO rfl) ?_
      refine KT.step rfl rfl (K.fieldAddrO rfl Try.fld71_2 Try.size68) ?_
      have s5 : σ5[gid]? = some ⟨[xn1, .omp mid, xf, xr], 0⟩ := (P2.2 gid (by rw [List.length_append]; omega) G1).1.trans (obj_left y1)
      refine KT.storeG rfl rfl rfl rfl s5 (by simp) ho5.cells.1 ho5.cells.2 Try.size68 fun σ6 l6 u6 v6 => ?_
      have u6 : σ6[gid]? = some ⟨[xn1, .omp mid, xf1, xr], 0⟩ := u6
      have f6 := P2.1.stay (P2.2 gid (by rw [List.length_append]; omega) G1).2 v6
      have G2 := (P2.2 gid (by rw [List.length_append]; omega) G1).2
      have O2 : ∀ e, e < σ.length + 2 → e ≠ gid → e ≠ mid → Off (grF xn xf xr R fs N) e → σ6[e]? = σ1[e]? ∧ Off ((6, xn1, ((flatW (marks fs)).map XV.d ++ (w6 (tk m)).map .d)) :: (2, xf1, ((fs.flatMap fdE).map XV.d ++ (fdE (m, t, a, w)).map .d)) :: (1, xr, R) :: rowsF R N) e := fun e h1 h2 h3 h4 => by
        have q := O1 e h1 h2 h3 h4
        have q2 := P2.2 e (by rw [List.length_append]; omega) q.2
        exact ⟨(v6 e h2).trans (q2.1.trans ((List.getElem?_append_left (by omega)).trans q.1)), q2.2⟩
      have M2 : σ6[mid]? = some ⟨entX (idxM (marks fs) ++ [(keyM m, .d (DI (fs.length : Nat)))]), 3⟩ := (v6 mid hne).trans ((P2.2 mid (by rw [List.length_append]; omega) Q1).1.trans (obj_left M1))
      have Q2 := (P2.2 mid (by rw [List.length_append]; omega) Q1).2
      have L2 : σ.length + 2 ≤ σ6.length := by have := obj_lt ((O2 (σ.length + 1) (by omega) (by omega) (by omega) off5).1.trans z5); omega
      have y2 := u6
      refine KT.nil ?_
      refine ⟨by kernel_rfl, ?_⟩
      refine thenK_n ?_
      refine KC.seq ?_
      refine KC.region ?_
      refine KT.step rfl rfl (K.move rfl) ?_
      refine KT.step rfl rfl (K.move rfl) ?_
      refine KT.step rfl rfl (K.nilCheckO rfl) ?_
      refine KT.step rfl rfl (K.fieldAddrO rfl Try.fld71_3 Try.size69) ?_
      refine KT.step rfl rfl (K.loadO rfl y2 (by simp) rfl Try.agg69) ?_
      refine KT.step rfl rfl (K.buildC (k := 1) (cs := [.d Dnil]) rfl rfl rfl Try.underlying69 Try.size68 Try.one68.zero (by decide)) ?_
      refine KT.appK (k := 1) rfl rfl rfl rfl ((f6.own _ (List.mem_cons_of_mem _ (List.mem_cons_of_mem _ List.mem_cons_self))).pushed _) (List.getElem?_concat_length ..) rfl rfl (by rw [HlR]; omega) Try.underlying69 Try.size68 (of_decide_eq_true (by kernel_rfl)) (by kernel_rfl) (by decide) fun σ7 xr1 ho7 k7 w7 => ?_
      have P3 := (f6.push [(⟨[.d Dnil], 0⟩ : VObj)]).put (i := 2) (by simp [grF]) k7 ho7 (by simp) w7
      refine KT.step rfl rfl (K.nilCheckO rfl) ?_
      refine KT.step rfl rfl (K.fieldAddrO rfl Try.fld71_3 Try.size69) ?_
      have s7 : σ7[gid]? = some ⟨[xn1, .omp mid, xf1, xr], 0⟩ := (P3.2 gid (by rw [List.length_append]; omega) G2).1.trans (obj_left y2)
      refine KT.storeG rfl rfl rfl rfl s7 (by simp) ho7.cells.1 ho7.cells.2 Try.size69 fun σ8 l8 u8 v8 => ?_
      have u8 : σ8[gid]? = some ⟨[xn1, .omp mid, xf1, xr1], 0⟩ := u8
      have f8 := P3.1.stay (P3.2 gid (by rw [List.length_append]; omega) G2).2 v8
      have G3 := (P3.2 gid (by rw [List.length_append]; omega) G2).2
      have O3 : ∀ e, e < σ.length + 2 → e ≠ gid → e ≠ mid → Off (grF xn xf xr R fs N) e → σ8[e]? = σ1[e]? ∧ Off ((6, xn1, ((flatW (marks fs)).map XV.d ++ (w6 (tk m)).map .d)) :: (2, xf1, ((fs.flatMap fdE).map XV.d ++ (fdE (m, t, a, w)).map .d)) :: (1, xr1, (R ++ [.d Dnil])) :: rowsF R N) e := fun e h1 h2 h3 h4 => by
        have q := O2 e h1 h2 h3 h4
        have q2 := P3.2 e (by rw [List.length_append]; omega) q.2
        exact ⟨(v8 e h2).trans (q2.1.trans ((List.getElem?_append_left (by omega)).trans q.1)), q2.2⟩
      have M3 : σ8[mid]? = some ⟨entX (idxM (marks fs) ++ [(keyM m, .d (DI (fs.length : Nat)))]), 3⟩ := (v8 mid hne).trans ((P3.2 mid (by rw [List.length_append]; omega) Q2).1.trans (obj_left M2))
      have Q3 := (P3.2 mid (by rw [List.length_append]; omega) Q2).2
      have L3 : σ.length + 2 ≤ σ8.length := by have := obj_lt ((O3 (σ.length + 1) (by omega) (by omega) (by omega) off5).1.trans z5); omega
      have y3 := u8
      refine KT.nil ?_
      refine thenK_n ?_
      refine KC.seq ?_
      refine KC.region ?_
      refine KT.step rfl rfl (K.move rfl) ?_
      refine KT.step rfl rfl (K.assign rfl) ?_
      refine KT.nil ?_
      refine thenK_n ?_
      refine KC.ret ?_
      have eE : addE fs m t a w = fs ++ [(m, t, a, w ++ [t])] := if_neg hmem
      have eF : ((6, xn1, ((flatW (marks fs)).map XV.d ++ (w6 (tk m)).map .d)) :: (2, xf1, ((fs.flatMap fdE).map XV.d ++ (fdE (m, t, a, w)).map .d)) :: (1, xr1, (R ++ [.d Dnil])) :: rowsF R N) ++ [(2, .d Dnil, [])] = grF xn1 xf1 xr1 (R ++ [.d Dnil]) (fs ++ [(m, t, a, w ++ [t])]) (N ++ [[]]) := by
        unfold grF
        rw [rowsF_snoc (by omega), marks_append, show marks [(m, t, a, w ++ [t])] = [m] from rfl, ← flatW_app, ← fd_app]; rfl
      have f9 : FamP σ8 (((6, xn1, ((flatW (marks fs)).map XV.d ++ (w6 (tk m)).map .d)) :: (2, xf1, ((fs.flatMap fdE).map XV.d ++ (fdE (m, t, a, w)).map .d)) :: (1, xr1, (R ++ [.d Dnil])) :: rowsF R N) ++ [(2, .d Dnil, [])]) := f8.snoc (p := (2, .d Dnil, [])) rfl rfl
      have o9 : Off (((6, xn1, ((flatW (marks fs)).map XV.d ++ (w6 (tk m)).map .d)) :: (2, xf1, ((fs.flatMap fdE).map XV.d ++ (fdE (m, t, a, w)).map .d)) :: (1, xr1, (R ++ [.d Dnil])) :: rowsF R N) ++ [(2, .d Dnil, [])]) gid := G3.snoc (p := (2, .d Dnil, [])) rfl
      rw [eF] at f9 o9
      refine ⟨.inl rfl, _, rfl, ?_⟩
      rw [eE]
      refine ⟨?_, xn1, xf1, xr1, R ++ [.d Dnil], N ++ [[]], ⟨u8, ?_, f9, o9, by simp [HlR], by simp [HlN]⟩, by rw [if_neg hmem], by omega, fun e h1 h2 h3 h4 => ?_⟩
      · rw [marks_append, show marks [(m, t, a, w ++ [t])] = [m] from rfl, place_new hmem, marks_len]
      · rw [marks_append, show marks [(m, t, a, w ++ [t])] = [m] from rfl, idxM_snoc, marks_len]; exact M3
      · have q := O3 e (by omega) h2 h3 h4
        have o : Off (((6, xn1, ((flatW (marks fs)).map XV.d ++ (w6 (tk m)).map .d)) :: (2, xf1, ((fs.flatMap fdE).map XV.d ++ (fdE (m, t, a, w)).map .d)) :: (1, xr1, (R ++ [.d Dnil])) :: rowsF R N) ++ [(2, .d Dnil, [])]) e := q.2.snoc (p := (2, .d Dnil, [])) rfl
        rw [eF] at o
        exact ⟨q.1.trans (k1 e h1), o⟩
end Go.Proofs.Ytocgjopmlhpjdaa

