import Derived.Test.YtdilkpcnkhedlaaBaK
import Derived.Test.YtdilkpcnkhedlaaVmOr
/-
  Batch: families of own slices; an append in an open order; the graph of a shop (pure).
-/
namespace Go.Vm
open Go.RowKit
def isNilB : DV → Bool
  | .lit _ => true
  | _ => false
section
variable {P : Program} {n : Nat} {ops : Array Oper} {l : List Oper} {σ : List VObj} {kn : Kn} {dst : Option Tmp} {ty : TypeId} {pos : String} {af : Array Edge} {g : Option (Nat × Bool)}
theorem K.appE {t e : TypeId} {x y : Operand} {k : Nat} {sx : XV} {cells vs : List XV} {id : Nat}
    (hx : evK kn x = some sx) (hy : evK kn y = some (.osl id 0 1 k 1 true)) (hown : OwnK k σ sx cells) (hid : σ[id]? = some ⟨vs, 0⟩) (hvs : vs.length = k) (h1v : vs.all oneX = true) (hlen : cells.length < 1073741823)
    (ht : P.underlying t = some (.slice e)) (hs : sizeT P e = some k) (hb : bytesT P e ≤ 65536) (hz : (zeroT P e).map (·.cells.size) = some k) (hk : 0 < k) :
    ∃ σ' x', KEv P ⟨dst, .call ⟨.builtin .append, #[x, y], #[t, t]⟩, ty, pos, af, g⟩ σ kn x' σ' 2 ∧ OwnK k σ' x' (cells ++ vs) ∧ (∀ j, idX sx ≠ some j → j < σ.length → σ'[j]? = σ[j]?) ∧ ∃ j, idX x' = some j ∧ σ.length ≤ j := by
  have hsrc : srcCells σ k (.osl id 0 1 k 1 true) = some (vs, 1, 1) := by
    simp [srcCells, hid, hvs]
    rw [List.take_of_length_le (by omega)]
  cases hown with
  | nil =>
    refine ⟨σ ++ [⟨vs, 0⟩], .osl σ.length 0 1 k 1 false, ev_op fun env he => ?_, .sl (by simp) (by simp [hvs]), fun j _ hj => by rw [List.getElem?_append_left hj], _, rfl, Nat.le_refl _⟩
    have e1 := evK_evalX he hx
    have e2 := evK_evalX he hy
    unfold evalOp
    rw [litOp_none (x := y) (by simp [Op.operands, Call.operands]) (by rw [e2]; rfl)]
    simp [e1, e2, opAppend, ht, hs, hsrc, h1v, growTo, hb, hz]
  | @sl oid m cells ho hn =>
    have hm : m < 1073741823 := by
      have : m * 1 ≤ m * k := Nat.mul_le_mul_left _ hk
      omega
    refine ⟨(σ.set oid ⟨cells, 2⟩) ++ [⟨cells ++ vs, 0⟩], .osl σ.length 0 (m + 1) k (m + 1) false, ev_op fun env he => ?_,
      .sl (by rw [List.getElem?_append_right (by simp)]; simp) (by simp [hn, hvs, Nat.add_mul]), fun j hj hlt => by
        rw [List.getElem?_append_left (by simpa using hlt), List.getElem?_set]
        rw [if_neg (fun e => hj (by rw [e]; rfl))], _, rfl, Nat.le_refl _⟩
    have e1 := evK_evalX he hx
    have e2 := evK_evalX he hy
    unfold evalOp
    rw [litOp_none (x := x) (by simp [Op.operands, Call.operands]) (by rw [e1]; rfl)]
    have h3 : m + 1 ≤ 1073741824 := by omega
    have h4 : ¬ m + 1 ≤ m := by omega
    simp [e1, e2, opAppend, ht, hs, hsrc, h1v, ho, hb, hz, h3, h4, hn]
theorem K.lenOK {x : Operand} {t e : TypeId} {k m : Nat} {sx : XV} {cells : List XV} (hx : evK kn x = some sx) (h : OwnK k σ sx cells) (hm : cells.length = m * k) (hk : 0 < k) (ht : P.underlying t = some (.slice e)) :
    KEv P ⟨dst, .call ⟨.builtin .len, #[x], #[t]⟩, ty, pos, af, g⟩ σ kn (.d (DI (m : Nat))) σ 0 := by
  cases h with
  | nil =>
    have : m = 0 := by
      rcases Nat.mul_eq_zero.1 (show m * k = 0 from hm.symm) with h | h
      · exact h
      · omega
    subst this
    exact K.len (R := fun _ (_ : Nat) => True) (l := []) hx .nil ht
  | @sl id n cells h hn =>
    have : m = n := Nat.mul_right_cancel hk (hm.symm.trans hn)
    subst this
    exact K.lenO hx ht
theorem K.eqNilB {x : Operand} {t u e : TypeId} {d : DV} (hx : evK kn x = some (.d d)) (hd : SlD d) (ht : P.underlying t = some (.slice e)) :
    KEv P ⟨dst, .binOp .eql t x (.const (.slice none 0 0)) u, ty, pos, af, g⟩ σ kn (.d (DB (isNilB d))) σ 0 := by
  cases hd with
  | nil => exact K.eqNilNil hx ht
  | sl cs len cap => exact K.eqNil hx ht
theorem K.neqNilNilB {x : Operand} {t u e : TypeId} (hx : evK kn x = some (.d Dnil)) (ht : P.underlying t = some (.slice e)) :
    KEv P ⟨dst, .binOp .neq t x (.const (.slice none 0 0)) u, ty, pos, af, g⟩ σ kn (.d (DB false)) σ 0 :=
  K.bin hx rfl (by
    rw [pureRun_bind]
    show (some ()).bind _ = _
    simp only [Option.bind_some]
    show pureRun P (do pure (Value.bool (!(← Op.equal t (.slice none 0 0) (.slice none 0 0)))) : Sem Value) = _
    rw [pureRun_bind]
    have : pureRun P (Op.equal t (.slice none 0 0) (.slice none 0 0)) = some true := by
      show pureRun P (Op.equalIn (9999 + 1) t (.slice none 0 0) (.slice none 0 0)) = _
      unfold Op.equalIn
      rw [pureRun_bind, pureRun_underlying ht]; rfl
    rw [this]; rfl)
theorem K.neqNilB {x : Operand} {t u e : TypeId} {d : DV} (hx : evK kn x = some (.d d)) (hd : SlD d) (ht : P.underlying t = some (.slice e)) :
    KEv P ⟨dst, .binOp .neq t x (.const (.slice none 0 0)) u, ty, pos, af, g⟩ σ kn (.d (DB (!isNilB d))) σ 0 := by
  cases hd with
  | nil => exact K.neqNilNilB hx ht
  | sl cs len cap =>
    exact ev_op fun env he => by
      have e1 := evK_evalX he hx
      have e2 : evalX env (.const (.slice none 0 0)) = .d (.lit (.slice none 0 0)) := rfl
      unfold evalOp
      rw [litOp_none (x := x) (by simp [Op.operands]) (by rw [e1]; rfl)]
      simp [e1, e2, opEqNil, isSliceT, ht, isSl, isNilSl, isNilB]
/-- append in an open order: the slice that is appended to is what no other operation reads. -/
theorem KTZ.appK {Z : Nat → Prop} {R : List Nat → List Nat → List VObj → Kn → Prop} {t e : TypeId} {x y : Operand} {k : Nat} {sx : XV} {cells vs : List XV} {id : Nat} (hg : guardK ops kn ⟨dst, .call ⟨.builtin .append, #[x, y], #[t, t]⟩, ty, pos, af, g⟩ = some true) (hd : dstOk n dst = true)
    (hZ : ∀ j, idX sx = some j → Z j)
    (hx : evK kn x = some sx) (hy : evK kn y = some (.osl id 0 1 k 1 true)) (hown : OwnK k σ sx cells) (hid : σ[id]? = some ⟨vs, 0⟩) (hvs : vs.length = k) (h1v : vs.all oneX = true) (hlen : cells.length < 1073741823)
    (ht : P.underlying t = some (.slice e)) (hs : sizeT P e = some k) (hb : bytesT P e ≤ 65536) (hz : (zeroT P e).map (·.cells.size) = some k) (hk : 0 < k)
    (h : ∀ σ' x', OwnK k σ' x' (cells ++ vs) → (∀ j, idX sx ≠ some j → j < σ.length → σ'[j]? = σ[j]?) → (∃ j, idX x' = some j ∧ σ.length ≤ j) → KTZ P n ops Z l σ' (extK dst x' kn) (fun fls gs τ k => R (2 :: fls) (2 :: gs) τ k)) :
    KTZ P n ops Z (⟨dst, .call ⟨.builtin .append, #[x, y], #[t, t]⟩, ty, pos, af, g⟩ :: l) σ kn R := by
  obtain ⟨σ', x', h1, h2, h3, h4⟩ := K.appE (P := P) (dst := dst) (ty := ty) (pos := pos) (af := af) (g := g) hx hy hown hid hvs h1v hlen ht hs hb hz hk
  refine KTZ.write hg hd (fun i ob hi ho => ?_) h1 (h σ' x' h2 h3 h4)
  have hlt : i < σ.length := (List.getElem?_eq_some_iff.1 ho).1
  exact ⟨ob, (h3 i (fun e => hi (hZ i e)) hlt).trans ho, rfl, Iff.rfl⟩
end
/-- Own slices apart from one another. -/
structure Fam (lo : Nat) (σ : List VObj) (F : List (Nat × XV × List XV)) : Prop where
  own : ∀ p ∈ F, OwnK p.1 σ p.2.1 p.2.2 ∧ (p.2.2 = [] → p.2.1 = .d Dnil) ∧ ∀ j, idX p.2.1 = some j → lo ≤ j
  apart : ∀ (i j : Nat) (hi : i < F.length) (hj : j < F.length), i ≠ j → ∀ id, idX F[i].2.1 = some id → idX F[j].2.1 ≠ some id
theorem Fam.keep {lo : Nat} {σ σ' : List VObj} {F : List (Nat × XV × List XV)} (h : Fam lo σ F) (hk : ∀ j, lo ≤ j → j < σ.length → σ'[j]? = σ[j]?) : Fam lo σ' F :=
  ⟨fun p hp => ⟨(h.own p hp).1.keep fun j hj => hk j ((h.own p hp).2.2 j hj) ((h.own p hp).1.lt hj), (h.own p hp).2⟩, h.apart⟩
theorem Fam.put {lo : Nat} {σ σ' : List VObj} {F : List (Nat × XV × List XV)} (h : Fam lo σ F) {i : Nat} (hi : i < F.length) {x' : XV} {cells' : List XV} (hk : ∀ j, idX F[i].2.1 ≠ some j → j < σ.length → σ'[j]? = σ[j]?)
    (ho : OwnK F[i].1 σ' x' cells') (hne : cells' ≠ []) (hx : ∃ j, idX x' = some j ∧ σ.length ≤ j) (hlo : lo ≤ σ.length) : Fam lo σ' (F.set i (F[i].1, x', cells')) := by
  obtain ⟨j', hj', hl'⟩ := hx
  constructor
  · intro p hp
    obtain ⟨k, hk1, rfl⟩ := List.getElem_of_mem hp
    rw [List.length_set] at hk1
    rw [List.getElem_set]
    split
    · exact ⟨ho, fun e => absurd e hne, fun j hj => by rw [hj'] at hj; cases hj; omega⟩
    · rename_i hne2
      have hp := h.own F[k] (List.getElem_mem hk1)
      exact ⟨hp.1.keep fun j hj => hk j (h.apart k i hk1 hi (fun e => hne2 e.symm) j hj) (hp.1.lt hj), hp.2⟩
  · intro a b ha hb hab id hid
    rw [List.length_set] at ha hb
    rw [List.getElem_set] at hid ⊢
    split at hid
    · rename_i e1
      simp only at hid
      rw [hj'] at hid; cases hid
      rw [if_neg (fun e2 => hab (by omega))]
      intro e3
      have := (h.own F[b] (List.getElem_mem hb)).1.lt e3
      omega
    · split
      · simp only
        rw [hj']
        intro e; cases e
        have := (h.own F[a] (List.getElem_mem ha)).1.lt hid
        omega
      · exact h.apart a b ha hb hab id hid
theorem Fam.push {lo : Nat} {σ : List VObj} {F : List (Nat × XV × List XV)} (h : Fam lo σ F) (o : VObj) : Fam lo (σ ++ [o]) F := h.keep fun _ _ hj => List.getElem?_append_left hj
end Go.Vm
namespace Go.Ba
open Go.Vm Go.Ht
/-- The operations of one machine. -/
def rowI (ops : List (Int × Int)) (m : Int) : List Int := ((List.range ops.length).filter fun i => decide ((ops.getD i (0, 0)).1 = m)).map fun (i : Nat) => (i : Int)
def msO (M : Nat) (ops : List (Int × Int)) : List (List Int) := (List.range M).map fun (m : Nat) => rowI ops (m : Int)
theorem rowI_snoc (ops : List (Int × Int)) (o : Int × Int) (m : Int) : rowI (ops ++ [o]) m = if o.1 = m then rowI ops m ++ [(ops.length : Int)] else rowI ops m := by
  unfold rowI
  rw [List.length_append, List.length_singleton, List.range_succ, List.filter_append, List.map_append]
  have e1 : (List.range ops.length).filter (fun i => decide (((ops ++ [o]).getD i (0, 0)).1 = m)) = (List.range ops.length).filter fun i => decide ((ops.getD i (0, 0)).1 = m) := by
    apply List.filter_congr
    intro i hi
    have hi := List.mem_range.1 hi
    rw [List.getD_eq_getElem?_getD, List.getD_eq_getElem?_getD, List.getElem?_append_left hi]
  rw [e1]
  have e2 : (ops ++ [o]).getD ops.length (0, 0) = o := by simp
  by_cases h : o.1 = m
  · rw [if_pos h, List.filter_cons_of_pos (by rw [e2]; simpa using h)]; rfl
  · rw [if_neg h, List.filter_cons_of_neg (by rw [e2]; simpa using h)]; simp
/-- The arcs of a job after its first k operations. -/
def arcsK (off k : Nat) : List (Int × Int) := (List.range (k - 1)).map fun (t : Nat) => (((off + t : Nat) : Int), ((off + t + 1 : Nat) : Int))
theorem arcsK_succ (off k : Nat) (h : 0 < k) : arcsK off (k + 1) = arcsK off k ++ [(((off + k : Nat) : Int) - 1, ((off + k : Nat) : Int))] := by
  obtain ⟨k, rfl⟩ : ∃ j, k = j + 1 := ⟨k - 1, by omega⟩
  unfold arcsK
  rw [show k + 1 + 1 - 1 = k + 1 by omega, show k + 1 - 1 = k by omega, List.range_succ, List.map_append]
  simp
  constructor
  · omega
  · omega
def arcsO : Nat → List (List (Int × Int)) → List (Int × Int)
  | _, [] => []
  | off, j :: J => arcsK off j.length ++ arcsO (off + j.length) J
theorem arcsO_snoc : ∀ (off : Nat) (J : List (List (Int × Int))) (j : List (Int × Int)), arcsO off (J ++ [j]) = arcsO off J ++ arcsK (off + J.flatten.length) j.length
  | off, [], j => by simp [arcsO]
  | off, i :: J, j => by
    rw [List.cons_append, arcsO, arcsO_snoc (off + i.length) J j, arcsO, List.append_assoc]
    rw [List.flatten_cons, List.length_append, Nat.add_assoc]
theorem arcsO_take {J : List (List (Int × Int))} {i : Nat} (hi : i < J.length) : arcsO 0 (J.take (i + 1)) = arcsO 0 (J.take i) ++ arcsK (J.take i).flatten.length J[i].length := by
  rw [List.take_succ_eq_append_getElem hi, arcsO_snoc, Nat.zero_add]
theorem arcsK_len (off k : Nat) : (arcsK off k).length = k - 1 := by simp [arcsK]
theorem arcsO_len : ∀ (off : Nat) (J : List (List (Int × Int))), (arcsO off J).length ≤ J.flatten.length
  | _, [] => Nat.le_refl _
  | off, j :: J => by
    have := arcsO_len (off + j.length) J
    rw [arcsO, List.length_append, arcsK_len, List.flatten_cons, List.length_append]; omega
theorem arcsO_in : ∀ (off : Nat) (J : List (List (Int × Int))) (a : Int × Int), a ∈ arcsO off J → off ≤ a.1 ∧ a.1 < off + J.flatten.length ∧ off ≤ a.2 ∧ a.2 < off + J.flatten.length
  | _, [], a, h => by simp [arcsO] at h
  | off, j :: J, a, h => by
    rw [arcsO, List.mem_append] at h
    rw [List.flatten_cons, List.length_append]
    rcases h with h | h
    · simp only [arcsK, List.mem_map, List.mem_range] at h
      obtain ⟨t, ht, rfl⟩ := h
      simp only
      omega
    · have := arcsO_in (off + j.length) J a h
      omega
theorem arcs_in {J : List (List (Int × Int))} : ArcsIn J.flatten.length (arcsO 0 J) := fun a ha => by
  have := arcsO_in 0 J a ha
  omega
theorem times_ok {M : Int} {J : List (List (Int × Int))} (h : ShopOk M J) : Times J.flatten := fun o ho => by
  obtain ⟨j, hj, ho⟩ := List.mem_flatten.1 ho
  have := (h.jb j hj).2.2.1 o ho
  omega
/-- The graph of a shop. -/
def grV (M : Nat) (J : List (List (Int × Int))) : DV := .agg [flV c2 J.flatten, flV c2 (arcsO 0 J), .sl ((msO M J.flatten).map intsV) M (some M)]
theorem msO_snoc {M : Nat} {ops : List (Int × Int)} {o : Int × Int} {m : Nat} (_ : m < M) (e : o.1 = (m : Int)) : msO M (ops ++ [o]) = (msO M ops).set m (rowI ops m ++ [(ops.length : Int)]) := by
  apply List.ext_getElem
  · simp [msO]
  · intro i h1 h2
    have hi : i < M := by simpa [msO] using h1
    rw [List.getElem_set]
    simp only [msO, List.getElem_map, List.getElem_range]
    rw [rowI_snoc]
    by_cases h : m = i
    · subst h; rw [if_pos e, if_pos rfl]
    · rw [if_neg h, if_neg (by omega)]
/-- The own slices that make a graph. -/
def famF (xo xa : XV) (R : List XV) (ops arcs : List (Int × Int)) (rows : List (List Int)) : List (Nat × XV × List XV) :=
  (2, xo, (ops.flatMap c2).map .d) :: (2, xa, (arcs.flatMap c2).map .d) :: (R.zip rows).map fun p => (1, p.1, xs p.2)
theorem famF_row {xo xa : XV} {R : List XV} {ops arcs : List (Int × Int)} {rows : List (List Int)} {m : Nat} (h1 : m < R.length) (h2 : m < rows.length) : ∃ h : m + 2 < (famF xo xa R ops arcs rows).length, (famF xo xa R ops arcs rows)[m + 2] = (1, R[m], xs rows[m]) := by
  refine ⟨by simp [famF]; omega, ?_⟩
  simp [famF]
theorem famF_set {xo xa x' : XV} {R : List XV} {ops arcs : List (Int × Int)} {rows : List (List Int)} {r : List Int} {m : Nat} (_ : R.length = rows.length) : (famF xo xa R ops arcs rows).set (m + 2) (1, x', xs r) = famF xo xa (R.set m x') ops arcs (rows.set m r) := by
  unfold famF
  rw [List.set_cons_succ, List.set_cons_succ]
  congr 2
  apply List.ext_getElem
  · simp
  · intro i h1 h2
    simp only [List.getElem_set, List.getElem_map, List.getElem_zip]
    split <;> rfl
theorem flat_snoc (ops : List (Int × Int)) (o : Int × Int) : ((ops ++ [o]).flatMap c2).map XV.d = (ops.flatMap c2).map .d ++ (c2 o).map .d := by
  rw [List.flatMap_append, List.map_append]; simp
theorem cells_len (ops : List (Int × Int)) : ((ops.flatMap c2).map XV.d).length = ops.length * 2 := by rw [List.length_map, flat_len c2_len]
theorem deepen_rows {σ : List VObj} {k lo : Nat} {xo xa : XV} {ops arcs : List (Int × Int)} : ∀ (R : List XV) (rows : List (List Int)), R.length = rows.length → (∀ p ∈ (R.zip rows).map (fun p => ((1 : Nat), p.1, xs p.2)), OwnK p.1 σ p.2.1 p.2.2 ∧ (p.2.2 = [] → p.2.1 = .d Dnil) ∧ ∀ j, idX p.2.1 = some j → lo ≤ j) →
    R.mapM (deepen (freezeAll σ) (k + 2)) = some (rows.map intsV)
  | [], [], _, _ => rfl
  | x :: R, r :: rows, hl, h => by
    have h1 := h (1, x, xs r) (by simp)
    have h2 := deepen_rows (k := k) (lo := lo) (xo := xo) (xa := xa) (ops := ops) (arcs := arcs) R rows (by simpa using hl) (fun p hp => h p (by simp at hp ⊢; exact .inr hp))
    rw [List.mapM_cons, own_ints h1.1 (fun e => h1.2.1 (by rw [e]; rfl)), h2]; rfl
  | [], _ :: _, hl, _ => by simp at hl
  | _ :: _, [], hl, _ => by simp at hl
theorem deepen_graph {σ : List VObj} {k lo id M : Nat} {xo xa : XV} {R : List XV} {ops arcs : List (Int × Int)} {rows : List (List Int)} (h : Fam lo σ (famF xo xa R ops arcs rows)) (hR : σ[id]? = some ⟨R, 0⟩) (hl : R.length = M) (hr : rows.length = M) :
    deepen (freezeAll σ) (k + 4) (aggX [xo, xa, .osl id 0 M 1 M true]) = some (.agg [flV c2 ops, flV c2 arcs, .sl (rows.map intsV) M (some M)]) := by
  have g1 := h.own (2, xo, (ops.flatMap c2).map .d) (by simp [famF])
  have g2 := h.own (2, xa, (arcs.flatMap c2).map .d) (by simp [famF])
  have e1 : deepen (freezeAll σ) (k + 3) xo = some (flV c2 ops) := own_fl c2_len (by decide) g1.1 (fun e => g1.2.1 (by rw [e]; rfl))
  have e2 : deepen (freezeAll σ) (k + 3) xa = some (flV c2 arcs) := own_fl c2_len (by decide) g2.1 (fun e => g2.2.1 (by rw [e]; rfl))
  have f : (freezeAll σ)[id]? = some ⟨R, 1⟩ := by simp [freezeAll, hR]
  have e3 : deepen (freezeAll σ) (k + 3) (.osl id 0 M 1 M true) = some (.sl (rows.map intsV) M (some M)) := by
    rw [deepen_osl f rfl (by simp; omega), List.drop_zero, Nat.mul_one, List.take_of_length_le (by simp; omega)]
    rw [deepen_rows (k := k) (lo := lo) (xo := xo) (xa := xa) (ops := ops) (arcs := arcs) R rows (by omega) (fun p hp => h.own p (by unfold famF; exact List.mem_cons_of_mem _ (List.mem_cons_of_mem _ hp)))]
    rfl
  have ha : aggX [xo, xa, .osl id 0 M 1 M true] = .agg [xo, xa, .osl id 0 M 1 M true] := by
    have h0 : allD [xo, xa, .osl id 0 M 1 M true] = none := by cases xo <;> cases xa <;> rfl
    unfold aggX; rw [h0]
  rw [ha]
  show (([xo, xa, .osl id 0 M 1 M true] : List XV).mapM (deepen (freezeAll σ) (k + 3))).map DV.agg = _
  rw [List.mapM_cons, List.mapM_cons, List.mapM_cons, e1, e2, e3]; rfl
theorem cells_agg (xs : List XV) : cellsX (aggX xs) = xs := by
  unfold aggX
  cases h : allD xs with
  | none => rfl
  | some ds => exact (allD_eq h).symm
theorem rowI_len (ops : List (Int × Int)) (m : Int) : (rowI ops m).length ≤ ops.length := by
  unfold rowI; rw [List.length_map]
  exact Nat.le_trans (List.length_filter_le _ _) (by simp)
theorem fam_zero {lo M : Nat} {σ : List VObj} : Fam lo σ (famF (.d Dnil) (.d Dnil) (List.replicate M (.d Dnil)) [] [] (msO M [])) := by
  have h : ∀ p ∈ famF (.d Dnil) (.d Dnil) (List.replicate M (.d Dnil)) [] [] (msO M []), p.2.1 = .d Dnil ∧ p.2.2 = [] := by
    intro p hp
    simp only [famF, List.mem_cons, List.mem_map] at hp
    rcases hp with rfl | rfl | ⟨q, hq, rfl⟩
    · exact ⟨rfl, rfl⟩
    · exact ⟨rfl, rfl⟩
    · have h1 := (List.mem_replicate.1 (List.of_mem_zip hq).1).2
      have h2 := (List.of_mem_zip hq).2
      simp only [msO, List.mem_map] at h2
      obtain ⟨m, _, h2⟩ := h2
      exact ⟨h1, by simp only; rw [← h2]; rfl⟩
  constructor
  · intro p hp
    obtain ⟨h1, h2⟩ := h p hp
    rw [h1, h2]
    exact ⟨.nil, fun _ => rfl, fun j hj => by cases hj⟩
  · intro i j hi hj _ id hid
    rw [(h _ (List.getElem_mem hi)).1] at hid; cases hid
/-- The value of times, or of none. -/
def shV : Option (List Int) → DV
  | some zs => hdV zs
  | none => Dnil
theorem shV_sld (o : Option (List Int)) : SlD (shV o) := by cases o with | none => exact .nil | some zs => exact .sl _ _ _
theorem shV_nil (o : Option (List Int)) : isNilB (shV o) = o.isNone := by cases o <;> rfl
/-- The better one of two results: the second only if its greatest end is lower. -/
def pickO (os : List (Int × Int)) : Option (List Int) → Option (List Int) → Option (List Int)
  | none, y => y
  | some x, none => some x
  | some x, some y => if spanO os y < spanO os x then some y else some x
def shO (os : List (Int × Int)) : List (Int × Int) → List (Int × Int) → Option (List Int)
  | ar, [] => hds os ar
  | ar, p :: ps => match hds os ar with
    | none => none
    | some _ => pickO os (shO os (ar ++ [p]) ps) (shO os (ar ++ [(p.2, p.1)]) ps)
theorem pick_or {os : List (Int × Int)} {x y : Option (List Int)} {r : List Int} (h : pickO os x y = some r) : x = some r ∨ y = some r := by
  unfold pickO at h
  split at h
  · exact .inr h
  · exact .inl h
  · split at h
    · exact .inr h
    · exact .inl h
theorem arcs_snoc {n : Nat} {ar : List (Int × Int)} {p : Int × Int} (h : ArcsIn n ar) (hp : 0 ≤ p.1 ∧ p.1 < n ∧ 0 ≤ p.2 ∧ p.2 < n) : ArcsIn n (ar ++ [p]) := fun a ha => by
  rw [List.mem_append, List.mem_singleton] at ha
  rcases ha with ha | rfl
  · exact h a ha
  · exact hp
theorem hds_length {os ar : List (Int × Int)} {r : List Int} (h : hds os ar = some r) : r.length = os.length := (hds_len _ _ _ h).trans (by simp)
theorem shO_ok {os : List (Int × Int)} (hT : Times os) (h9 : os.length ≤ 9) : ∀ (ps ar : List (Int × Int)) (r : List Int), ar.length + ps.length ≤ 1000000 → ArcsIn os.length ar → ArcsIn os.length ps → shO os ar ps = some r → r.length = os.length ∧ Bd 200000000 r
  | [], ar, r, hA, h1, _, h => ⟨hds_length h, hds_bd hT h1 h h9 (by simp at hA; omega)⟩
  | p :: ps, ar, r, hA, h1, h2, h => by
    unfold shO at h
    split at h
    · cases h
    · have hp := h2 p (by simp)
      have hps : ArcsIn os.length ps := fun a ha => h2 a (by simp [ha])
      rcases pick_or h with h | h
      · exact shO_ok hT h9 ps _ r (by simp at hA ⊢; omega) (arcs_snoc h1 hp) hps h
      · exact shO_ok hT h9 ps _ r (by simp at hA ⊢; omega) (arcs_snoc h1 ⟨hp.2.2.1, hp.2.2.2, hp.1, hp.2.1⟩) hps h
theorem msO_len (M : Nat) (ops : List (Int × Int)) : (msO M ops).length = M := by simp [msO]
theorem ms_mat (M : Nat) (ops : List (Int × Int)) : Mat (.sl ((msO M ops).map intsV) M (some M)) (msO M ops) := by
  have h : Mat (.sl ((msO M ops).map intsV) (msO M ops).length (some M)) (msO M ops) := .sl (by simp) (fun i c y hc hy => by
    rw [List.getElem?_map, hy] at hc
    cases hc
    exact intsV_ok y)
  rwa [msO_len] at h
end Go.Ba

