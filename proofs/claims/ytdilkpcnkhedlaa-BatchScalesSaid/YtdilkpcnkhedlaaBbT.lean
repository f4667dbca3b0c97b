import Derived.Test.YtdilkpcnkhedlaaVmZm
import Derived.Test.YtdilkpcnkhedlaaBaQ
/-
  Batch: a shop that a call has made: an own slice of own rows.
-/
namespace Go.Ba
open Go.Vm Go.Ht Go.RowKit
/-- An own slice of own rows of pairs, none of them empty. -/
structure ShX (lo : Nat) (σ : List VObj) (x : XV) (ys : List XV) (R : List (List (Int × Int))) : Prop where
  ox : OwnK 1 σ x ys
  nx : R = [] → x = .d Dnil
  lx : ∀ j, idX x = some j → lo ≤ j
  len : ys.length = R.length
  row : ∀ (k : Nat) (h : k < ys.length) (h2 : k < R.length), ∃ id, ys[k] = .osl id 0 R[k].length 2 R[k].length false ∧ σ[id]? = some ⟨(R[k].flatMap c2).map .d, 0⟩ ∧ lo ≤ id ∧ idX x ≠ some id
  apart : ∀ (k m : Nat) (h : k < ys.length) (h' : m < ys.length), k ≠ m → ∀ id, idX ys[k] = some id → idX ys[m] ≠ some id
variable {lo : Nat} {σ σ' : List VObj} {x x' y : XV} {ys : List XV} {R : List (List (Int × Int))} {r : List (Int × Int)} {id : Nat}
theorem ShX.nil : ShX lo σ (.d Dnil) [] [] := ⟨.nil, fun _ => rfl, fun j h => (by cases h), rfl, fun k h => absurd h (Nat.not_lt_zero _), fun k m h => absurd h (Nat.not_lt_zero _)⟩
theorem ShX.keep (h : ShX lo σ x ys R) (hk : ∀ j, lo ≤ j → j < σ.length → σ'[j]? = σ[j]?) : ShX lo σ' x ys R :=
  ⟨h.ox.keep fun j hj => hk j (h.lx j hj) (h.ox.lt hj), h.nx, h.lx, h.len, fun k h1 h2 => by
    obtain ⟨id, a, b, c, d⟩ := h.row k h1 h2
    exact ⟨id, a, (hk id c (lt_of_get b)).trans b, c, d⟩, h.apart⟩
theorem ShX.step (h : ShX lo σ x ys R) (hy : y = .osl id 0 r.length 2 r.length false) (hid : σ'[id]? = some ⟨(r.flatMap c2).map .d, 0⟩) (hlo : lo ≤ id) (hge : σ.length ≤ id) (hx : OwnK 1 σ' x' (ys ++ [y])) {j' : Nat} (hj : idX x' = some j') (hj2 : id < j')
    (hk : ∀ j, lo ≤ j → j < σ.length → idX x ≠ some j → σ'[j]? = σ[j]?) : ShX lo σ' x' (ys ++ [y]) (R ++ [r]) := by
  have hl := h.len
  refine ⟨hx, fun e => by simp at e, fun j e => by rw [hj] at e; cases e; omega, by simp [hl], fun k h1 h2 => ?_, fun k m h1 h2 hkm i e => ?_⟩
  · by_cases hlt : k < ys.length
    · rw [List.getElem_append_left hlt, List.getElem_append_left (by omega)]
      obtain ⟨i, a, b, c, d⟩ := h.row k hlt (by omega)
      have := lt_of_get b
      exact ⟨i, a, (hk i c this d).trans b, c, fun e => by rw [hj] at e; cases e; omega⟩
    · have e : k = ys.length := by simp at h1; omega
      subst e
      rw [List.getElem_append_right (Nat.le_refl _), List.getElem_append_right (by omega)]
      simp only [Nat.sub_self, hl, List.getElem_cons_zero]
      exact ⟨id, hy, hid, hlo, fun e => by rw [hj] at e; cases e; omega⟩
  · have idlt : ∀ (k : Nat) (hlt : k < ys.length) (i : Nat), idX ys[k] = some i → i < σ.length := fun k hlt i e => by
      obtain ⟨i2, a, b, _, _⟩ := h.row k hlt (by omega)
      rw [a] at e; cases e
      exact lt_of_get b
    have sp : ∀ k (h1 : k < (ys ++ [y]).length), (∃ hlt : k < ys.length, (ys ++ [y])[k] = ys[k]) ∨ (k = ys.length ∧ (ys ++ [y])[k] = y) := fun k h1 => by
      by_cases hlt : k < ys.length
      · exact .inl ⟨hlt, List.getElem_append_left hlt⟩
      · have e : k = ys.length := by simp at h1; omega
        subst e
        exact .inr ⟨rfl, by simp⟩
    have iy : idX y = some id := by rw [hy]; rfl
    rcases sp k h1 with ⟨a, ea⟩ | ⟨a, ea⟩ <;> rcases sp m h2 with ⟨b, eb⟩ | ⟨b, eb⟩
    · rw [ea] at e; rw [eb]; exact h.apart k m a b hkm i e
    · rw [ea] at e; rw [eb, iy]
      intro e2; cases e2
      have := idlt k a _ e
      omega
    · rw [ea, iy] at e; cases e; rw [eb]
      intro e2
      have := idlt m b _ e2
      omega
    · omega
theorem ShX.wr (h : ShX lo σ x ys R) {k : Nat} (h1 : k < ys.length) (h2 : k < R.length) (hid : idX ys[k] = some id) (hr : r.length = R[k].length) : ShX lo (σ.set id ⟨(r.flatMap c2).map .d, 0⟩) x ys (R.set k r) := by
  obtain ⟨i, a, b, c, d⟩ := h.row k h1 h2
  have e : i = id := by rw [a] at hid; cases hid; rfl
  subst e
  refine ⟨h.ox.keep fun j hj => List.getElem?_set_ne (fun e => by subst e; exact d hj), fun e => ?_, h.lx, by rw [List.length_set]; exact h.len, fun m m1 m2 => ?_, h.apart⟩
  · have := congrArg List.length e
    rw [List.length_set] at this
    simp at this
    subst this; simp at h2
  · rw [List.length_set] at m2
    by_cases hm : k = m
    · subst hm
      rw [List.getElem_set_self]
      exact ⟨i, by rw [hr]; exact a, List.getElem?_set_self (lt_of_get b), c, d⟩
    · rw [List.getElem_set_ne hm]
      obtain ⟨i2, a2, b2, c2', d2⟩ := h.row m m1 m2
      refine ⟨i2, a2, ?_, c2', d2⟩
      rw [List.getElem?_set_ne]
      · exact b2
      · intro e
        subst e
        exact h.apart k m h1 m1 hm i (by rw [a]; rfl) (by rw [a2]; rfl)
theorem own_row {σ : List VObj} {y : XV} {r : List (Int × Int)} (h : OwnK 2 σ y ((r.flatMap c2).map .d)) (hr : 1 ≤ r.length) : ∃ id, y = .osl id 0 r.length 2 r.length false ∧ σ[id]? = some ⟨(r.flatMap c2).map .d, 0⟩ := by
  have hl : ((r.flatMap c2).map XV.d).length = r.length * 2 := by rw [List.length_map]; exact flat_len c2_len _
  generalize (r.flatMap c2).map XV.d = cs at h hl
  cases h with
  | nil => simp at hl; omega
  | @sl id n _ h hn =>
    have e : n = r.length := by omega
    subst e
    exact ⟨id, rfl, h⟩
/-- Its value. -/
def shD (R : List (List (Int × Int))) : DV := match R with | [] => Dnil | _ => .sl (R.map fun r => DV.sl (r.flatMap c2) r.length none) R.length none
theorem shD_ok (R : List (List (Int × Int))) : JbD (shD R) R := by
  cases R with
  | nil => exact .nil
  | cons a R =>
    exact .sl (by simp) fun i c y hc hy => by
      rw [List.getElem?_map, hy] at hc
      cases hc
      exact .sl
theorem mapM_all {α β : Type} {f : α → Option β} : ∀ (l : List α) (r : List β), l.length = r.length → (∀ i (h1 : i < l.length) (h2 : i < r.length), f l[i] = some r[i]) → l.mapM f = some r
  | [], [], _, _ => rfl
  | [], _ :: _, h, _ => by simp at h
  | _ :: _, [], h, _ => by simp at h
  | a :: l, b :: r, h, hf => by
    have e1 : f a = some b := hf 0 (by simp) (by simp)
    have e2 := mapM_all l r (by simpa using h) fun i h1 h2 => hf (i + 1) (by simpa using h1) (by simpa using h2)
    rw [List.mapM_cons, e1, e2]; rfl
theorem ShX.deep {k : Nat} (h : ShX lo σ x ys R) (hne : R ≠ []) : deepen (freezeAll σ) (k + 3) x = some (shD R) := by
  obtain ⟨hox, _, _, hlen, hrow, _⟩ := h
  cases hox with
  | nil => exact absurd (List.length_eq_zero_iff.1 hlen.symm) hne
  | @sl id n _ hc hn =>
    have f2 : (freezeAll σ)[id]? = some ⟨ys, 1⟩ := by simp [freezeAll, hc]
    rw [Nat.mul_one] at hn
    rw [deepen_osl f2 rfl (by simp only [Nat.mul_one]; omega), List.drop_zero, Nat.mul_one, List.take_of_length_le (by simp only; omega)]
    have e : ys.mapM (deepen (freezeAll σ) (k + 2)) = some (R.map fun r => DV.sl (r.flatMap c2) r.length none) := mapM_all _ _ (by simp [hlen]) fun i h1 h2 => by
      rw [List.length_map] at h2
      obtain ⟨j, a, b, _, _⟩ := hrow i h1 h2
      have f3 : (freezeAll σ)[j]? = some ⟨(R[i].flatMap c2).map .d, 1⟩ := by simp [freezeAll, b]
      have hl : (R[i].flatMap c2).length = R[i].length * 2 := flat_len c2_len _
      rw [a, deepen_osl f3 rfl (by simp only [List.length_map]; omega), List.drop_zero, List.take_of_length_le (by simp only [List.length_map]; omega), mapM_deep, List.getElem_map]
      rfl
    simp only [e]
    cases R with
    | nil => exact absurd rfl hne
    | cons a R =>
      show some (DV.sl _ n none) = _
      rw [← hn, hlen]; rfl
theorem ShX.outer (h : ShX lo σ x ys R) (hne : R ≠ []) : ∃ id, x = .osl id 0 R.length 1 R.length false ∧ σ[id]? = some ⟨ys, 0⟩ ∧ lo ≤ id := by
  obtain ⟨hox, _, hlx, hlen, _, _⟩ := h
  cases hox with
  | nil => exact absurd (List.length_eq_zero_iff.1 hlen.symm) hne
  | @sl id n _ hc hn =>
    have e : n = R.length := by omega
    subst e
    exact ⟨id, rfl, hc, hlx id rfl⟩
theorem ShX.lt (h : ShX lo σ x ys R) (k : Nat) (h1 : k < ys.length) (i : Nat) (e : idX ys[k] = some i) : i < σ.length := by
  obtain ⟨i2, a, b, _, _⟩ := h.row k h1 (by have := h.len; omega)
  rw [a] at e; cases e
  exact lt_of_get b
theorem snd_split {cs : List (Int × Int)} {m : Nat} (hm : m < cs.length) : (cs.flatMap c2).map XV.d = (((cs.take m).flatMap c2).map XV.d ++ [XV.d (DI cs[m].1)]) ++ ([XV.d (DI cs[m].2)] ++ ((cs.drop (m + 1)).flatMap c2).map XV.d) ∧ (((cs.take m).flatMap c2).map XV.d ++ [XV.d (DI cs[m].1)]).length = 0 + m * 2 + 1 := by
  have e1 : cs = cs.take m ++ cs[m] :: cs.drop (m + 1) := by rw [← List.drop_eq_getElem_cons hm, List.take_append_drop]
  have l1 : (((cs.take m).flatMap c2).map XV.d).length = m * 2 := by rw [List.length_map, flat_len c2_len, List.length_take]; omega
  refine ⟨?_, by rw [List.length_append, l1]; simp⟩
  conv => lhs; rw [e1]
  rw [List.flatMap_append, List.flatMap_cons, List.map_append, List.map_append]
  simp [c2]
theorem get_snd {cs : List (Int × Int)} {m : Nat} (hm : m < cs.length) : ((cs.flatMap c2).map XV.d)[0 + m * 2 + 1]? = some (.d (DI cs[m].2)) := by
  obtain ⟨e, l⟩ := snd_split hm
  rw [e, List.getElem?_append_right (by omega), l, Nat.sub_self]; rfl
theorem spl_snd {cs : List (Int × Int)} {m : Nat} {v : Int} (hm : m < cs.length) : splice ((cs.flatMap c2).map XV.d) (0 + m * 2 + 1) [XV.d (DI v)] = ((cs.set m (cs[m].1, v)).flatMap c2).map XV.d := by
  obtain ⟨e, l⟩ := snd_split hm
  have e2 : cs.set m (cs[m].1, v) = cs.take m ++ (cs[m].1, v) :: cs.drop (m + 1) := by rw [List.set_eq_take_append_cons_drop, if_pos hm]
  rw [e, e2]
  unfold splice
  rw [← l, List.take_left, ← List.drop_drop, List.drop_left, List.flatMap_append, List.flatMap_cons, List.map_append, List.map_append]
  simp [c2]
section
variable {P : Program} {kn : Kn} {dst : Option Tmp} {ty : TypeId} {pos : String} {af : Array Edge} {g : Option (Nat × Bool)}
theorem K.storeSnd {x y : Operand} {t : TypeId} {m : Nat} {cs : List (Int × Int)} {v : Int} (hx : evK kn x = some (.optr id (0 + m * 2 + 1))) (hy : evK kn y = some (.d (DI v))) (ho : σ[id]? = some ⟨(cs.flatMap c2).map .d, 0⟩) (hm : m < cs.length) (hs : sizeT P t = some 1) :
    KEv P ⟨dst, .store t x y, ty, pos, af, g⟩ σ kn undefX (σ.set id ⟨((cs.set m (cs[m].1, v)).flatMap c2).map .d, 0⟩) 2 := by
  have h := K.storeN (P := P) (σ := σ) (t := t) (dst := dst) (ty := ty) (pos := pos) (af := af) (g := g) hx hy ho (by show _ + 1 ≤ _; rw [List.length_map, flat_len c2_len]; omega) rfl hs
  rw [show cellsX (.d (DI v)) = [.d (DI v)] from rfl, spl_snd hm] at h
  exact h
end
end Go.Ba

