import Derived.Test.YtdilkpcnkhedlaaBaP
import Derived.Test.YtdilkpcnkhedlaaHtU
/-
  Batch: slices of pairs: cut, and appended to where there is no room.
-/
namespace Go.Ba
open Go.Vm Go.Ht Go.RowKit

/-- A slice of pairs without room behind it. -/
inductive ClipD : DV → List (Int × Int) → Prop
  | nil : ClipD Dnil []
  | sl {l : List (Int × Int)} : ClipD (.sl (l.flatMap c2) l.length (some l.length)) l
section
variable {P : Program} {n : Nat} {ops : Array Oper} {l : List Oper} {σ : List VObj} {kn : Kn} {dst : Option Tmp} {ty : TypeId} {pos : String} {af : Array Edge} {g : Option (Nat × Bool)}
  {R : List Nat → List VObj → Kn → Prop}
/-- s[:n:n] of a slice of n pairs. -/
theorem K.slice3P {x h m : Operand} {t e : TypeId} {ks : List (Int × Int)} {cap : Option Nat} (hx : evK kn x = some (.d (.sl (ks.flatMap c2) ks.length cap))) (hh : evK kn h = some (.d (DI (ks.length : Nat)))) (hm : evK kn m = some (.d (DI (ks.length : Nat))))
    (ht : P.underlying t = some (.slice e)) (hs : sizeT P e = some 2) : KEv P ⟨dst, .slice t x none (some h) (some m), ty, pos, af, g⟩ σ kn (.d (.sl (ks.flatMap c2) ks.length (some ks.length))) σ 0 := ev_op fun env he => by
  have e1 := evK_evalX he hx
  have e2 := evK_evalX he hh
  have e3 := evK_evalX he hm
  have hl : (ks.flatMap c2).length = ks.length * 2 := flat_len c2_len ks
  unfold evalOp
  rw [litOp_none (x := x) (by simp [Op.operands]) (by rw [e1]; rfl)]
  have ht2 : (ks.flatMap c2).take (ks.length * 2) = ks.flatMap c2 := List.take_of_length_le (by omega)
  have h4 : ks.length * 2 ≤ (ks.flatMap c2).length := by omega
  simp only [e1, e2, e3, opSlice, ht, hs, boundOf, litOf, DI, Option.map_some, Option.map_none]
  simp [h4, -List.length_flatMap, ht2]
/-- append of a pair to a slice without room. -/
theorem K.appClip {t e : TypeId} {x y : Operand} {d : DV} {ks : List (Int × Int)} {p : Int × Int} {id : Nat} (hx : evK kn x = some (.d d)) (hc : ClipD d ks) (hy : evK kn y = some (.osl id 0 1 2 1 true)) (hid : σ[id]? = some ⟨(c2 p).map .d, 0⟩)
    (hlen : ks.length < 1073741823) (ht : P.underlying t = some (.slice e)) (hs : sizeT P e = some 2) (hb : bytesT P e ≤ 65536) (hz : (zeroT P e).map (·.cells.size) = some 2) :
    KEv P ⟨dst, .call ⟨.builtin .append, #[x, y], #[t, t]⟩, ty, pos, af, g⟩ σ kn (.osl σ.length 0 (ks.length + 1) 2 (ks.length + 1) false) (σ ++ [⟨((ks ++ [p]).flatMap c2).map .d, 0⟩]) 2 := ev_op fun env he => by
  have e1 := evK_evalX he hx
  have e2 := evK_evalX he hy
  have hsrc : srcCells σ 2 (.osl id 0 1 2 1 true) = some ((c2 p).map .d, 1, 1) := by
    simp [srcCells, hid, c2]
  have h1v : ((c2 p).map XV.d).all oneX = true := rfl
  unfold evalOp
  rw [litOp_none (x := y) (by simp [Op.operands, Call.operands]) (by rw [e2]; rfl)]
  cases hc with
  | nil => simp [e1, e2, opAppend, ht, hs, hsrc, h1v, growTo, hb, hz]
  | sl =>
    have hl : (ks.flatMap c2).length = ks.length * 2 := flat_len c2_len ks
    have h3 : ks.length + 1 ≤ 1073741824 := by omega
    have h4 : ks.length * 2 ≤ (ks.flatMap c2).length := by omega
    have ht2 : (ks.flatMap c2).take (ks.length * 2) = ks.flatMap c2 := List.take_of_length_le (by omega)
    simp only [e1, e2, opAppend, ht, hs, hsrc, h1v, if_true]
    simp [growTo, hb, hz, h3, h4, ht2, -List.length_flatMap]
/-- s[1:] of pairs. -/
theorem K.tailP {x : Operand} {t e : TypeId} {ls : List (Int × Int)} {d : DV} (hx : evK kn x = some (.d d)) (hd : PrD d ls) (hl : 1 ≤ ls.length) (ht : P.underlying t = some (.slice e)) (hs : sizeT P e = some 2) :
    ∃ d2, PrD d2 ls.tail ∧ KEv P ⟨dst, .slice t x (some (.const (.int .i64 1))) none none, ty, pos, af, g⟩ σ kn (.d d2) σ 0 := by
  cases hd with
  | nil => simp at hl
  | @sl _ cap =>
    refine ⟨.sl (ls.tail.flatMap c2) ls.tail.length (cap.map (· - 1)), .sl, ev_op fun env he => ?_⟩
    have e1 := evK_evalX he hx
    unfold evalOp
    rw [litOp_none (x := x) (by simp [Op.operands]) (by rw [e1]; rfl)]
    cases ls with
    | nil => simp at hl
    | cons a ls =>
      have e3 : evalX env (.const (.int .i64 1)) = .d (DI 1) := rfl
      have hl2 : (ls.flatMap c2).length = ls.length * 2 := flat_len c2_len ls
      have h4 : (ls.length + 1) * 2 ≤ ((a :: ls).flatMap c2).length := by rw [flat_len c2_len]; simp
      have h5 : (((a :: ls).flatMap c2).drop (1 * 2)).take ((ls.length + 1 - 1) * 2) = ls.flatMap c2 := by
        rw [List.flatMap_cons, show (1 * 2) = (c2 a).length by rfl, List.drop_left]
        exact List.take_of_length_le (by omega)
      generalize hcs : (a :: ls).flatMap c2 = cs at h4 h5 e1
      simp only [Nat.one_mul, Nat.add_sub_cancel] at h5
      simp [e1, e3, opSlice, ht, hs, boundOf, litOf, DI, h4, h5]
theorem KT.tailP {x : Operand} {t e : TypeId} {ls : List (Int × Int)} {d : DV} (hg : guardK ops kn ⟨dst, .slice t x (some (.const (.int .i64 1))) none none, ty, pos, af, g⟩ = some true) (hd' : dstOk n dst = true)
    (hx : evK kn x = some (.d d)) (hd : PrD d ls) (hl : 1 ≤ ls.length) (ht : P.underlying t = some (.slice e)) (hs : sizeT P e = some 2)
    (hk : ∀ r, PrD r ls.tail → KT P n ops l σ (extK dst (.d r) kn) (fun fls τ k => R (0 :: fls) τ k)) : KT P n ops (⟨dst, .slice t x (some (.const (.int .i64 1))) none none, ty, pos, af, g⟩ :: l) σ kn R := by
  obtain ⟨r, hr, hev⟩ := K.tailP (P := P) (σ := σ) (dst := dst) (ty := ty) (pos := pos) (af := af) (g := g) hx hd hl ht hs
  exact KT.step hg hd' hev (hk r hr)
end
theorem vec_sld {α : Type} {R : DV → α → Prop} {d : DV} {l : List α} (h : Vec R d l) : SlD d := by cases h with | nil => exact .nil | sl => exact .sl _ _ _
theorem SlD.of_pr {d : DV} {l : List (Int × Int)} (h : PrD d l) : SlD d := by cases h with | nil => exact .nil | sl => exact .sl _ _ _
theorem pr_snoc (ar : List (Int × Int)) (x : Int × Int) : PrD (.sl ((ar ++ [x]).flatMap c2) (ar.length + 1) none) (ar ++ [x]) := by
  have h : PrD (.sl ((ar ++ [x]).flatMap c2) (ar ++ [x]).length none) (ar ++ [x]) := .sl
  simpa using h
theorem one3 {a c : DV} {x : XV} (ha : SlD a) (hc : SlD c) (hx : oneX x = true) : ([.d a, x, .d c] : List XV).all oneX = true := by simp [ha.one, hc.one, hx]
/-- The value of arcs that were appended. -/
theorem own_arcs {σ : List VObj} {id k n : Nat} {zs : List (Int × Int)} (h : σ[id]? = some ⟨(zs.flatMap c2).map .d, 0⟩) (e : zs.length = n) : deepen (freezeAll σ) (k + 2) (.osl id 0 n 2 n false) = some (.sl (zs.flatMap c2) n none) := by
  subst e
  have f2 : (freezeAll σ)[id]? = some ⟨(zs.flatMap c2).map .d, 1⟩ := by simp [freezeAll, h]
  rw [deepen_osl f2 rfl (by rw [List.length_map, flat_len c2_len]; omega), List.drop_zero, List.take_of_length_le (by rw [List.length_map, flat_len c2_len]; exact Nat.le_refl _), mapM_deep]; rfl
/-- A graph's value: its parts and arcs that were appended. -/
theorem deepen_gr {σ : List VObj} {id k n : Nat} {a c : DV} {zs : List (Int × Int)} (h : σ[id]? = some ⟨(zs.flatMap c2).map .d, 0⟩) (e : zs.length = n) : deepen (freezeAll σ) (k + 3) (aggX [.d a, .osl id 0 n 2 n false, .d c]) = some (.agg [a, .sl (zs.flatMap c2) n none, c]) := by
  show (([.d a, .osl id 0 n 2 n false, .d c] : List XV).mapM (deepen (freezeAll σ) (k + 2))).map DV.agg = _
  rw [List.mapM_cons, List.mapM_cons, own_arcs h e]; rfl
/-- Pairs of one machine: x before y. -/
def prsT (l : List Int) (k : Nat) : List (Int × Int) := (List.range k).flatMap fun j => (l.take j).map fun x => (x, l.getD j 0)
def prsA (l : List Int) : List (Int × Int) := prsT l l.length
def rivO (ms : List (List Int)) : List (Int × Int) := ms.flatMap prsA
theorem prsT_succ (l : List Int) (k : Nat) : prsT l (k + 1) = prsT l k ++ (l.take k).map fun x => (x, l.getD k 0) := by
  unfold prsT; rw [List.range_succ, List.flatMap_append]; simp
theorem prsT_len (l : List Int) (k : Nat) : (prsT l k).length ≤ k * l.length := by
  induction k with
  | zero => simp [prsT]
  | succ k ih =>
    rw [prsT_succ, List.length_append, List.length_map, List.length_take, Nat.add_mul]
    omega
theorem riv_len {ms : List (List Int)} (h : ∀ l ∈ ms, l.length ≤ 9) : (rivO ms).length ≤ ms.length * 81 := by
  induction ms with
  | nil => simp [rivO]
  | cons l ms ih =>
    have h1 := ih fun x hx => h x (by simp [hx])
    have h2 := prsT_len l l.length
    have h3 := h l (by simp)
    have h4 : l.length * l.length ≤ 9 * 9 := Nat.mul_le_mul h3 h3
    unfold rivO at h1 ⊢
    rw [List.flatMap_cons, List.length_append, List.length_cons, Nat.add_mul]
    unfold prsA
    unfold prsA at h1
    omega
theorem riv_take {ms : List (List Int)} {i : Nat} (hi : i < ms.length) : rivO (ms.take (i + 1)) = rivO (ms.take i) ++ prsA ms[i] := by
  unfold rivO; rw [List.take_succ_eq_append_getElem hi, List.flatMap_append]; simp
end Go.Ba

