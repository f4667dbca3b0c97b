import Derived.Test.YtdilkpcnkhedlaaBaZ
/-
  Batch: all times doubled (pure).
-/
namespace Go.Ba
open Go.Vm Go.Ht Go.Proofs.Ytdilkpcnkhedlaa

def dbl (o : Int × Int) : Int × Int := (o.1, o.2 * 2)
def dI (hs : List Int) : List Int := hs.map fun x => x * 2
def dblJ (J : List (List (Int × Int))) : List (List (Int × Int)) := J.map (List.map dbl)
theorem tm_dbl (ops : List (Int × Int)) (i : Int) : tm (ops.map dbl) i = tm ops i * 2 := by
  unfold tm
  rw [List.getD_eq_getElem?_getD, List.getD_eq_getElem?_getD, List.getElem?_map]
  cases ops[i.toNat]? <;> simp [dbl]
theorem gt_dI (hs : List Int) (i : Int) : gt (dI hs) i = gt hs i * 2 := by
  unfold gt dI
  rw [List.getD_eq_getElem?_getD, List.getD_eq_getElem?_getD, List.getElem?_map]
  cases hs[i.toNat]? <;> simp
theorem rlx_dbl (ops : List (Int × Int)) (hs : List Int) (b : Bool) (a : Int × Int) : rlx (ops.map dbl) (dI hs, b) a = (dI (rlx ops (hs, b) a).1, (rlx ops (hs, b) a).2) := by
  unfold rlx
  simp only [gt_dI, tm_dbl]
  by_cases h : gt hs a.2 < gt hs a.1 + tm ops a.1
  · rw [if_pos (by omega), if_pos h]
    simp only [dI, List.map_set]
    rw [show gt hs a.1 * 2 + tm ops a.1 * 2 = (gt hs a.1 + tm ops a.1) * 2 by omega]
  · rw [if_neg (by omega), if_neg h]
theorem fold_dbl (ops : List (Int × Int)) : ∀ (ar : List (Int × Int)) (hs : List Int) (b : Bool), ar.foldl (rlx (ops.map dbl)) (dI hs, b) = (dI (ar.foldl (rlx ops) (hs, b)).1, (ar.foldl (rlx ops) (hs, b)).2)
  | [], _, _ => rfl
  | a :: ar, hs, b => by
    rw [List.foldl_cons, List.foldl_cons, rlx_dbl]
    exact fold_dbl ops ar _ _
theorem hdsN_dbl (ops ar : List (Int × Int)) : ∀ (n : Nat) (hs : List Int), hdsN (ops.map dbl) ar n (dI hs) = (hdsN ops ar n hs).map dI
  | 0, _ => rfl
  | n + 1, hs => by
    have e : rnd (ops.map dbl) ar (dI hs) = (dI (rnd ops ar hs).1, (rnd ops ar hs).2) := fold_dbl ops ar hs true
    unfold hdsN
    rw [e]
    simp only
    split
    · rfl
    · exact hdsN_dbl ops ar n _
theorem hds_dbl (ops ar : List (Int × Int)) : hds (ops.map dbl) ar = (hds ops ar).map dI := by
  unfold hds
  rw [List.length_map, ← hdsN_dbl]
  congr 1
  simp [dI]
theorem spanT_dbl (ops : List (Int × Int)) (hs : List Int) : ∀ k, spanT (ops.map dbl) (dI hs) k = spanT ops hs k * 2
  | 0 => rfl
  | k + 1 => by
    rw [spanT_succ, spanT_succ, spanT_dbl ops hs k, gt_dI, tm_dbl]
    omega
theorem span_dbl (ops : List (Int × Int)) (hs : List Int) : spanO (ops.map dbl) (dI hs) = spanO ops hs * 2 := by
  unfold spanO
  rw [List.length_map]; exact spanT_dbl ops hs _
theorem pick_dbl (ops : List (Int × Int)) (x y : Option (List Int)) : pickO (ops.map dbl) (x.map dI) (y.map dI) = (pickO ops x y).map dI := by
  cases x with
  | none => rfl
  | some a =>
    cases y with
    | none => rfl
    | some b =>
      simp only [Option.map_some, pickO, span_dbl]
      by_cases h : spanO ops b < spanO ops a
      · rw [if_pos (by omega), if_pos h]; rfl
      · rw [if_neg (by omega), if_neg h]; rfl
theorem sh_dbl (ops : List (Int × Int)) : ∀ (ps ar : List (Int × Int)), shO (ops.map dbl) ar ps = (shO ops ar ps).map dI
  | [], ar => hds_dbl ops ar
  | p :: ps, ar => by
    unfold shO
    rw [hds_dbl, sh_dbl ops ps, sh_dbl ops ps]
    cases hds ops ar with
    | none => rfl
    | some _ => exact pick_dbl ops _ _
theorem rowI_dbl (ops : List (Int × Int)) (m : Int) : rowI (ops.map dbl) m = rowI ops m := by
  unfold rowI
  rw [List.length_map]
  congr 1
  apply List.filter_congr
  intro i _
  rw [List.getD_eq_getElem?_getD, List.getD_eq_getElem?_getD, List.getElem?_map]
  cases ops[i]? <;> rfl
theorem msO_dbl (M : Nat) (ops : List (Int × Int)) : msO M (ops.map dbl) = msO M ops := by
  unfold msO
  simp only [rowI_dbl]
theorem ordB_dbl (M : Nat) (ops : List (Int × Int)) (l : List (List Int)) : ordB M (ops.map dbl) l = ordB M ops l := by
  unfold ordB
  rw [msO_dbl]
theorem arcsO_dbl : ∀ (J : List (List (Int × Int))) (off : Nat), arcsO off (dblJ J) = arcsO off J
  | [], _ => rfl
  | j :: J, off => by
    show arcsO off (j.map dbl :: dblJ J) = _
    unfold arcsO
    rw [List.length_map, arcsO_dbl J]
theorem flat_dbl (J : List (List (Int × Int))) : (dblJ J).flatten = J.flatten.map dbl := by
  unfold dblJ
  rw [List.map_flatten]
theorem bsN_dbl {N : Int} {J : List (List (Int × Int))} (h : shopB N J = true) (h2 : shopB N (dblJ J) = true) : bsN N (dblJ J) = bsN N J * 2 := by
  obtain ⟨hs, h1⟩ := shop_some (shopB_iff.1 h)
  unfold bsN bsH
  rw [if_pos h, if_pos h2, flat_dbl, arcsO_dbl, msO_dbl, sh_dbl, h1]
  exact span_dbl _ _
theorem stH_dbl {N : Int} {J : List (List (Int × Int))} {l : List (List Int)} (h : shopB N J = true) (h2 : shopB N (dblJ J) = true) : stH N (dblJ J) l = (stH N J l).map dI := by
  unfold stH
  rw [h, h2, flat_dbl, arcsO_dbl, ordB_dbl, hds_dbl]
  split
  · rfl
  · rfl
theorem stE_dbl {N : Int} {J : List (List (Int × Int))} {l : List (List Int)} (h : shopB N J = true) (h2 : shopB N (dblJ J) = true) : stE N (dblJ J) l = stE N J l := by
  unfold stE
  rw [h, h2, flat_dbl, arcsO_dbl, ordB_dbl, hds_dbl, Option.isNone_map]
theorem spE_dbl {N : Int} {J : List (List (Int × Int))} {l : List (List Int)} (h : shopB N J = true) (h2 : shopB N (dblJ J) = true) : spE N (dblJ J) l = spE N J l * 2 := by
  unfold spE
  rw [stH_dbl h h2]
  cases stH N J l with
  | none => rfl
  | some hs =>
    show spanO (dblJ J).flatten (dI hs) = _
    rw [flat_dbl]; exact span_dbl _ _
end Go.Ba

