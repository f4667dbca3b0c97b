import Derived.Test.YtdilkpcnkhedlaaVmKe
import Derived.Test.YtdilkpcnkhedlaaBaQ
/-
  HOW LONG A SLICE IN A SLICE IS: at most the number of values that its reading holds.
-/
namespace Go.Ba
open Go.Vm Go.RowKit Go.Ht Go.ChangeShapes Go.WideShapes Go.Deep
section
variable {H : Type} {enc : TypeId × Value → H} {P : Program} {w : World} {held : Bool} {bulk : DataW H → Nat}
theorem job_small (hb : ∀ elems spare, elems.length ≤ bulk (.slice elems spare)) {K O : TypeId} (hK : P.underlying K = some (.slice O)) {v : Value} {d : DV} {j : List (Int × Int)} {fuel : Nat} {x : DataW H × List MemPlace}
    (h : DataW.trod enc P w 0 (fun _ => true) held fuel K [v] = some x) (hd : DRep w Noone v d) (hj : PrD d j) : j.length ≤ bulk x.1 := by
  rcases DataW.trod_slice hK h with ⟨hv, _⟩ | ⟨a, len, cap, elems, rest, n, _, hv, hx, _, _, _, hlen, _, _, _⟩
  · cases hv
    cases hj with
    | nil => simp
    | sl => cases hd
  · cases hv
    cases hj with
    | nil => cases hd
    | sl =>
      cases hd
      rw [hx]
      refine Nat.le_trans ?_ (hb _ _)
      rw [List.length_map, hlen]
      exact Nat.le_refl _
theorem jobs_small (hb : ∀ elems spare, elems.length ≤ bulk (.slice elems spare)) (hb2 : ∀ elems spare y, y ∈ elems → bulk y ≤ bulk (.slice elems spare)) {L K O : TypeId} (hL : P.underlying L = some (.slice K)) (hK : P.underlying K = some (.slice O)) (hc : P.cellsOf K = 1)
    {v : Value} {d : DV} {J : List (List (Int × Int))} {fuel : Nat} {x : DataW H × List MemPlace}
    (h : DataW.trod enc P w 0 (fun _ => true) held fuel L [v] = some x) (hd : DRep w Noone v d) (hJ : JbD d J) : ∀ j ∈ J, j.length ≤ bulk x.1 := by
  intro j hj
  obtain ⟨i, hi, rfl⟩ := List.getElem_of_mem hj
  rcases DataW.trod_slice hL h with ⟨hv, _⟩ | ⟨a, len, cap, elems, rest, n, _, hv, hx, _, _, _, hlen, hel, _, _⟩
  · cases hv
    cases hJ with
    | nil => simp at hi
    | sl => cases hd
  · cases hv
    cases hJ with
    | nil => cases hd
    | @sl cs _ _ hl hq =>
      cases hd with
      | sl vs h1 h2 hn ha hcell hx' =>
        have hic : i < cs.length := by omega
        have hiv : i < vs.length := by omega
        have hie : i < elems.length := by omega
        have e1 := hel i (by omega)
        rw [hc, Nat.mul_one, List.getElem?_eq_getElem hie] at e1
        obtain ⟨c, hc1, hc2⟩ := Option.bind_eq_some_iff.1 e1
        obtain ⟨_, hcl, h3⟩ := World.cells?_some hc1
        have hs := (ha (by intro h0; rw [h0] at hic; simp at hic)).1
        have e2 := hcell i vs[i] (List.getElem?_eq_getElem hiv)
        have e3 := h3 0 (by omega)
        have ea : (a.add i).add 0 = ⟨a.block, a.off + i, none⟩ := by
          obtain ⟨b, off, spot⟩ := a
          simp only at hs
          subst hs
          rw [add_add', add_plain]; rfl
        rw [ea, e2] at e3
        have ec : c = [vs[i]] := by
          cases c with
          | nil => simp at hcl
          | cons y c =>
            cases c with
            | nil => simp at e3; rw [e3]
            | cons z c => simp at hcl
        rw [ec] at hc2
        have q1 := job_small hb hK hc2 (hx' i vs[i] cs[i] (List.getElem?_eq_getElem hiv) (List.getElem?_eq_getElem hic)) (hq i cs[i] J[i] (List.getElem?_eq_getElem hic) (List.getElem?_eq_getElem hi))
        refine Nat.le_trans q1 ?_
        rw [hx]
        exact hb2 _ _ _ (List.mem_map_of_mem (List.getElem_mem hie))
theorem shop_small (hb : ∀ elems spare, elems.length ≤ bulk (.slice elems spare)) (hb2 : ∀ elems spare y, y ∈ elems → bulk y ≤ bulk (.slice elems spare)) (hb3 : ∀ parts y, y ∈ parts → bulk y ≤ bulk (.agg parts))
    {S L K O : TypeId} {fs : Array Field} {f : Field} (hS : P.underlying S = some (.struct fs)) (hf : fs[1]? = some f) (ho : f.offset = 1) (hft : f.type = L) (hcL : P.cellsOf L = 1) (hL : P.underlying L = some (.slice K)) (hK : P.underlying K = some (.slice O)) (hc : P.cellsOf K = 1)
    {cs : List Value} {a d : DV} {J : List (List (Int × Int))} {fuel : Nat} {x : DataW H × List MemPlace}
    (h : DataW.trod enc P w 0 (fun _ => true) held fuel S cs = some x) (hd : DReps w cs [a, d]) (hJ : JbD d J) : ∀ j ∈ J, j.length ≤ bulk x.1 := by
  intro j hj
  obtain ⟨xs, n, _, hx, _, hxl, hfs⟩ := DataW.trod_struct hS h
  obtain ⟨h1, h2⟩ := hd
  match cs, h1 with
  | [v0, v1], _ =>
    have e := hfs 1 f hf
    rw [ho, hft, hcL] at e
    have h1s : 1 < xs.length := by
      rw [hxl]
      exact (Array.getElem?_eq_some_iff.1 hf).1
    rw [List.getElem?_eq_getElem h1s] at e
    refine Nat.le_trans (jobs_small hb hb2 hL hK hc e (h2 1 v1 d rfl rfl) hJ j hj) ?_
    rw [hx]
    exact hb3 _ _ (List.mem_map_of_mem (List.getElem_mem h1s))
end
end Go.Ba

