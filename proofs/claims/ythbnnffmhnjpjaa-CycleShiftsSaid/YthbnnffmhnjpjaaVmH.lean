import Derived.Test.YthbnnffmhnjpjaaVmG
/-
  VALUES WITHOUT ADDRESSES, 8: literals of slices; every operation that calls no Go function is sound.
-/
namespace Go.Vm
open Go.RowKit

theorem splice_cons {α : Type} (cs : List α) (o : Nat) (x : α) (xs : List α) (h : o + (x :: xs).length ≤ cs.length) : splice (cs.set o x) (o + 1) xs = splice cs o (x :: xs) := by
  simp only [List.length_cons] at h
  apply List.ext_getElem?
  intro i
  rw [getElem?_splice _ _ _ (by simp; omega), getElem?_splice _ _ _ (by simp; omega)]
  simp only [List.length_cons]
  by_cases h1 : o + 1 ≤ i ∧ i < o + 1 + xs.length
  · rw [if_pos h1, if_pos (by omega)]
    rw [show i - o = (i - (o + 1)) + 1 by omega]; rfl
  · rw [if_neg h1, List.getElem?_set]
    by_cases h2 : o = i
    · subst h2
      rw [if_pos rfl, if_pos (by omega), if_pos (by omega)]
      simp
    · rw [if_neg h2, if_neg (by omega)]

theorem splice_nil {α : Type} (cs : List α) (o : Nat) : splice cs o [] = cs := by simp [splice]

theorem foldl_set (off : Nat) : ∀ (l : List Value) (k : Nat) (cs : Array Value), off + k + l.length ≤ cs.size →
    ((l.zipIdx k).foldl (fun cs p => cs.setIfInBounds (off + p.2) p.1) cs).toList = splice cs.toList (off + k) l
  | [], k, cs, _ => by simp [splice_nil]
  | v :: l, k, cs, h => by
    simp only [List.zipIdx_cons, List.foldl_cons]
    simp only [List.length_cons] at h
    rw [foldl_set off l (k + 1) _ (by simp; omega)]
    rw [Array.toList_setIfInBounds, ← Nat.add_assoc]
    exact splice_cons _ _ _ _ (by simp; omega)

theorem fill_foldl (off : Nat) (v : Array Value) (cs : Array Value) (h : off + v.size ≤ cs.size) :
    (v.zipIdx.foldl (fun cs (c, j) => cs.setIfInBounds (off + j) c) cs) = (splice cs.toList off v.toList).toArray := by
  apply Array.ext'
  rw [← Array.foldl_toList, Array.toList_zipIdx]
  have := foldl_set off v.toList 0 cs (by simpa using h)
  simpa using this

section
variable {P : Program} {M : Nat → Prop} {W0 w : World} {ι : List Nat} {σ : List VObj}

theorem fillX_sound {F : Nat → Prop} (k : Nat) : ∀ (ps : List (Nat × Value)) (qs : List (Nat × XV)) (cur : Array Value) (cells out : List XV),
    ps.length = qs.length → (∀ (i : Nat) (p : Nat × Value) (q : Nat × XV), ps[i]? = some p → qs[i]? = some q → p.1 = q.1 ∧ XRep w ι F p.2 q.2) →
    cur.size = cells.length → (∀ (i : Nat) (v : Value) (x : XV), cur[i]? = some v → cells[i]? = some x → XRep w ι F v x) → fillX k cells qs = some out →
    ∃ cur', Instr.fill (fun i => some (i * k, k)) cur ps = some cur' ∧ cur'.size = out.length ∧ ∀ (i : Nat) (v : Value) (x : XV), cur'[i]? = some v → out[i]? = some x → XRep w ι F v x
  | [], [], cur, cells, out, _, _, hs, hx, h => by
    simp [fillX] at h; subst h
    exact ⟨cur, rfl, hs, hx⟩
  | [], _ :: _, _, _, _, hl, _, _, _, _ => by simp at hl
  | _ :: _, [], _, _, _, hl, _, _, _, _ => by simp at hl
  | (i, v) :: ps, (j, x) :: qs, cur, cells, out, hl, hp, hs, hx, h => by
    obtain ⟨rfl, hvx⟩ := hp 0 (i, v) (j, x) rfl rfl
    simp only at hvx
    obtain ⟨e1, e2⟩ := cellsX_rep hvx
    simp only [fillX] at h
    split at h
    case isFalse => cases h
    rename_i hc
    have hfit : i * k + (cellsX x).length ≤ cells.length := by omega
    have hsz : (splice cur.toList (i * k) v.cells.toList).length = cur.size := by rw [length_splice _ _ _ (by simp; omega)]; simp
    obtain ⟨cur', k1, k2, k3⟩ := fillX_sound k ps qs (splice cur.toList (i * k) v.cells.toList).toArray (splice cells (i * k) (cellsX x)) out (by simpa using hl)
      (fun n p q h1 h2 => hp (n + 1) p q h1 h2) (by rw [List.size_toArray, hsz, length_splice _ _ _ hfit, hs]) (fun n u y h1 h2 => by
        rw [List.getElem?_toArray, getElem?_splice _ _ _ (by simp; omega)] at h1
        rw [getElem?_splice _ _ _ hfit] at h2
        simp only [Array.length_toList, e1] at h1
        by_cases hin : i * k ≤ n ∧ n < i * k + (cellsX x).length
        · rw [if_pos hin] at h1 h2
          exact e2 _ _ _ (by simpa using h1) h2
        · rw [if_neg hin] at h1 h2
          exact hx n u y (by simpa using h1) h2) h
    refine ⟨cur', ?_, k2, k3⟩
    simp only [Instr.fill]
    rw [if_neg (by simp; omega), fill_foldl _ _ _ (by omega)]
    exact k1

theorem opBuildSlice_sound (hm : Mem M W0 ι σ w) {t : TypeId} {n : Nat} {ps : List (Nat × Value)} {qs : List (Nat × XV)} (hl : ps.length = qs.length)
    (hp : ∀ (i : Nat) (p : Nat × Value) (q : Nat × XV), ps[i]? = some p → qs[i]? = some q → p.1 = q.1 ∧ XRep w ι (Forb M ι σ) p.2 q.2) {r : XV × List VObj}
    (h : opBuildSlice P σ t n qs = some r) :
    ∃ (ι' : List Nat) (w' : World) (v : Value), (Instr.buildSlice t n ps.toArray).run P w = .ok v w' ∧ Mem M W0 ι' r.2 w' ∧ Ext M ι σ w ι' r.2 w' ∧ XRep w' ι' (Forb M ι' r.2) v r.1 := by
  unfold opBuildSlice at h
  split at h
  case h_2 => cases h
  rename_i e hu
  split at h
  case h_2 => cases h
  rename_i k z hk hz
  split at h
  case isFalse => cases h
  rename_i hsmall
  simp only [Option.map_eq_some_iff] at h
  obtain ⟨cells, hf, rfl⟩ := h
  obtain ⟨i, hi, hke⟩ := info_of_size hk
  have hzi : i.zero = some z := by simpa [zeroT, hi] using hz
  have hz2 : ∀ w : World, (zeroValue e).run P w = .ok z w := fun w => by simp [zeroValue, typeInfo, hi, hzi]
  obtain ⟨cur', k1, k2, k3⟩ := fillX_sound k ps qs ((Array.range (n * k)).map (z.cells[· % z.cells.size]!)) (zeroRow z (n * k)) cells hl hp (by simp [zeroRow]) (fun j v x hv hx => by
    obtain ⟨u, hu', rfl⟩ := range_map_get _ _ _ _ hx
    rw [hu'] at hv; cases hv; exact .d (.lit _)) hf
  have hlen : cells.length = n * k := by
    have : ∀ (qs : List (Nat × XV)) (cs out : List XV), fillX k cs qs = some out → out.length = cs.length := by
      intro qs
      induction qs with
      | nil => intro cs out h; simp [fillX] at h; subst h; rfl
      | cons q qs ih =>
        intro cs out h
        obtain ⟨j, x⟩ := q
        simp only [fillX] at h
        split at h
        · rename_i hc; rw [ih _ _ h, length_splice _ _ _ (by omega)]
        · cases h
    rw [this _ _ _ hf]; simp [zeroRow]
  obtain ⟨m1, m2⟩ := hm.push rfl (below_refl _ w) cur' e cells (by omega) (fun j x hx => by
    have hlt : j < cur'.size := by rw [k2]; exact (List.getElem?_eq_some_iff.1 hx).1
    exact ⟨cur'[j], Array.getElem?_eq_getElem hlt, k3 j _ x (Array.getElem?_eq_getElem hlt) hx⟩)
  refine ⟨_, _, .slice (some ⟨w.heap.size, 0, none⟩) n n, ?_, m1, m2, .osl (by simp [hm.len]) (Nat.le_refl _) (Nat.le_refl _) (fun _ => rfl) ⟨e, _, shape_of_heap (Go.heap_alloc_new _ _), by omega⟩⟩
  by_cases hn : n * k = 0
  · have hcells : (Array.range 0).map (z.cells[· % z.cells.size]!) = (Array.range 0).map fun i => ((#[] : Array Value)[i % (#[] : Array Value).size]!) := by
      apply Array.ext <;> simp
    simp only [hn, hcells] at k1
    simp only [Instr.buildSlice, run_underlying hu, sizeOf, typeInfo, hi, hke, Sem.run_bind, Sem.run_pure, Result.andThen_ok, run_program]
    rw [if_neg (by omega)]
    simp only [hn, if_true, Sem.run_bind, Result.andThen_ok, Sem.run_pure, newRow, k1]
    rfl
  · simp only [Instr.buildSlice, run_underlying hu, sizeOf, typeInfo, hi, hke, Sem.run_bind, Sem.run_pure, Result.andThen_ok, run_program]
    rw [if_neg (by omega)]
    simp only [Sem.run_bind, Result.andThen_ok, Sem.run_pure, if_neg hn, newRow, hz2, k1]
    rfl

theorem aggCells_rep {F : Nat → Prop} {v : Value} {x : XV} {cs : List XV} (hx : XRep w ι F v x) (h : aggCells x = some cs) :
    ∃ vs, v = .agg vs ∧ vs.size = cs.length ∧ ∀ (i : Nat) (u : Value) (y : XV), vs[i]? = some u → cs[i]? = some y → XRep w ι F u y := by
  unfold aggCells at h
  split at h
  · cases h
    cases hx with
    | agg hn hx => exact ⟨_, rfl, hn, hx⟩
  · cases h
    cases hx with
    | d hx => cases hx with
      | agg hn hx =>
        refine ⟨_, rfl, by simpa using hn, fun i u y hu hy => ?_⟩
        simp only [List.getElem?_map, Option.map_eq_some_iff] at hy
        obtain ⟨z, hz, rfl⟩ := hy
        exact .d (hx i u z hu hz)
  · cases h
    cases hx with
    | d hx => cases hx with
      | lit =>
        refine ⟨_, rfl, by simp, fun i u y hu hy => ?_⟩
        simp only [List.getElem?_map, Array.getElem?_toList, hu, Option.map_some, Option.some.injEq] at hy
        subst hy
        exact .d (.lit _)
  · cases h

theorem part_sound {F : Nat → Prop} {t : TypeId} {off : Nat} {vs : Array Value} {cs : List XV} (hn : vs.size = cs.length) (hx : ∀ (i : Nat) (u : Value) (y : XV), vs[i]? = some u → cs[i]? = some y → XRep w ι F u y)
    {r : XV} (h : takeVar P t (cs.drop off) = some r) : ∃ u, (part t vs off).run P w = .ok u w ∧ XRep w ι F u r := by
  unfold takeVar at h
  split at h
  · rename_i n ha hs
    split at h
    · rename_i hle
      cases h
      refine ⟨.agg (vs.extract off (off + n)), ?_, aggX_rep ?_ fun i v x hv hx' => ?_⟩
      · unfold part
        simp [Sem.run_bind, underlying_of_isAggT ha, run_sizeOf' hs]
      · simp at hle ⊢; omega
      · rw [Array.getElem?_extract] at hv
        split at hv
        · rw [List.getElem?_take] at hx'
          split at hx'
          · rw [List.getElem?_drop] at hx'
            exact hx _ _ _ hv hx'
          · cases hx'
        · cases hv
    · cases h
  · rename_i ha
    rw [List.head?_drop] at h
    have hlt : off < vs.size := by rw [hn]; exact (List.getElem?_eq_some_iff.1 h).1
    refine ⟨vs[off], ?_, hx off _ r (Array.getElem?_eq_getElem hlt) h⟩
    unfold part
    simp [Sem.run_bind, underlying_of_isAggT ha, Array.getElem?_eq_getElem hlt]
  · cases h

theorem fieldT_some {t : TypeId} {f : Nat} {fd : Field} (h : fieldT P t f = some fd) : ∃ fs, P.underlying t = some (.struct fs) ∧ fs[f]? = some fd := by
  unfold fieldT at h
  split at h
  · rename_i fs hu; exact ⟨fs, hu, h⟩
  · cases h

theorem opField_sound {F : Nat → Prop} {t : TypeId} {v : Value} {x r : XV} {f : Nat} (hx : XRep w ι F v x) (h : opField P t x f = some r) : ∃ u, (Instr.field t v f).run P w = .ok u w ∧ XRep w ι F u r := by
  unfold opField at h
  split at h
  case h_2 => cases h
  rename_i fd cs hf hc
  obtain ⟨fs, hu, hfs⟩ := fieldT_some hf
  obtain ⟨vs, rfl, hn, hr⟩ := aggCells_rep hx hc
  obtain ⟨u, k1, k2⟩ := part_sound (P := P) hn hr h
  refine ⟨u, ?_, k2⟩
  simp [Instr.field, run_underlying hu, hfs, asAgg, k1]

theorem opIndex_sound {F : Nat → Prop} {t : TypeId} {v vi : Value} {x i r : XV} (hx : XRep w ι F v x) (hi : XRep w ι F vi i) (h : opIndex P t x i = some r) : ∃ u, (Instr.index t v vi).run P w = .ok u w ∧ XRep w ι F u r := by
  unfold opIndex at h
  split at h
  case h_2 => cases h
  rename_i k n len e cs hl hu hc
  have hvi := litOf_rep hi hl
  subst hvi
  split at h
  case h_2 => cases h
  rename_i sz hs
  split at h
  case isFalse => cases h
  rename_i hb
  obtain ⟨vs, rfl, hn, hr⟩ := aggCells_rep hx hc
  obtain ⟨u, k1, k2⟩ := part_sound (P := P) hn hr h
  refine ⟨u, ?_, k2⟩
  simp [Instr.index, asIntOf, run_underlying hu, run_sizeOf' hs, hb.1, hb.2, k1]

theorem opFieldAddr_sound {F : Nat → Prop} {t : TypeId} {v : Value} {x r : XV} {f : Nat} (hx : XRep w ι F v x) (h : opFieldAddr P t x f = some r) : ∃ u, (Instr.fieldAt t v f).run P w = .ok u w ∧ XRep w ι F u r := by
  unfold opFieldAddr at h
  split at h
  case h_2 => cases h
  rename_i fd hf
  obtain ⟨fs, hu, hfs⟩ := fieldT_some hf
  split at h
  case h_2 => cases h
  rename_i k hs
  split at h
  · rename_i cs
    cases h
    cases hx with
    | d hx => cases hx with
      | @ptr a _ vs hn ha hcell hxx =>
        refine ⟨.pointer (some (a.add fd.offset)), ?_, .d ?_⟩
        · simp [Instr.fieldAt, run_underlying hu, hfs, Instr.sureAddr, fieldPlace, run_sizeOf' hs]
        · by_cases hne : cs.drop fd.offset = []
          · rw [hne]
            exact .ptr [] rfl (fun h => absurd rfl h) (fun i v h => by simp at h) (fun i v x h => by simp at h)
          · have hne0 : cs ≠ [] := by intro e; subst e; simp at hne
            obtain ⟨hsp, hf⟩ := ha hne0
            rw [addr_eta hsp, add_lit']
            refine .ptr (vs.drop fd.offset) (by simp [hn]) (fun _ => ⟨rfl, hf⟩) (fun i v hv => ?_) (fun i v x hv hx => ?_)
            · rw [List.getElem?_drop] at hv
              have := hcell _ _ hv
              simpa [Nat.add_assoc] using this
            · rw [List.getElem?_drop] at hv hx
              exact hxx _ _ _ hv hx
  · cases h
    cases hx with
    | optr hb =>
      refine ⟨_, ?_, .optr hb⟩
      simp [Instr.fieldAt, run_underlying hu, hfs, Instr.sureAddr, fieldPlace, run_sizeOf' hs, add_lit']
  · cases h

theorem fillP_sound {F : Nat → Prop} (place : Nat → Option (Nat × Nat)) : ∀ (ps : List (Nat × Value)) (qs : List (Nat × XV)) (cur : Array Value) (cells out : List XV),
    ps.length = qs.length → (∀ (i : Nat) (p : Nat × Value) (q : Nat × XV), ps[i]? = some p → qs[i]? = some q → p.1 = q.1 ∧ XRep w ι F p.2 q.2) →
    cur.size = cells.length → (∀ (i : Nat) (v : Value) (x : XV), cur[i]? = some v → cells[i]? = some x → XRep w ι F v x) → fillP place cells qs = some out →
    ∃ cur', Instr.fill place cur ps = some cur' ∧ cur'.size = out.length ∧ ∀ (i : Nat) (v : Value) (x : XV), cur'[i]? = some v → out[i]? = some x → XRep w ι F v x
  | [], [], cur, cells, out, _, _, hs, hx, h => by
    simp [fillP] at h; subst h
    exact ⟨cur, rfl, hs, hx⟩
  | [], _ :: _, _, _, _, hl, _, _, _, _ => by simp at hl
  | _ :: _, [], _, _, _, hl, _, _, _, _ => by simp at hl
  | (i, v) :: ps, (j, x) :: qs, cur, cells, out, hl, hp, hs, hx, h => by
    obtain ⟨rfl, hvx⟩ := hp 0 (i, v) (j, x) rfl rfl
    simp only at hvx
    obtain ⟨e1, e2⟩ := cellsX_rep hvx
    simp only [fillP] at h
    split at h
    case h_2 => cases h
    rename_i off k hpl
    split at h
    case isFalse => cases h
    rename_i hc
    have hfit : off + (cellsX x).length ≤ cells.length := by omega
    have hsz : (splice cur.toList off v.cells.toList).length = cur.size := by rw [length_splice _ _ _ (by simp; omega)]; simp
    obtain ⟨cur', k1, k2, k3⟩ := fillP_sound place ps qs (splice cur.toList off v.cells.toList).toArray (splice cells off (cellsX x)) out (by simpa using hl)
      (fun n p q h1 h2 => hp (n + 1) p q h1 h2) (by rw [List.size_toArray, hsz, length_splice _ _ _ hfit, hs]) (fun n u y h1 h2 => by
        rw [List.getElem?_toArray, getElem?_splice _ _ _ (by simp; omega)] at h1
        rw [getElem?_splice _ _ _ hfit] at h2
        simp only [Array.length_toList, e1] at h1
        by_cases hin : off ≤ n ∧ n < off + (cellsX x).length
        · rw [if_pos hin] at h1 h2
          exact e2 _ _ _ (by simpa using h1) h2
        · rw [if_neg hin] at h1 h2
          exact hx n u y (by simpa using h1) h2) h
    refine ⟨cur', ?_, k2, k3⟩
    simp only [Instr.fill, hpl]
    rw [if_neg (by simp; omega), fill_foldl _ _ _ (by omega)]
    exact k1

theorem opBuild_sound {F : Nat → Prop} {t : TypeId} {ps : List (Nat × Value)} {qs : List (Nat × XV)} (hl : ps.length = qs.length)
    (hp : ∀ (i : Nat) (p : Nat × Value) (q : Nat × XV), ps[i]? = some p → qs[i]? = some q → p.1 = q.1 ∧ XRep w ι F p.2 q.2) {r : XV}
    (h : opBuild P t qs = some r) : ∃ v, (Instr.build t ps.toArray).run P w = .ok v w ∧ XRep w ι F v r := by
  unfold opBuild at h
  split at h
  case h_2 => cases h
  rename_i z hz
  obtain ⟨i, hi, hzi⟩ := info_of_zero hz
  have hz2 : (zeroValue t).run P w = .ok z w := by simp [zeroValue, typeInfo, hi, hzi]
  have h0 : ∀ (i : Nat) (v : Value) (x : XV), z.cells[i]? = some v → (z.cells.toList.map fun v => XV.d (.lit v))[i]? = some x → XRep w ι F v x := fun i v x hv hx => by
    simp only [List.getElem?_map, Array.getElem?_toList, hv, Option.map_some, Option.some.injEq] at hx
    subst hx
    exact .d (.lit _)
  split at h
  · rename_i fs hu
    split at h
    case h_2 => cases h
    rename_i pl hpl
    simp only [Option.map_eq_some_iff] at h
    obtain ⟨out, ho, rfl⟩ := h
    obtain ⟨cur', k1, k2, k3⟩ := fillP_sound _ ps qs z.cells _ out hl hp (by simp) h0 ho
    refine ⟨.agg cur', ?_, aggX_rep k2 k3⟩
    have hpl' := pureRun_ok hpl w
    simp only [Instr.build, Sem.run_bind, hz2, Result.andThen_ok, run_underlying hu, hpl', k1]
    rfl
  · rename_i n e hu
    split at h
    case h_2 => cases h
    rename_i k hk
    simp only [Option.map_eq_some_iff] at h
    obtain ⟨out, ho, rfl⟩ := h
    obtain ⟨cur', k1, k2, k3⟩ := fillP_sound _ ps qs z.cells _ out hl hp (by simp) h0 ho
    refine ⟨.agg cur', ?_, aggX_rep k2 k3⟩
    simp only [Instr.build, Sem.run_bind, hz2, Result.andThen_ok, run_underlying hu, run_sizeOf' hk, k1]
    rfl
  · cases h

theorem run_v {s : Sem Value} {u : Value} {w' : World} (h : s.run P w = .ok u w') : ((do pure (.value (← s)) : Sem Next)).run P w = .ok (.value u) w' := by
  simp [Sem.run_bind, h]

theorem run_u {s : Sem Unit} {w' : World} (h : s.run P w = .ok () w') : ((do s; pure .skip : Sem Next)).run P w = .ok .skip w' := by
  simp [Sem.run_bind, h]

set_option maxHeartbeats 1000000 in
/-- EVERY OPERATION THAT CALLS NO Go FUNCTION IS SOUND. -/
theorem evalOp_sound {a : Act} {s : St} {o : Oper} {r : XV × List VObj × Nat} (hm : Mem M W0 ι s.σ w) (he : ∀ t, XRep w ι (Forb M ι s.σ) (a.tmps.getD t undef) (s.env t))
    (h : evalOp P o s = some r) : Good P M W0 ι s.σ w (execOp a.eval o) r.1 r.2.1 := by
  unfold evalOp at h
  split at h
  · rename_i v hv
    cases h
    exact litOp_sound hm he hv
  · have hx := fun x => evalX_rep (a := a) he x
    obtain ⟨dst, op, type, pos, after, guard⟩ := o
    simp only at h
    split at h
    · cases h; exact .pure hm (v := a.eval _) (by simp [execOp]) (hx _)
    · cases h; exact .pure hm (v := a.eval _) (by simp [execOp]) (hx _)
    · rename_i c x y _
      split at h
      · rename_i t hl
        cases h
        have := litOf_rep (hx c) hl
        refine .pure hm (v := if t then a.eval x else a.eval y) ?_ ?_
        · simp [execOp, this, asBool]
        · cases t <;> simp [hx]
      · cases h
    · simp only [Option.map_eq_some_iff] at h
      obtain ⟨q, hq, rfl⟩ := h
      obtain ⟨ι', w', v, k1, k2, k3, k4⟩ := opAlloc_sound hm hq
      exact ⟨ι', w', v, .inl (run_v k1), k2, k3, k4⟩
    · cases h
      obtain ⟨ι', w', v, k1, k2, k3, k4⟩ := opBox_sound (P := P) hm (hx _)
      exact ⟨ι', w', v, .inl (run_v k1), k2, k3, k4⟩
    · simp only [Option.map_eq_some_iff] at h
      obtain ⟨q, hq, rfl⟩ := h
      obtain ⟨u, k1, k2⟩ := opLoad_sound hm (hx _) hq
      exact .pure hm (run_v k1) k2
    · simp only [Option.map_eq_some_iff] at h
      obtain ⟨q, hq, rfl⟩ := h
      obtain ⟨ι', w', k1, k2, k3⟩ := opStore_sound hm (hx _) (hx _) hq
      exact ⟨ι', w', undef, .inr ⟨run_u k1, rfl⟩, k2, k3, .d (.lit _)⟩
    · split at h
      · rename_i q hq
        cases h
        obtain ⟨u, k1, k2⟩ := opEqNil_sound (P := P) (hx _) (hx _) hq
        exact .pure hm (run_v k1) k2
      · simp only [Option.map_eq_some_iff] at h
        obtain ⟨q, hq, rfl⟩ := h
        exact .pure hm (run_v (opBin2_sound (P := P) (hx _) (hx _) hq)) (.d (.lit _))
    · cases h
      rename_i f first caps _
      refine .pure hm (v := .func f (first.map a.eval) (caps.map a.eval)) (by simp [execOp, Instr.makeFunc]) (.fn (by simp) (fun i v x hv hx' => ?_) (by simp) (fun i v x hv hx' => ?_))
      · simp only [Array.getElem?_map, Option.map_eq_some_iff, List.getElem?_map, Array.getElem?_toList] at hv hx'
        obtain ⟨p, hp, rfl⟩ := hv
        obtain ⟨q, hq, rfl⟩ := hx'
        rw [hp] at hq; cases hq; exact hx _
      · simp only [Array.getElem?_map, Option.map_eq_some_iff, List.getElem?_map, Array.getElem?_toList] at hv hx'
        obtain ⟨p, hp, rfl⟩ := hv
        obtain ⟨q, hq, rfl⟩ := hx'
        rw [hp] at hq; cases hq; exact hx _
    · simp only [Option.map_eq_some_iff] at h
      obtain ⟨q, hq, rfl⟩ := h
      obtain ⟨ι', w', v, k1, k2, k3, k4⟩ := opMakeSlice_sound hm (hx _) (hx _) hq
      exact ⟨ι', w', v, .inl (run_v k1), k2, k3, k4⟩
    · split at h
      · rename_i q hq
        cases h
        obtain ⟨u, k1, k2⟩ := opSlice_sound (P := P) he _ _ _ _ hq
        exact .pure hm (run_v k1) k2
      · simp only [Option.map_eq_some_iff] at h
        obtain ⟨q, hq, rfl⟩ := h
        obtain ⟨u, k1, k2⟩ := opSliceA_sound (P := P) hm he _ _ _ _ hq
        exact .pure hm (run_v k1) k2
    · simp only [Option.map_eq_some_iff] at h
      obtain ⟨q, hq, rfl⟩ := h
      obtain ⟨u, k1, k2⟩ := opIndexAddr_sound (P := P) (hx _) (hx _) hq
      exact .pure hm (run_v k1) k2
    · simp only [Option.map_eq_some_iff] at h
      obtain ⟨q, hq, rfl⟩ := h
      obtain ⟨u, k1, k2⟩ := opField_sound (P := P) (hx _) hq
      exact .pure hm (run_v k1) k2
    · simp only [Option.map_eq_some_iff] at h
      obtain ⟨q, hq, rfl⟩ := h
      obtain ⟨u, k1, k2⟩ := opIndex_sound (P := P) (hx _) (hx _) hq
      exact .pure hm (run_v k1) k2
    · simp only [Option.map_eq_some_iff] at h
      obtain ⟨q, hq, rfl⟩ := h
      obtain ⟨u, k1, k2⟩ := opFieldAddr_sound (P := P) (hx _) hq
      exact .pure hm (run_v k1) k2
    · simp only [Option.map_eq_some_iff] at h
      obtain ⟨q, hq, rfl⟩ := h
      rename_i t parts _
      obtain ⟨u, k1, k2⟩ := opBuild_sound (P := P) (ps := (parts.map fun p => (p.1, a.eval p.2)).toList) (by simp) (fun i p q hp hq' => by
        simp only [Array.toList_map, List.getElem?_map, Option.map_eq_some_iff] at hp hq'
        obtain ⟨p', hp', rfl⟩ := hp
        obtain ⟨q', hq'', rfl⟩ := hq'
        rw [hp'] at hq''; cases hq''; exact ⟨rfl, hx _⟩) hq
      exact .pure hm (run_v (by rw [Array.toArray_toList] at k1; exact k1)) k2
    · simp only [Option.map_eq_some_iff] at h
      obtain ⟨q, hq, rfl⟩ := h
      obtain ⟨u, k1, k2⟩ := opExtract_sound (P := P) (hx _) hq
      exact .pure hm (run_v k1) k2
    · simp only [Option.map_eq_some_iff] at h
      obtain ⟨q, hq, rfl⟩ := h
      rename_i t n parts _
      obtain ⟨ι', w', v, k1, k2, k3, k4⟩ := opBuildSlice_sound hm (ps := (parts.map fun p => (p.1, a.eval p.2)).toList) (by simp) (fun i p q hp hq' => by
        simp only [Array.toList_map, List.getElem?_map, Option.map_eq_some_iff] at hp hq'
        obtain ⟨p', hp', rfl⟩ := hp
        obtain ⟨q', hq'', rfl⟩ := hq'
        rw [hp'] at hq''; cases hq''; exact ⟨rfl, hx _⟩) hq
      exact ⟨ι', w', v, .inl (run_v (by rw [Array.toArray_toList] at k1; exact k1)), k2, k3, k4⟩
    · rename_i args argTypes _
      split at h
      · rename_i x hargs
        simp only [Option.map_eq_some_iff] at h
        obtain ⟨q, hq, rfl⟩ := h
        obtain ⟨u, k1, k2⟩ := opLen_sound (P := P) (ty := type) (hx _) hq
        have ha : args = #[x] := by cases args; simp at hargs; subst hargs; rfl
        subst ha
        refine .pure hm (v := u) ?_ k2
        simp [execOp, resolve, invoke, builtin, k1]
      · cases h
    · rename_i args argTypes _
      split at h
      · rename_i x hargs
        simp only [Option.map_eq_some_iff] at h
        obtain ⟨q, hq, rfl⟩ := h
        obtain ⟨u, k1, k2⟩ := opCap_sound (P := P) (ty := type) (hx _) hq
        have ha : args = #[x] := by cases args; simp at hargs; subst hargs; rfl
        subst ha
        refine .pure hm (v := u) ?_ k2
        simp [execOp, resolve, invoke, builtin, k1]
      · cases h
    · rename_i args argTypes _
      split at h
      · rename_i x y hargs
        have ha : args = #[x, y] := by cases args; simp at hargs; subst hargs; rfl
        subst ha
        split at h
        · rename_i q hq
          cases h
          obtain ⟨ι', w', v, k1, k2, k3, k4⟩ := opAppend_sound (P := P) (ty := type) hm (hx _) (hx _) hq
          refine ⟨ι', w', v, .inl ?_, k2, k3, k4⟩
          simp [execOp, resolve, invoke, builtin, k1]
        · simp only [Option.map_eq_some_iff] at h
          obtain ⟨q, hq, rfl⟩ := h
          obtain ⟨ι', w', v, k1, k2, k3, k4⟩ := opAppendZ_sound (P := P) (ty := type) hm (hx _) (hx _) hq
          refine ⟨ι', w', v, .inl ?_, k2, k3, k4⟩
          simp [execOp, resolve, invoke, builtin, k1]
      · cases h
    · rename_i args argTypes _
      split at h
      · rename_i x y hargs
        have ha : args = #[x, y] := by cases args; simp at hargs; subst hargs; rfl
        subst ha
        simp only [Option.map_eq_some_iff] at h
        obtain ⟨q, hq, rfl⟩ := h
        obtain ⟨ι', w', v, k1, k2, k3, k4⟩ := opCopy_sound (P := P) (ty := type) hm (hx _) (hx _) hq
        refine ⟨ι', w', v, .inl ?_, k2, k3, k4⟩
        simp [execOp, resolve, invoke, builtin, k1]
      · cases h
    · simp only [Option.map_eq_some_iff] at h
      obtain ⟨q, hq, rfl⟩ := h
      exact opExt_sound hm he hq
    · cases h

end
end Go.Vm

