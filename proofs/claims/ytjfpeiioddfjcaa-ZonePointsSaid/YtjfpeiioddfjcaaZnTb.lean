import Derived.Test.YtjfpeiioddfjcaaZnTa
import Derived.Test.YtjfpeiioddfjcaaZnJ0
/-
  Zones: the reference: copies, And, Reset.
-/
namespace Go.Proofs.Ytjfpeiioddfjcaa
open Go.Vm Go.Zn

theorem KC.anyR {P : Program} {M : Nat → Prop} {W0 : World} {n : Nat} {σ : List VObj} {kn : Kn} {c : Code} {T : Exit → List VObj → Kn → Prop} (σ' : List VObj) (e : σ = σ') (h : KC P M W0 n c σ' kn T) : KC P M W0 n c σ kn T := e ▸ h
theorem K.appI {P : Program} {σ : List VObj} {kn : Kn} {dst : Option Tmp} {ty : TypeId} {pos : String} {af : Array Edge} {g : Option (Nat × Bool)} {t e : TypeId} {x y : Operand} {d : DV} {l : List Int} {id : Nat} {z : Value} (hx : evK kn x = some (.osl id 0 0 1 0 true)) (hy : evK kn y = some (.d d)) (hd : Ints d l) (hid : σ[id]? = some ⟨[], 0⟩)
    (h0 : l.length ≠ 0) (hlen : l.length ≤ 1073741824) (ht : P.underlying t = some (.slice e)) (h1 : OneT P e z) :
    KEv P ⟨dst, .call ⟨.builtin .append, #[x, y], #[t, t]⟩, ty, pos, af, g⟩ σ kn (.osl σ.length 0 l.length 1 l.length false) (σ ++ [⟨cellsI l, 0⟩]) 2 := by
  cases hd with
  | nil => simp at h0
  | @sl cs _ cap hn h =>
    have e := ints_cells hn h
    subst e
    have := K.appAll (dst := dst) (ty := ty) (pos := pos) (af := af) (g := g) hx hy hid (by simp) (by
      rw [List.all_map, List.all_eq_true]
      intro x hx
      obtain ⟨y, _, rfl⟩ := List.mem_map.1 (List.mem_of_mem_take hx)
      rfl) h0 hlen ht h1
    rw [List.take_of_length_le (by simp), ← cellsI_eq] at this
    exact this
def outc (L : Nat) (z : List (List Int)) (i : Nat) : List XV := (List.range i).map fun k => .osl (L + 4 * k + 1) 0 (z.getD k []).length 1 (z.getD k []).length false
def cpo (σ : List VObj) (z : List (List Int)) : Nat → List VObj
  | 0 => σ
  | i + 1 =>
    if i = 0 then (((cpo σ z i ++ [⟨[], 0⟩]) ++ [⟨cellsI (z.getD i []), 0⟩]) ++ [⟨[.osl (cpo σ z i ++ [(⟨[], 0⟩ : VObj)]).length 0 (z.getD i []).length 1 (z.getD i []).length false], 0⟩]) ++ [⟨[.osl (cpo σ z i ++ [(⟨[], 0⟩ : VObj)]).length 0 (z.getD i []).length 1 (z.getD i []).length false], 0⟩]
    else ((((cpo σ z i ++ [(⟨[], 0⟩ : VObj)]) ++ [(⟨cellsI (z.getD i []), 0⟩ : VObj)]) ++ [(⟨[.osl (cpo σ z i ++ [(⟨[], 0⟩ : VObj)]).length 0 (z.getD i []).length 1 (z.getD i []).length false], 0⟩ : VObj)]).set ((cpo σ z i).length - 1) ⟨outc σ.length z i, 2⟩) ++ [⟨outc σ.length z i ++ [.osl (cpo σ z i ++ [(⟨[], 0⟩ : VObj)]).length 0 (z.getD i []).length 1 (z.getD i []).length false], 0⟩]
def cpx (σ : List VObj) (z : List (List Int)) (i : Nat) : XV := if i = 0 then .d Dnil else .osl ((cpo σ z i).length - 1) 0 i 1 i false
theorem cpo_len {σ : List VObj} {z : List (List Int)} : ∀ i, (cpo σ z i).length = σ.length + 4 * i
  | 0 => by simp [cpo]
  | i + 1 => by
    have ih := cpo_len (σ := σ) (z := z) i
    unfold cpo
    split <;> simp [ih] <;> omega
theorem outc_succ {L : Nat} {z : List (List Int)} {i : Nat} : outc L z (i + 1) = outc L z i ++ [.osl (L + 4 * i + 1) 0 (z.getD i []).length 1 (z.getD i []).length false] := by unfold outc; rw [List.range_succ, List.map_append]; rfl
theorem outc_len {L : Nat} {z : List (List Int)} {i : Nat} : (outc L z i).length = i := by simp [outc]
theorem cpo_out {σ : List VObj} {z : List (List Int)} : ∀ i, 1 ≤ i → (cpo σ z i)[(cpo σ z i).length - 1]? = some ⟨outc σ.length z i, 0⟩
  | 0, h => by omega
  | i + 1, _ => by
    have hl := cpo_len (σ := σ) (z := z) i
    have he : ∀ (A : List VObj) (b : VObj), (A ++ [b])[(A ++ [b]).length - 1]? = some b := fun A b => by rw [List.length_append, show A.length + [b].length - 1 = A.length by simp, List.getElem?_concat_length]
    unfold cpo
    split
    · rename_i h0
      subst h0
      rw [he, outc_succ]
      simp [hl, outc]
    · rw [he, outc_succ]
      simp [hl]
theorem cpo_old {σ : List VObj} {z : List (List Int)} {i j : Nat} (hj : j < (cpo σ z i).length) (hne : i = 0 ∨ j ≠ (cpo σ z i).length - 1) : (cpo σ z (i + 1))[j]? = (cpo σ z i)[j]? := by
  rw [cpo]
  split
  · rw [List.getElem?_append_left (by simp; omega), List.getElem?_append_left (by simp; omega), List.getElem?_append_left (by simp; omega), List.getElem?_append_left hj]
  · rename_i h0
    have hne' : j ≠ (cpo σ z i).length - 1 := hne.resolve_left h0
    rw [List.getElem?_append_left (by simp; omega), set_get hne', List.getElem?_append_left (by simp; omega), List.getElem?_append_left (by simp; omega), List.getElem?_append_left hj]
theorem cpo_row {σ : List VObj} {z : List (List Int)} : ∀ i k, k < i → (cpo σ z i)[σ.length + 4 * k + 1]? = some ⟨cellsI (z.getD k []), 0⟩
  | 0, k, h => by omega
  | i + 1, k, h => by
    have hl := cpo_len (σ := σ) (z := z) i
    by_cases e : k = i
    · subst e
      rw [cpo]
      have h1 : (cpo σ z k ++ [(⟨[], 0⟩ : VObj)]).length = σ.length + 4 * k + 1 := by simp [hl]
      have h2 : ((cpo σ z k ++ [(⟨[], 0⟩ : VObj)]) ++ [(⟨cellsI (z.getD k []), 0⟩ : VObj)])[σ.length + 4 * k + 1]? = some ⟨cellsI (z.getD k []), 0⟩ := by rw [← h1, List.getElem?_concat_length]
      split
      · rw [List.getElem?_append_left (by simp [hl]), List.getElem?_append_left (by simp [hl])]; exact h2
      · rw [List.getElem?_append_left (by simp [hl]), set_get (by omega), List.getElem?_append_left (by simp [hl])]; exact h2
    · rw [cpo_old (by omega) (by omega)]; exact cpo_row i k (by omega)
theorem cpo_base {σ : List VObj} {z : List (List Int)} {j : Nat} (hj : j < σ.length) : ∀ i, (cpo σ z i)[j]? = σ[j]?
  | 0 => rfl
  | i + 1 => by
    have hl := cpo_len (σ := σ) (z := z) i
    rw [cpo_old (by omega) (by omega)]; exact cpo_base hj i
/-- Rows of a matrix among one's own objects. -/
structure CpM (S : List VObj) (L n : Nat) (M : Nat → Nat → Int) (o : Nat) : Prop where
  out : S[o]? = some ⟨(List.range n).map fun k => .osl (L + 4 * k + 1) 0 n 1 n false, 0⟩
  rows : ∀ k, k < n → S[L + 4 * k + 1]? = some ⟨cellsI ((List.range n).map (M k)), 0⟩
  ne : ∀ k, o ≠ L + 4 * k + 1
theorem CpM.get {n L k : Nat} (hk : k < n) : ((List.range n).map fun k => XV.osl (L + 4 * k + 1) 0 n 1 n false)[0 + k]? = some (.osl (L + 4 * k + 1) 0 n 1 n false) := by
  rw [Nat.zero_add, List.getElem?_map, List.getElem?_range hk]; rfl
theorem row_get {n k j : Nat} {M : Nat → Nat → Int} (hj : j < n) : (cellsI ((List.range n).map (M k)))[0 + j]? = some (.d (DI (M k j))) := by
  unfold cellsI
  rw [Nat.zero_add, List.getElem?_map, List.getElem?_map, List.getElem?_range hj]; rfl
theorem row_clen {n k : Nat} {M : Nat → Nat → Int} : (cellsI ((List.range n).map (M k))).length = n := by simp [cellsI]
theorem CpM.put {S : List VObj} {L n : Nat} {M : Nat → Nat → Int} {o k j : Nat} {v : Int} (h : CpM S L n M o) (hk : k < n) (hj : j < n) : CpM (S.set (L + 4 * k + 1) ⟨(cellsI ((List.range n).map (M k))).set (0 + j) (.d (DI v)), 0⟩) L n (set2 M k j v) o where
  out := by rw [set_get (h.ne k)]; exact h.out
  rows q hq := by
    by_cases e : q = k
    · subst e
      rw [List.getElem?_set, if_pos rfl, if_pos (List.getElem?_eq_some_iff.1 (h.rows q hq)).1, cellsI_set]
      congr 3
      refine List.ext_getElem? fun y => ?_
      rw [List.getElem?_set]
      by_cases hy : y < n
      · by_cases e2 : j = y
        · subst e2
          rw [if_pos rfl, if_pos (by simpa using hy), List.getElem?_map, List.getElem?_range hy]
          show some v = some (set2 M q j v q j)
          unfold set2; rw [if_pos ⟨rfl, rfl⟩]
        · rw [if_neg e2, List.getElem?_map, List.getElem?_map, List.getElem?_range hy]
          show some (M q y) = some (set2 M q j v q y)
          unfold set2; rw [if_neg (fun h => e2 h.2.symm)]
      · rw [if_neg (by omega), List.getElem?_eq_none (by simp; omega), List.getElem?_eq_none (by simp; omega)]
    · rw [set_get (by omega), h.rows q hq]
      congr 3
      refine List.map_congr_left fun y _ => ?_
      unfold set2; rw [if_neg (fun h => e h.1)]
  ne := h.ne
def cpD (n : Nat) (M : Nat → Nat → Int) : DV := .sl ((List.range n).map fun k => intsD ((List.range n).map (M k))) n none
theorem cpD_mat {n : Nat} {M : Nat → Nat → Int} : Mat (cpD n M) (genM n n M) := by
  have : Mat (.sl ((List.range n).map fun k => intsD ((List.range n).map (M k))) (genM n n M).length none) (genM n n M) := .sl (by simp [genM]) fun k c x hc hx => by
    unfold genM at hx
    rw [List.getElem?_map] at hc hx
    by_cases hk : k < n
    · rw [List.getElem?_range hk] at hc hx
      cases hc; cases hx; exact intsD_ints _
    · rw [List.getElem?_eq_none (by simp; omega)] at hc; cases hc
  rwa [genM_length] at this
theorem CpM.deep {S : List VObj} {L n : Nat} {M : Nat → Nat → Int} {o : Nat} (h : CpM S L n M o) : deepen (freezeAll S) 5 (.osl o 0 n 1 n false) = some (cpD n M) := by
  have hf : (freezeAll S)[o]? = some ⟨(List.range n).map fun k => .osl (L + 4 * k + 1) 0 n 1 n false, 1⟩ := by simp [freezeAll, h.out]
  rw [deepen_osl hf rfl (by simp), List.drop_zero, Nat.mul_one, List.take_of_length_le (by simp)]
  have hall : ∀ (l : List Nat), (∀ i ∈ l, i < n) → (l.map fun k => XV.osl (L + 4 * k + 1) 0 n 1 n false).mapM (deepen (freezeAll S) 4) = some (l.map fun k => intsD ((List.range n).map (M k))) := by
    intro l
    induction l with
    | nil => intro _; rfl
    | cons i l ih =>
      intro hl
      have hi := hl i (by simp)
      have hr : (freezeAll S)[L + 4 * i + 1]? = some ⟨cellsI ((List.range n).map (M i)), 1⟩ := by simp [freezeAll, h.rows i hi]
      rw [List.map_cons, List.mapM_cons, ih (fun k hk => hl k (by simp [hk])), deepen_cells (k := 2) (R := n) (ds := ((List.range n).map (M i)).map DI) hr (by rw [cellsI_eq]) (by simp)]
      show some ((DV.sl _ n none) :: _) = _
      unfold intsD
      simp
  rw [hall (List.range n) (fun i hi => by simpa using hi)]; rfl
theorem sq_row {z : List (List Int)} (hs : Sq z) {k : Nat} (hk : k < z.length) : z.getD k [] = (List.range z.length).map (zf z k) ∧ (z.getD k []).length = z.length := by
  have e : z.getD k [] = z[k] := by simp [hk]
  have hl : (z.getD k []).length = z.length := by rw [e]; exact hs.rows _ (List.getElem_mem hk)
  refine ⟨?_, hl⟩
  refine List.ext_getElem? fun y => ?_
  rw [List.getElem?_map]
  by_cases hy : y < z.length
  · rw [List.getElem?_range hy, List.getElem?_eq_getElem (by omega)]
    show some (z.getD k [])[y] = some ((z.getD k []).getD y 0)
    rw [List.getD_eq_getElem?_getD (l := z.getD k []), List.getElem?_eq_getElem (by omega), Option.getD_some]
  · rw [List.getElem?_eq_none (by omega), List.getElem?_eq_none (by simp; omega)]; rfl
theorem cpo_cpm {σ : List VObj} {z : List (List Int)} (hs : Sq z) : CpM (cpo σ z z.length) σ.length z.length (zf z) ((cpo σ z z.length).length - 1) where
  out := by
    rw [cpo_out _ hs.lo]
    congr 2
    unfold outc
    refine List.map_congr_left fun k hk => ?_
    rw [(sq_row hs (List.mem_range.1 hk)).2]
  rows k hk := by rw [cpo_row _ k hk, (sq_row hs hk).1]
  ne k := by rw [cpo_len]; have := hs.lo; omega
set_option maxHeartbeats 4000000 in
set_option maxRecDepth 10000 in
theorem copied64_own {σ : List VObj} {d : DV} {z : List (List Int)} (hd : Mat d z) (hs : Sq z) : OwnCall Try.prog 64 σ [.d d] (cpo σ z z.length) (cpx σ z z.length) := by
  have hz4 := hs.hi
  refine ownCall_K Try.func64 rfl (Nat.le_of_ble_eq_true rfl) fun M W0 => ?_
  refine KC.seq ?_
  refine KC.region ?_
  refine KT.step rfl rfl (K.assign rfl) ?_
  refine KT.nil ?_
  refine thenK_n ?_
  refine KC.seq ?_
  refine KC.region ?_
  refine KT.step rfl rfl (K.assign rfl) ?_
  refine KT.nil ?_
  refine thenK_n ?_
  refine KC.seq ?_
  refine KC.seq ?_
  refine KC.region ?_
  refine KT.step rfl rfl (K.move rfl) ?_
  refine KT.step rfl rfl (K.len rfl hd Try.underlying22) ?_
  refine KT.step rfl rfl (K.move rfl) ?_
  refine KT.nil ?_
  refine thenK_n ?_
  refine KC.block ?_
  refine KC.loop (fun i : Nat => cpo σ z i) (fun i => [(3, cpx σ z i), (6, .d d), (7, .d (DI (z.length : Nat))), (8, .d (DI (i : Nat)))]) (fun i => i ≤ z.length) (fun i => z.length - i) 0 (Nat.zero_le _) rfl (by simp [Go.Vm.look, extK, enterK, cpx]) ?_
  intro i hi
  refine KC.seq ?_
  refine KC.region ?_
  refine KT.step rfl rfl (K.lss rfl rfl) ?_
  refine KT.nil ?_
  refine thenK_n ?_
  refine KC.seq ?_
  refine KC.cond rfl (fun hc9 => ?_) (fun hc9 => ?_)
  · skip
    replace hc9 := of_decide_eq_true hc9
    have hil : i < z.length := by omega
    have hzi : z.getD i [] = z[i] := by simp [hil]
    have hrl := (sq_row hs hil).2
    rw [hzi] at hrl
    have hlo := hs.lo
    refine KC.skip ?_
    refine thenK_n ?_
    refine KC.seq ?_
    refine KC.block ?_
    refine KC.seq ?_
    refine KC.region ?_
    refine KT.idx rfl rfl rfl hd rfl hil Try.underlying22 Try.size23 fun c10 cs10 hq10 => ?_
    refine KT.step rfl rfl (K.load rfl Try.agg23) ?_
    refine KT.step rfl rfl (K.assign rfl) ?_
    refine KT.nil ?_
    refine thenK_n ?_
    refine KC.region ?_
    refine KT.step rfl rfl (K.move rfl) ?_
    refine KT.step rfl rfl (K.build0 Try.underlying23 Try.one3) ?_
    refine KT.step rfl rfl (K.move rfl) ?_
    rw [← hzi] at hq10 hrl
    refine KT.step rfl rfl (K.appI rfl rfl hq10 (List.getElem?_concat_length ..) (by omega) (by omega) Try.underlying23 Try.one3) ?_
    refine KT.step rfl rfl (K.build1' (v := .osl (cpo σ z i ++ [(⟨[], 0⟩ : VObj)]).length 0 (z.getD i []).length 1 (z.getD i []).length false) rfl rfl Try.underlying22 Try.one23) ?_
    rcases i with _ | i
    · skip
      refine KT.step rfl rfl (K.appQ0 rfl rfl (List.getElem?_concat_length ..) rfl Try.underlying22 Try.one23) ?_
      refine KT.step rfl rfl (K.assign rfl) ?_
      refine KT.nil ?_
      refine blockK_n ?_
      refine thenK_n ?_
      refine KC.region ?_
      refine KT.step rfl rfl (K.add rfl rfl (wrap_id (by omega))) ?_
      refine KT.step rfl rfl (K.move rfl) ?_
      refine KT.nil ?_
      refine thenK_n ?_
      refine ⟨0 + 1, by omega, by omega, rfl, ?_⟩
      have hl := cpo_len (σ := σ) (z := z) (0 + 1)
      simp [Go.Vm.look, extK, cpx, cpo]
    · skip
      refine KT.step rfl rfl (K.appQ1 (cells := outc σ.length z (i + 1)) (oid := (cpo σ z (i + 1)).length - 1) (len := i + 1) rfl rfl (get_left (get_left (get_left (cpo_out (i + 1) (by omega))))) outc_len (List.getElem?_concat_length ..) rfl (by omega) Try.underlying22 Try.one23) ?_
      refine KT.step rfl rfl (K.assign rfl) ?_
      refine KT.nil ?_
      refine blockK_n ?_
      refine thenK_n ?_
      refine KC.region ?_
      refine KT.step rfl rfl (K.add rfl rfl (wrap_id (by omega))) ?_
      refine KT.step rfl rfl (K.move rfl) ?_
      refine KT.nil ?_
      refine thenK_n ?_
      refine ⟨(i + 1) + 1, by omega, by omega, by conv => rhs; rw [cpo, if_neg (Nat.succ_ne_zero i)], ?_⟩
      have hl := cpo_len (σ := σ) (z := z) ((i + 1) + 1)
      simp [Go.Vm.look, extK, cpx, cpo_len]
      omega
  · skip
    replace hc9 := of_decide_eq_false hc9
    refine KC.exit ?_
    refine thenK_x ?_
    refine thenK_x ?_
    refine blockK_e ?_
    refine thenK_n ?_
    refine KC.seq ?_
    refine KC.region ?_
    refine KT.step rfl rfl (K.move rfl) ?_
    refine KT.step rfl rfl (K.assign rfl) ?_
    refine KT.nil ?_
    refine thenK_n ?_
    refine KC.ret ?_
    have hie : i = z.length := by omega
    exact ⟨.inl rfl, by rw [hie]; rfl, by rw [hie]⟩
end Go.Proofs.Ytjfpeiioddfjcaa

