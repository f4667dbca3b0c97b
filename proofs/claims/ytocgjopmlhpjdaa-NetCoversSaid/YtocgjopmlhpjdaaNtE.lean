import Derived.Test.YtocgjopmlhpjdaaNtD
/-
  Nets: the reference: equal, find, Plain.
-/
namespace Go.Proofs.Ytocgjopmlhpjdaa
open Go.Vm Go.RowKit Go.Nt
theorem plainTry_56 : plainFn Try.prog 56 = true := by kernel_rfl
theorem plainTry_52 : plainFn Try.prog 52 = true := by kernel_rfl
theorem within_both {x y : List Int} (h : x.length = y.length) : (if withinB x y then withinB y x else false) = decide (x = y) := by
  by_cases e : x = y
  · subst e
    rw [if_pos ((within_iff rfl).2 fun _ => Int.le_refl _), (within_iff rfl).2 fun _ => Int.le_refl _]; simp
  · rw [decide_eq_false e]
    split
    · rename_i h1
      cases h2 : withinB y x with
      | false => rfl
      | true =>
        refine absurd (List.ext_getElem h fun i a b => ?_) e
        have p := (within_iff h).1 h1 i
        have q := (within_iff h.symm).1 h2 i
        rw [tk_get a, tk_get b] at p q
        omega
    · rfl
set_option maxRecDepth 10000 in
theorem requal56 {d e : DV} {x y : List Int} (hd : Ints d x) (he : Ints e y) (h : x.length = y.length) (hl : x.length ≤ 9223372036854775807) : DeepCall Try.prog 56 [d, e] (DB (decide (x = y))) := by
  refine deepCall_K 5 Try.func56 rfl (Nat.le_of_ble_eq_true rfl) fun M W0 => ?_
  refine KC.seq ?_
  refine KC.region ?_
  refine KT.step rfl rfl (K.assign rfl) ?_
  refine KT.nil ?_
  refine thenK_n ?_
  refine KC.seq ?_
  refine KC.region ?_
  refine KT.step rfl rfl (K.move rfl) ?_
  refine KT.step rfl rfl (K.move rfl) ?_
  refine KT.step rfl rfl (K.call2 rfl rfl plainTry_46 (within46 hd he (by omega) hl)) ?_
  refine KT.step rfl rfl (K.move rfl) ?_
  refine KT.bcase (fun hb8 => ?_) (fun hb8 => ?_)
  · skip
    refine KT.step rfl rfl (K.move rfl) ?_
    refine KT.step rfl rfl (K.move rfl) ?_
    refine KT.step rfl rfl (K.call2 rfl rfl plainTry_46 (within46 he hd (by omega) (by omega))) ?_
    refine KT.step rfl rfl (K.pick rfl (fun _ => rfl) (fun h => by cases h)) ?_
    refine KT.step rfl rfl (K.assign rfl) ?_
    refine KT.nil ?_
    refine thenK_n ?_
    refine KC.ret ?_
    exact ⟨.inl rfl, _, rfl, fin_b (by rw [← within_both h, hb8]; simp)⟩
  · skip
    refine KT.skip rfl rfl ?_
    refine KT.skip rfl rfl ?_
    refine KT.skip rfl rfl ?_
    refine KT.step rfl rfl (K.pick rfl (fun h => by cases h) (fun _ => rfl)) ?_
    refine KT.step rfl rfl (K.assign rfl) ?_
    refine KT.nil ?_
    refine thenK_n ?_
    refine KC.ret ?_
    exact ⟨.inl rfl, _, rfl, fin_b (by rw [← within_both h, hb8]; simp)⟩
/-- The rows of a graph of the reference. -/
def numV (m : List Int) : DV := slOf (m.map DI)
theorem numD_V (n : Nat) (X : Nat → Int) : numD n X = numV ((List.range n).map X) := by unfold numD numV; rw [List.map_map]; rfl
theorem numV_ints (m : List Int) (h : 0 < m.length) : Ints (numV m) m := by
  have e : m = (List.range m.length).map (tk m) := by
    refine List.ext_getElem (by simp) fun i a b => ?_
    rw [List.getElem_map, List.getElem_range, tk_get a]
  have h1 := numD_ints (tk m) h
  rw [numD_V, ← e] at h1; exact h1
set_option maxRecDepth 10000 in
theorem plain52 {a b c d : DV} {pre post : List (List Int)} {start m : List Int} (h : NetD a b c pre post start) (hd : Ints d m) (hl : m.length ≤ 9223372036854775807) : DeepCall Try.prog 52 [.agg [a, b, c], d] (DB (fitsB m start.length 1073741824)) := by
  obtain ⟨ha, hb, hc, l1, l2, l3, r1, r2⟩ := h
  refine deepCall_K 5 Try.func52 rfl (Nat.le_of_ble_eq_true rfl) fun M W0 => ?_
  refine KC.seq ?_
  refine KC.region ?_
  refine KT.step rfl rfl (K.box rfl) ?_
  refine KT.step rfl rfl (K.assign rfl) ?_
  refine KT.nil ?_
  refine thenK_n ?_
  refine KC.seq ?_
  refine KC.region ?_
  refine KT.step rfl rfl (K.move rfl) ?_
  refine KT.step rfl rfl (K.fieldAddrO rfl Try.fld25_2 Try.size23) ?_
  refine KT.step rfl rfl (K.loadO rfl rfl (by simp) rfl Try.agg23) ?_
  refine KT.step rfl rfl (K.len rfl hc Try.underlying23) ?_
  refine KT.step rfl rfl (K.call3 rfl rfl rfl plainTry_67 (numbers67 hd hl)) ?_
  refine KT.step rfl rfl (K.assign rfl) ?_
  refine KT.nil ?_
  refine thenK_n ?_
  refine KC.ret ?_
  exact ⟨.inl rfl, _, rfl, rfl⟩
end Go.Proofs.Ytocgjopmlhpjdaa

