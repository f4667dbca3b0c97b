import Derived.Test.YtocgjopmlhpjdaaNtD
/-
  Nets: the reference: equal, find, Plain.
-/
namespace Go.Proofs.Ytocgjopmlhpjdaa
open Go.Vm Go.RowKit Go.Nt
theorem plainTry_56 : plainFn Try.prog 56 = true := by kernel_rfl
theorem plainTry_53 : plainFn Try.prog 53 = true := by kernel_rfl
theorem within_both {x y : List Int} (h : x.length = y.length) : (if withinB x y then withinB y x else false) = decide (x = y) := by
  by_cases e : x = y
  · subst e
    rw [if_pos ((within_iff rfl).2 fun _ => Int.le_refl _), (within_iff rfl).2 fun _ => Int.le_refl _]; simp
  · rw [decide_eq_false e]
    split
    · rename_i h1
      cases h2 : withinB y x with
      | false => rfl
      | true =>
        refine absurd (List.ext_getElem h fun i a b => ?_) e
        have p := (within_iff h).1 h1 i
        have q := (within_iff h.symm).1 h2 i
        rw [tk_get a, tk_get b] at p q
        omega
    · rfl
set_option maxRecDepth 10000 in
theorem requal56 {d e : DV} {x y : List Int} (hd : Ints d x) (he : Ints e y) (h : x.length = y.length) (hl : x.length ≤ 9223372036854775807) : DeepCall Try.prog 56 [d, e] (DB (decide (x = y))) := by
  refine deepCall_K 5 Try.func56 rfl (Nat.le_of_ble_eq_true rfl) fun M W0 => ?_
  refine KC.seq ?_
  refine KC.region ?_
  refine KT.step rfl rfl (K.assign rfl) ?_
  refine KT.nil ?_
  refine thenK_n ?_
  refine KC.seq ?_
  refine KC.region ?_
  refine KT.step rfl rfl (K.move rfl) ?_
  refine KT.step rfl rfl (K.move rfl) ?_
  refine KT.step rfl rfl (K.call2 rfl rfl plainTry_46 (within46 hd he (by omega) hl)) ?_
  refine KT.step rfl rfl (K.move rfl) ?_
  refine KT.bcase (fun hb8 => ?_) (fun hb8 => ?_)
  · skip
    refine KT.step rfl rfl (K.move rfl) ?_
    refine KT.step rfl rfl (K.move rfl) ?_
    refine KT.step rfl rfl (K.call2 rfl rfl plainTry_46 (within46 he hd (by omega) (by omega))) ?_
    refine KT.step rfl rfl (K.pick rfl (fun _ => rfl) (fun h => by cases h)) ?_
    refine KT.step rfl rfl (K.assign rfl) ?_
    refine KT.nil ?_
    refine thenK_n ?_
    refine KC.ret ?_
    exact ⟨.inl rfl, _, rfl, fin_b (by rw [← within_both h, hb8]; simp)⟩
  · skip
    refine KT.skip rfl rfl ?_
    refine KT.skip rfl rfl ?_
    refine KT.skip rfl rfl ?_
    refine KT.step rfl rfl (K.pick rfl (fun h => by cases h) (fun _ => rfl)) ?_
    refine KT.step rfl rfl (K.assign rfl) ?_
    refine KT.nil ?_
    refine thenK_n ?_
    refine KC.ret ?_
    exact ⟨.inl rfl, _, rfl, fin_b (by rw [← within_both h, hb8]; simp)⟩
/-- The rows of a graph of the reference. -/
def numV (m : List Int) : DV := slOf (m.map DI)
theorem numD_V (n : Nat) (X : Nat → Int) : numD n X = numV ((List.range n).map X) := by unfold numD numV; rw [List.map_map]; rfl
theorem numV_ints (m : List Int) (h : 0 < m.length) : Ints (numV m) m := by
  have e : m = (List.range m.length).map (tk m) := by
    refine List.ext_getElem (by simp) fun i a b => ?_
    rw [List.getElem_map, List.getElem_range, tk_get a]
  have h1 := numD_ints (tk m) h
  rw [numD_V, ← e] at h1; exact h1
def mkV (c : DV) : List Ent → List DV
  | [] => []
  | _ :: fs => c :: fs.map fun e => numV e.1
theorem mkV_len (c : DV) (fs : List Ent) : (mkV c fs).length = fs.length := by cases fs <;> simp [mkV]
theorem mkV_get {c : DV} {s0 : List Int} {fs : List Ent} (hc : Ints c s0) (h0 : (marks fs)[0]? = some s0) (hl : ∀ x ∈ marks fs, 0 < x.length) {i : Nat} (hi : i < fs.length) : ∃ d, (mkV c fs)[i]? = some d ∧ Ints d (mrk fs i) := by
  cases fs with
  | nil => simp at hi
  | cons e fs =>
    cases i with
    | zero =>
      refine ⟨c, rfl, ?_⟩
      unfold mrk
      rw [List.getD_eq_getElem?_getD, h0]; exact hc
    | succ i =>
      have hi' : i < fs.length := by simpa using hi
      refine ⟨numV fs[i].1, by simp [mkV, hi'], ?_⟩
      have e1 : mrk (e :: fs) (i + 1) = fs[i].1 := mrk_get (by simp [hi'])
      rw [e1]
      exact numV_ints _ (hl _ (by unfold marks; exact List.mem_map_of_mem (List.mem_cons_of_mem _ (List.getElem_mem hi'))))
theorem mkV_snoc (c : DV) {fs : List Ent} (h : fs ≠ []) (e : Ent) : mkV c (fs ++ [e]) = mkV c fs ++ [numV e.1] := by
  cases fs with
  | nil => exact absurd rfl h
  | cons a fs => simp [mkV]
/-- Where a marking is found. -/
def findZ (fs : List Ent) (m : List Int) : Int := if m ∈ marks fs then (place (marks fs) m : Nat) else -1
theorem find_at {fs : List Ent} {m : List Int} {i : Nat} (hi : i < fs.length) (hno : ∀ j, j < i → mrk fs j ≠ m) (h : mrk fs i = m) : findZ fs m = (i : Nat) := by
  have key : ∀ (l : List (List Int)) (i : Nat), l[i]? = some m → (∀ j, j < i → l.getD j [] ≠ m) → place l m = i ∧ m ∈ l := by
    intro l
    induction l with
    | nil => intro i h; simp at h
    | cons a l ih =>
      intro i h hno
      cases i with
      | zero => simp at h; subst h; simp [place]
      | succ i =>
        have h1 := ih i (by simpa using h) (fun j hj => by have := hno (j + 1) (by omega); simpa using this)
        have h0 := hno 0 (by omega)
        simp at h0
        refine ⟨?_, List.mem_cons_of_mem _ h1.2⟩
        unfold place; rw [if_neg h0, h1.1]
  have hm : (marks fs)[i]? = some m := by
    rw [← h]; unfold mrk; rw [List.getD_eq_getElem?_getD, List.getElem?_eq_getElem (by rw [marks_len]; exact hi)]; rfl
  obtain ⟨k1, k2⟩ := key (marks fs) i hm hno
  unfold findZ
  rw [if_pos k2, k1]
theorem find_none {fs : List Ent} {m : List Int} (hno : ∀ j, j < fs.length → mrk fs j ≠ m) : findZ fs m = -1 := by
  unfold findZ
  rw [if_neg]
  intro h
  obtain ⟨i, hi⟩ := List.getElem?_of_mem h
  have hlt := (List.getElem?_eq_some_iff.1 hi).1
  rw [marks_len] at hlt
  refine hno i hlt ?_
  unfold mrk; rw [List.getD_eq_getElem?_getD, hi]; rfl
set_option maxRecDepth 10000 in
theorem find53 {σ : List VObj} {gid mid L : Nat} {ex : Bool} {xw xr : XV} {c d : DV} {s0 m : List Int} {fs : List Ent} (hg : σ[gid]? = some ⟨[.osl mid 0 fs.length 1 fs.length ex, xw, xr], 0⟩) (hm : σ[mid]? = some ⟨(mkV c fs).map .d, 0⟩) (hc : Ints c s0) (h0 : (marks fs)[0]? = some s0) (hl : ∀ x ∈ marks fs, x.length = L) (hL : 0 < L) (hL6 : L ≤ 6) (hfs : fs.length ≤ 1000000)
    (hd : Ints d m) (hml : m.length = L) : OwnCall Try.prog 53 σ [.optr gid 0, .d d] σ (.d (DI (findZ fs m))) := by
  refine ownCall_K Try.func53 rfl (Nat.le_of_ble_eq_true rfl) fun M W0 => ?_
  refine KC.seq ?_
  refine KC.region ?_
  refine KT.step rfl rfl (K.assign rfl) ?_
  refine KT.nil ?_
  refine thenK_n ?_
  refine KC.seq ?_
  refine KC.seq ?_
  refine KC.region ?_
  refine KT.step rfl rfl (K.move rfl) ?_
  refine KT.step rfl rfl (K.nilCheckO rfl) ?_
  refine KT.step rfl rfl (K.fieldAddrO rfl Try.fld80_0 Try.size22) ?_
  refine KT.step rfl rfl (K.loadO rfl hg (by simp) rfl Try.agg22) ?_
  refine KT.step rfl rfl (K.lenO rfl Try.underlying22) ?_
  refine KT.step rfl rfl (K.move rfl) ?_
  refine KT.nil ?_
  refine thenK_n ?_
  refine KC.block ?_
  refine KC.loop (fun _ : Nat => σ) (fun i => [(1, .d d), (10, .osl mid 0 fs.length 1 fs.length ex), (11, .d (DI (fs.length : Nat))), (12, .d (DI (i : Nat)))]) (fun i => i ≤ fs.length ∧ ∀ j, j < i → mrk fs j ≠ m) (fun i => fs.length - i) 0 ⟨Nat.zero_le _, fun j hj => by omega⟩ rfl (by simp [Go.Vm.look, extK, enterK]) ?_
  intro i hi
  obtain ⟨hi, hno⟩ := hi
  refine KC.seq ?_
  refine KC.region ?_
  refine KT.step rfl rfl (K.lss rfl rfl) ?_
  refine KT.nil ?_
  refine thenK_n ?_
  refine KC.seq ?_
  refine KC.cond rfl (fun hc13 => ?_) (fun hc13 => ?_)
  · skip
    replace hc13 := of_decide_eq_true hc13
    refine KC.skip ?_
    refine thenK_n ?_
    refine KC.seq ?_
    refine KC.block ?_
    refine KC.seq ?_
    refine KC.region ?_
    refine KT.step rfl rfl (K.move rfl) ?_
    refine KT.step rfl rfl (K.idxO (m := i) rfl rfl (by omega) Try.underlying22 Try.size23) ?_
    obtain ⟨rw_, hr1, hr2⟩ := mkV_get hc h0 (fun x hx => by rw [hl x hx]; exact hL) (show i < fs.length by omega)
    refine KT.step rfl rfl (K.loadO (y := .d rw_) rfl hm (by simp) (by rw [Nat.zero_add, List.getElem?_map, hr1]; rfl) Try.agg23) ?_
    refine KT.step rfl rfl (K.assign rfl) ?_
    refine KT.step rfl rfl (K.assign rfl) ?_
    refine KT.nil ?_
    refine thenK_n ?_
    refine KC.seq ?_
    refine KC.region ?_
    refine KT.step rfl rfl (K.move rfl) ?_
    refine KT.step rfl rfl (K.move rfl) ?_
    have hrl : (mrk fs i).length = m.length := by
      rw [hml]; unfold mrk
      rw [List.getD_eq_getElem?_getD, List.getElem?_eq_getElem (by rw [marks_len]; omega)]
      exact hl _ (List.getElem_mem _)
    refine KT.step rfl rfl (K.call2 rfl rfl plainTry_56 (requal56 hr2 hd hrl (by omega))) ?_
    refine KT.nil ?_
    refine thenK_n ?_
    refine KC.cond rfl (fun hc19 => ?_) (fun hc19 => ?_)
    · skip
      refine KC.seq ?_
      refine KC.region ?_
      refine KT.step rfl rfl (K.move rfl) ?_
      refine KT.step rfl rfl (K.assign rfl) ?_
      refine KT.nil ?_
      refine thenK_n ?_
      refine KC.ret ?_
      refine blockK_r ?_
      refine thenK_r ?_
      refine thenK_r ?_
      refine blockK_r ?_
      refine thenK_r ?_
      exact ⟨.inl rfl, by rw [find_at (by omega) hno (of_decide_eq_true hc19)]; rfl, rfl⟩
    · skip
      refine KC.skip ?_
      refine blockK_n ?_
      refine thenK_n ?_
      refine KC.region ?_
      refine KT.step rfl rfl (K.add rfl rfl (wrap_id (by omega))) ?_
      refine KT.step rfl rfl (K.move rfl) ?_
      refine KT.nil ?_
      refine thenK_n ?_
      refine ⟨i + 1, ⟨by omega, fun j hj => ?_⟩, by omega, rfl, by simp [Go.Vm.look, extK]⟩
      rcases Nat.lt_or_eq_of_le (Nat.le_of_lt_succ hj) with h | h
      · exact hno j h
      · subst h; exact of_decide_eq_false hc19
  · skip
    replace hc13 := of_decide_eq_false hc13
    refine KC.exit ?_
    refine thenK_x ?_
    refine thenK_x ?_
    refine blockK_e ?_
    refine thenK_n ?_
    refine KC.seq ?_
    refine KC.region ?_
    refine KT.step rfl rfl (K.assign rfl) ?_
    refine KT.nil ?_
    refine thenK_n ?_
    refine KC.ret ?_
    exact ⟨.inl rfl, by rw [find_none fun j hj => hno j (by omega)]; rfl, rfl⟩
end Go.Proofs.Ytocgjopmlhpjdaa

