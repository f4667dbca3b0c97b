/-
  CONTRACTS for LatticeChecks: the determinant of the reference.
-/
import Derived.Test.YtlomhajhoecoiaaChkH
import Derived.Test.YtlomhajhoecoiaaVmY
namespace Go.Proofs.Ytlomhajhoecoiaa
open Go.Vm Go.Big Go.Det
theorem plainTry_84 : plainFn Try.prog 84 = true := by kernel_rfl
theorem plainTry_83 : plainFn Try.prog 83 = true := by kernel_rfl
theorem plainTry_51 : plainFn Try.prog 51 = true := by kernel_rfl
theorem plainTry_50 : plainFn Try.prog 50 = true := by kernel_rfl
theorem bytes3 : bytesT Try.prog 3 ≤ 65536 := of_decide_eq_true (by kernel_rfl)
theorem cells3 : (zeroT Try.prog 3).map (·.cells.size) = some 1 := by kernel_rfl
def colsI (l : List Nat) : List Int := l.map fun (q : Nat) => (q : Int)
theorem colsI_len (l : List Nat) : (colsI l).length = l.length := by simp [colsI]
theorem colsI_get {l : List Nat} {q : Nat} (h : q < l.length) : (colsI l)[q]'(by rw [colsI_len]; exact h) = ((l[q] : Nat) : Int) := by simp [colsI]
theorem big_shape {d : DV} {z : Int} (h : BigZ d z) : ∃ neg m, d = .agg [DB neg, m] ∧ SlD m := by
  obtain ⟨neg, l, hv, _⟩ := h
  cases hv with
  | mk hm => exact ⟨_, _, rfl, SlD.of hm⟩
theorem big_neg {neg : Bool} {m : DV} {z : Int} (h : BigZ (.agg [DB neg, m]) z) : BigZ (.agg [DB (!neg), m]) (0 - z) := by
  obtain ⟨neg', l, hv, rfl⟩ := h
  cases hv with
  | mk hm hd hc =>
    refine ⟨_, _, .mk hm hd hc, ?_⟩
    unfold sgnV
    cases neg <;> simp
/-- What is left of the columns. -/
def restL (cols : List Nat) (q : Nat) : List Nat := cols.take q ++ cols.drop (q + 1)
def restE (cols : List Nat) (q : Nat) : Bool := if colsI (cols.drop (q + 1)) = [] then (if colsI (cols.take q) = [] then true else false) else false
def restD (cols : List Nat) (q : Nat) : DV := .sl ((colsI (restL cols q)).map DI) (restL cols q).length (if restE cols q then some (restL cols q).length else none)
theorem restL_eq (cols : List Nat) (q : Nat) : restL cols q = cols.eraseIdx q := by rw [restL, List.eraseIdx_eq_take_drop_succ]
theorem restD_ints (cols : List Nat) (q : Nat) : Ints (restD cols q) (colsI (restL cols q)) := by
  have : Ints (.sl ((colsI (restL cols q)).map DI) (colsI (restL cols q)).length (if restE cols q then some (restL cols q).length else none)) (colsI (restL cols q)) := .sl (by simp) fun i c x hc hx => by
    rw [List.getElem?_map, hx] at hc; simp at hc; exact hc.symm
  rw [colsI_len] at this
  exact this
theorem ownE_freeze {σ : List VObj} {ex : Bool} {x : XV} {xs : List Int} (h : OwnE σ ex x (xs.map fun v => .d (DI v))) : ∃ ids, (∀ j ∈ ids, idX x = some j) ∧ deepen (freezeIds σ ids) 5 x = some (.sl (xs.map DI) xs.length (if ex then some xs.length else none)) := by
  generalize hc : (xs.map fun v => XV.d (DI v)) = cells at h
  cases h with
  | @sl id n cells ex ho hn =>
    subst hc
    have hn' : n = xs.length := by simp at hn; omega
    subst hn'
    refine ⟨[id], (fun j h => by simp at h; subst h; rfl), ?_⟩
    have e0 : (xs.map fun v => XV.d (DI v)) = (xs.map DI).map XV.d := by simp
    rw [deepen_osl (ob := ⟨xs.map fun v => .d (DI v), 1⟩) (by simp [freezeIds, ho]) rfl (by simp), List.drop_zero, List.take_of_length_le (by simp), e0, mapM_deep]
    rfl
structure FirI (σ : List VObj) (x : XV) (i : Nat) : Prop where
  own : OwnK 1 σ x ((List.range i).map fun (q : Nat) => .d (DI (q : Int)))
  nil : i = 0 → x = .d Dnil
def firstD (n : Nat) : DV := slOf ((colsI (List.range n)).map DI)
theorem firstD_ints (n : Nat) : Ints (firstD n) (colsI (List.range n)) := by
  unfold firstD
  generalize colsI (List.range n) = l
  cases l with
  | nil => exact .nil
  | cons a l =>
    have : Ints (.sl ((a :: l).map DI) (a :: l).length none) (a :: l) := .sl (by simp) fun i c x hc hx => by
      rw [List.getElem?_map, hx] at hc; simp at hc; exact hc.symm
    have e : (a :: l).length = ((a :: l).map DI).length := by simp
    rw [e] at this
    exact this
theorem fin_first {σ : List VObj} {x : XV} {n : Nat} (h : FirI σ x n) : deepen (freezeAll σ) 5 x = some (firstD n) := by
  obtain ⟨own, nil⟩ := h
  generalize hc : ((List.range n).map fun (q : Nat) => XV.d (DI (q : Int))) = cells at own
  cases own with
  | nil =>
    have : n = 0 := by cases n with | zero => rfl | succ n => simp [List.range_succ] at hc
    subst this; rfl
  | @sl id k cells ho hn =>
    subst hc
    have hk : k = n := by simp at hn; omega
    subst hk
    have hd : k ≠ 0 := fun e => by have := nil e; cases this
    have e0 : ((List.range k).map fun (q : Nat) => XV.d (DI (q : Int))) = ((colsI (List.range k)).map DI).map XV.d := by simp [colsI]
    rw [deepen_osl (ob := ⟨(List.range k).map fun (q : Nat) => .d (DI (q : Int)), 1⟩) (by simp [freezeAll, ho]) rfl (by simp), List.drop_zero, List.take_of_length_le (by simp), e0, mapM_deep]
    obtain ⟨j, rfl⟩ : ∃ j, k = j + 1 := ⟨k - 1, by omega⟩
    simp [firstD, slOf, colsI, List.range_succ_eq_map]
set_option maxRecDepth 10000 in
theorem first84 {n : Nat} (hn : n ≤ 1000) : DeepCall Try.prog 84 [DI (n : Int)] (firstD n) := by
  refine deepCall_K 5 Try.func84 rfl (Nat.le_of_ble_eq_true rfl) fun M W0 => ?_
  refine KC.seq ?_
  refine KC.region ?_
  refine KT.step rfl rfl (K.assign rfl) ?_
  refine KT.nil ?_
  refine thenK_n ?_
  refine KC.seq ?_
  refine KC.region ?_
  refine KT.step rfl rfl (K.assign rfl) ?_
  refine KT.nil ?_
  refine thenK_n ?_
  refine KC.seq ?_
  refine KC.seq ?_
  refine KC.region ?_
  refine KT.step rfl rfl (K.move rfl) ?_
  refine KT.step rfl rfl (K.move rfl) ?_
  refine KT.nil ?_
  refine thenK_n ?_
  refine KC.block ?_
  refine KC.loop (fun p : List VObj × XV × Nat => p.1) (fun p => [(3, p.2.1), (5, .d (DI (n : Int))), (6, .d (DI (p.2.2 : Nat)))]) (fun p => p.2.2 ≤ n ∧ FirI p.1 p.2.1 p.2.2) (fun p => n - p.2.2) ([], .d Dnil, 0) ⟨Nat.zero_le _, .nil, fun _ => rfl⟩ rfl (by simp [Go.Vm.look, extK, enterK]) ?_
  intro p hp
  obtain ⟨σ0, x0, i⟩ := p
  obtain ⟨hi, own, nil⟩ := hp
  simp only at hi own nil ⊢
  refine KC.seq ?_
  refine KC.region ?_
  refine KT.step rfl rfl (K.lss rfl rfl) ?_
  refine KT.nil ?_
  refine thenK_n ?_
  refine KC.seq ?_
  refine KC.cond rfl (fun hc7 => ?_) (fun hc7 => ?_)
  · skip
    replace hc7 := of_decide_eq_true hc7
    refine KC.skip ?_
    refine thenK_n ?_
    refine KC.seq ?_
    refine KC.block ?_
    refine KC.seq ?_
    refine KC.region ?_
    refine KT.step rfl rfl (K.move rfl) ?_
    refine KT.step rfl rfl (K.assign rfl) ?_
    refine KT.nil ?_
    refine thenK_n ?_
    refine KC.region ?_
    refine KT.step rfl rfl (K.move rfl) ?_
    refine KT.step rfl rfl (K.move rfl) ?_
    refine KT.step rfl rfl (K.build1' (v := .d (DI (i : Int))) rfl rfl Try.underlying35 Try.one3) ?_
    refine KT.appK (k := 1) (vs := [.d (DI (i : Int))]) rfl rfl rfl rfl (own.pushed _) (by simp) rfl rfl (by simp; omega) Try.underlying35 Try.size3 bytes3 cells3 (by omega) fun σ1 x1 ho1 k1 w1 => ?_
    refine KT.step rfl rfl (K.assign rfl) ?_
    refine KT.nil ?_
    refine blockK_n ?_
    refine thenK_n ?_
    refine KC.region ?_
    refine KT.step rfl rfl (K.add rfl rfl (wrap_id (by omega))) ?_
    refine KT.step rfl rfl (K.move rfl) ?_
    refine KT.nil ?_
    refine thenK_n ?_
    refine ⟨(σ1, x1, i + 1), ⟨by simp only; omega, ?_, fun h => by simp at h⟩, by simp only; omega, rfl, by simp [Go.Vm.look, extK]⟩
    rw [List.range_succ, List.map_append]
    exact ho1
  · skip
    replace hc7 := of_decide_eq_false hc7
    obtain rfl : i = n := by omega
    refine KC.exit ?_
    refine thenK_x ?_
    refine thenK_x ?_
    refine blockK_e ?_
    refine thenK_n ?_
    refine KC.seq ?_
    refine KC.region ?_
    refine KT.step rfl rfl (K.move rfl) ?_
    refine KT.step rfl rfl (K.assign rfl) ?_
    refine KT.nil ?_
    refine thenK_n ?_
    refine KC.ret ?_
    exact ⟨.inl rfl, _, rfl, fin_first ⟨own, nil⟩⟩

def sgnF (k q : Nat) (b : Bool) : Bool := if (k + 1 + q) % 2 = 0 then !b else b
def termR (a : List (List Int)) (k : Nat) (cols : List Nat) (q : Nat) : Int := if (k + 1 + q) % 2 = 0 then 0 - (a.getD k []).getD (cols.getD q 0) 0 * detR a k (cols.eraseIdx q) else (a.getD k []).getD (cols.getD q 0) 0 * detR a k (cols.eraseIdx q)
/-- One round of the determinant's loop. -/
def StepR (a : List (List Int)) (k : Nat) (da drows : DV) (cols : List Nat) (q : Nat) (d d' : DV) : Prop :=
  ∃ r1 r2 ng mm, DeepCall Try.prog 86 [DI ((a.getD k []).getD (cols.getD q 0) 0)] r1 ∧ DeepCall Try.prog 83 [da, takeV k drows, restD cols q] r2 ∧ DeepCall Try.prog 88 [r1, r2] (.agg [DB ng, mm]) ∧ SlD mm ∧ DeepCall Try.prog 87 [d, .agg [DB (sgnF k q ng), mm]] d'
structure DetI (f : Nat → DV) (L : Nat) (σ : List VObj) (q : Nat) : Prop where
  le : q ≤ L
  h0 : σ[0]? = some ⟨[.d (DB false), .d Dnil], 0⟩
  h1 : σ[1]? = some ⟨cellsX (.d (f q)), 0⟩
set_option maxRecDepth 10000 in
theorem det_zero {da drows dcols r neg m} (h0 : Ints drows []) (hr : DeepCall Try.prog 86 [DI 1] r) (e : r = .agg [DB neg, m]) (hm : SlD m) : DeepCall Try.prog 83 [da, drows, dcols] r := by
  subst e
  refine deepCall_K 5 Try.func83 rfl (Nat.le_of_ble_eq_true rfl) fun M W0 => ?_
  refine KC.seq ?_
  refine KC.region ?_
  refine KT.step rfl rfl (K.alloc Try.zero87) ?_
  refine KT.nil ?_
  refine thenK_n ?_
  refine KC.seq ?_
  refine KC.seq ?_
  refine KC.region ?_
  refine KT.step rfl rfl (K.move rfl) ?_
  refine KT.step rfl rfl (K.len rfl h0 Try.underlying35) ?_
  refine KT.step rfl rfl (K.eql rfl rfl) ?_
  refine KT.nil ?_
  refine thenK_n ?_
  refine KC.cond rfl (fun hc15 => ?_) (fun hc15 => ?_)
  · skip
    refine KC.seq ?_
    refine KC.region ?_
    refine KT.step rfl rfl (K.call1 rfl plainTry_86 (hr)) ?_
    refine KT.step rfl rfl (K.storeN (v := .d (.agg [DB neg, m])) rfl rfl rfl (by simp [cellsX, Value.cells]) (by simp only [cellsX, List.map_cons, List.all_cons, hm.one]; rfl) Try.size87) ?_
    refine KT.nil ?_
    refine thenK_n ?_
    refine KC.ret ?_
    refine thenK_r ?_
    refine ⟨.inl rfl, _, resK_agg (m := 2) rfl rfl rfl (by simp) Try.agg87 Try.size87 (by simp [splice, cellsX, Value.cells]), ?_⟩
    rfl
  · cases hc15
set_option maxRecDepth 10000 in
theorem det_succ {da drows dcols : DV} {a : List (List Int)} {k : Nat} {cols : List Nat} {f : Nat → DV} {n : Nat} (ha : Mat da a) (hk : k < a.length) (hk5 : k ≤ 10) (hn : a[k].length = n) (hrow : Ints drows (colsI (List.range (k + 1)))) (hcol : Ints dcols (colsI cols)) (hc : ∀ q ∈ cols, q < n) (hl : cols.length ≤ 10)
    (hz : DeepCall Try.prog 86 [DI 0] (f 0)) (hs : ∀ q, q < cols.length → StepR a k da drows cols q (f q) (f (q + 1))) (hf : ∀ q, q ≤ cols.length → ∃ neg m, f q = .agg [DB neg, m] ∧ SlD m) : DeepCall Try.prog 83 [da, drows, dcols] (f cols.length) := by
  have hrl : (colsI (List.range (k + 1))).length = k + 1 := by rw [colsI_len]; simp
  have hcl := colsI_len cols
  obtain ⟨n0, m0, e0, s0⟩ := hf 0 (Nat.zero_le _)
  have hlast : (colsI (List.range (k + 1)))[k]'(by omega) = (k : Int) := by rw [colsI_get (by simp)]; simp
  refine deepCall_K 5 Try.func83 rfl (Nat.le_of_ble_eq_true rfl) fun M W0 => ?_
  refine KC.seq ?_
  refine KC.region ?_
  refine KT.step rfl rfl (K.alloc Try.zero87) ?_
  refine KT.nil ?_
  refine thenK_n ?_
  refine KC.seq ?_
  refine KC.seq ?_
  refine KC.region ?_
  refine KT.step rfl rfl (K.move rfl) ?_
  refine KT.step rfl rfl (K.len rfl hrow Try.underlying35) ?_
  refine KT.step rfl rfl (K.eql rfl rfl) ?_
  refine KT.nil ?_
  refine thenK_n ?_
  refine KC.cond rfl (fun hc15 => ?_) (fun hc15 => ?_)
  · skip
    exfalso; replace hc15 := of_decide_eq_true hc15; rw [hrl] at hc15; omega
  · skip
    replace hc15 := of_decide_eq_false hc15
    refine KC.skip ?_
    refine thenK_n ?_
    refine KC.seq ?_
    refine KC.region ?_
    refine KT.step rfl rfl (K.move rfl) ?_
    refine KT.step rfl rfl (K.move rfl) ?_
    refine KT.step rfl rfl (K.len rfl hrow Try.underlying35) ?_
    refine KT.step rfl rfl (K.sub rfl rfl (show IntKind.i64.wrap (((colsI (List.range (k + 1))).length : Int) - 1) = ((k : Nat) : Int) from by rw [hrl, wrap_id (by omega)]; omega)) ?_
    refine KT.idxI (m := k) rfl rfl rfl hrow rfl (by omega) Try.underlying35 Try.size3 fun cs21 => ?_
    rw [hlast]
    refine KT.step rfl rfl (K.load rfl Try.agg3) ?_
    refine KT.step rfl rfl (K.assign rfl) ?_
    refine KT.nil ?_
    refine thenK_n ?_
    refine KC.seq ?_
    refine KC.region ?_
    refine KT.step rfl rfl (K.call1 rfl plainTry_86 (hz)) ?_
    refine KT.step rfl rfl (K.alloc Try.zero87) ?_
    rw [e0]
    refine KT.step rfl rfl (K.storeN (v := .d (.agg [DB n0, m0])) rfl rfl rfl (by simp [cellsX, Value.cells]) (by simp only [cellsX, List.map_cons, List.all_cons, s0.one]; rfl) Try.size87) ?_
    refine KT.nil ?_
    refine thenK_n ?_
    refine KC.seq ?_
    refine KC.seq ?_
    refine KC.region ?_
    refine KT.step rfl rfl (K.move rfl) ?_
    refine KT.step rfl rfl (K.len rfl hcol Try.underlying35) ?_
    refine KT.step rfl rfl (K.move rfl) ?_
    refine KT.nil ?_
    refine thenK_n ?_
    refine KC.block ?_
    refine KC.loop (fun p : List VObj × Nat => p.1) (fun p => [(0, .d da), (1, .d drows), (2, .d dcols), (6, .optr 0 0), (7, .d (DI (k : Int))), (8, .optr 1 0), (24, .d dcols), (25, .d (DI (colsI cols).length)), (26, .d (DI (p.2 : Nat)))]) (fun p => DetI f cols.length p.1 p.2) (fun p => cols.length - p.2) ([⟨[.d (DB false), .d Dnil], 0⟩, ⟨cellsX (.d (f 0)), 0⟩], 0) ⟨Nat.zero_le _, rfl, rfl⟩ (by rw [e0]; rfl) (by simp [Go.Vm.look, extK, enterK]) ?_
    intro p hp
    obtain ⟨σ0, q⟩ := p
    obtain ⟨le, h0, h1⟩ := hp
    simp only at le h0 h1 ⊢
    have g1 := (List.getElem?_eq_some_iff.1 h1).1
    refine KC.seq ?_
    refine KC.region ?_
    refine KT.step rfl rfl (K.lss rfl rfl) ?_
    refine KT.nil ?_
    refine thenK_n ?_
    refine KC.seq ?_
    refine KC.cond rfl (fun hc27 => ?_) (fun hc27 => ?_)
    · skip
      replace hc27 := of_decide_eq_true hc27
      have hq : q < cols.length := by omega
      obtain ⟨n1, m1, e1, s1⟩ := hf q (by omega)
      obtain ⟨n2, m2, e2, s2⟩ := hf (q + 1) (by omega)
      obtain ⟨r1, r2, ng, mm, c1, c2, c3, smm, c4⟩ := hs q hq
      rw [e1] at h1 c4
      rw [e2] at c4
      have hval : a[k][cols[q]]'(by rw [hn]; exact hc _ (List.getElem_mem hq)) = (a.getD k []).getD (cols.getD q 0) 0 := by
        rw [show a.getD k [] = a[k] by simp [hk], show cols.getD q 0 = cols[q] by simp [hq]]
        have : cols[q] < a[k].length := by rw [hn]; exact hc _ (List.getElem_mem hq)
        simp [this]
      refine KC.skip ?_
      refine thenK_n ?_
      refine KC.seq ?_
      refine KC.block ?_
      refine KC.seq ?_
      refine KC.region ?_
      refine KT.step rfl rfl (K.move rfl) ?_
      refine KT.idxI rfl rfl rfl hcol rfl (by omega) Try.underlying35 Try.size3 fun cs29 => ?_
      rw [colsI_get hq]
      refine KT.step rfl rfl (K.load rfl Try.agg3) ?_
      refine KT.step rfl rfl (K.assign rfl) ?_
      refine KT.step rfl rfl (K.assign rfl) ?_
      refine KT.nil ?_
      refine thenK_n ?_
      refine KC.seq ?_
      refine KC.draw Try.mixed ?_
      refine KT.step rfl rfl (K.build0 Try.underlying35 Try.one3) ?_
      refine KT.step rfl rfl (K.move rfl) ?_
      refine KT.step rfl rfl (K.move rfl) ?_
      refine KT.step rfl rfl (K.takeV (m := q) rfl hcol rfl (by omega) Try.underlying35 Try.size3) ?_
      refine KT.appD (xs := (colsI cols).take q) rfl rfl rfl rfl (takeV_vec hcol (by omega)) (OwnE.sl (ex := true) (cells := []) (by simp) rfl) (by simp; omega) Try.underlying35 Try.one3 fun σ1 x1 o1 k1 w1 => ?_
      refine KT.step rfl rfl (K.move rfl) ?_
      refine KT.step rfl rfl (K.move rfl) ?_
      refine KT.step rfl rfl (K.add rfl rfl (show IntKind.i64.wrap ((q : Int) + 1) = ((q + 1 : Nat) : Int) from by rw [wrap_id (by omega)]; omega)) ?_
      refine KT.step rfl rfl (K.dropV (m := q + 1) rfl hcol rfl (by omega) (by omega) Try.underlying35 Try.size3) ?_
      refine KT.appD (xs := (colsI cols).drop (q + 1)) rfl rfl rfl rfl (dropV_vec hcol (by omega)) o1 (by simp; omega) Try.underlying35 Try.one3 fun σ2 x2 o2 k2 w2 => ?_
      refine KT.step rfl rfl (K.assign rfl) ?_
      refine KT.nil ?_
      refine ⟨by kernel_rfl, ?_⟩
      refine thenK_n ?_
      refine KC.seq ?_
      obtain ⟨ids, hids, hdp⟩ := ownE_freeze (xs := colsI (restL cols q)) (ex := restE cols q) (x := x2) (σ := σ2) (by
        have : colsI (restL cols q) = (colsI cols).take q ++ (colsI cols).drop (q + 1) := by simp [colsI, restL, List.map_take, List.map_drop]
        rw [this, List.map_append]
        have hE : (if (colsI cols).drop (q + 1) = [] then (if (colsI cols).take q = [] then true else false) else false) = restE cols q := by simp [restE, colsI, List.map_take, List.map_drop]
        rw [← hE]
        simpa using o2)
      rw [colsI_len] at hdp
      have hx2 : ∀ j, idX x2 = some j → σ0.length ≤ j := fun j hj => by
        have hx1 : ∀ j, idX x1 = some j → σ0.length ≤ j := fun j hj => by
          rcases w1 with w | ⟨j', a1, a2⟩
          · rw [w] at hj; cases hj; exact Nat.le_refl _
          · rw [a1] at hj; cases hj; simp at a2; omega
        rcases w2 with w | ⟨j', a1, a2⟩
        · rw [w] at hj; exact hx1 j hj
        · rw [a1] at hj; cases hj
          have : σ0.length < σ1.length := by
            obtain ⟨i1, e⟩ : ∃ i, idX x1 = some i := by cases o1 with | sl h hn => exact ⟨_, rfl⟩
            exact Nat.lt_of_le_of_lt (hx1 i1 e) (o1.lt e)
          omega
      have hb : ∀ j, j < σ0.length → (freezeIds σ2 ids)[j]? = σ0[j]? := fun j hj => by
        rw [freezeIds_other (fun h => by have := hx2 j (hids j h); omega)]
        have hl1 : σ0.length < σ1.length := by
          rcases w1 with w | ⟨j', a1, a2⟩
          · have := o1.lt (j := σ0.length) (by rw [w]; rfl); omega
          · have := o1.lt a1; simp at a2; omega
        rw [k2 j (fun e => by
          have hx1 : ∀ j, idX x1 = some j → σ0.length ≤ j := fun j hj => by
            rcases w1 with w | ⟨j', a1, a2⟩
            · rw [w] at hj; cases hj; exact Nat.le_refl _
            · rw [a1] at hj; cases hj; simp at a2; omega
          have := hx1 j e; omega) (by omega)]
        rw [k1 j (fun e => by cases e; omega) (by simp; omega), List.getElem?_append_left hj]
      have t0 : (freezeIds σ2 ids)[0]? = _ := (hb 0 (by omega)).trans h0
      have t1 : (freezeIds σ2 ids)[1]? = _ := (hb 1 (by omega)).trans h1
      refine KC.ghost ids 5 (t := 11) rfl hdp ?_
      generalize freezeIds σ2 ids = σ4 at t0 t1 ⊢
      have t4 := (List.getElem?_eq_some_iff.1 t1).1
      refine KC.draw Try.mixed ?_
      refine KT.step rfl rfl (K.move rfl) ?_
      refine KT.step rfl rfl (K.move rfl) ?_
      refine KT.idx rfl rfl rfl ha rfl hk Try.underlying22 Try.size35 fun c43 cs43 hq43 => ?_
      refine KT.step rfl rfl (K.load rfl Try.agg35) ?_
      refine KT.step rfl rfl (K.move rfl) ?_
      refine KT.idxI rfl rfl rfl hq43 rfl (show cols[q] < a[k].length by rw [hn]; exact hc _ (List.getElem_mem hq)) Try.underlying35 Try.size3 fun cs46 => ?_
      refine KT.step rfl rfl (K.load rfl Try.agg3) ?_
      rw [hval]
      refine KT.step rfl rfl (K.call1 rfl plainTry_86 (c1)) ?_
      refine KT.step rfl rfl (K.move rfl) ?_
      refine KT.step rfl rfl (K.move rfl) ?_
      refine KT.step rfl rfl (K.move rfl) ?_
      refine KT.step rfl rfl (K.len rfl hrow Try.underlying35) ?_
      refine KT.step rfl rfl (K.sub rfl rfl (show IntKind.i64.wrap (((colsI (List.range (k + 1))).length : Int) - 1) = ((k : Nat) : Int) from by rw [hrl, wrap_id (by omega)]; omega)) ?_
      refine KT.step rfl rfl (K.takeV (m := k) rfl hrow rfl (by omega) Try.underlying35 Try.size3) ?_
      refine KT.step rfl rfl (K.move rfl) ?_
      refine KT.step rfl rfl (K.call3 rfl rfl rfl plainTry_83 (c2)) ?_
      refine KT.step rfl rfl (K.call2 rfl rfl plainTry_88 (c3)) ?_
      refine KT.step rfl rfl (K.alloc Try.zero87) ?_
      refine KT.storeH (cs := [.d (DB ng), .d mm]) rfl rfl rfl rfl (List.getElem?_concat_length ..) rfl (by simp [Value.cells]) (by simp only [List.all_cons, smm.one]; rfl) Try.size87 fun σ5 l5 u5 v5 => ?_
      rw [show splice (List.map (fun v => XV.d (DV.lit v)) (Value.agg #[.bool false, .slice none 0 0]).cells.toList) 0 [XV.d (DB ng), .d mm] = [.d (DB ng), .d mm] from rfl] at u5
      have y0 := t0
      rw [← List.getElem?_append_left (l₂ := [⟨List.map (fun v => XV.d (DV.lit v)) (Value.agg #[.bool false, .slice none 0 0]).cells.toList, 0⟩]) (show 0 < σ4.length by omega), ← v5 0 (by omega)] at y0
      have z1 := t1
      rw [← List.getElem?_append_left (l₂ := [⟨List.map (fun v => XV.d (DV.lit v)) (Value.agg #[.bool false, .slice none 0 0]).cells.toList, 0⟩]) (show 1 < σ4.length by omega), ← v5 1 (by omega)] at z1
      have zz := u5
      refine KT.nil ?_
      refine ⟨by kernel_rfl, ?_⟩
      refine thenK_n ?_
      refine KC.seq ?_
      refine KC.seq ?_
      refine KC.region ?_
      refine KT.step rfl rfl (K.move rfl) ?_
      refine KT.step rfl rfl (K.len rfl hrow Try.underlying35) ?_
      refine KT.step rfl rfl (K.move rfl) ?_
      refine KT.step rfl rfl (K.add rfl rfl (show IntKind.i64.wrap (((colsI (List.range (k + 1))).length : Int) + (q : Int)) = ((k + 1 + q : Nat) : Int) from by rw [hrl, wrap_id (by omega)]; omega)) ?_
      refine KT.step rfl rfl (K.rem rfl rfl (by omega) (show Int.tmod ((k + 1 + q : Nat) : Int) 2 = (((k + 1 + q) % 2 : Nat) : Int) from by rw [Int.tmod_eq_emod_of_nonneg (by omega)]; rfl)) ?_
      refine KT.step rfl rfl (K.eql rfl rfl) ?_
      refine KT.nil ?_
      refine thenK_n ?_
      refine KC.cond rfl (fun hc63 => ?_) (fun hc63 => ?_)
      · skip
        replace hc63 := of_decide_eq_true hc63
        have hsg : sgnF k q ng = !ng := by unfold sgnF; rw [if_pos (by omega)]
        rw [hsg] at c4
        refine KC.region ?_
        refine KT.step rfl rfl (K.fieldAddrO rfl Try.fld87_0 Try.size4) ?_
        refine KT.step rfl rfl (K.loadO rfl u5 (by simp) rfl Try.agg4) ?_
        refine KT.step rfl rfl (K.not rfl) ?_
        refine KT.step rfl rfl (K.fieldAddrO rfl Try.fld87_0 Try.size4) ?_
        refine KT.storeG rfl rfl rfl rfl u5 (by simp) rfl rfl Try.size4 fun σ6 l6 u6 v6 => ?_
        replace u6 : σ6[σ4.length]? = some ⟨[.d (DB (!ng)), .d mm], 0⟩ := u6
        rw [← v6 0 (by omega)] at y0
        rw [← v6 1 (by omega)] at z1
        replace zz := u6
        refine KT.nil ?_
        refine thenK_n ?_
        refine KC.region ?_
        refine KT.step rfl rfl (K.loadOAgg (m := 2) rfl z1 (by simp) Try.agg87 Try.size87 (by simp [cellsX])) ?_
        refine KT.step rfl rfl (K.loadOAgg (m := 2) rfl zz (by simp) Try.agg87 Try.size87 (by simp [splice])) ?_
        refine KT.step rfl rfl (K.call2 rfl rfl plainTry_87 (c4)) ?_
        refine KT.storeH (cs := [.d (DB n2), .d m2]) rfl rfl rfl rfl z1 rfl (by simp [cellsX]) (by simp only [List.all_cons, s2.one]; rfl) Try.size87 fun σ7 l7 u7 v7 => ?_
        rw [show splice (cellsX (.d (.agg [DB n1, m1]))) 0 [XV.d (DB n2), .d m2] = [.d (DB n2), .d m2] from rfl] at u7
        refine KT.nil ?_
        refine blockK_n ?_
        refine thenK_n ?_
        refine KC.region ?_
        refine KT.step rfl rfl (K.add rfl rfl (wrap_id (by omega))) ?_
        refine KT.step rfl rfl (K.move rfl) ?_
        refine KT.nil ?_
        refine thenK_n ?_
        refine ⟨(σ7, q + 1), ⟨by simp only; omega, ?_, ?_⟩, by simp only; omega, rfl, by simp [Go.Vm.look, extK]⟩
        · rw [v7 0 (by omega)]; exact y0
        · rw [u7, e2]; rfl
      · skip
        replace hc63 := of_decide_eq_false hc63
        have hsg : sgnF k q ng = ng := by unfold sgnF; rw [if_neg (by omega)]
        rw [hsg] at c4
        refine KC.skip ?_
        refine thenK_n ?_
        refine KC.region ?_
        refine KT.step rfl rfl (K.loadOAgg (m := 2) rfl z1 (by simp) Try.agg87 Try.size87 (by simp [cellsX])) ?_
        refine KT.step rfl rfl (K.loadOAgg (m := 2) rfl zz (by simp) Try.agg87 Try.size87 (by simp [splice])) ?_
        refine KT.step rfl rfl (K.call2 rfl rfl plainTry_87 (c4)) ?_
        refine KT.storeH (cs := [.d (DB n2), .d m2]) rfl rfl rfl rfl z1 rfl (by simp [cellsX]) (by simp only [List.all_cons, s2.one]; rfl) Try.size87 fun σ7 l7 u7 v7 => ?_
        rw [show splice (cellsX (.d (.agg [DB n1, m1]))) 0 [XV.d (DB n2), .d m2] = [.d (DB n2), .d m2] from rfl] at u7
        refine KT.nil ?_
        refine blockK_n ?_
        refine thenK_n ?_
        refine KC.region ?_
        refine KT.step rfl rfl (K.add rfl rfl (wrap_id (by omega))) ?_
        refine KT.step rfl rfl (K.move rfl) ?_
        refine KT.nil ?_
        refine thenK_n ?_
        refine ⟨(σ7, q + 1), ⟨by simp only; omega, ?_, ?_⟩, by simp only; omega, rfl, by simp [Go.Vm.look, extK]⟩
        · rw [v7 0 (by omega)]; exact y0
        · rw [u7, e2]; rfl
    · skip
      replace hc27 := of_decide_eq_false hc27
      obtain rfl : q = cols.length := by omega
      obtain ⟨n1, m1, e1, s1⟩ := hf cols.length (Nat.le_refl _)
      rw [e1] at h1
      refine KC.exit ?_
      refine thenK_x ?_
      refine thenK_x ?_
      refine blockK_e ?_
      refine thenK_n ?_
      refine KC.seq ?_
      refine KC.region ?_
      refine KT.step rfl rfl (K.loadOAgg (m := 2) rfl h1 (by simp) Try.agg87 Try.size87 (by simp [cellsX])) ?_
      refine KT.storeH (cs := [.d (DB n1), .d m1]) rfl rfl rfl rfl h0 rfl (by simp) (by simp only [List.all_cons, s1.one]; rfl) Try.size87 fun σ7 l7 u7 v7 => ?_
      rw [show splice [XV.d (DB false), .d Dnil] 0 [XV.d (DB n1), .d m1] = [.d (DB n1), .d m1] from rfl] at u7
      refine KT.nil ?_
      refine thenK_n ?_
      refine KC.ret ?_
      refine ⟨.inl rfl, _, resK_agg (m := 2) rfl rfl u7 (by simp) Try.agg87 Try.size87 (by simp), ?_⟩
      rw [e1]
      rfl
end Go.Proofs.Ytlomhajhoecoiaa
