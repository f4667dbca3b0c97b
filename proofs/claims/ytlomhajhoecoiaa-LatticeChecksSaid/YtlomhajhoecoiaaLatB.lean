/-
  THE CONTRACTS of package lattice's checks and of the reference's, on deep values, 2.
-/
import Derived.Test.YtlomhajhoecoiaaLatA
namespace Go.Proofs.Ytlomhajhoecoiaa
open Go.Vm

abbrev w64 (n : Int) : Int := IntKind.i64.wrap n
/-- Go's sum of products, wrapped at every step. -/
def dotF (f g : Nat → Int) : Nat → Int
  | 0 => 0
  | k + 1 => w64 (dotF f g k + w64 (f k * g k))
def at0 (l : List Int) (k : Nat) : Int := l.getD k 0
theorem at0_get {l : List Int} {k : Nat} (h : k < l.length) : l[k] = at0 l k := by simp [at0, h]
theorem dotF_congr {f g f' g' : Nat → Int} : ∀ n, (∀ k, k < n → f k = f' k ∧ g k = g' k) → dotF f g n = dotF f' g' n
  | 0, _ => rfl
  | k + 1, h => by
    rw [dotF, dotF, dotF_congr k (fun j hj => h j (by omega)), (h k (by omega)).1, (h k (by omega)).2]

set_option maxRecDepth 10000 in
theorem dot75 {d e : DV} {x y : List Int} (hd : Ints d x) (he : Ints e y) (hl : x.length ≤ y.length) (hb : x.length ≤ 9223372036854775807) :
    DeepCall Try.prog 75 [d, e] (DI (dotF (at0 x) (at0 y) x.length)) := by
  refine deepCall_K 5 Try.func75 rfl (Nat.le_of_ble_eq_true rfl) fun M W0 => ?_
  refine KC.seq ?_
  refine KC.region ?_
  refine KT.step rfl rfl (K.assign rfl) ?_
  refine KT.nil ?_
  refine thenK_n ?_
  refine KC.seq ?_
  refine KC.region ?_
  refine KT.step rfl rfl (K.assign rfl) ?_
  refine KT.nil ?_
  refine thenK_n ?_
  refine KC.seq ?_
  refine KC.seq ?_
  refine KC.region ?_
  refine KT.step rfl rfl (K.move rfl) ?_
  refine KT.step rfl rfl (K.len rfl (by assumption) Try.underlying35) ?_
  refine KT.step rfl rfl (K.move rfl) ?_
  refine KT.nil ?_
  refine thenK_n ?_
  refine KC.block ?_
  refine KC.loop (fun _ : Nat => []) (fun i => [(0, .d d), (1, .d e), (5, .d (DI (dotF (at0 x) (at0 y) i))), (8, .d (DI x.length)), (9, .d (DI i))]) (fun i => i ≤ x.length) (fun i => x.length - i) 0 (Nat.zero_le _) rfl (by simp [Go.Vm.look, extK, enterK, dotF]) ?_
  intro i hi
  refine KC.seq ?_
  refine KC.region ?_
  refine KT.step rfl rfl (K.lss rfl rfl) ?_
  refine KT.nil ?_
  refine thenK_n ?_
  refine KC.seq ?_
  refine KC.cond rfl (fun hc10 => ?_) (fun hc10 => ?_)
  · skip
    simp at hc10
    refine KC.skip ?_
    refine thenK_n ?_
    refine KC.seq ?_
    refine KC.block ?_
    refine KC.seq ?_
    refine KC.region ?_
    refine KT.step rfl rfl (K.move rfl) ?_
    refine KT.step rfl rfl (K.assign rfl) ?_
    refine KT.nil ?_
    refine thenK_n ?_
    refine KC.draw Try.mixed ?_
    refine KT.step rfl rfl (K.move rfl) ?_
    refine KT.step rfl rfl (K.move rfl) ?_
    refine KT.step rfl rfl (K.move rfl) ?_
    refine KT.idxI rfl rfl rfl (by assumption) rfl (by omega) Try.underlying35 Try.size3 fun cs15 => ?_
    refine KT.step rfl rfl (K.load rfl Try.agg3) ?_
    refine KT.step rfl rfl (K.move rfl) ?_
    refine KT.step rfl rfl (K.move rfl) ?_
    refine KT.idxI rfl rfl rfl (by assumption) rfl (by omega) Try.underlying35 Try.size3 fun cs19 => ?_
    refine KT.step rfl rfl (K.load rfl Try.agg3) ?_
    refine KT.step rfl rfl (K.mul rfl rfl rfl) ?_
    refine KT.step rfl rfl (K.add rfl rfl rfl) ?_
    refine KT.step rfl rfl (K.assign rfl) ?_
    refine KT.nil ?_
    refine ⟨by kernel_rfl, ?_⟩
    refine blockK_n ?_
    refine thenK_n ?_
    refine KC.region ?_
    refine KT.step rfl rfl (K.add rfl rfl (wrap_id (by omega))) ?_
    refine KT.step rfl rfl (K.move rfl) ?_
    refine KT.nil ?_
    refine thenK_n ?_
    refine ⟨i + 1, by omega, by omega, rfl, ?_⟩
    simp [Go.Vm.look, extK, dotF, at0, w64, show i < y.length by omega, hc10]
  · skip
    simp at hc10
    refine KC.exit ?_
    refine thenK_x ?_
    refine thenK_x ?_
    refine blockK_e ?_
    refine thenK_n ?_
    refine KC.seq ?_
    refine KC.region ?_
    refine KT.step rfl rfl (K.move rfl) ?_
    refine KT.step rfl rfl (K.assign rfl) ?_
    refine KT.nil ?_
    refine thenK_n ?_
    refine KC.ret ?_
    have : i = x.length := by omega
    subst this
    exact ⟨.inl rfl, _, rfl, fin_d rfl⟩


/-- Column j of some rows. -/
def col (m : List (List Int)) (j : Nat) : List Int := m.map fun r => at0 r j
def colD (m : List (List Int)) (j : Nat) : DV := .sl ((col m j).map DI) m.length (some m.length)
def transD (m : List (List Int)) (n : Nat) : DV := .sl ((List.range n).map (colD m)) n (some n)
def outc (m : List (List Int)) (n j : Nat) : List XV := (List.range n).map fun i => if i < j then .osl (i + 1) 0 m.length 1 m.length true else .d Dnil
def doneC (m : List (List Int)) (j : Nat) : List VObj := (List.range j).map fun i => ⟨(col m i).map fun x => .d (DI x), 0⟩
def part (m : List (List Int)) (j i : Nat) : List XV := (List.range m.length).map fun k => if k < i then .d (DI (at0 (m.getD k []) j)) else .d (DI 0)
def sgO (m : List (List Int)) (n j : Nat) : List VObj := ⟨outc m n j, 0⟩ :: doneC m j
def sgI (m : List (List Int)) (n j i : Nat) : List VObj := ⟨outc m n (j + 1), 0⟩ :: (doneC m j ++ [⟨part m j i, 0⟩])

theorem doneC_succ (m : List (List Int)) (j : Nat) : doneC m (j + 1) = doneC m j ++ [⟨(col m j).map fun x => .d (DI x), 0⟩] := by
  simp [doneC, List.range_succ]
theorem len_doneC (m : List (List Int)) (j : Nat) : (doneC m j).length = j := by simp [doneC]
theorem len_sgO (m : List (List Int)) (n j : Nat) : (sgO m n j).length = j + 1 := by simp [sgO, len_doneC]
theorem outc_zero (m : List (List Int)) (n : Nat) : List.replicate n (XV.d Dnil) = outc m n 0 := by
  refine List.ext_getElem? fun i => ?_
  by_cases hi : i < n
  · simp [outc, hi]
  · rw [List.getElem?_eq_none (by simp; omega), List.getElem?_eq_none (by simp [outc]; omega)]
theorem outc_set (m : List (List Int)) (n j : Nat) (hj : j < n) : (outc m n j).set j (.osl (j + 1) 0 m.length 1 m.length true) = outc m n (j + 1) := by
  refine List.ext_getElem? fun i => ?_
  rw [List.getElem?_set]
  by_cases hi : i < n
  · by_cases e : j = i
    · subst e; simp [outc, hi]
    · rw [if_neg e]
      simp only [outc, List.getElem?_map, List.getElem?_range hi, Option.map_some, Option.some.injEq]
      by_cases h : i < j
      · rw [if_pos h, if_pos (by omega)]
      · rw [if_neg h, if_neg (by omega)]
  · rw [if_neg (by omega), List.getElem?_eq_none (by simp [outc]; omega), List.getElem?_eq_none (by simp [outc]; omega)]
theorem part_zero (m : List (List Int)) (j : Nat) : List.replicate m.length (XV.d (.lit (.int .i64 0))) = part m j 0 := by
  refine List.ext_getElem? fun i => ?_
  by_cases hi : i < m.length
  · simp [part, hi]
  · rw [List.getElem?_eq_none (by simp; omega), List.getElem?_eq_none (by simp [part]; omega)]
theorem part_set (m : List (List Int)) (j i : Nat) (hi : i < m.length) : (part m j i).set i (.d (DI (at0 m[i] j))) = part m j (i + 1) := by
  refine List.ext_getElem? fun k => ?_
  rw [List.getElem?_set]
  by_cases hk : k < m.length
  · by_cases e : i = k
    · subst e; simp [part, hi]
    · rw [if_neg e]
      simp only [part, List.getElem?_map, List.getElem?_range hk, Option.map_some, Option.some.injEq]
      by_cases h : k < i
      · rw [if_pos h, if_pos (by omega)]
      · rw [if_neg h, if_neg (by omega)]
  · rw [if_neg (by omega), List.getElem?_eq_none (by simp [part]; omega), List.getElem?_eq_none (by simp [part]; omega)]
theorem part_full (m : List (List Int)) (j i : Nat) (hi : m.length ≤ i) : part m j i = (col m j).map fun x => .d (DI x) := by
  refine List.ext_getElem? fun k => ?_
  by_cases hk : k < m.length
  · simp [part, col, hk, show k < i by omega]
  · rw [List.getElem?_eq_none (by simp [part]; omega), List.getElem?_eq_none (by simp [col]; omega)]
theorem sg_start (m : List (List Int)) (n j : Nat) (hj : j < n) :
    (sgO m n j ++ [(⟨List.replicate m.length (XV.d (.lit (.int .i64 0))), 0⟩ : VObj)]).set 0 ⟨(outc m n j).set (0 + j) (.osl (sgO m n j).length 0 m.length 1 m.length true), 0⟩ = sgI m n j 0 := by
  rw [len_sgO, Nat.zero_add, outc_set m n j hj, part_zero m j]
  rfl
theorem sg_row (m : List (List Int)) (n j i : Nat) : (sgI m n j i)[j + 1]? = some ⟨part m j i, 0⟩ := by
  simp only [sgI, List.getElem?_cons_succ]
  rw [List.getElem?_append_right (by rw [len_doneC]; omega), len_doneC]; simp
theorem sg_step (m : List (List Int)) (n j i : Nat) (hi : i < m.length) : (sgI m n j i).set (j + 1) ⟨(part m j i).set (0 + i) (.d (DI (at0 m[i] j))), 0⟩ = sgI m n j (i + 1) := by
  rw [Nat.zero_add, part_set m j i hi]
  simp only [sgI, List.set_cons_succ]
  rw [List.set_append_right _ _ (by rw [len_doneC]; omega), len_doneC]; simp
theorem sg_end (m : List (List Int)) (n j i : Nat) (hi : m.length ≤ i) : sgI m n j i = sgO m n (j + 1) := by
  rw [sgI, sgO, part_full m j i hi, doneC_succ]
theorem outc_get (m : List (List Int)) (n j : Nat) (hj : j < n) : (outc m n (j + 1))[0 + j]? = some (.osl (j + 1) 0 m.length 1 m.length true) := by
  simp [outc, hj]

theorem sgO_fin (m : List (List Int)) (n : Nat) : deepen (freezeAll (sgO m n n)) 5 (.osl 0 0 n 1 n true) = some (transD m n) := by
  have hf : freezeAll (sgO m n n) = ⟨outc m n n, 1⟩ :: (List.range n).map fun i => (⟨(col m i).map fun x => .d (DI x), 1⟩ : VObj) := by
    simp [freezeAll, sgO, doneC, Function.comp_def]
  have hlen : (outc m n n).length = n := by simp [outc]
  rw [hf, deepen_osl (ob := ⟨outc m n n, 1⟩) rfl rfl (by simp [hlen])]
  have h2 : ((outc m n n).drop 0).take (n * 1) = outc m n n := by rw [List.drop_zero, Nat.mul_one, List.take_of_length_le (by omega)]
  rw [show ((⟨outc m n n, 1⟩ : VObj).cells.drop 0).take (n * 1) = outc m n n from h2]
  have key : (outc m n n).mapM (deepen (⟨outc m n n, 1⟩ :: (List.range n).map fun i => (⟨(col m i).map fun x => .d (DI x), 1⟩ : VObj)) 4) = some ((List.range n).map (colD m)) := by
    have hall : ∀ (l : List Nat), (∀ i ∈ l, i < n) → (l.map fun i => if i < n then XV.osl (i + 1) 0 m.length 1 m.length true else .d Dnil).mapM (deepen (⟨outc m n n, 1⟩ :: (List.range n).map fun i => (⟨(col m i).map fun x => .d (DI x), 1⟩ : VObj)) 4) = some (l.map (colD m)) := by
      intro l
      induction l with
      | nil => intro _; rfl
      | cons i l ih =>
        intro hl
        have hi := hl i (by simp)
        rw [List.map_cons, List.mapM_cons, ih (fun k hk => hl k (by simp [hk])), if_pos hi]
        have hget : ((⟨outc m n n, 1⟩ : VObj) :: (List.range n).map fun i => (⟨(col m i).map fun x => .d (DI x), 1⟩ : VObj))[i + 1]? = some ⟨(col m i).map fun x => .d (DI x), 1⟩ := by simp [hi]
        have hcl : ((col m i).map fun x => XV.d (DI x)).length = m.length := by simp [col]
        rw [deepen_osl hget rfl (by rw [hcl]; omega)]
        have h3 : (((col m i).map fun x => XV.d (DI x)).drop 0).take (m.length * 1) = ((col m i).map DI).map XV.d := by
          rw [List.drop_zero, Nat.mul_one, List.take_of_length_le (by omega), List.map_map]; rfl
        rw [show ((⟨(col m i).map fun x => .d (DI x), 1⟩ : VObj).cells.drop 0).take (m.length * 1) = ((col m i).map DI).map XV.d from h3, mapM_deep]
        rfl
    exact hall (List.range n) (fun i hi => by simpa using hi)
  rw [key]; rfl

set_option maxRecDepth 10000 in
theorem transposed93 {d : DV} {m : List (List Int)} {n : Nat} (hd : Mat d m) (hm : m.length ≤ 1073741824) (hn : n ≤ 1073741824) (hr : ∀ r ∈ m, n ≤ r.length) :
    DeepCall Try.prog 93 [d, DI n] (transD m n) := by
  refine deepCall_K 5 Try.func93 rfl (Nat.le_of_ble_eq_true rfl) fun M W0 => ?_
  refine KC.seq ?_
  refine KC.region ?_
  refine KT.step rfl rfl (K.assign rfl) ?_
  refine KT.nil ?_
  refine thenK_n ?_
  refine KC.seq ?_
  refine KC.region ?_
  refine KT.step rfl rfl (K.move rfl) ?_
  refine KT.step rfl rfl (K.make rfl rfl (Nat.le_refl _) hn Try.underlying22 Try.one35) ?_
  refine KT.step rfl rfl (K.assign rfl) ?_
  refine KT.nil ?_
  refine thenK_n ?_
  refine KC.seq ?_
  refine KC.seq ?_
  refine KC.region ?_
  refine KT.step rfl rfl (K.move rfl) ?_
  refine KT.step rfl rfl (K.move rfl) ?_
  refine KT.nil ?_
  refine thenK_n ?_
  refine KC.block ?_
  refine KC.loop (fun j => sgO m n j) (fun j => [(0, .d d), (1, .d (DI n)), (5, .osl 0 0 n 1 n true), (10, .d (DI n)), (11, .d (DI j))]) (fun j => j ≤ n) (fun j => n - j) 0 (Nat.zero_le _) (by rw [sgO, outc_zero m n]; rfl) (by simp [Go.Vm.look, extK, enterK]) ?_
  intro j hj
  refine KC.seq ?_
  refine KC.region ?_
  refine KT.step rfl rfl (K.lss rfl rfl) ?_
  refine KT.nil ?_
  refine thenK_n ?_
  refine KC.seq ?_
  refine KC.cond rfl (fun hc12 => ?_) (fun hc12 => ?_)
  · skip
    simp at hc12
    refine KC.skip ?_
    refine thenK_n ?_
    refine KC.seq ?_
    refine KC.block ?_
    refine KC.seq ?_
    refine KC.region ?_
    refine KT.step rfl rfl (K.move rfl) ?_
    refine KT.step rfl rfl (K.assign rfl) ?_
    refine KT.nil ?_
    refine thenK_n ?_
    refine KC.seq ?_
    refine KC.region ?_
    refine KT.step rfl rfl (K.move rfl) ?_
    refine KT.step rfl rfl (K.move rfl) ?_
    refine KT.step rfl rfl (K.move rfl) ?_
    refine KT.step rfl rfl (K.len rfl (by assumption) Try.underlying22) ?_
    refine KT.step rfl rfl (K.make rfl rfl (Nat.le_refl _) hm Try.underlying35 Try.one3) ?_
    refine KT.step rfl rfl (K.idxO rfl rfl (by omega) Try.underlying22 Try.size35) ?_
    refine KT.step rfl rfl (K.storeO rfl rfl rfl (by simp [outc]; omega) rfl rfl Try.size35) ?_
    refine KT.nil ?_
    refine thenK_n ?_
    refine KC.seq ?_
    refine KC.region ?_
    refine KT.step rfl rfl (K.move rfl) ?_
    refine KT.step rfl rfl (K.len rfl (by assumption) Try.underlying22) ?_
    refine KT.step rfl rfl (K.move rfl) ?_
    refine KT.nil ?_
    refine thenK_n ?_
    refine KC.block ?_
    refine KC.loop (fun i => sgI m n j i) (fun i => [(0, .d d), (1, .d (DI n)), (5, .osl 0 0 n 1 n true), (6, .d (DI j)), (10, .d (DI n)), (11, .d (DI j)), (21, .d (DI m.length)), (22, .d (DI i))]) (fun i => i ≤ m.length) (fun i => m.length - i) 0 (Nat.zero_le _) (sg_start m n j (by omega)) (by simp [Go.Vm.look, extK, enterK]) ?_
    intro i hi
    refine KC.seq ?_
    refine KC.region ?_
    refine KT.step rfl rfl (K.lss rfl rfl) ?_
    refine KT.nil ?_
    refine thenK_n ?_
    refine KC.seq ?_
    refine KC.cond rfl (fun hc23 => ?_) (fun hc23 => ?_)
    · skip
      simp at hc23
      refine KC.skip ?_
      refine thenK_n ?_
      refine KC.seq ?_
      refine KC.block ?_
      refine KC.seq ?_
      refine KC.region ?_
      refine KT.step rfl rfl (K.move rfl) ?_
      refine KT.step rfl rfl (K.assign rfl) ?_
      refine KT.nil ?_
      refine thenK_n ?_
      refine KC.draw Try.mixed ?_
      refine KT.step rfl rfl (K.move rfl) ?_
      refine KT.step rfl rfl (K.move rfl) ?_
      refine KT.step rfl rfl (K.idxO rfl rfl (by omega) Try.underlying22 Try.size35) ?_
      refine KT.step rfl rfl (K.loadO rfl rfl (by simp) (outc_get m n j (by omega)) Try.agg35) ?_
      refine KT.step rfl rfl (K.move rfl) ?_
      refine KT.step rfl rfl (K.move rfl) ?_
      refine KT.step rfl rfl (K.move rfl) ?_
      refine KT.idx rfl rfl rfl (by assumption) rfl (by omega) Try.underlying22 Try.size35 fun c32 cs32 hq32 => ?_
      refine KT.step rfl rfl (K.load rfl Try.agg35) ?_
      refine KT.step rfl rfl (K.move rfl) ?_
      refine KT.idxI rfl rfl rfl (by assumption) rfl (by have := hr m[i] (List.getElem_mem _); omega) Try.underlying35 Try.size3 fun cs35 => ?_
      refine KT.step rfl rfl (K.load rfl Try.agg3) ?_
      refine KT.step rfl rfl (K.idxO rfl rfl (by omega) Try.underlying35 Try.size3) ?_
      refine KT.step rfl rfl (K.storeO rfl rfl (sg_row m n j i) (by simp [part]; omega) rfl rfl Try.size3) ?_
      refine KT.nil ?_
      refine ⟨by kernel_rfl, ?_⟩
      refine blockK_n ?_
      refine thenK_n ?_
      refine KC.region ?_
      refine KT.step rfl rfl (K.add rfl rfl (wrap_id (by omega))) ?_
      refine KT.step rfl rfl (K.move rfl) ?_
      refine KT.nil ?_
      refine thenK_n ?_
      refine ⟨i + 1, by omega, by omega, ?_, by simp [Go.Vm.look, extK]⟩
      have := sg_step m n j i (by omega)
      rw [← at0_get (by have := hr m[i] (List.getElem_mem _); omega)] at this
      exact this
    · skip
      simp at hc23
      refine KC.exit ?_
      refine thenK_x ?_
      refine thenK_x ?_
      refine blockK_e ?_
      refine blockK_n ?_
      refine thenK_n ?_
      refine KC.region ?_
      refine KT.step rfl rfl (K.add rfl rfl (wrap_id (by omega))) ?_
      refine KT.step rfl rfl (K.move rfl) ?_
      refine KT.nil ?_
      refine thenK_n ?_
      refine ⟨j + 1, by omega, by omega, ?_, by simp [Go.Vm.look, extK]⟩
      exact sg_end m n j i (by omega)
  · skip
    simp at hc12
    refine KC.exit ?_
    refine thenK_x ?_
    refine thenK_x ?_
    refine blockK_e ?_
    refine thenK_n ?_
    refine KC.seq ?_
    refine KC.region ?_
    refine KT.step rfl rfl (K.move rfl) ?_
    refine KT.step rfl rfl (K.assign rfl) ?_
    refine KT.nil ?_
    refine thenK_n ?_
    refine KC.ret ?_
    have : j = n := by omega
    subst this
    exact ⟨.inl rfl, _, rfl, sgO_fin m j⟩

end Go.Proofs.Ytlomhajhoecoiaa