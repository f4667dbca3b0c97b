import Derived.Test.YthbnnffmhnjpjaaCyQ
import Derived.Test.YthbnnffmhnjpjaaCyY
/-
  TRANSPOSES: the mean, the powers, the ways and the period are those of the matrix.
-/
namespace Go.Cy
open Go.Vm

def tr (a : Nat → Nat → Int) : Nat → Nat → Int := fun i j => a j i
def ttr (A : TM) : TM := fun i j => A j i
theorem tr_DM (a : Nat → Nat → Int) : DM (tr a) = ttr (DM a) := rfl
theorem ttr_sup {n : Nat} {A : TM} (h : Sup n A) : Sup n (ttr A) := fun i j hij => h j i fun e => hij ⟨e.2, e.1⟩
theorem ttr_one (n : Nat) : ttr (tone n) = tone n := by
  funext i j
  unfold ttr tone
  by_cases h : i = j
  · subst h; rfl
  · rw [if_neg (fun e => h e.1.symm), if_neg (fun e => h e.1)]
theorem ttr_mul (n : Nat) (A B : TM) : ttr (tmul n A B) = tmul n (ttr B) (ttr A) := by
  funext i j
  exact sup_congr fun k _ => add_comm _ _
theorem ttr_pow {n : Nat} {A : TM} (h : Sup n A) : ∀ k, ttr (tpow n A k) = tpow n (ttr A) k
  | 0 => ttr_one n
  | k + 1 => by
    rw [tpow_left (ttr_sup h)]
    show ttr (tmul n (tpow n A k) A) = _
    rw [ttr_mul, ttr_pow h k]
theorem ttr_mx (A B : TM) : ttr (tmx A B) = tmx (ttr A) (ttr B) := rfl
theorem ttr_sum {n : Nat} {A : TM} (h : Sup n A) : ∀ k, ttr (tsum n A k) = tsum n (ttr A) k
  | 0 => ttr_one n
  | k + 1 => by
    show tmx (ttr (tsum n A k)) (ttr (tpow n A (k + 1))) = _
    rw [ttr_sum h k, ttr_pow h]; rfl
theorem MeanOf.tr {n : Nat} {A : TM} {p q : Int} (hs : Sup n A) (h : MeanOf n A p q) : MeanOf n (ttr A) p q := by
  refine ⟨h.pos, fun k i w hk hw => ?_, ?_⟩
  · rw [← ttr_pow hs] at hw; exact h.le k i w hk hw
  · obtain ⟨k, c, w, h1, h2, h3⟩ := h.eq
    exact ⟨k, c, w, h1, by rw [← ttr_pow hs]; exact h2, h3⟩

/-- Lowest terms are one. -/
theorem low_uniq {p q p' q' : Int} (h1 : 0 < q) (h2 : 0 < q') (g1 : Int.gcd p q = 1) (g2 : Int.gcd p' q' = 1) (e : p * q' = p' * q) : p = p' ∧ q = q' := by
  have e' : p.natAbs * q'.natAbs = p'.natAbs * q.natAbs := by rw [← Int.natAbs_mul, ← Int.natAbs_mul, e]
  have c1 : Nat.Coprime q.natAbs p.natAbs := by rw [Nat.coprime_comm]; exact g1
  have c2 : Nat.Coprime q'.natAbs p'.natAbs := by rw [Nat.coprime_comm]; exact g2
  have d1 : q.natAbs ∣ q'.natAbs := c1.dvd_of_dvd_mul_left ⟨p'.natAbs, by rw [e', Nat.mul_comm]⟩
  have d2 : q'.natAbs ∣ q.natAbs := c2.dvd_of_dvd_mul_left ⟨p.natAbs, by rw [← e', Nat.mul_comm]⟩
  have hqn := Nat.dvd_antisymm d1 d2
  have hq : q = q' := by omega
  subst hq
  exact ⟨Int.eq_of_mul_eq_mul_right (by omega) e, rfl⟩

theorem Small.tr {n : Nat} {a : Nat → Nat → Int} (h : Small n a) : Small n (tr a) := ⟨h.n1, h.n6, fun i j => h.ga j i, ttr_sup h.sup⟩
/-- Means of matrices whose closed paths are alike. -/
theorem Small.mean_eq {n : Nat} {a b : Nat → Nat → Int} (h : Small n a) (h' : Small n b) (hab : ∀ p q, MeanOf n (DM a) p q → MeanOf n (DM b) p q) (hba : ∀ p q, MeanOf n (DM b) p q → MeanOf n (DM a) p q) : meanI n b = meanI n a := by
  cases h1 : meanI n a with
  | none =>
    cases h2 : meanI n b with
    | none => rfl
    | some m =>
      obtain ⟨k, c, w, h3, h4, _⟩ := (hba m.1 m.2 (h'.mean h2).1).eq
      rw [h.none h1 k c h3] at h4; cases h4
  | some m =>
    cases h2 : meanI n b with
    | none =>
      obtain ⟨k, c, w, h3, h4, _⟩ := (hab m.1 m.2 (h.mean h1).1).eq
      rw [h'.none h2 k c h3] at h4; cases h4
    | some m' =>
      obtain ⟨a1, a2, a3, _⟩ := h.mean (p := m.1) (q := m.2) h1
      obtain ⟨b1, b2, b3, _⟩ := h'.mean (p := m'.1) (q := m'.2) h2
      obtain ⟨e1, e2⟩ := low_uniq b3.1 a3.1 b2 a2 ((hba _ _ b1).uniq a1)
      rw [show m' = m from Prod.ext e1 e2]
theorem Small.mean_tr {n : Nat} {a : Nat → Nat → Int} (h : Small n a) : meanI n (Cy.tr a) = meanI n a :=
  h.mean_eq h.tr (fun _ _ hm => hm.tr h.sup) (fun _ _ hm => by
    have := hm.tr (ttr_sup h.sup)
    exact this)
theorem gain_tr (a : Nat → Nat → Int) (p q : Int) : gainI (tr a) p q = tr (gainI a p q) := rfl
theorem pw_tr {n : Nat} {a : Nat → Nat → Int} {b : Int} (ha : GoodM b a) (hb : 0 ≤ b) (hs : Sup n (DM a)) {k : Nat} (hk : (k : Int) * b ≤ 1000000000000) : pwI n (tr a) k = tr (pwI n a k) := by
  refine DM_inj ?_
  rw [pw_dec (a := tr a) (fun i j => ha j i) hb hk, tr_DM, tr_DM, pw_dec ha hb hk, ttr_pow hs]
theorem ways_tr {n : Nat} {a : Nat → Nat → Int} {b : Int} (ha : GoodM b a) (hb : 0 ≤ b) (hs : Sup n (DM a)) (hB : b ≤ 1000000000000) (hB2 : ((n - 1 : Nat) : Int) * b ≤ 1000000000000) : waysI n (tr a) = tr (waysI n a) := by
  refine DM_inj ?_
  rw [ways_dec (a := tr a) (fun i j => ha j i) hb (ttr_sup hs) hB hB2, tr_DM, tr_DM, ways_dec ha hb hs hB hB2]
  exact (ttr_sum hs (n - 1)).symm
theorem GSt.len_tr {n : Nat} {g : Nat → Nat → Int} (h : GSt n g) : ∀ k, k ≤ 100 → ∀ i, lenI n (Cy.tr g) k i = lenI n g k i
  | 0, _, _ => rfl
  | k + 1, hk, i => by
    have e : pwI n (Cy.tr g) (k + 1) i i = pwI n g (k + 1) i i := by rw [pw_tr h.gd (by omega) h.sup (by omega)]; rfl
    unfold lenI
    rw [e, h.len_tr k (by omega) i]
theorem GSt.cyc_tr {n : Nat} {g : Nat → Nat → Int} (h : GSt n g) : cycI n (Cy.tr g) = cycI n g := by
  unfold cycI
  rw [show lenI n (Cy.tr g) (3 * n) = lenI n g (3 * n) from funext fun i => h.len_tr _ (by have := h.n6; omega) i]
theorem genM_tr {n : Nat} {f g : Nat → Nat → Int} : genM n n (tr f) = genM n n (tr g) ↔ genM n n f = genM n n g :=
  ⟨fun h => genM_eq fun i hi j hj => genM_ext h j hj i hi, fun h => genM_eq fun i hi j hj => genM_ext h j hj i hi⟩
theorem find_congr {α : Type} {f g : α → Bool} : ∀ {l : List α}, (∀ k, k ∈ l → f k = g k) → l.find? f = l.find? g
  | [], _ => rfl
  | x :: l, h => by rw [List.find?_cons, List.find?_cons, h x (by simp), find_congr fun k hk => h k (by simp [hk])]
theorem GSt.eq_tr {n : Nat} {g : Nat → Nat → Int} (h : GSt n g) {k : Nat} (hk : k < 401) : eqK n (Cy.tr g) (cycI n (Cy.tr g)) k = eqK n g (cycI n g) k := by
  rw [h.cyc_tr]
  unfold eqK
  have e1 := pw_tr h.gd (by omega) h.sup (k := k) (by omega)
  have e2 := pw_tr h.gd (by omega) h.sup (k := k - cycI n g) (by omega)
  rw [e1, e2]
  congr 1
  exact decide_eq_decide.2 genM_tr
theorem GSt.rep_tr {n : Nat} {g : Nat → Nat → Int} (h : GSt n g) : repK n (Cy.tr g) = repK n g :=
  find_congr fun _ hk => h.eq_tr (List.mem_range.1 hk)
theorem mf_gen {n : Nat} (f : Nat → Nat → Int) (i j : Nat) : mf (genM n n f) i j = if i < n ∧ j < n then f i j else Nv := by
  unfold mf genM
  by_cases hi : i < n
  · by_cases hj : j < n
    · rw [if_pos ⟨hi, hj⟩]; simp [hi, hj]
    · rw [if_neg (fun h => hj h.2)]; simp [hi, hj]
  · rw [if_neg (fun h => hi h.1)]; simp [hi]
theorem mf_out {m : List (List Int)} (h : Sup m.length (DM (mf m))) {i j : Nat} (hij : ¬ (i < m.length ∧ j < m.length)) : mf m i j = Nv := by
  have := h i j hij
  have h' : dec (mf m i j) = none := this
  unfold dec at h'
  split at h'
  · assumption
  · cases h'
/-- The transpose of a matrix that is given. -/
def trM (m : List (List Int)) : List (List Int) := genM m.length m.length (tr (mf m))
theorem trM_len (m : List (List Int)) : (trM m).length = m.length := genM_len _ _ _
theorem trM_mf {m : List (List Int)} (h : Small m.length (mf m)) : mf (trM m) = tr (mf m) := by
  funext i j
  unfold trM
  rw [mf_gen]
  split
  · rfl
  · rename_i hij
    exact (mf_out h.sup fun e => hij ⟨e.2, e.1⟩).symm
theorem trM_valid {m : List (List Int)} (h : validB 1000 m = true) : validB 1000 (trM m) = true := by
  obtain ⟨sm, _⟩ := Small.of h
  unfold validB
  rw [trM_len, decide_eq_true sm.n1, decide_eq_true sm.n6]
  simp only [Bool.true_and, List.all_eq_true]
  intro r hr
  obtain ⟨i, _, rfl⟩ := List.mem_map.1 hr
  unfold okRow
  simp only [Bool.and_eq_true, decide_eq_true_eq, List.all_eq_true]
  refine ⟨by simp, fun x hx => ?_⟩
  obtain ⟨j, _, rfl⟩ := List.mem_map.1 hx
  have := sm.ga j i
  unfold okX
  rcases this with h | h
  · rw [show tr (mf m) i j = Nv from h]; simp
  · have h1 : -1000 ≤ tr (mf m) i j := h.1
    have h2 : tr (mf m) i j ≤ 1000 := h.2
    simp [h1, h2]
end Go.Cy
namespace Go.Vm
open Go.RowKit Go.Cy

abbrev oslT (N id : Nat) : XV := .osl id 0 N 1 N false
structure TRows (N : Nat) (g : Nat → Nat → Int) (σ : List VObj) (x : XV) (ids : List Nat) : Prop where
  own : OwnK 1 σ x (ids.map (oslT N))
  row : ∀ k id, ids[k]? = some id → σ[id]? = some (⟨icells ((List.range N).map (g k)), 0⟩ : VObj)
  ne : ∀ id, id ∈ ids → idX x ≠ some id
def rowT (N : Nat) (g : Nat → Int) : DV := .sl ((List.range N).map fun j => DI (g j)) N none
def genT (N : Nat) (g : Nat → Nat → Int) (R : Nat) : DV := .sl ((List.range R).map fun k => rowT N (g k)) R none
section
variable {N : Nat} {g : Nat → Nat → Int} {σ σ1 : List VObj} {x x1 : XV} {ids : List Nat}
theorem TRows.zero : TRows N g σ (.d Dnil) [] := ⟨.nil, fun k id h => by simp at h, fun id h => by simp at h⟩
theorem TRows.lt (h : TRows N g σ x ids) {j : Nat} (hj : j ∈ ids ∨ idX x = some j) : j < σ.length := by
  rcases hj with hj | hj
  · obtain ⟨k, hk⟩ := List.mem_iff_getElem?.1 hj
    exact (List.getElem?_eq_some_iff.1 (h.row k j hk)).1
  · exact h.own.lt hj
theorem TRows.keep (h : TRows N g σ x ids) (hk : ∀ j, j < σ.length → (j ∈ ids ∨ idX x = some j) → σ1[j]? = σ[j]?) : TRows N g σ1 x ids :=
  ⟨h.own.keep fun j hj => hk j (h.lt (.inr hj)) (.inr hj), fun k id hid => by
    have hm := List.mem_of_getElem? hid
    rw [hk id (h.lt (.inl hm)) (.inl hm)]; exact h.row k id hid, h.ne⟩
theorem TRows.push (h : TRows N g σ x ids) {idr : Nat} {b : VObj} (hy : σ[idr]? = some ⟨icells ((List.range N).map (g ids.length)), 0⟩) (hne : idX x ≠ some idr)
    (ho : OwnK 1 σ1 x1 (ids.map (oslT N) ++ [oslT N idr])) (k1 : ∀ j, idX x ≠ some j → j < (σ ++ [b]).length → σ1[j]? = (σ ++ [b])[j]?) (w1 : ∃ j, idX x1 = some j ∧ (σ ++ [b]).length ≤ j) : TRows N g σ1 x1 (ids ++ [idr]) := by
  obtain ⟨j1, e1, l1⟩ := w1
  simp only [List.length_append, List.length_cons, List.length_nil] at l1
  have hlt := (List.getElem?_eq_some_iff.1 hy).1
  have keep : ∀ j, j < σ.length → idX x ≠ some j → σ1[j]? = σ[j]? := fun j hj hx => by
    rw [k1 j hx (by simp; omega), List.getElem?_append_left hj]
  refine ⟨by rw [List.map_append]; exact ho, fun k id hk => ?_, fun id hid => ?_⟩
  · by_cases hk2 : k < ids.length
    · rw [List.getElem?_append_left hk2] at hk
      have hm := List.mem_of_getElem? hk
      rw [keep id (h.lt (.inl hm)) (h.ne id hm)]
      exact h.row k id hk
    · rw [List.getElem?_append_right (by omega)] at hk
      have hk3 : k = ids.length := by
        by_cases e : k - ids.length = 0
        · omega
        · rw [List.getElem?_eq_none (by simp; omega)] at hk; cases hk
      subst hk3
      simp at hk
      subst hk
      rw [keep idr hlt hne]; exact hy
  · rw [e1]
    rcases List.mem_append.1 hid with h3 | h3
    · have := h.lt (.inl h3)
      intro e; cases e; omega
    · simp at h3
      subst h3
      intro e; cases e; omega
theorem TRows.fin (h : TRows N g σ x ids) (h0 : 0 < ids.length) : deepen (freezeAll σ) 5 x = some (genT N g ids.length) := by
  obtain ⟨own, row, ne⟩ := h
  generalize hc : ids.map (oslT N) = cells at own
  cases own with
  | nil => have := congrArg List.length hc; rw [List.length_map, List.length_nil] at this; omega
  | @sl id k cells ho hn =>
    subst hc
    have hk : k = ids.length := by simp at hn; omega
    subst hk
    rw [deepen_osl (ob := ⟨ids.map (oslT N), 1⟩) (by simp [freezeAll, ho]) rfl (by simp), List.drop_zero, List.take_of_length_le (by simp)]
    have key : ∀ (l : List Nat) (m : Nat), (∀ k id, l[k]? = some id → σ[id]? = some (⟨icells ((List.range N).map (g (m + k))), 0⟩ : VObj)) → (l.map (oslT N)).mapM (deepen (freezeAll σ) 4) = some ((List.range' m l.length).map fun k => rowT N (g k)) := by
      intro l
      induction l with
      | nil => intro m _; rfl
      | cons i l ih =>
        intro m hl
        have h1 := hl 0 i rfl
        rw [Nat.add_zero] at h1
        rw [List.map_cons, List.mapM_cons, ih (m + 1) (fun k id hk => by rw [hl (k + 1) id hk, show m + (k + 1) = m + 1 + k by omega])]
        rw [show oslT N i = .osl i 0 N 1 N false from rfl, deepen_cells (k := 2) (R := N) (ds := (List.range N).map fun j => DI (g m j)) (by simp [freezeAll, h1]; rfl) (by simp [icells, Function.comp_def]) (by simp)]
        rfl
    rw [key ids 0 (fun k id hk => by rw [Nat.zero_add]; exact row k id hk)]
    simp [genT, List.range_eq_range']
theorem rowT_ints (f : Nat → Int) : Ints (rowT N f) ((List.range N).map f) := by
  have : Ints (.sl ((List.range N).map fun j => DI (f j)) ((List.range N).map f).length none) ((List.range N).map f) := .sl (by simp) fun i c x hc hx => by
    rw [List.getElem?_map] at hc hx
    cases h : (List.range N)[i]? with
    | none => rw [h] at hc; simp at hc
    | some r => rw [h] at hc hx; simp at hc hx; subst hc hx; rfl
  rw [show ((List.range N).map f).length = N by simp] at this
  exact this
theorem genT_mat {R : Nat} : Mat (genT N g R) (genM R N g) := by
  have : Mat (.sl ((List.range R).map fun k => rowT N (g k)) (genM R N g).length none) (genM R N g) := .sl (by simp [genM]) fun i c x hc hx => by
    rw [genM] at hx
    rw [List.getElem?_map] at hc hx
    cases h : (List.range R)[i]? with
    | none => rw [h] at hc; simp at hc
    | some r => rw [h] at hc hx; simp at hc hx; subst hc hx; exact rowT_ints _
  rw [show (genM R N g).length = R by simp [genM]] at this
  exact this
end
end Go.Vm
namespace Go.Vm
section
variable {P : Program} {σ : List VObj} {kn : Kn} {dst : Option Tmp} {ty : TypeId} {pos : String} {af : Array Edge} {g : Option (Nat × Bool)}
theorem K.extractX {x : Operand} {i : Nat} {xs : List XV} {c : XV} (hx : evK kn x = some (.tup xs)) (hc : xs[i]? = some c) : KEv P ⟨dst, .extract x i, ty, pos, af, g⟩ σ kn c σ 0 := ev_op fun env he => by
  have e1 := evK_evalX he hx
  unfold evalOp
  rw [litOp_none (x := x) (by simp [Op.operands]) (by rw [e1]; rfl)]
  simp [e1, opExtract, hc]
end
/-- A matrix of one's own. -/
def bO (N : Nat) (F : Nat → Nat → Int) : List VObj := ⟨(List.range N).map (oslL 0 N), 0⟩ :: (List.range N).map fun r => (⟨(List.range N).map fun j => .d (DI (F r j)), 0⟩ : VObj)
theorem bO_gP {N : Nat} {F : Nat → Nat → Int} : gP 0 N F N = bO N F := by
  simp [gP, bO, doneG, rowC, updL_full, rowF, Function.comp_def]
theorem bO_row {N : Nat} {F : Nat → Nat → Int} {r : Nat} (hr : r < N) : (bO N F)[0 + r + 1]? = some ⟨(List.range N).map fun j => .d (DI (F r j)), 0⟩ := by simp [bO, hr]
theorem bO_cell {N : Nat} {F : Nat → Nat → Int} {r j : Nat} (hj : j < N) : ((List.range N).map fun j => XV.d (DI (F r j)))[0 + j]? = some (.d (DI (F r j))) := by simp [hj]
theorem bO_out {N r : Nat} (hr : r < N) : ((List.range N).map (oslL 0 N))[0 + r]? = some (.osl (0 + r + 1) 0 N 1 N true) := by simp [hr, oslL]
theorem bO_set {N : Nat} {F G : Nat → Nat → Int} {r j : Nat} {v : Int} (hr : r < N) (hG : ∀ r', r' < N → ∀ j', j' < N → G r' j' = if r' = r ∧ j' = j then v else F r' j') :
    (bO N F).set (0 + r + 1) ⟨((List.range N).map fun j => XV.d (DI (F r j))).set (0 + j) (.d (DI v)), 0⟩ = bO N G := by
  unfold bO
  rw [List.set_cons_succ]
  congr 1
  refine List.ext_getElem (by simp) fun i h1 h2 => ?_
  simp only [List.length_map, List.length_range, List.length_set] at h1 h2
  rw [List.getElem_set]
  by_cases e : 0 + r = i
  · obtain rfl : r = i := by omega
    rw [if_pos e]
    simp only [List.getElem_map, List.getElem_range]
    congr 1
    refine List.ext_getElem (by simp) fun k h3 h4 => ?_
    simp only [List.length_set, List.length_map, List.length_range] at h3 h4
    rw [List.getElem_set]
    simp only [List.getElem_map, List.getElem_range]
    rw [hG r hr k h3]
    by_cases ek : 0 + j = k
    · rw [if_pos ek, if_pos ⟨rfl, by omega⟩]
    · rw [if_neg ek, if_neg (fun h => ek (by omega))]
  · rw [if_neg e]
    simp only [List.getElem_map, List.getElem_range]
    congr 1
    refine List.map_congr_left fun k hk => ?_
    rw [hG i h2 k (by simpa using hk), if_neg (fun h => e (by omega))]
theorem bO_fin {N : Nat} {F : Nat → Nat → Int} : deepen (freezeAll (bO N F)) 5 (.osl 0 0 N 1 N true) = some (genD N N F) := by
  have h := gP_fin (pre := []) (L := 0) (N := N) (f := F) rfl
  rw [bO_gP] at h
  exact h
end Go.Vm
namespace Go.Cy
open Go.Vm
/-- The greatest of the first powers. -/
def curI (n : Nat) (a : Nat → Nat → Int) : Nat → Nat → Nat → Int
  | 0 => oneI n
  | k + 1 => fun i j => max (curI n a k i j) (pwI n a (k + 1) i j)
theorem cur_good {n : Nat} {a : Nat → Nat → Int} {b : Int} (ha : GoodM b a) (hb : 0 ≤ b) : ∀ k : Nat, GoodM (k * b) (curI n a k)
  | 0 => one_good n (by omega)
  | k + 1 => fun i j => by
    have e : (((k + 1 : Nat) : Int) * b) = (k : Int) * b + b := by rw [Int.natCast_add, Int.add_mul]; simp
    exact max_good ((cur_good ha hb k i j).mono (by omega)) (pw_good ha hb (k + 1) i j)
theorem cur_dec {n : Nat} {a : Nat → Nat → Int} {b : Int} (ha : GoodM b a) (hb : 0 ≤ b) : ∀ {k : Nat}, (k : Int) * b ≤ 1000000000000 → DM (curI n a k) = tsum n (DM a) k
  | 0, _ => one_dec n
  | k + 1, h => by
    have e : (((k + 1 : Nat) : Int) * b) = (k : Int) * b + b := by rw [Int.natCast_add, Int.add_mul]; simp
    have hk : (k : Int) * b ≤ 1000000000000 := by omega
    funext i j
    show dec (max _ _) = omax _ _
    rw [max_dec ((cur_good (n := n) ha hb k i j).ge hk) ((pw_good (n := n) ha hb (k + 1) i j).ge h)]
    congr 1
    · exact congrFun (congrFun (cur_dec ha hb hk) i) j
    · exact congrFun (congrFun (pw_dec ha hb h) i) j
theorem Small.cur_ways {n : Nat} {a : Nat → Nat → Int} (h : Small n a) : curI n a (n - 1) = waysI n a := by
  have := h.n6
  refine DM_inj ?_
  rw [cur_dec h.ga (by omega) (by omega), ways_dec h.ga (by omega) h.sup (by omega) (by omega)]; rfl
theorem Small.pw_out {n : Nat} {a : Nat → Nat → Int} (h : Small n a) {k : Nat} (hk : k ≤ 1000) (i j : Nat) (hij : ¬ (i < n ∧ j < n)) : pwI n a k i j = Nv := by
  have e : dec (pwI n a k i j) = Option.none := by
    show DM (pwI n a k) i j = Option.none
    rw [pw_dec h.ga (by omega) (by omega)]; exact tpow_sup h.sup k i j hij
  unfold dec at e
  split at e
  · assumption
  · cases e
theorem mf_pw {n : Nat} {a : Nat → Nat → Int} (h : Small n a) {k : Nat} (hk : k ≤ 1000) : mf (genM n n (pwI n a k)) = pwI n a k := by
  funext i j
  rw [mf_gen]
  split
  · rfl
  · rename_i hij; exact (h.pw_out hk i j hij).symm
theorem valid_gen {n : Nat} {L : Int} {f : Nat → Nat → Int} (h1 : 1 ≤ n) (h6 : n ≤ 6) (hf : GoodM L f) : validB L (genM n n f) = true := by
  unfold validB
  rw [genM_len, decide_eq_true h1, decide_eq_true h6]
  simp only [Bool.true_and, List.all_eq_true]
  intro r hr
  obtain ⟨i, _, rfl⟩ := List.mem_map.1 hr
  unfold okRow
  simp only [Bool.and_eq_true, decide_eq_true_eq, List.all_eq_true]
  refine ⟨by simp, fun x hx => ?_⟩
  obtain ⟨j, _, rfl⟩ := List.mem_map.1 hx
  unfold okX
  rcases hf i j with h | h
  · rw [h]; simp
  · simp [h.1, h.2]
theorem Small.pw_mul {n : Nat} {a : Nat → Nat → Int} (h : Small n a) {j k : Nat} (hj : j ≤ 400) (hk : k ≤ 400) : prodI n (pwI n a j) (pwI n a k) = pwI n a (j + k) := by
  refine DM_inj ?_
  rw [prod_dec (pw_good h.ga (by omega) j) (pw_good h.ga (by omega) k) (by omega), pw_dec h.ga (by omega) (by omega), pw_dec h.ga (by omega) (by omega), pw_dec h.ga (by omega) (by omega), tpow_add h.sup]
end Go.Cy

