import Derived.Test.YtdgahcbalabjdaaGreatCyN
section
/-
  Batch: an order has no cycle exactly if the matrix of its arcs has no mean (pure).
-/
namespace Go.Ba
open Go.Vm Go.Cy

/-- The matrix of arcs, each with the value 0. -/
def jn (arcs : List (Int × Int)) (i j : Nat) : Int := if ((i : Int), (j : Int)) ∈ arcs then 0 else Nv
theorem jn_good (arcs : List (Int × Int)) : GoodM 0 (jn arcs) := fun i j => by
  unfold jn; split
  · exact .inr ⟨by omega, by omega⟩
  · exact .inl rfl
theorem jn_some {arcs : List (Int × Int)} {i j : Nat} {w : Int} (h : DM (jn arcs) i j = some w) : ((i : Int), (j : Int)) ∈ arcs ∧ w = 0 := by
  unfold DM jn at h
  split at h
  · rename_i hm
    refine ⟨hm, ?_⟩
    rw [dec_some (by decide)] at h
    exact (Option.some.inj h).symm
  · rw [dec_nv] at h; cases h
theorem jn_arc {arcs : List (Int × Int)} {i j : Nat} (h : ((i : Int), (j : Int)) ∈ arcs) : DM (jn arcs) i j = some 0 := by
  unfold DM jn
  rw [if_pos h, dec_some (by decide)]
theorem jn_sup {n m : Nat} {arcs : List (Int × Int)} (h : ArcsIn m arcs) (hm : m ≤ n) : Sup n (DM (jn arcs)) := fun i j hij => by
  cases hw : DM (jn arcs) i j with
  | none => rfl
  | some w =>
    have := h _ (jn_some hw).1
    simp only at this
    exact absurd ⟨by omega, by omega⟩ hij
theorem jn_pow {n : Nat} {arcs : List (Int × Int)} {φ : Int → Int} (hφ : ∀ a ∈ arcs, φ a.1 < φ a.2) : ∀ (k : Nat) {i j : Nat} {w : Int}, tpow n (DM (jn arcs)) k i j = some w → φ (i : Nat) + k ≤ φ (j : Nat)
  | 0, i, j, w, h => by
    have h : tone n i j = some w := h
    unfold tone at h
    split at h
    · rename_i he; rw [he.1]; simp
    · cases h
  | k + 1, i, j, w, h => by
    obtain ⟨l, x, y, hl, hx, hy, _⟩ := mul_some (A := tpow n (DM (jn arcs)) k) (B := DM (jn arcs)) h
    have h1 := jn_pow hφ k hx
    have h2 := hφ _ (jn_some hy).1
    simp only at h2
    omega
theorem first_not {p : Nat → Prop} : ∀ {n : Nat}, ¬ p n → ∃ m, ¬ p m ∧ ∀ k, k < m → p k
  | 0, h => ⟨0, h, fun k hk => by omega⟩
  | n + 1, h => by
    by_cases hn : p n
    · by_cases hall : ∀ k, k < n + 1 → p k
      · exact ⟨n + 1, h, hall⟩
      · have ⟨k, hk⟩ := Classical.not_forall.1 hall
        have ⟨hk1, hk2⟩ := Classical.not_imp.1 hk
        exact first_not_lt k n hk1 hk2
    · exact first_not hn
where
  first_not_lt {p : Nat → Prop} (k n : Nat) (h1 : k < n + 1) (h2 : ¬ p k) : ∃ m, ¬ p m ∧ ∀ k, k < m → p k := by
    induction k using Nat.strongRecOn with
    | _ k ih =>
      by_cases hall : ∀ l, l < k → p l
      · exact ⟨k, h2, hall⟩
      · have ⟨l, hl⟩ := Classical.not_forall.1 hall
        have ⟨hl1, hl2⟩ := Classical.not_imp.1 hl
        exact ih l hl1 (by omega) hl2
/-- No closed path: then there are times. -/
theorem hds_of_open {n : Nat} {os arcs : List (Int × Int)} (h1 : 1 ≤ os.length) (hin : ArcsIn os.length arcs) (hn : os.length ≤ n) {A : TM} (hs : Sup n A) (hA : ∀ a ∈ arcs, ∃ w, A a.1.toNat a.2.toNat = some w)
    (h : ∀ k c, 0 < k → tpow n A k c c = none) : ∃ hs, hds os arcs = some hs := by
  have hd : ∀ j, ¬ ∃ x, dk n A n j = some x := fun j ⟨x, hx⟩ => by
    obtain ⟨k, c, w, hk, hw⟩ := closed_of_dk hs hx
    rw [h k c hk] at hw; cases hw
  have hex : ∀ j : Nat, ∃ m, (¬ ∃ x, dk n A m j = some x) ∧ ∀ k, k < m → ∃ x, dk n A k j = some x := fun j => first_not (p := fun k => ∃ x, dk n A k j = some x) (hd j)
  refine hds_some (fun i => ((Classical.choose (hex i.toNat) : Nat) : Int)) h1 hin fun a ha => ?_
  obtain ⟨i1, i2⟩ := Classical.choose_spec (hex a.1.toNat)
  obtain ⟨j1, j2⟩ := Classical.choose_spec (hex a.2.toNat)
  obtain ⟨a1, a2, a3, a4⟩ := hin a ha
  obtain ⟨w, hw⟩ := hA a ha
  generalize Classical.choose (hex a.1.toNat) = mi at *
  generalize Classical.choose (hex a.2.toNat) = mj at *
  by_cases hlt : mi < mj
  · omega
  · exfalso
    cases mj with
    | zero => exact j1 ⟨0, dk_zero (by omega)⟩
    | succ k =>
      obtain ⟨x, hx⟩ := i2 k (by omega)
      refine j1 ?_
      rw [dk_succ]
      obtain ⟨y, hy, _⟩ := sup_ge (f := fun i => oadd (dk n A k i) (A i a.2.toNat)) (n := n) (k := a.1.toNat) (x := x + w) (by omega) (by simp only [hx, hw]; rfl)
      exact ⟨y, hy⟩
theorem arc_nat {n : Nat} {arcs : List (Int × Int)} (h : ArcsIn n arcs) {a : Int × Int} (ha : a ∈ arcs) : (((a.1.toNat : Nat) : Int), ((a.2.toNat : Nat) : Int)) = a := by
  obtain ⟨a1, a2, a3, a4⟩ := h a ha
  have e1 : ((a.1.toNat : Nat) : Int) = a.1 := by omega
  have e2 : ((a.2.toNat : Nat) : Int) = a.2 := by omega
  rw [e1, e2]
/-- The matrix has no mean exactly if there are times. -/
theorem mean_iff {n : Nat} {os arcs : List (Int × Int)} (hT : Times os) (h1 : 1 ≤ os.length) (hin : ArcsIn os.length arcs) (hn : os.length ≤ n) : meanI n (jn arcs) = none ↔ ∃ hs, hds os arcs = some hs := by
  have hs := jn_sup hin hn
  constructor
  · intro h
    refine hds_of_open h1 hin hn hs (fun a ha => ⟨0, jn_arc (by rw [arc_nat hin ha]; exact ha)⟩) ?_
    exact mean_none (b := 0) (by omega) (jn_good arcs) (by omega) hs (by omega) h
  · rintro ⟨r, hr⟩
    cases hm : meanI n (jn arcs) with
    | none => rfl
    | some m =>
      exfalso
      have hM := (mean_some (b := 0) (by omega) (jn_good arcs) (by omega) hs (by omega) hm).1
      obtain ⟨k, c, w, hk, hw, _⟩ := hM.eq
      have hS := hds_sol hT hin hr
      have := jn_pow (φ := gt r) (fun a ha => by
        have := hS.arc a ha
        have := tm_bd hT (hin a ha).1 (hin a ha).2.1
        omega) k hw
      omega
end Go.Ba

end
section
/-
  Batch: the start of an operation is the greatest element of its column in the star (pure).
-/
namespace Go.Ba
open Go.Vm Go.Cy

/-- The matrix of arcs, each with the Time of its first operation. -/
def wI (os arcs : List (Int × Int)) (i j : Nat) : Int := if ((i : Int), (j : Int)) ∈ arcs then tm os i else Nv
end Go.Ba

end
section
/-
  EIGENVECTORS: a critical node, and the equation.
-/
namespace Go.Cy
open Go.Vm

theorem tpow_left {n : Nat} {A : TM} (hs : Sup n A) (k : Nat) : tpow n A (k + 1) = tmul n A (tpow n A k) := by
  rw [Nat.add_comm, tpow_add hs 1 k, tpow_one hs]
theorem star_zero {n : Nat} {A : TM} (hs : Sup n A) (hp : NP n A) {c : Nat} (hc : c < n) : star n A c c = some 0 := by
  obtain ⟨w, h1, h2⟩ := star_ge hs hp (k := 0) (i := c) (j := c) (w := 0) (by show tone n c c = _; unfold tone; rw [if_pos ⟨rfl, hc⟩])
  obtain ⟨k, hk⟩ := star_some h1
  by_cases h0 : k = 0
  · subst h0
    have hk' : tone n c c = some w := hk
    unfold tone at hk'
    rw [if_pos ⟨rfl, hc⟩] at hk'
    rw [h1, hk']
  · have := hp k c (by omega) w hk
    rw [h1, show w = 0 by omega]
/-- A node on a closed path of weight 0. -/
def Crit (n : Nat) (A : TM) (c : Nat) : Prop := tmul n A (star n A) c c = some 0
/-- THE EIGENVECTOR: the best ways to a critical node solve the equation. -/
theorem eig_eq {n : Nat} {A : TM} (hs : Sup n A) (hp : NP n A) {c : Nat} (hc : c < n) (hcr : Crit n A c) (i : Nat) : tmul n A (star n A) i c = star n A i c := by
  have hle : ∀ w, tmul n A (star n A) i c = some w → ∃ w', star n A i c = some w' ∧ w ≤ w' := by
    intro w hw
    obtain ⟨l, x, y, hl, hx, hy, rfl⟩ := mul_some hw
    obtain ⟨k, hk⟩ := star_some hy
    obtain ⟨w2, g1, g2⟩ := mul_ge (n := n) (B := tpow n A k) hl hx hk
    rw [← tpow_left hs] at g1
    obtain ⟨w3, g3, g4⟩ := star_ge hs hp g1
    exact ⟨w3, g3, by omega⟩
  have hge : ∀ w, star n A i c = some w → ∃ w', tmul n A (star n A) i c = some w' ∧ w ≤ w' := by
    intro w hw
    by_cases e : i = c
    · subst e
      rw [star_zero hs hp hc] at hw
      cases hw
      exact ⟨0, hcr, Int.le_refl _⟩
    · obtain ⟨k, hk⟩ := star_some hw
      cases k with
      | zero =>
        have hk' : tone n i c = some w := hk
        unfold tone at hk'
        rw [if_neg (fun h => e h.1)] at hk'; cases hk'
      | succ k =>
        rw [tpow_left hs] at hk
        obtain ⟨l, x, y, hl, hx, hy, rfl⟩ := mul_some hk
        obtain ⟨y', h1, h2⟩ := star_ge hs hp hy
        obtain ⟨w', h3, h4⟩ := mul_ge (B := star n A) hl hx h1
        exact ⟨w', h3, by omega⟩
  cases h1 : tmul n A (star n A) i c with
  | none =>
    cases h2 : star n A i c with
    | none => rfl
    | some w => obtain ⟨w', h3, _⟩ := hge w h2; rw [h1] at h3; cases h3
  | some w =>
    obtain ⟨w', h3, h4⟩ := hle w h1
    obtain ⟨w2, h5, h6⟩ := hge w' h3
    rw [h1] at h5; cases h5
    rw [h3, show w = w' by omega]

/-- Where x is first. -/
def idxI : List Int → Int → Int → Int
  | [], _, _ => -1
  | y :: l, x, i => if x = y then i else idxI l x (i + 1)
/-- What is known of a gain matrix. -/
structure GSt (n : Nat) (g : Nat → Nat → Int) : Prop where
  n1 : 1 ≤ n
  n6 : n ≤ 6
  gd : GoodM 12000 g
  sup : Sup n (DM g)
  np : NP n (DM g)
  zero : ∃ L c, 0 < L ∧ tpow n (DM g) L c c = some 0
theorem GSt.ways {n : Nat} {g : Nat → Nat → Int} (h : GSt n g) : DM (waysI n g) = star n (DM g) := ways_dec h.gd (by omega) h.sup (by omega) (by have := h.n6; omega)
/-- .. in numbers. -/
theorem GSt.eq {n : Nat} {g : Nat → Nat → Int} (h : GSt n g) {c : Nat} (hc : c < n) (hcr : Crit n (DM g) c) (hcon : ∀ i, i < n → waysI n g i c ≠ Nv) {i : Nat} (hi : i < n) :
    (∀ j, j < n → g i j ≠ Nv → g i j + waysI n g j c ≤ waysI n g i c) ∧ ∃ j, j < n ∧ g i j ≠ Nv ∧ g i j + waysI n g j c = waysI n g i c := by
  have e := eig_eq h.sup h.np hc hcr i
  have hS : ∀ j, j < n → star n (DM g) j c = some (waysI n g j c) := fun j hj => by
    rw [← h.ways]; exact dec_some (hcon j hj)
  rw [hS i hi] at e
  constructor
  · intro j hj hne
    obtain ⟨w, h1, h2⟩ := mul_ge (n := n) (A := DM g) (i := i) hj (dec_some hne) (hS j hj)
    rw [e] at h1; cases h1; exact h2
  · obtain ⟨l, x, y, hl, hx, hy, he⟩ := mul_some e
    rw [hS l hl] at hy
    cases hy
    have hx' : dec (g i l) = some x := hx
    unfold dec at hx'
    split at hx'
    · cases hx'
    · rename_i hne
      cases hx'
      exact ⟨l, hl, hne, by omega⟩
end Go.Cy
namespace Go.Cy
open Go.Vm

end Go.Cy

end
section
/-
  TRANSPOSES: the mean, the powers, the ways and the period are those of the matrix.
-/
namespace Go.Cy
open Go.Vm

end Go.Cy
namespace Go.Vm
open Go.RowKit Go.Cy

abbrev oslT (N id : Nat) : XV := .osl id 0 N 1 N false
structure TRows (N : Nat) (g : Nat → Nat → Int) (σ : List VObj) (x : XV) (ids : List Nat) : Prop where
  own : OwnK 1 σ x (ids.map (oslT N))
  row : ∀ k id, ids[k]? = some id → σ[id]? = some (⟨icells ((List.range N).map (g k)), 0⟩ : VObj)
  ne : ∀ id, id ∈ ids → idX x ≠ some id
def rowT (N : Nat) (g : Nat → Int) : DV := .sl ((List.range N).map fun j => DI (g j)) N none
def genT (N : Nat) (g : Nat → Nat → Int) (R : Nat) : DV := .sl ((List.range R).map fun k => rowT N (g k)) R none
section
variable {N : Nat} {g : Nat → Nat → Int} {σ σ1 : List VObj} {x x1 : XV} {ids : List Nat}
theorem TRows.zero : TRows N g σ (.d Dnil) [] := ⟨.nil, fun k id h => by simp at h, fun id h => by simp at h⟩
theorem TRows.lt (h : TRows N g σ x ids) {j : Nat} (hj : j ∈ ids ∨ idX x = some j) : j < σ.length := by
  rcases hj with hj | hj
  · obtain ⟨k, hk⟩ := List.mem_iff_getElem?.1 hj
    exact (List.getElem?_eq_some_iff.1 (h.row k j hk)).1
  · exact h.own.lt hj
theorem TRows.keep (h : TRows N g σ x ids) (hk : ∀ j, j < σ.length → (j ∈ ids ∨ idX x = some j) → σ1[j]? = σ[j]?) : TRows N g σ1 x ids :=
  ⟨h.own.keep fun j hj => hk j (h.lt (.inr hj)) (.inr hj), fun k id hid => by
    have hm := List.mem_of_getElem? hid
    rw [hk id (h.lt (.inl hm)) (.inl hm)]; exact h.row k id hid, h.ne⟩
theorem TRows.push (h : TRows N g σ x ids) {idr : Nat} {b : VObj} (hy : σ[idr]? = some ⟨icells ((List.range N).map (g ids.length)), 0⟩) (hne : idX x ≠ some idr)
    (ho : OwnK 1 σ1 x1 (ids.map (oslT N) ++ [oslT N idr])) (k1 : ∀ j, idX x ≠ some j → j < (σ ++ [b]).length → σ1[j]? = (σ ++ [b])[j]?) (w1 : ∃ j, idX x1 = some j ∧ (σ ++ [b]).length ≤ j) : TRows N g σ1 x1 (ids ++ [idr]) := by
  obtain ⟨j1, e1, l1⟩ := w1
  simp only [List.length_append, List.length_cons, List.length_nil] at l1
  have hlt := (List.getElem?_eq_some_iff.1 hy).1
  have keep : ∀ j, j < σ.length → idX x ≠ some j → σ1[j]? = σ[j]? := fun j hj hx => by
    rw [k1 j hx (by simp; omega), List.getElem?_append_left hj]
  refine ⟨by rw [List.map_append]; exact ho, fun k id hk => ?_, fun id hid => ?_⟩
  · by_cases hk2 : k < ids.length
    · rw [List.getElem?_append_left hk2] at hk
      have hm := List.mem_of_getElem? hk
      rw [keep id (h.lt (.inl hm)) (h.ne id hm)]
      exact h.row k id hk
    · rw [List.getElem?_append_right (by omega)] at hk
      have hk3 : k = ids.length := by
        by_cases e : k - ids.length = 0
        · omega
        · rw [List.getElem?_eq_none (by simp; omega)] at hk; cases hk
      subst hk3
      simp at hk
      subst hk
      rw [keep idr hlt hne]; exact hy
  · rw [e1]
    rcases List.mem_append.1 hid with h3 | h3
    · have := h.lt (.inl h3)
      intro e; cases e; omega
    · simp at h3
      subst h3
      intro e; cases e; omega
theorem TRows.fin (h : TRows N g σ x ids) (h0 : 0 < ids.length) : deepen (freezeAll σ) 5 x = some (genT N g ids.length) := by
  obtain ⟨own, row, ne⟩ := h
  generalize hc : ids.map (oslT N) = cells at own
  cases own with
  | nil => have := congrArg List.length hc; rw [List.length_map, List.length_nil] at this; omega
  | @sl id k cells ho hn =>
    subst hc
    have hk : k = ids.length := by simp at hn; omega
    subst hk
    rw [deepen_osl (ob := ⟨ids.map (oslT N), 1⟩) (by simp [freezeAll, ho]) rfl (by simp), List.drop_zero, List.take_of_length_le (by simp)]
    have key : ∀ (l : List Nat) (m : Nat), (∀ k id, l[k]? = some id → σ[id]? = some (⟨icells ((List.range N).map (g (m + k))), 0⟩ : VObj)) → (l.map (oslT N)).mapM (deepen (freezeAll σ) 4) = some ((List.range' m l.length).map fun k => rowT N (g k)) := by
      intro l
      induction l with
      | nil => intro m _; rfl
      | cons i l ih =>
        intro m hl
        have h1 := hl 0 i rfl
        rw [Nat.add_zero] at h1
        rw [List.map_cons, List.mapM_cons, ih (m + 1) (fun k id hk => by rw [hl (k + 1) id hk, show m + (k + 1) = m + 1 + k by omega])]
        rw [show oslT N i = .osl i 0 N 1 N false from rfl, deepen_cells (k := 2) (R := N) (ds := (List.range N).map fun j => DI (g m j)) (by simp [freezeAll, h1]; rfl) (by simp [icells, Function.comp_def]) (by simp)]
        rfl
    rw [key ids 0 (fun k id hk => by rw [Nat.zero_add]; exact row k id hk)]
    simp [genT, List.range_eq_range']
end
end Go.Vm
namespace Go.Vm
section
variable {P : Program} {σ : List VObj} {kn : Kn} {dst : Option Tmp} {ty : TypeId} {pos : String} {af : Array Edge} {g : Option (Nat × Bool)}
end
/-- A matrix of one's own. -/
def bO (N : Nat) (F : Nat → Nat → Int) : List VObj := ⟨(List.range N).map (oslL 0 N), 0⟩ :: (List.range N).map fun r => (⟨(List.range N).map fun j => .d (DI (F r j)), 0⟩ : VObj)
theorem bO_gP {N : Nat} {F : Nat → Nat → Int} : gP 0 N F N = bO N F := by
  simp [gP, bO, doneG, rowC, updL_full, rowF]
theorem bO_row {N : Nat} {F : Nat → Nat → Int} {r : Nat} (hr : r < N) : (bO N F)[0 + r + 1]? = some ⟨(List.range N).map fun j => .d (DI (F r j)), 0⟩ := by simp [bO, hr]
theorem bO_cell {N : Nat} {F : Nat → Nat → Int} {r j : Nat} (hj : j < N) : ((List.range N).map fun j => XV.d (DI (F r j)))[0 + j]? = some (.d (DI (F r j))) := by simp [hj]
theorem bO_out {N r : Nat} (hr : r < N) : ((List.range N).map (oslL 0 N))[0 + r]? = some (.osl (0 + r + 1) 0 N 1 N true) := by simp [hr, oslL]
theorem bO_fin {N : Nat} {F : Nat → Nat → Int} : deepen (freezeAll (bO N F)) 5 (.osl 0 0 N 1 N true) = some (genD N N F) := by
  have h := gP_fin (pre := []) (L := 0) (N := N) (f := F) rfl
  rw [bO_gP] at h
  exact h
end Go.Vm
namespace Go.Cy
open Go.Vm
end Go.Cy

end
section
/-
  A matrix of one's own that is written among other objects; arcs with weight and delay.
-/
namespace Go.Vm
open Go.Cy
theorem deepen_app {τ : List VObj} {σ : List VObj} : ∀ (k : Nat) (x : XV) (d : DV), deepen σ k x = some d → deepen (σ ++ τ) k x = some d
  | 0, x, d, h => by simp [deepen] at h
  | k + 1, x, d, h => by
    have ih := deepen_app (τ := τ) (σ := σ) k
    cases x with
    | d y => exact h
    | osl id off len m lo ex =>
      simp only [deepen] at h ⊢
      cases ho : σ[id]? with
      | none => rw [ho] at h; cases h
      | some ob =>
        rw [ho] at h
        rw [get_left ho]
        simp only at h ⊢
        split at h
        · rename_i hc
          rw [if_pos hc]
          simp only [Option.map_eq_some_iff] at h ⊢
          obtain ⟨cs, h1, h2⟩ := h
          exact ⟨cs, mapM_mono ih h1, h2⟩
        · cases h
    | optr id off =>
      simp only [deepen] at h ⊢
      cases ho : σ[id]? with
      | none => rw [ho] at h; cases h
      | some ob =>
        rw [ho] at h
        rw [get_left ho]
        simp only at h ⊢
        split at h
        · rename_i hc
          rw [if_pos hc]
          simp only [Option.map_eq_some_iff] at h ⊢
          obtain ⟨cs, h1, h2⟩ := h
          exact ⟨cs, mapM_mono ih h1, h2⟩
        · cases h
    | tup xs =>
      simp only [deepen, Option.map_eq_some_iff] at h ⊢
      obtain ⟨cs, h1, h2⟩ := h
      exact ⟨cs, mapM_mono ih h1, h2⟩
    | agg xs =>
      simp only [deepen, Option.map_eq_some_iff] at h ⊢
      obtain ⟨cs, h1, h2⟩ := h
      exact ⟨cs, mapM_mono ih h1, h2⟩
    | fn f a b =>
      simp only [deepen] at h ⊢
      split at h
      · rename_i a' b' ha hb
        rw [mapM_mono ih ha, mapM_mono ih hb]; exact h
      · cases h
    | ifc t x =>
      simp only [deepen, Option.map_eq_some_iff] at h ⊢
      obtain ⟨y, h1, h2⟩ := h
      exact ⟨y, ih _ _ h1, h2⟩
    | omp id =>
      simp only [deepen] at h ⊢
      cases ho : σ[id]? with
      | none => rw [ho] at h; cases h
      | some ob =>
        rw [ho] at h
        rw [get_left ho]
        simp only at h ⊢
        split at h
        · rename_i hc
          rw [if_pos hc]
          split at h
          · simp only [Option.map_eq_some_iff] at h ⊢
            obtain ⟨cs, h1, h2⟩ := h
            exact ⟨cs, mapM_mono ih h1, h2⟩
          · cases h
        · cases h
    | yl _ => simp [deepen] at h
    | lp _ => simp [deepen] at h

/-- The first objects are a matrix. -/
structure BOk (N : Nat) (F : Nat → Nat → Int) (σ : List VObj) : Prop where
  out : σ[0]? = some ⟨(List.range N).map (oslL 0 N), 0⟩
  row : ∀ r, r < N → σ[0 + r + 1]? = some ⟨(List.range N).map fun j => .d (DI (F r j)), 0⟩
theorem BOk.of {N : Nat} {F : Nat → Nat → Int} (τ : List VObj) : BOk N F (bO N F ++ τ) := ⟨get_left rfl, fun _ hr => get_left (bO_row hr)⟩
theorem BOk.keep {N : Nat} {F : Nat → Nat → Int} {σ σ1 : List VObj} (h : BOk N F σ) (hk : ∀ j, j < σ.length → σ1[j]? = σ[j]?) : BOk N F σ1 :=
  ⟨(hk 0 (List.getElem?_eq_some_iff.1 h.out).1).trans h.out, fun r hr => (hk _ (List.getElem?_eq_some_iff.1 (h.row r hr)).1).trans (h.row r hr)⟩
theorem BOk.push {N : Nat} {F : Nat → Nat → Int} {σ : List VObj} (h : BOk N F σ) (τ : List VObj) : BOk N F (σ ++ τ) := h.keep fun _ hj => List.getElem?_append_left hj
theorem BOk.same {N : Nat} {F G : Nat → Nat → Int} {σ : List VObj} (h : BOk N F σ) (e : ∀ r, r < N → ∀ j, j < N → G r j = F r j) : BOk N G σ :=
  ⟨h.out, fun r hr => (h.row r hr).trans (by
    congr 2
    refine List.map_congr_left fun j hj => ?_
    rw [e r hr j (by simpa using hj)])⟩
theorem BOk.set {N : Nat} {F G : Nat → Nat → Int} {σ σ1 : List VObj} {r j : Nat} {v : Int} (h : BOk N F σ) (_ : r < N) (h1 : σ1[0 + r + 1]? = some ⟨((List.range N).map fun j => XV.d (DI (F r j))).set (0 + j) (.d (DI v)), 0⟩)
    (h2 : ∀ i, i ≠ 0 + r + 1 → σ1[i]? = σ[i]?) (hG : ∀ r', r' < N → ∀ j', j' < N → G r' j' = if r' = r ∧ j' = j then v else F r' j') : BOk N G σ1 := by
  refine ⟨(h2 0 (by omega)).trans h.out, fun r' hr' => ?_⟩
  by_cases e : r' = r
  · subst e
    rw [h1]
    congr 2
    refine List.ext_getElem (by simp) fun k h3 h4 => ?_
    simp only [List.length_set, List.length_map, List.length_range] at h3 h4
    rw [List.getElem_set]
    simp only [List.getElem_map, List.getElem_range]
    rw [hG r' hr' k h3]
    by_cases ek : 0 + j = k
    · rw [if_pos ek, if_pos ⟨rfl, by omega⟩]
    · rw [if_neg ek, if_neg (fun h => ek (by omega))]
  · rw [h2 _ (by omega), h.row r' hr']
    congr 2
    refine List.map_congr_left fun k hk => ?_
    rw [hG r' hr' k (by simpa using hk), if_neg (fun h => e h.1)]
theorem BOk.eq {N : Nat} {F : Nat → Nat → Int} {σ : List VObj} (h : BOk N F σ) : σ = bO N F ++ σ.drop (N + 1) := by
  have hlen : (bO N F).length = N + 1 := by simp [bO]
  refine List.ext_getElem? fun i => ?_
  by_cases hi : i < N + 1
  · rw [List.getElem?_append_left (by omega)]
    cases i with
    | zero => rw [h.out]; rfl
    | succ r =>
      have h1 := h.row r (by omega)
      have h2 := bO_row (N := N) (F := F) (r := r) (by omega)
      rw [Nat.zero_add] at h1 h2
      rw [h1, h2]
  · rw [List.getElem?_append_right (by omega), List.getElem?_drop, hlen]
    congr 1; omega
theorem BOk.fin {N : Nat} {F : Nat → Nat → Int} {σ : List VObj} (h : BOk N F σ) : deepen (freezeAll σ) 5 (.osl 0 0 N 1 N true) = some (genD N N F) := by
  have e := congrArg freezeAll h.eq
  have e2 : freezeAll (bO N F ++ σ.drop (N + 1)) = freezeAll (bO N F) ++ freezeAll (σ.drop (N + 1)) := by simp [freezeAll]
  rw [e, e2]
  exact deepen_app _ _ _ bO_fin
/-- An arc with weight and delay. -/
def c4 (q : Int × Int × Int × Int) : List DV := [DI q.1, DI q.2.1, DI q.2.2.1, DI q.2.2.2]
theorem c4_len (q : Int × Int × Int × Int) : (c4 q).length = 4 := rfl
def VQ (q : Int × Int × Int × Int) : Prop := (0 ≤ q.1 ∧ q.1 ≤ 11) ∧ (0 ≤ q.2.1 ∧ q.2.1 ≤ 11) ∧ (-1000 ≤ q.2.2.1 ∧ q.2.2.1 ≤ 1000) ∧ (0 ≤ q.2.2.2 ∧ q.2.2.2 ≤ 20)
def prq (q : Int × Int × Int × Int) : Int × Int := (q.1, q.2.1)
end Go.Vm
namespace Go.Ba
open Go.Vm Go.Cy
theorem jn_nil (i j : Nat) : jn [] i j = Nv := by simp [jn]
theorem jn_snoc {l : List (Int × Int)} {a : Int × Int} {r c : Nat} (h1 : (r : Int) = a.1) (h2 : (c : Int) = a.2) (i j : Nat) : jn (l ++ [a]) i j = if i = r ∧ j = c then 0 else jn l i j := by
  unfold jn
  by_cases e : i = r ∧ j = c
  · obtain ⟨rfl, rfl⟩ := e
    rw [if_pos (show i = i ∧ j = j from ⟨rfl, rfl⟩), if_pos]
    rw [List.mem_append]; right
    rw [List.mem_singleton, h1, h2]
  · rw [if_neg e]
    have : (((i : Int), (j : Int)) ∈ l ++ [a]) ↔ ((i : Int), (j : Int)) ∈ l := by
      rw [List.mem_append, List.mem_singleton]
      refine ⟨fun h => h.resolve_right fun h => e ?_, .inl⟩
      have e1 := congrArg Prod.fst h
      have e2 := congrArg Prod.snd h
      simp only at e1 e2
      omega
    simp only [this]
theorem jn_two (l : List (Int × Int)) (i j : Nat) : gre [jn l i j, 0] = 0 := by
  unfold jn
  split <;> decide
end Go.Ba

end
section
/-
  copy between own slices; a matrix of six own rows that is written.
-/
namespace Go.Vm
open Go.RowKit Go.Cy
section
variable {P : Program} {M : Nat → Prop} {W0 : World} {n : Nat} {σ : List VObj} {kn : Kn} {dst : Option Tmp} {ty : TypeId} {pos : String} {af : Array Edge} {g : Option (Nat × Bool)}
/-- copy of own cells into an own slice. -/
theorem K.copyO {a x : Operand} {ts : Array TypeId} {t e : TypeId} {id off len lo id2 off2 len2 lo2 m : Nat} {ex ex2 : Bool} {ob ob2 : VObj} {cs : List XV} {σ' : List VObj} (ha : evK kn a = some (.osl id off len 1 lo ex)) (hx : evK kn x = some (.osl id2 off2 len2 1 lo2 ex2)) (h0 : ts[0]? = some t)
    (ht : P.underlying t = some (.slice e)) (hs : sizeT P e = some 1) (ho : σ[id]? = some ob) (hm : ob.mode = 0) (ho2 : σ[id2]? = some ob2) (hm2 : ob2.mode < 2) (hf2 : off2 + len2 ≤ ob2.cells.length) (hl : 0 < len2) (hmin : min len2 len = m) (hf : off + m ≤ ob.cells.length)
    (h1 : ((ob2.cells.drop off2).take len2).all oneX = true) (hc : splice ob.cells off (((ob2.cells.drop off2).take len2).take m) = cs) (hσ : σ.set id ⟨cs, 0⟩ = σ') :
    KEv P ⟨dst, .call ⟨.builtin .copy, #[a, x], ts⟩, ty, pos, af, g⟩ σ kn (.d (DI (m : Nat))) σ' 2 := ev_op fun env he => by
  have e1 := evK_evalX he ha
  have e2 := evK_evalX he hx
  subst hmin hc hσ
  unfold evalOp
  rw [litOp_none (x := a) (by simp [Op.operands, Call.operands]) (by rw [e1]; rfl)]
  have hsrc : srcCells σ 1 (.osl id2 off2 len2 1 lo2 ex2) = some ((ob2.cells.drop off2).take len2, len2, 1) := by
    simp only [srcCells, ho2]
    rw [if_pos ⟨hm2, trivial, by omega⟩, Nat.mul_one]
  simp only [e1, e2, opCopy, h0, Option.bind_some, ht, hs, ho, hsrc]
  rw [if_pos ⟨trivial, hm, by omega, h1, hl⟩]
  simp
theorem set_last6 {σ : List VObj} {a b : VObj} : (σ ++ [a]).set σ.length b = σ ++ [b] := by
  rw [List.set_append_right _ _ (Nat.le_refl _), Nat.sub_self]; rfl
end
theorem RowsI.push {N : Nat} {g : Nat → Nat → Int} {σ σ1 : List VObj} {x x1 : XV} {ids : List Nat} (h : RowsI N g σ x ids) {idr : Nat} {b : VObj} (hy : σ[idr]? = some ⟨rowS N g ids.length, 0⟩) (hne : idX x ≠ some idr)
    (ho : OwnK 1 σ1 x1 (ids.map (oslI N) ++ [oslI N idr])) (k1 : ∀ j, idX x ≠ some j → j < (σ ++ [b]).length → σ1[j]? = (σ ++ [b])[j]?) (w1 : ∃ j, idX x1 = some j ∧ (σ ++ [b]).length ≤ j) : RowsI N g σ1 x1 (ids ++ [idr]) := by
  obtain ⟨j1, e1, l1⟩ := w1
  simp only [List.length_append, List.length_cons, List.length_nil] at l1
  have lr := (List.getElem?_eq_some_iff.1 hy).1
  have lt : ∀ id, id ∈ ids → id < σ.length := fun id hid => by
    obtain ⟨k, hk⟩ := List.mem_iff_getElem?.1 hid
    exact (List.getElem?_eq_some_iff.1 (h.row k id hk)).1
  have kk : ∀ id, id < σ.length → idX x ≠ some id → σ1[id]? = σ[id]? := fun id hl hn => by
    rw [k1 id hn (by simp; omega), List.getElem?_append_left hl]
  refine ⟨by rw [List.map_append]; exact ho, fun k id hk => ?_, fun id hid => ?_⟩
  · by_cases hk2 : k < ids.length
    · rw [List.getElem?_append_left hk2] at hk
      have hm := List.mem_of_getElem? hk
      rw [kk id (lt id hm) (h.ne id hm)]
      exact h.row k id hk
    · rw [List.getElem?_append_right (by omega)] at hk
      have hk3 : k = ids.length := by
        by_cases e : k - ids.length = 0
        · omega
        · rw [List.getElem?_eq_none (by simp; omega)] at hk; cases hk
      subst hk3
      simp at hk
      subst hk
      rw [kk _ lr hne]; exact hy
  · rw [e1]
    rcases List.mem_append.1 hid with h3 | h3
    · have := lt id h3
      intro e; cases e; omega
    · simp at h3
      subst h3
      intro e; cases e; omega
theorem RowsI.keep {N : Nat} {g : Nat → Nat → Int} {σ σ1 : List VObj} {x : XV} {ids : List Nat} (h : RowsI N g σ x ids) (hk : ∀ j, j < σ.length → σ1[j]? = σ[j]?) : RowsI N g σ1 x ids :=
  ⟨h.own.keep fun j hj => hk j (h.own.lt hj), fun k id hid => (hk id (List.getElem?_eq_some_iff.1 (h.row k id hid)).1).trans (h.row k id hid), h.ne⟩

/-- Six rows. -/
structure W6 (σ : List VObj) (oid : Nat) (ids : List Nat) (g : Nat → Nat → Int) : Prop where
  out : σ[oid]? = some ⟨ids.map (oslI 6), 0⟩
  len : ids.length = 6
  row : ∀ k id, ids[k]? = some id → σ[id]? = some (⟨rowS 6 g k, 0⟩ : VObj)
  ne : oid ∉ ids
  nd : ∀ k k' id : Nat, ids[k]? = some id → ids[k']? = some id → k = k'
theorem W6.keep {σ σ1 : List VObj} {oid : Nat} {ids : List Nat} {g : Nat → Nat → Int} (h : W6 σ oid ids g) (hk : ∀ j, j < σ.length → σ1[j]? = σ[j]?) : W6 σ1 oid ids g :=
  ⟨(hk _ (List.getElem?_eq_some_iff.1 h.out).1).trans h.out, h.len, fun k id hid => (hk id (List.getElem?_eq_some_iff.1 (h.row k id hid)).1).trans (h.row k id hid), h.ne, h.nd⟩
theorem W6.push {σ : List VObj} {oid : Nat} {ids : List Nat} {g : Nat → Nat → Int} (h : W6 σ oid ids g) (τ : List VObj) : W6 (σ ++ τ) oid ids g := h.keep fun _ hj => List.getElem?_append_left hj
theorem W6.id {σ : List VObj} {oid : Nat} {ids : List Nat} {g : Nat → Nat → Int} (h : W6 σ oid ids g) {r : Nat} (hr : r < 6) : ∃ id, ids[r]? = some id ∧ (ids.map (oslI 6))[0 + r]? = some (.osl id 0 6 1 6 true) ∧ σ[id]? = some ⟨rowS 6 g r, 0⟩ := by
  have hl : r < ids.length := by rw [h.len]; exact hr
  exact ⟨ids[r], List.getElem?_eq_getElem hl, by rw [Nat.zero_add, List.getElem?_map, List.getElem?_eq_getElem hl]; rfl, h.row r _ (List.getElem?_eq_getElem hl)⟩
theorem W6.put {σ σ1 : List VObj} {oid : Nat} {ids : List Nat} {g G : Nat → Nat → Int} (h : W6 σ oid ids g) {r j id : Nat} {v : Int} (hid : ids[r]? = some id) (h1 : σ1[id]? = some ⟨(rowS 6 g r).set (0 + j) (.d (DI v)), 0⟩) (h2 : ∀ i, i ≠ id → σ1[i]? = σ[i]?)
    (hG : ∀ r', r' < 6 → ∀ j', j' < 6 → G r' j' = if r' = r ∧ j' = j then v else g r' j') : W6 σ1 oid ids G := by
  have hm := List.mem_of_getElem? hid
  have hr : r < 6 := by have := (List.getElem?_eq_some_iff.1 hid).1; rw [h.len] at this; exact this
  refine ⟨(h2 oid fun e => h.ne (e ▸ hm)).trans h.out, h.len, fun k id' hk => ?_, h.ne, h.nd⟩
  have hk6 : k < 6 := by have := (List.getElem?_eq_some_iff.1 hk).1; rw [h.len] at this; exact this
  by_cases e : id' = id
  · subst e
    have := h.nd k r id' hk hid
    subst this
    rw [h1]
    congr 2
    unfold rowS
    refine List.ext_getElem (by simp) fun i h3 h4 => ?_
    simp only [List.length_set, List.length_map, List.length_range] at h3 h4
    rw [List.getElem_set]
    simp only [List.getElem_map, List.getElem_range]
    rw [hG k hr i h3]
    by_cases ek : 0 + j = i
    · rw [if_pos ek, if_pos ⟨rfl, by omega⟩]
    · rw [if_neg ek, if_neg (fun h => ek (by omega))]
  · have hkr : k ≠ r := fun e2 => by subst e2; rw [hk] at hid; exact e (Option.some.inj hid)
    rw [h2 id' e, h.row k id' hk]
    congr 2
    unfold rowS
    refine List.map_congr_left fun i hi => ?_
    rw [hG k hk6 i (by simpa using hi), if_neg (fun h => hkr h.1)]
theorem W6.same {σ : List VObj} {oid : Nat} {ids : List Nat} {g G : Nat → Nat → Int} (h : W6 σ oid ids g) (e : ∀ r, r < 6 → ∀ j, j < 6 → G r j = g r j) : W6 σ oid ids G :=
  ⟨h.out, h.len, fun k id hk => (h.row k id hk).trans (by
    have hk6 : k < 6 := by have := (List.getElem?_eq_some_iff.1 hk).1; rw [h.len] at this; exact this
    congr 2
    unfold rowS
    refine List.map_congr_left fun j hj => ?_
    rw [e k hk6 j (by simpa using hj)]), h.ne, h.nd⟩
theorem W6.rows {σ : List VObj} {oid : Nat} {ids : List Nat} {g : Nat → Nat → Int} (h : W6 σ oid ids g) : (ids.map (oslI 6)).mapM (deepen (freezeAll σ) 4) = some ((List.range 6).map fun k => rowG 6 (g k)) := by
  have key : ∀ (l : List Nat) (m : Nat), (∀ k id, l[k]? = some id → σ[id]? = some (⟨rowS 6 g (m + k), 0⟩ : VObj)) → (l.map (oslI 6)).mapM (deepen (freezeAll σ) 4) = some ((List.range' m l.length).map fun k => rowG 6 (g k)) := by
    intro l
    induction l with
    | nil => intro m _; rfl
    | cons i l ih =>
      intro m hl
      have h1 := hl 0 i rfl
      rw [Nat.add_zero] at h1
      rw [List.map_cons, List.mapM_cons, ih (m + 1) (fun k id hk => by rw [hl (k + 1) id hk, show m + (k + 1) = m + 1 + k by omega])]
      rw [show oslI 6 i = .osl i 0 6 1 6 true from rfl, deepen_cells (k := 2) (R := 6) (ds := (List.range 6).map fun j => DI (g m j)) (by simp [freezeAll, h1]; rfl) (by simp [rowS]) (by simp)]
      rfl
  rw [key ids 0 (fun k id hk => by rw [Nat.zero_add]; exact h.row k id hk), h.len, List.range_eq_range']
theorem W6.fin {σ : List VObj} {oid : Nat} {ids : List Nat} {g : Nat → Nat → Int} (h : W6 σ oid ids g) (ex : Bool) : deepen (freezeAll σ) 5 (.osl oid 0 6 1 6 ex) = some (if ex then genD 6 6 g else genS 6 g 6) := by
  rw [deepen_osl (ob := ⟨ids.map (oslI 6), 1⟩) (by simp [freezeAll, h.out]) rfl (by simp [h.len]), List.drop_zero, List.take_of_length_le (by simp [h.len]), h.rows]
  cases ex <;> rfl
theorem RowsI.w6 {g : Nat → Nat → Int} {σ : List VObj} {x : XV} {ids : List Nat} (h : RowsI 6 g σ x ids) (h6 : ids.length = 6) (nd : ∀ k k' id : Nat, ids[k]? = some id → ids[k']? = some id → k = k') : ∃ oid, x = .osl oid 0 6 1 6 false ∧ W6 σ oid ids g := by
  obtain ⟨own, row, ne⟩ := h
  generalize hc : ids.map (oslI 6) = cells at own
  cases own with
  | nil => have := congrArg List.length hc; rw [List.length_map, List.length_nil] at this; omega
  | @sl id k cells ho hn =>
    subst hc
    have hk : k = 6 := by simp at hn; omega
    subst hk
    exact ⟨id, rfl, ho, h6, row, fun hm => ne id hm rfl, nd⟩
theorem nd_snoc {ids : List Nat} {n : Nat} (h : ∀ k k' id : Nat, ids[k]? = some id → ids[k']? = some id → k = k') (hn : n ∉ ids) : ∀ k k' id : Nat, (ids ++ [n])[k]? = some id → (ids ++ [n])[k']? = some id → k = k' := by
  have key : ∀ k id : Nat, (ids ++ [n])[k]? = some id → ids[k]? = some id ∧ id ∈ ids ∨ k = ids.length ∧ id = n := fun k id hk => by
    by_cases hk2 : k < ids.length
    · rw [List.getElem?_append_left hk2] at hk; exact .inl ⟨hk, List.mem_of_getElem? hk⟩
    · rw [List.getElem?_append_right (by omega)] at hk
      by_cases e : k - ids.length = 0
      · rw [e] at hk
        simp at hk
        exact .inr ⟨by omega, hk.symm⟩
      · rw [List.getElem?_eq_none (by simp; omega)] at hk; cases hk
  intro k k' id hk hk'
  rcases key k id hk with ⟨a, b⟩ | ⟨a, b⟩ <;> rcases key k' id hk' with ⟨c, d⟩ | ⟨c, d⟩
  · exact h k k' id a c
  · subst d; exact absurd b hn
  · subst b; exact absurd d hn
  · omega
end Go.Vm
namespace Go.Ba
open Go.Vm Go.Cy
theorem wI_nil (os : List (Int × Int)) (i j : Nat) : wI os [] i j = Nv := by simp [wI]
theorem wI_snoc {os l : List (Int × Int)} {a : Int × Int} {r c : Nat} (h1 : (r : Int) = a.1) (h2 : (c : Int) = a.2) (i j : Nat) : wI os (l ++ [a]) i j = if i = r ∧ j = c then tm os a.1 else wI os l i j := by
  unfold wI
  by_cases e : i = r ∧ j = c
  · obtain ⟨rfl, rfl⟩ := e
    rw [if_pos (show i = i ∧ j = j from ⟨rfl, rfl⟩), if_pos, h1]
    rw [List.mem_append]; right
    rw [List.mem_singleton, h1, h2]
  · rw [if_neg e]
    have : (((i : Int), (j : Int)) ∈ l ++ [a]) ↔ ((i : Int), (j : Int)) ∈ l := by
      rw [List.mem_append, List.mem_singleton]
      refine ⟨fun h => h.resolve_right fun h => e ?_, .inl⟩
      have e1 := congrArg Prod.fst h
      have e2 := congrArg Prod.snd h
      simp only at e1 e2
      omega
    simp only [this]
/-- An arc without delay. -/
def dq (os : List (Int × Int)) (a : Int × Int) : Int × Int × Int × Int := (a.1, a.2, tm os a.1, 0)
theorem dq_pr (os : List (Int × Int)) (ar : List (Int × Int)) : (ar.map (dq os)).map prq = ar := by
  rw [List.map_map]
  exact (List.map_congr_left fun a _ => rfl).trans (List.map_id ar)
end Go.Ba

end
