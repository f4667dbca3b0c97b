import Derived.Test.YtjfpeiioddfjcaaZnRa
/-
  ALL WAYS as values; a slice of values is appended to one of one's own.
-/
namespace Go.Vm
open Go.Zn
section
variable {P : Program} {n : Nat} {ops : Array Oper} {l : List Oper} {σ : List VObj} {kn : Kn} {dst : Option Tmp} {ty : TypeId} {pos : String} {af : Array Edge} {g : Option (Nat × Bool)} {R : List Nat → List VObj → Kn → Prop}
theorem KT.appS {t e : TypeId} {x y : Operand} {sx : XV} {ds : List DV} {len : Nat} {cap : Option Nat} {cells : List XV} {ex : Bool} {z : Value} (hg : guardK ops kn ⟨dst, .call ⟨.builtin .append, #[x, y], #[t, t]⟩, ty, pos, af, g⟩ = some true) (hd : dstOk n dst = true)
    (hx : evK kn x = some sx) (hy : evK kn y = some (.d (.sl ds len cap))) (hn0 : ds.length = len) (h0 : len ≠ 0) (h1v : (ds.map XV.d).all oneX = true) (hown : OwnE σ ex sx cells) (hlen : cells.length + len ≤ 1073741824)
    (ht : P.underlying t = some (.slice e)) (h1 : OneT P e z)
    (h : ∀ σ' x', OwnE σ' false x' (cells ++ ds.map .d) → (∀ j, idX sx ≠ some j → j < σ.length → σ'[j]? = σ[j]?) → (∃ j, idX x' = some j ∧ σ.length ≤ j) → KT P n ops l σ' (extK dst x' kn) (fun fls τ k => R (2 :: fls) τ k)) :
    KT P n ops (⟨dst, .call ⟨.builtin .append, #[x, y], #[t, t]⟩, ty, pos, af, g⟩ :: l) σ kn R := by
  subst hn0
  have hsrc : srcCells σ 1 (.d (.sl ds ds.length cap)) = some (ds.map .d, ds.length, 0) := by
    simp only [srcCells]
    rw [if_pos (by simp), Nat.mul_one, List.take_of_length_le (by simp)]
  have hz : (zeroT P e).map (·.cells.size) = some 1 := by rw [h1.zero]; simp [h1.cells]
  have hne : ds ≠ [] := fun e => h0 (by rw [e]; rfl)
  cases hown with
  | @sl id m cells ex ho hn =>
    have hm2 : m + ds.length ≤ 1073741824 := by omega
    have hno : ¬ m + ds.length ≤ m := by omega
    cases ex with
    | true =>
      refine KT.step hg hd (x := .osl σ.length 0 (m + ds.length) 1 (m + ds.length) false) (σ' := σ ++ [⟨cells ++ ds.map .d, 0⟩]) (fl := 2) (ev_op fun env he => ?_)
        (h _ _ (.sl (by simp) (by simp [hn])) (fun j _ hj => by rw [List.getElem?_append_left hj]) ⟨_, rfl, Nat.le_refl _⟩)
      have e1 := evK_evalX he hx
      have e2 := evK_evalX he hy
      unfold evalOp
      rw [litOp_none (x := x) (by simp [Op.operands, Call.operands]) (by rw [e1]; rfl)]
      have h1v' := h1v
      simp only [List.all_map] at h1v'
      simp [e1, e2, opAppend, ht, h1.size, hsrc, h1v', ho, growTo, h1.bytes, hz, hm2, hno, hn, h0, hne]
      exact List.take_of_length_le (by omega)
    | false =>
      refine KT.step hg hd (x := .osl σ.length 0 (m + ds.length) 1 (m + ds.length) false) (σ' := (σ.set id ⟨cells, 2⟩) ++ [⟨cells ++ ds.map .d, 0⟩]) (fl := 2) (ev_op fun env he => ?_)
        (h _ _ (.sl (by rw [List.getElem?_append_right (by simp)]; simp) (by simp [hn])) (fun j hj hlt => by
          rw [List.getElem?_append_left (by simpa using hlt), List.getElem?_set]
          rw [if_neg (fun e => hj (by rw [e]; rfl))]) ⟨_, rfl, Nat.le_refl _⟩)
      have e1 := evK_evalX he hx
      have e2 := evK_evalX he hy
      unfold evalOp
      rw [litOp_none (x := x) (by simp [Op.operands, Call.operands]) (by rw [e1]; rfl)]
      have h1v' := h1v
      simp only [List.all_map] at h1v'
      simp [e1, e2, opAppend, ht, h1.size, hsrc, h1v', ho, h1.bytes, hz, hm2, hno, hn, h0, hne]
end
def wDs (n : Nat) : Nat → List Nat → DV → List DV
  | 0, _, d => [d]
  | f + 1, q, d => d :: (List.range n).flatMap fun j => if j ∈ q then [] else wDs n f (q ++ [j]) (intsDV (zl (q ++ [j])))
def wDp (n f : Nat) (q : List Nat) (d : DV) (j : Nat) : List DV := d :: (List.range j).flatMap fun j => if j ∈ q then [] else wDs n f (q ++ [j]) (intsDV (zl (q ++ [j])))
def wDc (l : List DV) : Option Nat := if l.length = 1 then some 1 else none
def wV (l : List DV) : DV := .sl l l.length (wDc l)
def wD (n f : Nat) (q : List Nat) (d : DV) : DV := wV (wDs n f q d)
/-- Each stands for its way. -/
inductive WR : List DV → List (List Nat) → Prop
  | nil : WR [] []
  | cons {c : DV} {q : List Nat} {l : List DV} {l' : List (List Nat)} (h : Ints c (zl q)) (t : WR l l') : WR (c :: l) (q :: l')
theorem WR.append {a : List DV} {a' : List (List Nat)} {b : List DV} {b' : List (List Nat)} (h : WR a a') (k : WR b b') : WR (a ++ b) (a' ++ b') := by
  induction h with
  | nil => exact k
  | cons h _ ih => exact .cons h ih
theorem WR.flat {f : Nat → List DV} {g : Nat → List (List Nat)} : ∀ {n : Nat}, (∀ j, j < n → WR (f j) (g j)) → WR ((List.range n).flatMap f) ((List.range n).flatMap g)
  | 0, _ => .nil
  | n + 1, h => by
    rw [List.range_succ, List.flatMap_append, List.flatMap_append]
    refine (WR.flat fun j hj => h j (by omega)).append ?_
    simpa using h n (by omega)
theorem WR.len {l : List DV} {l' : List (List Nat)} (h : WR l l') : l.length = l'.length := by
  induction h with
  | nil => rfl
  | cons _ _ ih => simp [ih]
theorem WR.get {l : List DV} {l' : List (List Nat)} (h : WR l l') : ∀ (i : Nat) (c : DV) (q : List Nat), l[i]? = some c → l'[i]? = some q → Ints c (zl q) := by
  induction h with
  | nil => intro i c q h; simp at h
  | cons h _ ih =>
    intro i c q h1 h2
    cases i with
    | zero => simp at h1 h2; subst h1 h2; exact h
    | succ i => exact ih i c q (by simpa using h1) (by simpa using h2)
theorem WR.vec {l : List DV} {l' : List (List Nat)} (h : WR l l') : Mat (wV l) (l'.map zl) := by
  have : Mat (.sl l (l'.map zl).length (wDc l)) (l'.map zl) := .sl (by rw [List.length_map]; exact h.len) fun i c x hc hx => by
    rw [List.getElem?_map, Option.map_eq_some_iff] at hx
    obtain ⟨q, hq, rfl⟩ := hx
    exact h.get i c q hc hq
  rwa [List.length_map, ← h.len] at this
theorem intsDV_ints (l : List Int) : Ints (intsDV l) l := .sl (by simp) fun i c x hc hx => by
  rw [List.getElem?_map, hx] at hc
  simp at hc; exact hc.symm
theorem wDs_wr {n : Nat} : ∀ (f : Nat) (q : List Nat) (d : DV), Ints d (zl q) → WR (wDs n f q d) (wLs n f q)
  | 0, _, _, h => .cons h .nil
  | f + 1, q, d, h => by
    refine .cons h (WR.flat fun j _ => ?_)
    split
    · exact .nil
    · exact wDs_wr f _ _ (intsDV_ints _)
theorem wDs_len {n : Nat} : ∀ (f : Nat) (q : List Nat) (d : DV), 1 ≤ (wDs n f q d).length ∧ (wDs n f q d).length ≤ (n + 1) ^ f
  | 0, _, _ => ⟨Nat.le_refl _, Nat.le_refl _⟩
  | f + 1, q, d => by
    have hb : ∀ j, ((List.range j).flatMap fun j => if j ∈ q then [] else wDs n f (q ++ [j]) (intsDV (zl (q ++ [j])))).length ≤ j * (n + 1) ^ f := fun j => by
      induction j with
      | zero => simp
      | succ j ih =>
        rw [List.range_succ, List.flatMap_append, List.length_append, Nat.add_mul, Nat.one_mul]
        refine Nat.add_le_add ih ?_
        simp only [List.flatMap_cons, List.flatMap_nil, List.append_nil]
        split
        · simp
        · exact (wDs_len f _ _).2
    unfold wDs
    rw [List.length_cons, Nat.pow_succ]
    have := hb n
    have hp : 1 ≤ (n + 1) ^ f := Nat.one_le_pow _ _ (by omega)
    refine ⟨by omega, ?_⟩
    rw [Nat.mul_add, Nat.mul_one, Nat.mul_comm ((n + 1) ^ f) n]
    omega
theorem wDp_len {n f : Nat} {q : List Nat} {d : DV} : ∀ j, 1 ≤ (wDp n f q d j).length ∧ (wDp n f q d j).length ≤ 1 + j * (n + 1) ^ f
  | 0 => by simp [wDp]
  | j + 1 => by
    have ih := wDp_len (n := n) (f := f) (q := q) (d := d) j
    have e : wDp n f q d (j + 1) = wDp n f q d j ++ (if j ∈ q then [] else wDs n f (q ++ [j]) (intsDV (zl (q ++ [j])))) := by
      unfold wDp
      rw [List.range_succ, List.flatMap_append]; simp
    rw [e, List.length_append, Nat.add_mul, Nat.one_mul]
    have : (if j ∈ q then [] else wDs n f (q ++ [j]) (intsDV (zl (q ++ [j])))).length ≤ (n + 1) ^ f := by
      split
      · simp
      · exact (wDs_len f _ _).2
    omega
theorem wDp_in {n f : Nat} {q : List Nat} {d : DV} {j : Nat} (h : j ∈ q) : wDp n f q d (j + 1) = wDp n f q d j := by
  unfold wDp
  rw [List.range_succ, List.flatMap_append]; simp [h]
theorem wDp_new {n f : Nat} {q : List Nat} {d : DV} {j : Nat} (h : j ∉ q) : wDp n f q d (j + 1) = wDp n f q d j ++ wDs n f (q ++ [j]) (intsDV (zl (q ++ [j]))) := by
  unfold wDp
  rw [List.range_succ, List.flatMap_append]; simp [h]
theorem wDs_one {n : Nat} : ∀ (f : Nat) (q : List Nat) (d : DV), SlD d → ((wDs n f q d).map XV.d).all oneX = true
  | 0, _, d, h => by simp [wDs, h.one]
  | f + 1, q, d, h => by
    unfold wDs
    rw [List.map_cons, List.all_cons, h.one, Bool.true_and, List.all_map, List.all_eq_true]
    intro x hx
    obtain ⟨j, _, hx⟩ := List.mem_flatMap.1 hx
    split at hx
    · simp at hx
    · have := wDs_one (n := n) f (q ++ [j]) (intsDV (zl (q ++ [j]))) (.sl _ _ _)
      rw [List.all_map, List.all_eq_true] at this
      exact this x hx
theorem used_succ {l : List Int} {v : Int} {k : Nat} (h : k < l.length) : decide (v ∈ l.take (k + 1)) = (decide (v ∈ l.take k) || decide (l[k] = v)) := by
  rw [List.take_succ_eq_append_getElem h]
  by_cases h1 : v ∈ l.take k
  · rw [decide_eq_true h1, decide_eq_true (List.mem_append_left _ h1)]; rfl
  · rw [decide_eq_false h1, Bool.false_or]
    exact decide_eq_decide.2 ⟨fun h2 => by
      rcases List.mem_append.1 h2 with h3 | h3
      · exact absurd h3 h1
      · simp at h3; exact h3.symm, fun h2 => List.mem_append_right _ (by simp [h2])⟩
theorem fin_wV {σ : List VObj} {k : Nat} {x : XV} {ds : List DV} {b : Bool} (h : OwnE σ b x (ds.map .d)) (hb : b = decide (ds.length = 1)) : deepen (freezeAll σ) (k + 2) x = some (wV ds) := by
  generalize hc : ds.map XV.d = cells at h
  cases h with
  | @sl id n cells ex h hn =>
    subst hc
    have hl : n = ds.length := by rw [List.length_map] at hn; omega
    subst hl
    have hf : (freezeAll σ)[id]? = some ⟨ds.map .d, 1⟩ := by simp [freezeAll, h]
    rw [deepen_cells (k := k) (ds := ds) hf rfl rfl, hb]
    unfold wV wDc
    by_cases h1 : ds.length = 1
    · rw [if_pos h1, decide_eq_true h1, h1]; rfl
    · rw [if_neg h1, decide_eq_false h1]; rfl
end Go.Vm

