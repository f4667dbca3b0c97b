import Derived.Tactics
/-
  DATAFLOW GRAPHS: what the program computes, as functions on numbers and lists, and what these functions promise.
-/
namespace Go.Fl

/-- A link of a valid graph. -/
structure LN where
  f : Nat
  t : Nat
  g : Nat
  k : Nat
  s : Nat

structure OkL (N : Nat) (l : LN) : Prop where
  f : l.f < N
  t : l.t < N
  g1 : 1 ≤ l.g
  g6 : l.g ≤ 6
  k1 : 1 ≤ l.k
  k6 : l.k ≤ 6
  s : l.s ≤ 20

/-- Sums of six. -/
def tot (X : Nat → Nat) : Nat := X 0 + X 1 + X 2 + X 3 + X 4 + X 5
theorem lt6 {P : Nat → Prop} (h0 : P 0) (h1 : P 1) (h2 : P 2) (h3 : P 3) (h4 : P 4) (h5 : P 5) {i : Nat} (hi : i < 6) : P i := by
  match i, hi with
  | 0, _ => exact h0
  | 1, _ => exact h1
  | 2, _ => exact h2
  | 3, _ => exact h3
  | 4, _ => exact h4
  | 5, _ => exact h5
theorem tot_upd {X : Nat → Nat} {v : Nat} {i : Nat} (hi : i < 6) : tot (fun j => if j = i then v else X j) + X i = tot X + v := by
  match i, hi with
  | 0, _ => simp [tot]; omega
  | 1, _ => simp [tot]; omega
  | 2, _ => simp [tot]; omega
  | 3, _ => simp [tot]; omega
  | 4, _ => simp [tot]; omega
  | 5, _ => simp [tot]; omega
theorem tot_le {X Y : Nat → Nat} (h : ∀ i, i < 6 → X i ≤ Y i) : tot X ≤ tot Y := by
  have := h 0 (by omega); have := h 1 (by omega); have := h 2 (by omega); have := h 3 (by omega); have := h 4 (by omega); have := h 5 (by omega)
  unfold tot; omega
theorem tot_eq {X Y : Nat → Nat} (h : ∀ i, i < 6 → X i ≤ Y i) (e : tot Y ≤ tot X) : ∀ i, i < 6 → X i = Y i := by
  have := h 0 (by omega); have := h 1 (by omega); have := h 2 (by omega); have := h 3 (by omega); have := h 4 (by omega); have := h 5 (by omega)
  unfold tot at e
  intro i hi
  match i, hi with
  | 0, _ => omega
  | 1, _ => omega
  | 2, _ => omega
  | 3, _ => omega
  | 4, _ => omega
  | 5, _ => omega
theorem le_tot {X : Nat → Nat} {i : Nat} (hi : i < 6) : X i ≤ tot X := by
  match i, hi with
  | 0, _ => unfold tot; omega
  | 1, _ => unfold tot; omega
  | 2, _ => unfold tot; omega
  | 3, _ => unfold tot; omega
  | 4, _ => unfold tot; omega
  | 5, _ => unfold tot; omega

def bump (X : Nat → Nat) (a : Nat) : Nat → Nat := fun i => if i = a then X i + 1 else X i
theorem tot_bump {X : Nat → Nat} {a : Nat} (ha : a < 6) : tot (bump X a) = tot X + 1 := by
  have h := tot_upd (X := X) (v := X a + 1) ha
  have e : (fun j => if j = a then X a + 1 else X j) = bump X a := by
    funext j; unfold bump; split
    · rename_i e; subst e; rfl
    · rfl
  rw [e] at h; omega

/-- The loads on a link. -/
def loadZ (l : LN) (X : Nat → Nat) : Int := (l.s : Int) + (l.g : Int) * (X l.f : Int) - (l.k : Int) * (X l.t : Int)
def waitB (X : Nat → Nat) (a : Nat) (l : LN) : Bool := decide (l.t = a) && decide (loadZ l X < (l.k : Int))
def canB (L : List LN) (X : Nat → Nat) (a : Nat) : Bool := L.all fun l => !waitB X a l
def fireB (L : List LN) (q X : Nat → Nat) (a : Nat) : Bool := decide (X a < q a) && canB L X a
def eqB (X q : Nat → Nat) : Bool := (List.range 6).all fun i => decide (X i = q i)
theorem eqB_iff {X q : Nat → Nat} : eqB X q = true ↔ ∀ i, i < 6 → X i = q i := by simp [eqB]
def nxt (L : List LN) (N : Nat) (q X : Nat → Nat) : Option Nat := (List.range N).find? (fireB L q X)
/-- The first schedule from X on. -/
def greedy (L : List LN) (N : Nat) (q : Nat → Nat) : Nat → (Nat → Nat) → Option (List Nat)
  | 0, X => if eqB X q then some [] else none
  | n + 1, X => if eqB X q then some [] else (nxt L N q X).bind fun a => (greedy L N q n (bump X a)).map (a :: ·)
/-- What firings in this order lead to. -/
def runL (L : List LN) (N : Nat) (q : Nat → Nat) : List Int → (Nat → Nat) → Option (Nat → Nat)
  | [], X => some X
  | a :: s, X => if 0 ≤ a ∧ a < N ∧ fireB L q X a.toNat = true then runL L N q s (bump X a.toNat) else none

theorem nxt_some {L : List LN} {N : Nat} {q X : Nat → Nat} {a : Nat} (h : nxt L N q X = some a) : a < N ∧ fireB L q X a = true := by
  have h1 := List.find?_some h
  have h2 := List.mem_of_find?_eq_some h
  exact ⟨by simpa using h2, h1⟩
theorem canB_iff {L : List LN} {X : Nat → Nat} {a : Nat} : canB L X a = true ↔ ∀ l ∈ L, l.t = a → (l.k : Int) ≤ loadZ l X := by
  simp only [canB, waitB, List.all_eq_true, Bool.not_eq_true', Bool.and_eq_false_iff, decide_eq_false_iff_not, Int.not_lt]
  refine ⟨fun h l hl ht => (h l hl).resolve_left fun hn => hn ht, fun h l hl => ?_⟩
  rcases Classical.em (l.t = a) with ht | ht
  · exact .inr (h l hl ht)
  · exact .inl ht
theorem fireB_iff {L : List LN} {q X : Nat → Nat} {a : Nat} : fireB L q X a = true ↔ X a < q a ∧ canB L X a = true := by simp [fireB]

/-- Firing one actor never keeps another from firing. -/
theorem can_mono {L : List LN} {X Y : Nat → Nat} {a : Nat} (hle : ∀ i, Y i ≤ X i) (he : X a = Y a) (h : canB L Y a = true) : canB L X a = true := by
  rw [canB_iff] at h ⊢
  intro l hl ht
  have h1 := h l hl ht
  unfold loadZ at h1 ⊢
  rw [ht] at h1 ⊢
  rw [he]
  have h2 : (l.g : Int) * (Y l.f : Int) ≤ (l.g : Int) * (X l.f : Int) := Int.mul_le_mul_of_nonneg_left (by have := hle l.f; omega) (by omega)
  omega

/-- Where a schedule exists, every beginning goes on. -/
theorem any_can {L : List LN} {N : Nat} {q X : Nat → Nat} (hX : ∃ i, i < 6 ∧ X i < q i) : ∀ (n : Nat) (Y : Nat → Nat) (s : List Nat), greedy L N q n Y = some s → (∀ i, Y i ≤ X i) → ∃ a, a < N ∧ fireB L q X a = true := by
  obtain ⟨i, hi, hlt⟩ := hX
  intro n
  induction n with
  | zero =>
    intro Y s h hle
    simp only [greedy] at h
    split at h
    · rename_i he
      have := eqB_iff.1 he i hi
      have := hle i
      omega
    · cases h
  | succ n ih =>
    intro Y s h hle
    simp only [greedy] at h
    split at h
    · rename_i he
      have := eqB_iff.1 he i hi
      have := hle i
      omega
    · cases hn : nxt L N q Y with
      | none => rw [hn] at h; cases h
      | some a =>
        rw [hn] at h
        simp only [Option.bind_some] at h
        cases hg : greedy L N q n (bump Y a) with
        | none => rw [hg] at h; cases h
        | some r =>
          obtain ⟨h1, h2⟩ := nxt_some hn
          rw [fireB_iff] at h2
          rcases Nat.lt_or_ge (Y a) (X a) with h3 | h3
          · refine ih (bump Y a) r hg fun j => ?_
            unfold bump
            split
            · rename_i e; subst e; omega
            · exact hle j
          · have e : X a = Y a := by have := hle a; omega
            exact ⟨a, h1, fireB_iff.2 ⟨by omega, can_mono hle e h2.2⟩⟩

theorem runL_snoc {L : List LN} {N : Nat} {q : Nat → Nat} {a : Int} : ∀ {s : List Int} {X Y : Nat → Nat}, runL L N q s X = some Y → 0 ≤ a ∧ a < N ∧ fireB L q Y a.toNat = true → runL L N q (s ++ [a]) X = some (bump Y a.toNat)
  | [], X, Y, h, ha => by
    simp only [runL, Option.some.injEq] at h
    subst h
    simp [runL, ha]
  | b :: s, X, Y, h, ha => by
    simp only [runL] at h
    split at h
    · rename_i hb
      simp only [List.cons_append, runL]
      rw [if_pos hb]
      exact runL_snoc h ha
    · cases h

abbrev zs (s : List Nat) : List Int := s.map fun (a : Nat) => (a : Int)
theorem greedy_sound {L : List LN} {N : Nat} {q : Nat → Nat} : ∀ (n : Nat) (X : Nat → Nat) (s : List Nat), greedy L N q n X = some s → ∃ Y, runL L N q (zs s) X = some Y ∧ eqB Y q = true
  | 0, X, s, h => by
    simp only [greedy] at h
    split at h
    · cases h; exact ⟨X, rfl, ‹_›⟩
    · cases h
  | n + 1, X, s, h => by
    simp only [greedy] at h
    split at h
    · cases h; exact ⟨X, rfl, ‹_›⟩
    · cases hn : nxt L N q X with
      | none => rw [hn] at h; cases h
      | some a =>
        rw [hn] at h
        simp only [Option.bind_some] at h
        cases hg : greedy L N q n (bump X a) with
        | none => rw [hg] at h; cases h
        | some r =>
          rw [hg] at h
          simp only [Option.map_some, Option.some.injEq] at h
          subst h
          obtain ⟨h1, h2⟩ := nxt_some hn
          obtain ⟨Y, hY, he⟩ := greedy_sound n _ r hg
          refine ⟨Y, ?_, he⟩
          simp only [zs, List.map_cons, runL]
          rw [if_pos ⟨by omega, by omega, by simpa using h2⟩]
          simpa using hY

theorem runL_tot {L : List LN} {N : Nat} {q : Nat → Nat} (hN : N ≤ 6) : ∀ {s : List Int} {X Y : Nat → Nat}, runL L N q s X = some Y → tot Y = tot X + s.length ∧ ((∀ i, i < 6 → X i ≤ q i) → ∀ i, i < 6 → Y i ≤ q i) ∧ (∀ i, N ≤ i → Y i = X i)
  | [], X, Y, h => by cases h; exact ⟨rfl, fun h => h, fun _ _ => rfl⟩
  | a :: s, X, Y, h => by
    simp only [runL] at h
    split at h
    · rename_i hb
      obtain ⟨h0, h1, h2⟩ := hb
      obtain ⟨k1, k2, k3⟩ := runL_tot hN h
      have h3 := tot_bump (X := X) (a := a.toNat) (by omega)
      rw [fireB_iff] at h2
      refine ⟨by simp only [List.length_cons]; omega, fun hX => k2 fun i hi => ?_, fun i hi => ?_⟩
      · unfold bump; split
        · rename_i e; subst e; omega
        · exact hX i hi
      · rw [k3 i hi]; unfold bump; rw [if_neg (by omega)]
    · cases h

theorem greedy_len {L : List LN} {N : Nat} {q : Nat → Nat} (hN : N ≤ 6) {n : Nat} {s : List Nat} (h : greedy L N q n (fun _ => 0) = some s) : s.length = tot q := by
  obtain ⟨Y, h1, h2⟩ := greedy_sound n _ s h
  have h3 := (runL_tot hN h1).1
  have h4 : tot Y = tot q := by
    have := eqB_iff.1 h2
    unfold tot
    rw [this 0 (by omega), this 1 (by omega), this 2 (by omega), this 3 (by omega), this 4 (by omega), this 5 (by omega)]
  have h5 : tot (fun _ => 0) = 0 := rfl
  rw [List.length_map] at h3
  omega

theorem greedy_mem {L : List LN} {N : Nat} {q : Nat → Nat} : ∀ (n : Nat) (X : Nat → Nat) (s : List Nat), greedy L N q n X = some s → ∀ a ∈ s, a < N
  | 0, X, s, h => by
    simp only [greedy] at h
    split at h
    · cases h; intro a ha; simp at ha
    · cases h
  | n + 1, X, s, h => by
    simp only [greedy] at h
    split at h
    · cases h; intro a ha; simp at ha
    · cases hn : nxt L N q X with
      | none => rw [hn] at h; cases h
      | some a =>
        rw [hn] at h
        simp only [Option.bind_some] at h
        cases hg : greedy L N q n (bump X a) with
        | none => rw [hg] at h; cases h
        | some r =>
          rw [hg] at h
          simp only [Option.map_some, Option.some.injEq] at h
          subst h
          intro b hb
          rcases List.mem_cons.1 hb with rfl | hb
          · exact (nxt_some hn).1
          · exact greedy_mem n _ r hg b hb
end Go.Fl

