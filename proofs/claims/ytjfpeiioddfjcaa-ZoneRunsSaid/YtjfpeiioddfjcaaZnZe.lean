import Derived.Test.YtjfpeiioddfjcaaZnZd
/-
  Automata: runs.
-/
namespace Go.Proofs.Ytjfpeiioddfjcaa
open Go.Vm Go.Zn

def okStep (m lo : Nat) (I : List (List G3)) (E : List Ed) (den : Int) (v : Nat → Int) (l : Nat) (w e : Int) : Prop :=
  (0 ≤ w ∧ w ≤ 1000000) ∧ (0 ≤ e ∧ e < E.length) ∧ (E.getD e.toNat (0, 0, [], 0)).1 = l ∧ holdB (I.getD l []) (wtM m v w) den = true ∧ holdB (E.getD e.toNat (0, 0, [], 0)).2.2.1 (wtM m v w) den = true ∧
    holdB (I.getD (E.getD e.toNat (0, 0, [], 0)).2.1.toNat []) (rstM lo 4 (E.getD e.toNat (0, 0, [], 0)).2.2.2.toNat (wtM m v w)) den = true
instance {m lo I E den v l w e} : Decidable (okStep m lo I E den v l w e) := by unfold okStep; infer_instance
def stepM (m lo : Nat) (I : List (List G3)) (E : List Ed) (den : Int) (v : Nat → Int) (l : Nat) (w e : Int) : Option ((Nat → Int) × Nat) :=
  if okStep m lo I E den v l w e then some (rstM lo 4 (E.getD e.toNat (0, 0, [], 0)).2.2.2.toNat (wtM m v w), (E.getD e.toNat (0, 0, [], 0)).2.1.toNat) else none
def stM (m lo : Nat) (I : List (List G3)) (E : List Ed) (den : Int) (W K : List Int) : Nat → Option ((Nat → Int) × Nat)
  | 0 => if holdB (I.getD 0 []) (fun _ => 0) den then some (fun _ => 0, 0) else none
  | k + 1 => (stM m lo I E den W K k).bind fun p => stepM m lo I E den p.1 p.2 (W.getD k 0) (K.getD k 0)
def runOk (den : Int) (W K : List Int) : Prop := (1 ≤ den ∧ den ≤ 1000) ∧ W.length = K.length ∧ K.length ≤ 200
instance {den W K} : Decidable (runOk den W K) := by unfold runOk; infer_instance
def runM (m lo : Nat) (I : List (List G3)) (E : List Ed) (den : Int) (W K : List Int) : Int × Bool :=
  if runOk den W K then (match stM m lo I E den W K K.length with | some p => ((p.2 : Int), true) | none => (0, false)) else (0, false)
section
variable {m lo : Nat} {I : List (List G3)} {E : List Ed} {den : Int} {W K : List Int}
theorem stM_succ {k : Nat} {v : Nat → Int} {l : Nat} (h : stM m lo I E den W K k = some (v, l)) : stM m lo I E den W K (k + 1) = stepM m lo I E den v l (W.getD k 0) (K.getD k 0) := by
  rw [stM, h]; rfl
theorem stM_none {k : Nat} (h : stM m lo I E den W K k = none) : ∀ j, k ≤ j → stM m lo I E den W K j = none
  | 0, hj => by
    have : k = 0 := by omega
    subst this; exact h
  | j + 1, hj => by
    rcases Nat.eq_or_lt_of_le hj with e | e
    · subst e; exact h
    · rw [stM, stM_none h j (by omega)]; rfl
theorem run_bad (h : ¬ runOk den W K) : runM m lo I E den W K = (0, false) := if_neg h
theorem run_none {k : Nat} (hk : k ≤ K.length) (h : stM m lo I E den W K k = none) : runM m lo I E den W K = (0, false) := by
  unfold runM
  rw [stM_none h _ hk]
  split <;> rfl
theorem run_step {k l : Nat} {v : Nat → Int} (hk : k < K.length) (hs : stM m lo I E den W K k = some (v, l)) (h : ¬ okStep m lo I E den v l (W.getD k 0) (K.getD k 0)) : runM m lo I E den W K = (0, false) :=
  run_none (k := k + 1) (by omega) ((stM_succ hs).trans (if_neg h))
theorem run_some {l : Nat} {v : Nat → Int} (h0 : runOk den W K) (hs : stM m lo I E den W K K.length = some (v, l)) : runM m lo I E den W K = ((l : Int), true) := by
  unfold runM
  rw [if_pos h0, hs]
end
theorem holdB_congr {c : Nat} {L : List G3} {v u : Nat → Int} {den : Int} (hL : okL c L = true) (h : ∀ i, i ≤ c → v i = u i) : holdB L v den = holdB L u den := by
  unfold okL at hL
  rw [Bool.and_eq_true] at hL
  have hg : ∀ g ∈ L, okG c g = true := List.all_eq_true.1 hL.2
  unfold holdB
  refine Bool.eq_iff_iff.2 ?_
  rw [List.all_eq_true, List.all_eq_true]
  have e : ∀ g ∈ L, v g.1.toNat - v g.2.1.toNat = u g.1.toNat - u g.2.1.toNat := fun g h2 => by
    have := (okG_iff.1 (hg g h2)).1
    rw [h _ (by omega), h _ (by omega)]
  exact ⟨fun h2 g hm => by rw [← e g hm]; exact h2 g hm, fun h2 g hm => by rw [e g hm]; exact h2 g hm⟩
theorem getD_get {α : Type} {L : List α} {i : Nat} {d : α} (h : i < L.length) : L.getD i d = L[i] := by
  rw [List.getD_eq_getElem?_getD, List.getElem?_eq_getElem h, Option.getD_some]
theorem step_eq {c : Nat} {I : List (List G3)} {E : List Ed} {den : Int} (hr : rightB c I E = true) {v u : Nat → Int} {l : Nat} {w e : Int} (hl : l < I.length) (h : ∀ i, i ≤ c → v i = u i) :
    (stepM 4 0 I E den v l w e = none ∧ stepM (c + 1) 1 I E den u l w e = none) ∨ ∃ v' u' l', stepM 4 0 I E den v l w e = some (v', l') ∧ stepM (c + 1) 1 I E den u l w e = some (u', l') ∧ l' < I.length ∧ ∀ i, i ≤ c → v' i = u' i := by
  obtain ⟨⟨h1, h2, h3⟩, h4, h5⟩ := rightB_iff.1 hr
  have hw : ∀ i, i ≤ c → wtM 4 v w i = wtM (c + 1) u w i := fun i hi => by
    unfold wtM
    rw [h i hi]
    by_cases h0 : 1 ≤ i
    · rw [if_pos (by omega), if_pos (by omega)]
    · rw [if_neg (by omega), if_neg (by omega)]
  by_cases he : 0 ≤ e ∧ e < E.length
  · have hE := okEd_iff.1 (h5 e.toNat (by omega))
    have eE : E.getD e.toNat (0, 0, [], 0) = E[e.toNat] := getD_get (by omega)
    rw [Int.toNat_natCast] at hE
    obtain ⟨k1, k2, k3, k4⟩ := hE
    have k5 := setB_iff.1 k4
    have hb0 : (E[e.toNat].2.2.2.toNat).testBit 0 = false := by rw [← bitOne _ 0]; exact decide_eq_false (by rw [Nat.pow_zero, Nat.div_one, Nat.and_one_is_mod]; omega)
    have hv2 : ∀ i, i ≤ c → rstM 0 4 E[e.toNat].2.2.2.toNat (wtM 4 v w) i = rstM 1 4 E[e.toNat].2.2.2.toNat (wtM (c + 1) u w) i := fun i hi => by
      unfold rstM
      rw [hw i hi]
      by_cases h0 : i = 0
      · subst h0
        rw [if_neg (fun k => by rw [hb0] at k; cases k.2.2), if_neg (by omega)]
      · by_cases hb : i < 4 ∧ (E[e.toNat].2.2.2.toNat).testBit i = true
        · rw [if_pos ⟨by omega, hb⟩, if_pos ⟨by omega, hb⟩]
        · rw [if_neg (fun k => hb k.2), if_neg (fun k => hb k.2)]
    have g1 : okL c (I.getD l []) = true := by rw [getD_get hl]; exact h4 l hl
    have g2 : okL c (I.getD E[e.toNat].2.1.toNat []) = true := by rw [getD_get (by omega)]; exact h4 _ (by omega)
    have ek : okStep 4 0 I E den v l w e ↔ okStep (c + 1) 1 I E den u l w e := by
      unfold okStep
      rw [eE, holdB_congr g1 hw, holdB_congr k3 hw, holdB_congr g2 hv2]
    unfold stepM
    by_cases hs : okStep (c + 1) 1 I E den u l w e
    · rw [if_pos hs, if_pos (ek.2 hs), eE]
      exact .inr ⟨_, _, _, rfl, rfl, by omega, hv2⟩
    · rw [if_neg hs, if_neg (fun k => hs (ek.1 k))]
      exact .inl ⟨rfl, rfl⟩
  · unfold stepM
    rw [if_neg (fun k => he k.2.1), if_neg (fun k => he k.2.1)]
    exact .inl ⟨rfl, rfl⟩
theorem st_eq {c : Nat} {I : List (List G3)} {E : List Ed} {den : Int} {W K : List Int} (hr : rightB c I E = true) : ∀ k,
    (stM 4 0 I E den W K k = none ∧ stM (c + 1) 1 I E den W K k = none) ∨ ∃ v u l, stM 4 0 I E den W K k = some (v, l) ∧ stM (c + 1) 1 I E den W K k = some (u, l) ∧ l < I.length ∧ ∀ i, i ≤ c → v i = u i
  | 0 => by
    obtain ⟨⟨h1, h2, h3⟩, h4, h5⟩ := rightB_iff.1 hr
    unfold stM
    split
    · exact .inr ⟨_, _, _, rfl, rfl, by omega, fun _ _ => rfl⟩
    · exact .inl ⟨rfl, rfl⟩
  | k + 1 => by
    rcases st_eq hr k with ⟨a, b⟩ | ⟨v, u, l, a, b, hl, h⟩
    · exact .inl ⟨stM_none a _ (by omega), stM_none b _ (by omega)⟩
    · rw [stM_succ a, stM_succ b]
      exact step_eq hr hl h
/-- Both sides follow a run to the same end. -/
theorem run_eq {c : Nat} {I : List (List G3)} {E : List Ed} {den : Int} {W K : List Int} (hr : rightB c I E = true) : runM 4 0 I E den W K = runM (c + 1) 1 I E den W K := by
  unfold runM
  rcases st_eq (W := W) (K := K) (den := den) hr K.length with ⟨a, b⟩ | ⟨v, u, l, a, b, _, _⟩
  · rw [a, b]
  · rw [a, b]
end Go.Proofs.Ytjfpeiioddfjcaa

