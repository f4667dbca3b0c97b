import Derived.Test.YtnfnjnaheckdbaaFlSp
/-
  STARTS, whatever the order of a schedule: with more stock no firing begins later (for FlowStocks; the law is not yet walked).
-/
namespace Go.Proofs.Ytnfnjnaheckdbaa
open Go.Vm Go.Fl
def lastArg (l : LN) (k : Nat) : Int := ((((k + 1) * l.k : Nat)) : Int) - 1
def needK (tm : List Int) (st : Sts) (a k : Nat) (x : Int) (l : LN) : Int :=
  if l.t = a then (if 0 ≤ putZ l (lastArg l k) then max x ((st l.f).getD (putZ l (lastArg l k)).toNat 0 + tmAt tm l.f) else x) else x
/-- When firing k of actor a begins, told from when all begin. -/
def valS (L : List LN) (tm : List Int) (st : Sts) (a k : Nat) : Int := L.foldl (needK tm st a k) (if k = 0 then 0 else (st a).getD (k - 1) 0)
/-- Whenever a firing is due, what it waits for has begun. -/
def OkO (L : List LN) (o : List Nat) : Prop := ∀ o1 a o2, o = o1 ++ a :: o2 → ∀ l ∈ L, l.t = a → 0 ≤ putZ l (lastArg l (o1.count a)) → (putZ l (lastArg l (o1.count a))).toNat < o1.count l.f
theorem OkO.pre {L : List LN} {o : List Nat} {a : Nat} (h : OkO L (o ++ [a])) : OkO L o := fun o1 b o2 e => h o1 b (o2 ++ [a]) (by rw [e]; simp)
theorem earl_val (L : List LN) (tm : List Int) (st : Sts) (a : Nat) : earlF L tm st a = valS L tm st a (st a).length := by
  unfold earlF valS lastZ
  by_cases h : (st a).length = 0
  · rw [if_pos h]; rfl
  · rw [if_neg h]; rfl
/-- What is told stays when more is told. -/
theorem needK_ext {tm : List Int} {st st' : Sts} {a k : Nat} {l : LN} {x : Int} (h : l.t = a → 0 ≤ putZ l (lastArg l k) → (st l.f).getD (putZ l (lastArg l k)).toNat 0 = (st' l.f).getD (putZ l (lastArg l k)).toNat 0) : needK tm st a k x l = needK tm st' a k x l := by
  unfold needK
  by_cases h1 : l.t = a
  · rw [if_pos h1, if_pos h1]
    by_cases h2 : 0 ≤ putZ l (lastArg l k)
    · rw [if_pos h2, if_pos h2, h h1 h2]
    · rw [if_neg h2, if_neg h2]
  · rw [if_neg h1, if_neg h1]
theorem foldK_ext {tm : List Int} {st st' : Sts} {a k : Nat} : ∀ {L : List LN} {x : Int}, (∀ l ∈ L, l.t = a → 0 ≤ putZ l (lastArg l k) → (st l.f).getD (putZ l (lastArg l k)).toNat 0 = (st' l.f).getD (putZ l (lastArg l k)).toNat 0) → L.foldl (needK tm st a k) x = L.foldl (needK tm st' a k) x
  | [], _, _ => rfl
  | l :: L, x, h => by
    rw [List.foldl_cons, List.foldl_cons, needK_ext (h l (.head _))]
    exact foldK_ext fun l' hl => h l' (.tail _ hl)
theorem step_get {L : List LN} {tm : List Int} {st : Sts} {b j i : Nat} (hi : i < (st j).length) : (stepS L tm st b j).getD i 0 = (st j).getD i 0 := by
  unfold stepS
  split
  · simp [List.getElem?_append_left hi]
  · rfl
/-- The times that are told solve the equations of all firings. -/
theorem runS_val {L : List LN} {tm : List Int} (o : List Nat) : OkO L o → ∀ a k : Nat, k < o.count a → (runS L tm o a).getD k 0 = valS L tm (runS L tm o) a k := by
  refine snoc_ind (Q := fun o => OkO L o → ∀ a k : Nat, k < o.count a → (runS L tm o a).getD k 0 = valS L tm (runS L tm o) a k) (fun _ a k hk => by simp at hk) (fun o b ih hO a k hk => ?_) o
  have ih := ih hO.pre
  rw [runS_snoc]
  have hkey : ∀ a k : Nat, k ≤ o.count a → (∀ l ∈ L, l.t = a → 0 ≤ putZ l (lastArg l k) → (putZ l (lastArg l k)).toNat < o.count l.f) → valS L tm (runS L tm o) a k = valS L tm (stepS L tm (runS L tm o) b) a k := fun a k hk2 hl => by
    unfold valS
    have e : (if k = 0 then 0 else (runS L tm o a).getD (k - 1) 0) = if k = 0 then 0 else (stepS L tm (runS L tm o) b a).getD (k - 1) 0 := by
      by_cases h0 : k = 0
      · rw [if_pos h0, if_pos h0]
      · rw [if_neg h0, if_neg h0, step_get (by rw [runS_len]; omega)]
    rw [e]
    exact foldK_ext fun l hl' ht hp => (step_get (by rw [runS_len]; exact hl l hl' ht hp)).symm
  by_cases hk2 : k < o.count a
  · rw [step_get (by rw [runS_len]; exact hk2), ih a k hk2]
    refine hkey a k (by omega) fun l hl ht hp => ?_
    obtain ⟨o1, o2, e, hc⟩ : ∃ o1 o2, o = o1 ++ a :: o2 ∧ o1.count a = k := split_at hk2
    have := hO o1 a (o2 ++ [b]) (by rw [e]; simp) l hl ht (by rw [hc]; exact hp)
    rw [hc] at this
    refine Nat.lt_of_lt_of_le this ?_
    rw [e, List.count_append]; omega
  · rw [List.count_append, List.count_singleton] at hk
    have hba : b = a := by
      by_cases h : b = a
      · exact h
      · rw [if_neg (by simpa using h)] at hk; omega
    subst hba
    have hkc : k = o.count b := by simp at hk; omega
    subst hkc
    have e1 : (stepS L tm (runS L tm o) b b).getD (o.count b) 0 = earlF L tm (runS L tm o) b := by
      unfold stepS
      rw [if_pos rfl, ← runS_len L tm o b]
      simp
    rw [e1, earl_val, runS_len]
    exact hkey b _ (Nat.le_refl _) fun l hl ht hp => hO o b [] rfl l hl ht hp
where
  split_at {o : List Nat} {a k : Nat} (h : k < o.count a) : ∃ o1 o2, o = o1 ++ a :: o2 ∧ o1.count a = k := by
    induction o generalizing k with
    | nil => simp at h
    | cons b o ih =>
      by_cases e : b = a
      · subst e
        rcases k with _ | k
        · exact ⟨[], o, rfl, rfl⟩
        · obtain ⟨o1, o2, h1, h2⟩ := ih (k := k) (by simp at h; omega)
          exact ⟨b :: o1, o2, by rw [h1]; rfl, by simp [h2]⟩
      · obtain ⟨o1, o2, h1, h2⟩ := ih (k := k) (by rw [List.count_cons, if_neg (by simpa using e)] at h; omega)
        exact ⟨b :: o1, o2, by rw [h1]; rfl, by rw [List.count_cons, if_neg (by simpa using e), h2]; rfl⟩
/-- The same links, with no less stock. -/
inductive MoreL : List LN → List LN → Prop
  | nil : MoreL [] []
  | cons {l l' : LN} {L L' : List LN} (hf : l'.f = l.f) (ht : l'.t = l.t) (hg : l'.g = l.g) (hk : l'.k = l.k) (hs : l.s ≤ l'.s) (hg1 : 1 ≤ l.g) (h : MoreL L L') : MoreL (l :: L) (l' :: L')
theorem putZ_more {l l' : LN} (hg : l'.g = l.g) (hs : l.s ≤ l'.s) (hg1 : 1 ≤ l.g) (x : Int) : putZ l' x ≤ putZ l x := by
  unfold putZ
  rw [hg, Int.fdiv_eq_ediv_of_nonneg _ (by omega), Int.fdiv_eq_ediv_of_nonneg _ (by omega)]
  exact Int.ediv_le_ediv (by omega) (by omega)
theorem fold_more {tm : List Int} {st1 st2 : Sts} {a k : Nat} (hsd : ∀ j, Sd (st2 j)) : ∀ {L L' : List LN} {x x' : Int}, MoreL L L' → x' ≤ x →
    (∀ l ∈ L, l.t = a → 0 ≤ putZ l (lastArg l k) → (putZ l (lastArg l k)).toNat < (st2 l.f).length ∧ (st2 l.f).getD (putZ l (lastArg l k)).toNat 0 ≤ (st1 l.f).getD (putZ l (lastArg l k)).toNat 0) →
    L'.foldl (needK tm st2 a k) x' ≤ L.foldl (needK tm st1 a k) x
  | _, _, x, x', .nil, hx, _ => hx
  | _, _, x, x', .cons (l := l) (l' := l') hf ht hg hk hs hg1 h, hx, hb => by
    rw [List.foldl_cons, List.foldl_cons]
    refine fold_more hsd h ?_ fun l hl => hb l (.tail _ hl)
    have e : lastArg l' k = lastArg l k := by unfold lastArg; rw [hk]
    have hp := putZ_more hg hs hg1 (lastArg l k)
    unfold needK
    rw [e, ht, hf]
    by_cases h1 : l.t = a
    · rw [if_pos h1, if_pos h1]
      by_cases h2 : 0 ≤ putZ l' (lastArg l k)
      · have h3 : 0 ≤ putZ l (lastArg l k) := by omega
        rw [if_pos h2, if_pos h3]
        obtain ⟨b1, b2⟩ := hb l (.head _) h1 h3
        have b3 := hsd l.f (putZ l' (lastArg l k)).toNat (putZ l (lastArg l k)).toNat (by omega) b1
        omega
      · rw [if_neg h2]
        split <;> omega
    · rw [if_neg h1, if_neg h1]; exact hx
/-- With more stock, in any order, nothing begins later. -/
theorem runS_mst {L L' : List LN} {tm : List Int} (hM : MoreL L L') {o' : List Nat} (hO' : OkO L' o') (o : List Nat) : OkO L o → (∀ j, o.count j ≤ o'.count j) → ∀ a k : Nat, k < o.count a → (runS L' tm o' a).getD k 0 ≤ (runS L tm o a).getD k 0 := by
  refine snoc_ind (Q := fun o => OkO L o → (∀ j, o.count j ≤ o'.count j) → ∀ a k : Nat, k < o.count a → (runS L' tm o' a).getD k 0 ≤ (runS L tm o a).getD k 0) (fun _ _ a k hk => by simp at hk) (fun o b ih hO hc a k hk => ?_) o
  have hc0 : ∀ j, o.count j ≤ o'.count j := fun j => by have := hc j; rw [List.count_append] at this; omega
  have ih := ih hO.pre hc0
  rw [runS_snoc]
  by_cases hk2 : k < o.count a
  · rw [step_get (by rw [runS_len]; exact hk2)]; exact ih a k hk2
  · rw [List.count_append, List.count_singleton] at hk
    have hba : b = a := by
      by_cases h : b = a
      · exact h
      · rw [if_neg (by simpa using h)] at hk; omega
    subst hba
    have hkc : k = o.count b := by simp at hk; omega
    subst hkc
    have e1 : (stepS L tm (runS L tm o) b b).getD (o.count b) 0 = earlF L tm (runS L tm o) b := by
      unfold stepS
      rw [if_pos rfl, ← runS_len L tm o b]
      simp
    have hcb : o.count b < o'.count b := by have := hc b; rw [List.count_append] at this; simp at this; omega
    rw [e1, earl_val, runS_len, runS_val o' hO' b (o.count b) hcb]
    unfold valS
    refine fold_more (fun j => runS_sd L' tm o' j) hM ?_ fun l hl ht hp => ?_
    · by_cases h0 : o.count b = 0
      · rw [if_pos h0, if_pos h0]; exact Int.le_refl _
      · rw [if_neg h0, if_neg h0]; exact ih b (o.count b - 1) (by omega)
    · have h1 := hO o b [] rfl l hl ht hp
      exact ⟨by rw [runS_len]; have := hc0 l.f; omega, ih l.f _ h1⟩
/-! ### With more stock there is still a schedule, and the first one is no later in order -/
theorem load_more {l l' : LN} {X : Nat → Nat} (hf : l'.f = l.f) (ht : l'.t = l.t) (hg : l'.g = l.g) (hk : l'.k = l.k) (hs : l.s ≤ l'.s) : loadZ l X ≤ loadZ l' X := by
  unfold loadZ; rw [hf, ht, hg, hk]; omega
theorem can_more {X : Nat → Nat} {a : Nat} : ∀ {L L' : List LN}, MoreL L L' → canB L X a = true → canB L' X a = true
  | _, _, .nil, _ => rfl
  | _, _, .cons (l := l) (l' := l') hf ht hg hk hs hg1 h, hc => by
    unfold canB at hc ⊢
    rw [List.all_cons, Bool.and_eq_true] at hc ⊢
    refine ⟨?_, can_more h hc.2⟩
    have h1 := hc.1
    have h2 := load_more (X := X) hf ht hg hk hs
    unfold waitB at h1 ⊢
    rw [ht, hk]
    simp only [Bool.not_eq_true', Bool.and_eq_false_iff, decide_eq_false_iff_not] at h1 ⊢
    rcases h1 with h1 | h1
    · exact .inl h1
    · exact .inr (by omega)
theorem fire_more {L L' : List LN} {q X : Nat → Nat} {a : Nat} (hM : MoreL L L') (h : fireB L q X a = true) : fireB L' q X a = true := by
  obtain ⟨h1, h2⟩ := fireB_iff.1 h
  exact fireB_iff.2 ⟨h1, can_more hM h2⟩
theorem run_more {L L' : List LN} {N : Nat} {q : Nat → Nat} (hM : MoreL L L') : ∀ {s : List Int} {X Y : Nat → Nat}, runL L N q s X = some Y → runL L' N q s X = some Y
  | [], _, _, h => h
  | a :: s, X, Y, h => by
    simp only [runL] at h ⊢
    split at h
    · rename_i hc
      rw [if_pos ⟨hc.1, hc.2.1, fire_more hM hc.2.2⟩]
      exact run_more hM h
    · cases h
theorem run_can {L : List LN} {N : Nat} {q X : Nat → Nat} (hX : ∃ i, i < 6 ∧ X i < q i) : ∀ (s : List Int) (Z Y : Nat → Nat), runL L N q s Z = some Y → eqB Y q = true → (∀ i, Z i ≤ X i) → ∃ a, a < N ∧ fireB L q X a = true
  | [], Z, Y, h, he, hZ => by
    simp only [runL, Option.some.injEq] at h
    subst h
    obtain ⟨i, hi, hlt⟩ := hX
    have := eqB_iff.1 he i hi
    have := hZ i
    omega
  | b :: s, Z, Y, h, he, hZ => by
    simp only [runL] at h
    split at h
    · rename_i hc
      obtain ⟨h0, h1, h2⟩ := hc
      by_cases e : X b.toNat = Z b.toNat
      · obtain ⟨k1, k2⟩ := fireB_iff.1 h2
        exact ⟨b.toNat, by omega, fireB_iff.2 ⟨by omega, can_mono hZ e k2⟩⟩
      · refine run_can hX s (bump Z b.toNat) Y h he fun i => ?_
        unfold bump
        split
        · rename_i e2; subst e2; have := hZ b.toNat; omega
        · exact hZ i
    · cases h
theorem greedy_ex {L : List LN} {N : Nat} {q : Nat → Nat} {o : List Int} {Y : Nat → Nat} (hN : N ≤ 6) (ho : runL L N q o (fun _ => 0) = some Y) (he : eqB Y q = true) : ∀ (n : Nat) (X : Nat → Nat), tot q ≤ tot X + n → (∀ i, X i ≤ q i) → ∃ s, greedy L N q n X = some s
  | 0, X, hn, hX => by
    have h : eqB X q = true := eqB_iff.2 (tot_eq (fun i _ => hX i) (by omega))
    exact ⟨[], greedy_end h 0⟩
  | n + 1, X, hn, hX => by
    by_cases h : eqB X q = true
    · exact ⟨[], greedy_end h _⟩
    · have h' : eqB X q = false := by simpa using h
      have hlt : ∃ i, i < 6 ∧ X i < q i := by
        refine Classical.byContradiction fun hno => h (eqB_iff.2 fun i hi => ?_)
        have := hX i
        by_cases e : X i < q i
        · exact absurd ⟨i, hi, e⟩ hno
        · omega
      obtain ⟨a, ha, hf⟩ := run_can hlt o (fun _ => 0) Y ho he fun i => Nat.zero_le _
      cases hx : nxt L N q X with
      | none =>
        unfold nxt at hx
        rw [List.find?_eq_none] at hx
        exact absurd hf (hx a (by simpa using ha))
      | some b =>
        obtain ⟨hb, hfb⟩ := nxt_some hx
        have ht := tot_bump (X := X) (a := b) (by omega)
        have hlb := (fireB_iff.1 hfb).1
        obtain ⟨s, hs⟩ := greedy_ex hN ho he n (bump X b) (by omega) fun i => by
          unfold bump
          split
          · rename_i e; subst e; omega
          · exact hX i
        exact ⟨b :: s, by rw [greedy_next h' hx, hs]; rfl⟩
end Go.Proofs.Ytnfnjnaheckdbaa

