import Derived.Test.YtdilkpcnkhedlaaVmOr
import Derived.Test.YtdilkpcnkhedlaaFlY
import Derived.Test.YtdilkpcnkhedlaaVmKe
import Derived.Test.YtdilkpcnkhedlaaVmW
import Derived.Lib.SliceRun
section
/-
  HEAT: streams, levels, surpluses, cascades: pure functions.
-/
namespace Go.Ht
open Go.Vm

/-- A stream: where it begins, where it ends, its heat for each degree. -/
structure Sm where
  a : Int
  b : Int
  r : Int
  deriving Inhabited, DecidableEq

def Sm.ok (s : Sm) : Bool := decide (0 ≤ s.a) && decide (s.a ≤ 200) && (decide (0 ≤ s.b) && decide (s.b ≤ 200)) && decide (s.a ≠ s.b) && (decide (1 ≤ s.r) && decide (s.r ≤ 20))
def okH (l : List Sm) (gap : Int) : Bool := decide (1 ≤ l.length) && decide (l.length ≤ 8) && (decide (0 ≤ gap) && decide (gap ≤ 20)) && l.all Sm.ok

theorem Sm.ok_iff {s : Sm} : s.ok = true ↔ 0 ≤ s.a ∧ s.a ≤ 200 ∧ 0 ≤ s.b ∧ s.b ≤ 200 ∧ s.a ≠ s.b ∧ 1 ≤ s.r ∧ s.r ≤ 20 := by
  unfold Sm.ok; simp only [Bool.and_eq_true, decide_eq_true_eq]; omega

theorem okH_iff {l : List Sm} {gap : Int} : okH l gap = true ↔ 1 ≤ l.length ∧ l.length ≤ 8 ∧ 0 ≤ gap ∧ gap ≤ 20 ∧ ∀ s ∈ l, s.ok = true := by
  unfold okH; simp only [Bool.and_eq_true, decide_eq_true_eq, List.all_eq_true]
  constructor
  · rintro ⟨⟨⟨h1, h2⟩, h3, h4⟩, h5⟩; exact ⟨h1, h2, h3, h4, h5⟩
  · rintro ⟨h1, h2, h3, h4, h5⟩; exact ⟨⟨⟨h1, h2⟩, h3, h4⟩, h5⟩

def hot (s : Sm) : Bool := decide (s.b < s.a)
def up (gap : Int) (s : Sm) : Int := if hot s then s.a - gap else s.b
def lo (gap : Int) (s : Sm) : Int := if hot s then s.b - gap else s.a
/-- The heat of a stream between two shifted temperatures. -/
def ht (gap : Int) (s : Sm) (u d : Int) : Int := s.r * max 0 (min u (up gap s) - max d (lo gap s))
/-- .. counted for a hot stream, against for a cold one. -/
def hs (gap : Int) (u d : Int) (s : Sm) : Int := if hot s then ht gap s u d else - ht gap s u d
def surp (gap : Int) (l : List Sm) (u d : Int) : Int := (l.map (hs gap u d)).sum

theorem up_lo {gap : Int} {s : Sm} (h : s.ok = true) : lo gap s < up gap s ∧ up gap s - lo gap s ≤ 200 := by
  obtain ⟨h1, h2, h3, h4, h5, h6, h7⟩ := Sm.ok_iff.1 h
  unfold up lo hot; by_cases e : s.b < s.a <;> simp [e] <;> omega

theorem ends_in {gap : Int} {s : Sm} (h : s.ok = true) (h0 : 0 ≤ gap) (h1 : gap ≤ 20) : -20 ≤ lo gap s ∧ lo gap s < up gap s ∧ up gap s ≤ 200 := by
  obtain ⟨h1, h2, h3, h4, h5, h6, h7⟩ := Sm.ok_iff.1 h
  unfold up lo hot; by_cases e : s.b < s.a <;> simp [e] <;> omega

theorem ht_bd {gap : Int} {s : Sm} (h : s.ok = true) (u d : Int) : 0 ≤ ht gap s u d ∧ ht gap s u d ≤ 4000 := by
  obtain ⟨h1, h2⟩ := up_lo (gap := gap) h
  obtain ⟨_, _, _, _, _, h6, h7⟩ := Sm.ok_iff.1 h
  unfold ht
  have m0 : 0 ≤ max 0 (min u (up gap s) - max d (lo gap s)) := by omega
  have m1 : max 0 (min u (up gap s) - max d (lo gap s)) ≤ 200 := by omega
  generalize max 0 (min u (up gap s) - max d (lo gap s)) = m at *
  refine ⟨Int.mul_nonneg (by omega) m0, ?_⟩
  calc s.r * m ≤ 20 * m := Int.mul_le_mul_of_nonneg_right h7 m0
    _ ≤ 4000 := by omega

theorem hs_bd {gap : Int} {s : Sm} (h : s.ok = true) (u d : Int) : -4000 ≤ hs gap u d s ∧ hs gap u d s ≤ 4000 := by
  have := ht_bd (gap := gap) h u d
  unfold hs; split <;> omega

theorem sum_bd {l : List Int} {B : Int} (h : ∀ x ∈ l, -B ≤ x ∧ x ≤ B) : -(B * l.length) ≤ l.sum ∧ l.sum ≤ B * l.length := by
  induction l with
  | nil => simp
  | cons x l ih =>
    have h1 := h x (by simp)
    have h2 := ih (fun y hy => h y (by simp [hy]))
    simp only [List.sum_cons, List.length_cons, Int.natCast_add, Int.mul_add]
    constructor <;> omega

theorem surp_bd {gap : Int} {l : List Sm} (h : ∀ s ∈ l, s.ok = true) (hl : l.length ≤ 8) (u d : Int) : -32000 ≤ surp gap l u d ∧ surp gap l u d ≤ 32000 := by
  have := sum_bd (l := l.map (hs gap u d)) (B := 4000) (fun x hx => by
    obtain ⟨s, hs', rfl⟩ := List.mem_map.1 hx
    exact hs_bd (h s hs') u d)
  simp only [List.length_map] at this
  unfold surp
  constructor <;> omega

theorem surp_take {gap : Int} {l : List Sm} (h : ∀ s ∈ l, s.ok = true) (hl : l.length ≤ 8) (u d : Int) (k : Nat) : -32000 ≤ surp gap (l.take k) u d ∧ surp gap (l.take k) u d ≤ 32000 :=
  surp_bd (fun s hs => h s (List.mem_of_mem_take hs)) (by simp; omega) u d

theorem surp_snoc {gap : Int} {l : List Sm} {u d : Int} {k : Nat} (hk : k < l.length) : surp gap (l.take (k + 1)) u d = surp gap (l.take k) u d + hs gap u d l[k] := by
  unfold surp
  rw [List.take_succ_eq_append_getElem hk, List.map_append, List.sum_append]; simp

/-! ### Levels -/
/-- Neighbours that are equal count once. -/
def compact : List Int → List Int
  | [] => []
  | [x] => [x]
  | x :: y :: l => if x = y then compact (y :: l) else x :: compact (y :: l)

theorem compact_mem : ∀ (l : List Int) (x : Int), x ∈ compact l ↔ x ∈ l
  | [], x => by simp [compact]
  | [y], x => by simp [compact]
  | y :: z :: l, x => by
    unfold compact
    have ih := compact_mem (z :: l) x
    split
    · rename_i e; subst e; rw [ih]; simp
    · rw [List.mem_cons, ih]; simp

theorem compact_head : ∀ (l : List Int) (x : Int), ∃ r, compact (x :: l) = x :: r
  | [], x => ⟨[], rfl⟩
  | y :: l, x => by
    unfold compact
    split
    · rename_i e; subst e; exact compact_head l x
    · exact ⟨_, rfl⟩

theorem compact_falling : ∀ {l : List Int}, l.Pairwise (· ≥ ·) → (compact l).Pairwise (· > ·)
  | [], _ => by simp [compact]
  | [x], _ => by simp [compact]
  | x :: y :: l, h => by
    unfold compact
    rw [List.pairwise_cons] at h
    have ih := compact_falling h.2
    split
    · exact ih
    · rename_i e
      refine List.pairwise_cons.2 ⟨fun z hz => ?_, ih⟩
      rw [compact_mem] at hz
      have h1 := h.1 y (by simp)
      have h2 : z ≤ y := by
        rcases List.mem_cons.1 hz with rfl | hz
        · exact Int.le_refl _
        · exact (List.pairwise_cons.1 h.2).1 z hz
      omega

theorem compact_length : ∀ (l : List Int), (compact l).length ≤ l.length
  | [] => by simp [compact]
  | [x] => by simp [compact]
  | x :: y :: l => by
    unfold compact
    have := compact_length (y :: l)
    split <;> simp only [List.length_cons] at * <;> omega

def ends (gap : Int) (l : List Sm) : List Int := l.flatMap fun s => [up gap s, lo gap s]
/-- The shifted temperatures, each once, falling. -/
def lvls (gap : Int) (l : List Sm) : List Int := compact (sortI (ends gap l)).reverse

theorem lvls_mem {gap : Int} {l : List Sm} {t : Int} : t ∈ lvls gap l ↔ ∃ s ∈ l, up gap s = t ∨ lo gap s = t := by
  unfold lvls
  rw [compact_mem, List.mem_reverse, (sortI_perm _).mem_iff]
  unfold ends
  simp only [List.mem_flatMap, List.mem_cons, List.not_mem_nil, or_false]
  constructor
  · rintro ⟨s, h1, h2⟩; exact ⟨s, h1, h2.imp Eq.symm Eq.symm⟩
  · rintro ⟨s, h1, h2⟩; exact ⟨s, h1, h2.imp Eq.symm Eq.symm⟩

theorem lvls_falling (gap : Int) (l : List Sm) : (lvls gap l).Pairwise (· > ·) :=
  compact_falling (List.pairwise_reverse.2 (sortI_sorted _))

theorem ends_length (gap : Int) (l : List Sm) : (ends gap l).length = 2 * l.length := by
  unfold ends
  induction l with
  | nil => rfl
  | cons s l ih => simp only [List.flatMap_cons, List.length_append, List.length_cons, List.length_nil, ih]; omega

theorem lvls_length (gap : Int) (l : List Sm) : (lvls gap l).length ≤ 2 * l.length := by
  unfold lvls
  have := compact_length (sortI (ends gap l)).reverse
  rw [List.length_reverse, length_sortI, ends_length] at this
  exact this

theorem lvls_in {gap : Int} {l : List Sm} (h : okH l gap = true) : ∀ t ∈ lvls gap l, -20 ≤ t ∧ t ≤ 200 := by
  obtain ⟨h1, h2, h3, h4, h5⟩ := okH_iff.1 h
  intro t ht
  obtain ⟨s, hs, he⟩ := lvls_mem.1 ht
  have := ends_in (h5 s hs) h3 h4
  rcases he with rfl | rfl <;> omega

theorem lvls_two {gap : Int} {l : List Sm} (h : okH l gap = true) : 2 ≤ (lvls gap l).length := by
  obtain ⟨h1, h2, h3, h4, h5⟩ := okH_iff.1 h
  have hs : l[0] ∈ l := List.getElem_mem (by omega)
  have e := ends_in (h5 _ hs) h3 h4
  have m1 : up gap l[0] ∈ lvls gap l := lvls_mem.2 ⟨_, hs, .inl rfl⟩
  have m2 : lo gap l[0] ∈ lvls gap l := lvls_mem.2 ⟨_, hs, .inr rfl⟩
  match hl : lvls gap l with
  | [] => rw [hl] at m1; simp at m1
  | [x] => rw [hl] at m1 m2; simp at m1 m2; omega
  | _ :: _ :: _ => simp

/-- Two falling lists with the same members are the same. -/
theorem falling_ext : ∀ {l m : List Int}, l.Pairwise (· > ·) → m.Pairwise (· > ·) → (∀ x, x ∈ l ↔ x ∈ m) → l = m
  | [], [], _, _, _ => rfl
  | [], y :: m, _, _, h => absurd ((h y).2 (by simp)) (by simp)
  | x :: l, [], _, _, h => absurd ((h x).1 (by simp)) (by simp)
  | x :: l, y :: m, hl, hm, h => by
    rw [List.pairwise_cons] at hl hm
    have e : x = y := by
      have h1 := (h x).1 (by simp)
      have h2 := (h y).2 (by simp)
      rcases List.mem_cons.1 h1 with e | h1
      · exact e
      rcases List.mem_cons.1 h2 with e | h2
      · exact e.symm
      have := hl.1 y h2; have := hm.1 x h1; omega
    subst e
    congr 1
    refine falling_ext hl.2 hm.2 fun z => ⟨fun hz => ?_, fun hz => ?_⟩
    · rcases List.mem_cons.1 ((h z).1 (by simp [hz])) with e | h'
      · have := hl.1 z hz; omega
      · exact h'
    · rcases List.mem_cons.1 ((h z).2 (by simp [hz])) with e | h'
      · have := hm.1 z hz; omega
      · exact h'

/-! ### The cascade -/
def prs (ls : List Int) : List (Int × Int) := ls.zip ls.tail
def cscan (f : Int → Int → Int) : Int → List (Int × Int) → List Int
  | h, [] => [h]
  | h, p :: ps => h :: cscan f (h + f p.1 p.2) ps
def casc (gap : Int) (l : List Sm) (h : Int) : List Int := cscan (surp gap l) h (prs (lvls gap l))

/-- What is there behind k levels. -/
def cat (f : Int → Int → Int) (h : Int) (ps : List (Int × Int)) (k : Nat) : Int := h + ((ps.take k).map fun p => f p.1 p.2).sum

theorem cscan_length (f : Int → Int → Int) : ∀ (h : Int) (ps : List (Int × Int)), (cscan f h ps).length = ps.length + 1
  | _, [] => rfl
  | h, p :: ps => by simp [cscan, cscan_length]

theorem cscan_get (f : Int → Int → Int) : ∀ (h : Int) (ps : List (Int × Int)) (k : Nat), k ≤ ps.length → (cscan f h ps)[k]? = some (cat f h ps k)
  | h, [], k, hk => by
    have : k = 0 := by simpa using hk
    subst this; simp [cscan, cat]
  | h, p :: ps, 0, _ => by simp [cscan, cat]
  | h, p :: ps, k + 1, hk => by
    simp only [cscan, List.getElem?_cons_succ]
    rw [cscan_get f _ ps k (by simpa using hk)]
    simp only [cat, List.take_succ_cons, List.map_cons, List.sum_cons]
    congr 1; omega

theorem cscan_snoc (f : Int → Int → Int) (h : Int) (ps : List (Int × Int)) {k : Nat} (hk : k < ps.length) : cscan f h (ps.take (k + 1)) = cscan f h (ps.take k) ++ [cat f h ps (k + 1)] := by
  apply List.ext_getElem?
  intro i
  by_cases hi : i ≤ k
  · rw [cscan_get f h _ i (by simp; omega), List.getElem?_append_left (by rw [cscan_length]; simp; omega), cscan_get f h _ i (by simp; omega)]
    unfold cat
    rw [List.take_take, List.take_take, show min i (k + 1) = i by omega, show min i k = i by omega]
  · by_cases hi2 : i = k + 1
    · subst hi2
      rw [cscan_get f h _ (k + 1) (by simp; omega), List.getElem?_append_right (by rw [cscan_length]; simp; omega), cscan_length]
      have : k + 1 - ((ps.take k).length + 1) = 0 := by simp; omega
      rw [this]
      unfold cat
      rw [List.take_take, Nat.min_self]; rfl
    · rw [List.getElem?_eq_none (by rw [cscan_length]; simp; omega), List.getElem?_eq_none (by rw [List.length_append, cscan_length]; simp; omega)]

theorem cat_succ {f : Int → Int → Int} {h : Int} {ps : List (Int × Int)} {k : Nat} (hk : k < ps.length) : cat f h ps (k + 1) = cat f h ps k + f ps[k].1 ps[k].2 := by
  unfold cat
  rw [List.take_succ_eq_append_getElem hk, List.map_append, List.sum_append]
  simp; omega

theorem prs_length (ls : List Int) : (prs ls).length = ls.length - 1 := by unfold prs; simp
theorem prs_get {ls : List Int} {k : Nat} (hk : k + 1 < ls.length) : (prs ls)[k]'(by rw [prs_length]; omega) = (ls[k], ls[k + 1]) := by
  unfold prs; simp

theorem cat_bd {f : Int → Int → Int} {h : Int} {ps : List (Int × Int)} {B : Int} (hB : ∀ u d, -B ≤ f u d ∧ f u d ≤ B) (h0 : 0 ≤ B) (k : Nat) : h - B * ps.length ≤ cat f h ps k ∧ cat f h ps k ≤ h + B * ps.length := by
  have := sum_bd (l := (ps.take k).map fun p => f p.1 p.2) (B := B) (fun x hx => by
    obtain ⟨p, _, rfl⟩ := List.mem_map.1 hx
    exact hB _ _)
  simp only [List.length_map, List.length_take] at this
  have h2 : B * (min k ps.length : Nat) ≤ B * ps.length := Int.mul_le_mul_of_nonneg_left (by omega) h0
  unfold cat
  constructor <;> omega

theorem casc_bd {gap : Int} {l : List Sm} (hok : okH l gap = true) (h : Int) (k : Nat) : h - 480000 ≤ cat (surp gap l) h (prs (lvls gap l)) k ∧ cat (surp gap l) h (prs (lvls gap l)) k ≤ h + 480000 := by
  obtain ⟨h1, h2, h3, h4, h5⟩ := okH_iff.1 hok
  have := cat_bd (f := surp gap l) (h := h) (ps := prs (lvls gap l)) (B := 32000) (fun u d => surp_bd h5 h2 u d) (by omega) k
  have hl := lvls_length gap l
  rw [prs_length] at this
  constructor <;> omega

def minI : List Int → Int
  | [] => 0
  | x :: l => l.foldl min x
/-- The least hot utility. -/
def hotU (gap : Int) (l : List Sm) : Int := - minI (casc gap l 0)

theorem foldl_min_neg : ∀ (l : List Int) (x : Int), - (l.foldl min x) = l.foldl (fun h y => max h (-y)) (-x)
  | [], _ => rfl
  | y :: l, x => by
    simp only [List.foldl_cons]
    rw [foldl_min_neg l, show -(min x y) = max (-x) (-y) by omega]

theorem casc_cons (gap : Int) (l : List Sm) (h : Int) : ∃ r, casc gap l h = h :: r := by
  unfold casc
  cases prs (lvls gap l) <;> exact ⟨_, rfl⟩

theorem hotU_fold (gap : Int) (l : List Sm) : hotU gap l = (casc gap l 0).foldl (fun h y => max h (-y)) 0 := by
  obtain ⟨r, e⟩ := casc_cons gap l 0
  unfold hotU
  rw [e]
  simp only [minI, List.foldl_cons]
  rw [foldl_min_neg]; rfl

theorem foldl_min_le : ∀ (l : List Int) (x : Int), l.foldl min x ≤ x ∧ ∀ y ∈ l, l.foldl min x ≤ y
  | [], x => ⟨Int.le_refl _, fun y h => by simp at h⟩
  | y :: l, x => by
    obtain ⟨h1, h2⟩ := foldl_min_le l (min x y)
    simp only [List.foldl_cons]
    refine ⟨by omega, fun z hz => ?_⟩
    rcases List.mem_cons.1 hz with rfl | hz
    · omega
    · exact h2 z hz

theorem foldl_min_mem : ∀ (l : List Int) (x : Int), l.foldl min x = x ∨ l.foldl min x ∈ l
  | [], x => .inl rfl
  | y :: l, x => by
    simp only [List.foldl_cons]
    rcases foldl_min_mem l (min x y) with h | h
    · rw [h]
      by_cases e : x ≤ y
      · left; omega
      · right; rw [show min x y = y by omega]; simp
    · right; simp [h]

theorem minI_le {l : List Int} {x : Int} (h : x ∈ l) : minI l ≤ x := by
  cases l with
  | nil => simp at h
  | cons y l =>
    simp only [minI]
    obtain ⟨h1, h2⟩ := foldl_min_le l y
    rcases List.mem_cons.1 h with rfl | h
    · exact h1
    · exact h2 x h

theorem minI_mem {l : List Int} (h : l ≠ []) : minI l ∈ l := by
  cases l with
  | nil => exact absurd rfl h
  | cons y l =>
    simp only [minI]
    rcases foldl_min_mem l y with e | e
    · rw [e]; simp
    · simp [e]

theorem casc_mem {gap : Int} {l : List Sm} {h x : Int} (hx : x ∈ casc gap l h) : ∃ k, k ≤ (prs (lvls gap l)).length ∧ x = cat (surp gap l) h (prs (lvls gap l)) k := by
  obtain ⟨k, hk⟩ := List.getElem?_of_mem hx
  have hlt : k < (prs (lvls gap l)).length + 1 := by
    have := (List.getElem?_eq_some_iff.1 hk).1
    unfold casc at this
    rwa [cscan_length] at this
  unfold casc at hk
  rw [cscan_get _ _ _ k (by omega)] at hk
  exact ⟨k, by omega, (Option.some.inj hk).symm⟩

theorem hotU_bd {gap : Int} {l : List Sm} (hok : okH l gap = true) : 0 ≤ hotU gap l ∧ hotU gap l ≤ 480000 := by
  obtain ⟨r, e⟩ := casc_cons gap l 0
  have h0 : minI (casc gap l 0) ≤ 0 := minI_le (by rw [e]; simp)
  have hm := minI_mem (l := casc gap l 0) (by rw [e]; simp)
  obtain ⟨k, _, hk⟩ := casc_mem hm
  have := casc_bd hok 0 k
  unfold hotU
  constructor <;> omega

/-- The pinches: levels at which the cascade is 0, but for the first and the last. -/
def pinch (ls c : List Int) : List Int := (((List.range c.length).filter fun k => decide (1 ≤ k) && decide (k + 1 < c.length) && decide (c.getD k 0 = 0))).map fun k => ls.getD k 0
/-- What a temperature proves. -/
def bnd (gap : Int) (l : List Sm) (t : Int) : Int := max 0 (- surp gap l 200 t)
end Go.Ht

end
section
/-
  SLICES whose elements are of k cells each, as values; streams as cells.
-/
namespace Go.Vm
theorem chunk {α : Type} {k : Nat} : ∀ (n : Nat) (cs : List α), cs.length = n * k → ((List.range n).map fun i => (cs.drop (i * k)).take k).flatten = cs
  | 0, cs, h => by
    rw [Nat.zero_mul] at h
    rw [List.eq_nil_of_length_eq_zero h]; rfl
  | n + 1, cs, h => by
    have h2 : (cs.drop k).length = n * k := by rw [List.length_drop, h, Nat.add_mul, Nat.one_mul]; omega
    have ih := chunk n (cs.drop k) h2
    rw [List.range_succ_eq_map, List.map_cons, List.map_map, List.flatten_cons]
    have e : ((fun i => (cs.drop (i * k)).take k) ∘ Nat.succ) = fun i => ((cs.drop k).drop (i * k)).take k := funext fun i => by
      show (cs.drop ((i + 1) * k)).take k = _
      rw [List.drop_drop, Nat.add_mul, Nat.one_mul, Nat.add_comm]
    rw [e, ih, Nat.zero_mul, List.drop_zero, List.take_append_drop]
theorem VecP.rows {k : Nat} {R : List DV → Prop} {d : DV} (h : VecP k R d) : d = Dnil ∨ ∃ (rows : List (List DV)) (cap : Option Nat), d = .sl rows.flatten rows.length cap ∧ rows.length ≤ 9223372036854775807 ∧ ∀ r ∈ rows, R r := by
  cases h with
  | nil => exact .inl rfl
  | @sl cs len cap hn hl h =>
    refine .inr ⟨(List.range len).map fun i => (cs.drop (i * k)).take k, cap, ?_, by simpa using hl, fun r hr => ?_⟩
    · rw [chunk len cs hn, List.length_map, List.length_range]
    · obtain ⟨i, hi, rfl⟩ := List.mem_map.1 hr
      exact h i (List.mem_range.1 hi)
theorem list_of {α β : Type} {Q : α → β → Prop} : ∀ (rows : List α), (∀ r ∈ rows, ∃ b, Q r b) → ∃ L : List β, L.length = rows.length ∧ ∀ i (h1 : i < rows.length) (h2 : i < L.length), Q rows[i] L[i]
  | [], _ => ⟨[], rfl, fun i h1 _ => absurd h1 (Nat.not_lt_zero _)⟩
  | r :: rows, h => by
    obtain ⟨b, hb⟩ := h r (by simp)
    obtain ⟨L, h1, h2⟩ := list_of rows fun r hr => h r (List.mem_cons_of_mem _ hr)
    refine ⟨b :: L, by simp [h1], fun i k1 k2 => ?_⟩
    cases i with
    | zero => exact hb
    | succ i => exact h2 i (by simpa using k1) (by simpa using k2)
/-- A slice whose elements stand as k cells each. -/
inductive FlD {α : Type} (k : Nat) (f : α → List DV) : DV → List α → Prop
  | nil : FlD k f Dnil []
  | sl {l : List α} {cap : Option Nat} : FlD k f (.sl (l.flatMap f) l.length cap) l

theorem flat_len {α : Type} {k : Nat} {f : α → List DV} (hf : ∀ a, (f a).length = k) : ∀ l : List α, (l.flatMap f).length = l.length * k
  | [] => by simp
  | a :: l => by rw [List.flatMap_cons, List.length_append, hf, flat_len hf l, List.length_cons, Nat.add_mul]; omega

theorem flat_drop {α : Type} {k : Nat} {f : α → List DV} (hf : ∀ a, (f a).length = k) : ∀ (l : List α) (m : Nat) (hm : m < l.length), (l.flatMap f).drop (m * k) = f l[m] ++ (l.drop (m + 1)).flatMap f
  | [], m, hm => absurd hm (Nat.not_lt_zero _)
  | a :: l, 0, _ => by simp
  | a :: l, m + 1, hm => by
    rw [List.flatMap_cons, show (m + 1) * k = k + m * k by rw [Nat.add_mul]; omega, ← List.drop_drop, List.drop_append_of_le_length (by rw [hf]; exact Nat.le_refl _), List.drop_of_length_le (l := f a) (by rw [hf]; exact Nat.le_refl _), List.nil_append]
    exact flat_drop hf l m (by simpa using hm)

theorem FlD.sld {α : Type} {k : Nat} {f : α → List DV} {d : DV} {l : List α} (h : FlD k f d l) : SlD d := by cases h with | nil => exact .nil | sl => exact .sl _ _ _

/-- The value that stands for a list of an own slice. -/
def flV {α : Type} (f : α → List DV) (l : List α) : DV := match l with | [] => Dnil | _ => .sl (l.flatMap f) l.length none
theorem flV_ok {α : Type} {k : Nat} {f : α → List DV} (l : List α) : FlD k f (flV f l) l := by
  cases l with
  | nil => exact .nil
  | cons a l => exact .sl

theorem own_fl {α : Type} {k : Nat} {f : α → List DV} (hf : ∀ a, (f a).length = k) (hk : 0 < k) {σ : List VObj} {n : Nat} {x : XV} {l : List α} (h : OwnK k σ x ((l.flatMap f).map .d)) (hne : l = [] → x = .d Dnil) : deepen (freezeAll σ) (n + 2) x = some (flV f l) := by
  cases l with
  | nil => rw [hne rfl]; rfl
  | cons a l =>
    generalize hc : ((a :: l).flatMap f).map XV.d = cells at h
    have hcl := congrArg List.length hc
    rw [List.length_map, flat_len hf, List.length_cons, Nat.add_mul] at hcl
    cases h with
    | nil => simp at hcl; omega
    | @sl id m cells h hn =>
      subst hc
      have hm : m = (a :: l).length := by
        rw [List.length_map, flat_len hf] at hn
        exact (Nat.mul_right_cancel hk hn).symm
      subst hm
      have h1 : (freezeAll σ)[id]? = some ⟨((a :: l).flatMap f).map .d, 1⟩ := by simp [freezeAll, h]
      rw [deepen_osl h1 rfl (by rw [List.length_map, flat_len hf]; omega)]
      rw [List.drop_zero, List.take_of_length_le (by rw [List.length_map, flat_len hf]; omega), mapM_deep]; rfl

section
variable {P : Program} {n : Nat} {ops : Array Oper} {l : List Oper} {σ : List VObj} {kn : Kn} {dst : Option Tmp} {ty : TypeId} {pos : String} {af : Array Edge} {g : Option (Nat × Bool)}
  {R : List Nat → List VObj → Kn → Prop} {α : Type} {k : Nat} {f : α → List DV}
theorem K.lenF {x : Operand} {t e : TypeId} {d : DV} {ks : List α} (hx : evK kn x = some (.d d)) (hd : FlD k f d ks) (ht : P.underlying t = some (.slice e)) :
    KEv P ⟨dst, .call ⟨.builtin .len, #[x], #[t]⟩, ty, pos, af, g⟩ σ kn (.d (DI (ks.length : Nat))) σ 0 := by
  cases hd with
  | nil => exact K.len (R := fun _ (_ : Nat) => True) (l := []) hx .nil ht
  | sl => exact K.lenD hx ht
theorem K.idxF (hf : ∀ a, (f a).length = k) {x i : Operand} {t e : TypeId} {d : DV} {ks : List α} {m : Nat} (hx : evK kn x = some (.d d)) (hd : FlD k f d ks)
    (hi : evK kn i = some (.d (DI (m : Nat)))) (hm : m < ks.length) (ht : P.underlying t = some (.slice e)) (hs : sizeT P e = some k) :
    KEv P ⟨dst, .indexAddr t x i, ty, pos, af, g⟩ σ kn (.d (.ptr (f ks[m] ++ (ks.drop (m + 1)).flatMap f))) σ 0 := by
  cases hd with
  | nil => simp at hm
  | sl =>
    have hK := K.idxDK (P := P) (σ := σ) (dst := dst) (ty := ty) (pos := pos) (af := af) (g := g) (k := k) hx hi hm ht hs
    rwa [flat_drop hf _ _ hm] at hK
/-- The whole element. -/
theorem K.loadFl {x : Operand} {t : TypeId} {cs rest : List DV} {m : Nat} (hm : cs.length = m) (hx : evK kn x = some (.d (.ptr (cs ++ rest)))) (ht : isAggT P t = some true) (hs : sizeT P t = some m) :
    KEv P ⟨dst, .load t x, ty, pos, af, g⟩ σ kn (.d (.agg cs)) σ 0 := by
  have h := K.loadAgg (σ := σ) (dst := dst) (ty := ty) (pos := pos) (af := af) (g := g) (cs := cs ++ rest) (m := m) hx ht hs (by simp; omega)
  rwa [List.take_append_of_le_length (by omega), List.take_of_length_le (by omega)] at h

/-- append of several elements to a slice that is made so. -/
theorem KT.appM {t e : TypeId} {x y : Operand} {k q : Nat} {sx : XV} {cells vs : List XV} {id : Nat} (hg : guardK ops kn ⟨dst, .call ⟨.builtin .append, #[x, y], #[t, t]⟩, ty, pos, af, g⟩ = some true) (hd : dstOk n dst = true)
    (hx : evK kn x = some sx) (hy : evK kn y = some (.osl id 0 q k q true)) (hown : OwnK k σ sx cells) (hid : σ[id]? = some ⟨vs, 0⟩) (hvs : vs.length = q * k) (hq : 0 < q) (hq2 : q ≤ 1000) (h1v : vs.all oneX = true) (hlen : cells.length < 1073740000)
    (ht : P.underlying t = some (.slice e)) (hs : sizeT P e = some k) (hb : bytesT P e ≤ 65536) (hz : (zeroT P e).map (·.cells.size) = some k) (hk : 0 < k)
    (h : ∀ σ' x', OwnK k σ' x' (cells ++ vs) → (∀ j, idX sx ≠ some j → j < σ.length → σ'[j]? = σ[j]?) → (∃ j, idX x' = some j ∧ σ.length ≤ j) → KT P n ops l σ' (extK dst x' kn) (fun fls τ k => R (2 :: fls) τ k)) :
    KT P n ops (⟨dst, .call ⟨.builtin .append, #[x, y], #[t, t]⟩, ty, pos, af, g⟩ :: l) σ kn R := by
  have hsrc : srcCells σ k (.osl id 0 q k q true) = some (vs, q, 1) := by
    simp [srcCells, hid, hvs]
    rw [List.take_of_length_le (by omega)]
  have hq0 : ¬ q = 0 := by omega
  cases hown with
  | nil =>
    refine KT.step hg hd (x := .osl σ.length 0 q k q false) (σ' := σ ++ [⟨vs, 0⟩]) (fl := 2) (ev_op fun env he => ?_) (h _ _ (.sl (by simp) hvs) (fun j _ hj => by rw [List.getElem?_append_left hj]) ⟨_, rfl, Nat.le_refl _⟩)
    have e1 := evK_evalX he hx
    have e2 := evK_evalX he hy
    unfold evalOp
    rw [litOp_none (x := y) (by simp [Op.operands, Call.operands]) (by rw [e2]; rfl)]
    have hq3 : q ≤ 1073741824 := by omega
    simp [e1, e2, opAppend, ht, hs, hsrc, h1v, growTo, hb, hz, hq0, hq3]
  | @sl oid m cells ho hn =>
    have hm : m < 1073740000 := by
      have : m * 1 ≤ m * k := Nat.mul_le_mul_left _ hk
      omega
    refine KT.step hg hd (x := .osl σ.length 0 (m + q) k (m + q) false) (σ' := (σ.set oid ⟨cells, 2⟩) ++ [⟨cells ++ vs, 0⟩]) (fl := 2) (ev_op fun env he => ?_)
      (h _ _ (.sl (by rw [List.getElem?_append_right (by simp)]; simp) (by simp [hn, hvs, Nat.add_mul])) (fun j hj hlt => by
        rw [List.getElem?_append_left (by simpa using hlt), List.getElem?_set]
        rw [if_neg (fun e => hj (by rw [e]; rfl))]) ⟨_, rfl, Nat.le_refl _⟩)
    have e1 := evK_evalX he hx
    have e2 := evK_evalX he hy
    unfold evalOp
    rw [litOp_none (x := x) (by simp [Op.operands, Call.operands]) (by rw [e1]; rfl)]
    have h3 : m + q ≤ 1073741824 := by omega
    have h4 : ¬ m + q ≤ m := by omega
    simp [e1, e2, opAppend, ht, hs, hsrc, h1v, ho, hb, hz, h3, h4, hn, hq0]

/-- A slice that is appended to: made so, or a literal. -/
inductive OwnL (k : Nat) (σ : List VObj) : XV → List XV → Prop
  | own {x : XV} {cells : List XV} (h : OwnK k σ x cells) : OwnL k σ x cells
  | lit {id n : Nat} {cells : List XV} (h : σ[id]? = some ⟨cells, 0⟩) (hn : cells.length = n * k) : OwnL k σ (.osl id 0 n k n true) cells
theorem OwnL.keep {k : Nat} {σ σ' : List VObj} {x : XV} {cells : List XV} (h : OwnL k σ x cells) (hk : ∀ j, idX x = some j → σ'[j]? = σ[j]?) : OwnL k σ' x cells := by
  cases h with
  | own h => exact .own (h.keep hk)
  | lit h hn => exact .lit (by rw [hk _ rfl]; exact h) hn
theorem OwnL.lt {k : Nat} {σ : List VObj} {x : XV} {cells : List XV} (h : OwnL k σ x cells) {j : Nat} (hj : idX x = some j) : j < σ.length := by
  cases h with
  | own h => exact h.lt hj
  | lit h hn => cases hj; exact (List.getElem?_eq_some_iff.1 h).1
theorem OwnL.pushed {k : Nat} {σ : List VObj} {x : XV} {cells : List XV} (h : OwnL k σ x cells) (o : VObj) : OwnL k (σ ++ [o]) x cells := by
  cases h with
  | own h => exact .own (h.pushed o)
  | lit h hn => exact .lit (getElem?_pre _ _ _ _ h) hn
theorem KT.appL {t e : TypeId} {x y : Operand} {k q : Nat} {sx : XV} {cells vs : List XV} {id : Nat} (hg : guardK ops kn ⟨dst, .call ⟨.builtin .append, #[x, y], #[t, t]⟩, ty, pos, af, g⟩ = some true) (hd : dstOk n dst = true)
    (hx : evK kn x = some sx) (hy : evK kn y = some (.osl id 0 q k q true)) (hown : OwnL k σ sx cells) (hid : σ[id]? = some ⟨vs, 0⟩) (hvs : vs.length = q * k) (hq : 0 < q) (hq2 : q ≤ 1000) (h1v : vs.all oneX = true) (hlen : cells.length < 1073740000)
    (ht : P.underlying t = some (.slice e)) (hs : sizeT P e = some k) (hb : bytesT P e ≤ 65536) (hz : (zeroT P e).map (·.cells.size) = some k) (hk : 0 < k)
    (h : ∀ σ' x', OwnK k σ' x' (cells ++ vs) → (∀ j, idX sx ≠ some j → j < σ.length → σ'[j]? = σ[j]?) → (∃ j, idX x' = some j ∧ σ.length ≤ j) → KT P n ops l σ' (extK dst x' kn) (fun fls τ k => R (2 :: fls) τ k)) :
    KT P n ops (⟨dst, .call ⟨.builtin .append, #[x, y], #[t, t]⟩, ty, pos, af, g⟩ :: l) σ kn R := by
  cases hown with
  | own hown => exact KT.appM hg hd hx hy hown hid hvs hq hq2 h1v hlen ht hs hb hz hk h
  | @lit oid m cells ho hn =>
    have hsrc : srcCells σ k (.osl id 0 q k q true) = some (vs, q, 1) := by
      simp [srcCells, hid, hvs]
      rw [List.take_of_length_le (by omega)]
    have hq0 : ¬ q = 0 := by omega
    have hm : m < 1073740000 := by
      have : m * 1 ≤ m * k := Nat.mul_le_mul_left _ hk
      omega
    refine KT.step hg hd (x := .osl σ.length 0 (m + q) k (m + q) false) (σ' := σ ++ [⟨cells ++ vs, 0⟩]) (fl := 2) (ev_op fun env he => ?_)
      (h _ _ (.sl (by simp) (by simp [hn, hvs, Nat.add_mul])) (fun j hj hlt => by rw [List.getElem?_append_left hlt]) ⟨_, rfl, Nat.le_refl _⟩)
    have e1 := evK_evalX he hx
    have e2 := evK_evalX he hy
    unfold evalOp
    rw [litOp_none (x := x) (by simp [Op.operands, Call.operands]) (by rw [e1]; rfl)]
    have h3 : m + q ≤ 1073741824 := by omega
    have h4 : ¬ m + q ≤ m := by omega
    have h5 : List.take (m * k) cells = cells := List.take_of_length_le (by omega)
    simp [e1, e2, opAppend, ht, hs, hsrc, h1v, ho, hb, hz, h3, h4, hn, hq0, growTo, h5]
end
end Go.Vm
namespace Go.Ht
open Go.Vm
def c3 (s : Sm) : List DV := [DI s.a, DI s.b, DI s.r]
def c5 (gap : Int) (s : Sm) : List DV := [DI s.a, DI s.b, DI s.r, DI (up gap s), DI (lo gap s)]
theorem c3_len (s : Sm) : (c3 s).length = 3 := rfl
theorem c5_len (gap : Int) (s : Sm) : (c5 gap s).length = 5 := rfl
abbrev StD : DV → List Sm → Prop := FlD 3 c3
/-- Whole numbers of an own slice. -/
def ints (l : List Int) : List DV := l.map fun n => DI n
theorem ints_ok {l : List Int} {cap : Option Nat} : Ints (.sl (ints l) l.length cap) l := by
  refine .sl (by simp [ints]) fun i c x hc hx => ?_
  unfold ints at hc
  rw [List.getElem?_map, hx] at hc
  exact (Option.some.inj hc).symm
end Go.Ht

end
section
/-
  RULES: clear of an own slice of whole numbers, parts of own slices, a slice without its first element.
-/
namespace Go.Vm
open Go.RowKit
section
variable {P : Program} {σ : List VObj} {kn : Kn} {dst : Option Tmp} {ty : TypeId} {pos : String} {af : Array Edge} {g : Option (Nat × Bool)}

/-- clear of a part of an own slice. -/
theorem K.clearI {x : Operand} {t e : TypeId} {id off n lo : Nat} {ex : Bool} {cells : List XV} (hx : evK kn x = some (.osl id off n 1 lo ex)) (ho : σ[id]? = some ⟨cells, 0⟩) (hf : off + n ≤ cells.length) (hn : 0 < n)
    (ht : P.underlying t = some (.slice e)) (hv : ∀ w, (zeroValue e).run P w = .ok (.int .i64 0) w) :
    KEv P ⟨dst, .call ⟨.builtin .clear, #[x], #[t]⟩, ty, pos, af, g⟩ σ kn (.d (.lit (.tuple #[]))) (σ.set id ⟨splice cells off (List.replicate n (.d (DI 0))), 0⟩) 2 := by
  refine K.semW fun env he M W0 ι w ev hm h => ?_
  have h1 := h x (by simp [Op.operands, Call.operands])
  rw [evK_evalX he hx] at h1
  have hex : execOp ev ⟨dst, .call ⟨.builtin .clear, #[x], #[t]⟩, ty, pos, af, g⟩ = (do
      let d ← resolve ev ⟨.builtin .clear, #[x], #[t]⟩ ty
      invoke d.target d.args) := rfl
  generalize hvx : ev x = vx at *
  cases h1 with
  | @osl b _ _ cap _ _ _ _ hb hl hlo hex2 hsz =>
  obtain ⟨cur, et, q1, q2, q3⟩ := hm.objs id _ b ho hb (by simp)
  simp only at q2
  obtain ⟨w1, w2⟩ := hm.write ho hb rfl q1 off (List.replicate n (.int .i64 0)) (List.replicate n (.d (DI 0))) (by simp) (by simpa using hf) (fun i v x hv hx => by
    rw [List.getElem?_replicate] at hv hx
    split at hv
    · cases hv; rw [if_pos ‹_›] at hx; cases hx; exact .d (.lit _)
    · cases hv)
  have hst := run_storeCells_at P b off et (List.replicate n (.int .i64 0)) 0 cur w q1 (by simp; omega) (by intro v hv'; rw [List.eq_of_mem_replicate hv']; rfl)
  simp only [Nat.add_zero] at hst
  have hzc : (Builtin.zeroCells (Value.int .i64 0).cells n).toList = List.replicate n (.int .i64 0) := by
    simp [Builtin.zeroCells, Value.cells]
    apply List.ext_getElem
    · simp
    · intro i h1 h2
      simp [Nat.mod_one]
  obtain ⟨m, rfl⟩ : ∃ m, n = m + 1 := ⟨n - 1, by omega⟩
  refine ⟨ι, _, _, .inl ?_, w1, w2, .d (.lit _)⟩
  rw [hex]
  simp [resolve, invoke, builtin, hvx, Builtin.clear_, run_underlying ht, hv, hzc, hst, splice, Result.andThen]

/-- s[m:] of an own slice. -/
theorem K.sliceOF {x h : Operand} {t e : TypeId} {id off len lo m : Nat} {ex : Bool} (hx : evK kn x = some (.osl id off len 1 lo ex)) (hh : evK kn h = some (.d (DI (m : Int)))) (hm : m ≤ len) (hl : len ≤ lo) (hmo : m < lo ∨ m = 0) (ht : P.underlying t = some (.slice e)) (hs : sizeT P e = some 1) :
    KEv P ⟨dst, .slice t x (some h) none none, ty, pos, af, g⟩ σ kn (.osl id (off + m) (len - m) 1 (lo - m) ex) σ 0 := ev_op fun env he => by
  have e1 := evK_evalX he hx
  have e2 := evK_evalX he hh
  unfold evalOp
  rw [litOp_none (x := x) (by simp [Op.operands]) (by rw [e1]; rfl)]
  simp [e1, e2, opSlice, ht, hs, boundOf, litOf, hm, hl, hmo]

/-- s[:m] of an own slice. -/
theorem K.sliceOT {x h : Operand} {t e : TypeId} {id off len lo m : Nat} {ex : Bool} (hx : evK kn x = some (.osl id off len 1 lo ex)) (hh : evK kn h = some (.d (DI (m : Int)))) (hm : m ≤ lo) (ht : P.underlying t = some (.slice e)) (hs : sizeT P e = some 1) :
    KEv P ⟨dst, .slice t x none (some h) none, ty, pos, af, g⟩ σ kn (.osl id off m 1 lo ex) σ 0 := ev_op fun env he => by
  have e1 := evK_evalX he hx
  have e2 := evK_evalX he hh
  unfold evalOp
  rw [litOp_none (x := x) (by simp [Op.operands]) (by rw [e1]; rfl)]
  simp [e1, e2, opSlice, ht, hs, boundOf, litOf, hm]

/-- A struct that is built, of plain values or not. -/
theorem K.buildS {t : TypeId} {parts : Array (Nat × Operand)} {qs : List (Nat × XV)} {r : XV} (hp : parts.toList.mapM (fun p => (evK kn p.2).map fun v => (p.1, v)) = some qs) (hr : opBuild P t qs = some r) : KEv P ⟨dst, .build t parts, ty, pos, af, g⟩ σ kn r σ 0 := by
  refine K.semP fun env he F ι w ev h => ?_
  have hex : ∀ ev : Operand → Value, execOp ev ⟨dst, .build t parts, ty, pos, af, g⟩ = (do pure (.value (← Instr.build t (parts.map fun (i, x) => (i, ev x))))) := fun _ => rfl
  rw [hex]
  obtain ⟨h1, h2⟩ := mapM_get hp
  obtain ⟨v, k1, k2⟩ := opBuild_sound (P := P) (w := w) (ι := ι) (F := F) (ps := (parts.map fun p => (p.1, ev p.2)).toList) (by simpa using h1) (fun i p q hpi hqi => by
    simp only [Array.toList_map, List.getElem?_map, Option.map_eq_some_iff] at hpi
    obtain ⟨p', hp', rfl⟩ := hpi
    have h3 := h2 i p' q hp' hqi
    obtain ⟨u, hu, rfl⟩ := Option.map_eq_some_iff.1 h3
    refine ⟨rfl, ?_⟩
    have := h p'.2 (by
      simp only [Op.operands, List.mem_toArray, List.mem_map]
      exact ⟨p', List.mem_of_getElem? hp', rfl⟩)
    rw [evK_evalX he hu] at this
    exact this) hr
  refine ⟨v, ?_, k2⟩
  rw [Array.toArray_toList] at k1
  simp [k1, Result.andThen]

/-- A call of a function value with what it brings. -/
theorem K.callC {c : Operand} {v : XV} {f : FuncId} {args : Array Operand} {ts : Array TypeId} {ds cs : List DV} {res : DV} (hv : evK kn c = some v) (hf : asFn v = some (f, [], cs.map .d)) (ha : args.toList.mapM (evK kn) = some (ds.map .d))
    (hp : plainFn P f = true) (hc : DeepCall P f (ds ++ cs) res) : KEv P ⟨dst, .call ⟨.value c, args, ts⟩, ty, pos, af, g⟩ σ kn (.d res) σ 0 := fun env he =>
  .call (first := []) (caps := cs.map .d) rfl (by rw [evK_evalX he hv]; exact hf) hp (by rw [mapM_evK he ha]; simp) hc
/-- One result, that lies in a variable. -/
theorem resK_c {fn : Func} {a t id m md : Nat} (ds : List DV) (hr : fn.results = #[.cell a t]) (hl : look kn a = some (.optr id 0)) (ho : σ[id]? = some ⟨ds.map .d, md⟩) (h2 : md < 2) (ha : isAggT P t = some true) (hs : sizeT P t = some m) (hm : ds.length = m) :
    resK P fn σ kn = some (.d (.agg ds)) := by
  have := resK_agg (m := m) hr hl ho h2 ha hs (by simp; omega)
  rwa [List.drop_zero, List.take_of_length_le (by simp; omega), aggX_d] at this
/-- A part of an own variable of plain cells. -/
theorem K.loadOP {x : Operand} {t : TypeId} {id off m md : Nat} (ds : List DV) (hx : evK kn x = some (.optr id off)) (ho : σ[id]? = some ⟨ds.map .d, md⟩) (h2 : md < 2) (ha : isAggT P t = some true) (hs : sizeT P t = some m) (hm : off + m ≤ ds.length) :
    KEv P ⟨dst, .load t x, ty, pos, af, g⟩ σ kn (.d (.agg ((ds.drop off).take m))) σ 1 := by
  have h := K.loadOAgg (dst := dst) (ty := ty) (pos := pos) (af := af) (g := g) hx ho h2 ha hs (by simp; omega)
  rwa [← List.map_drop, ← List.map_take, aggX_d] at h

/-- Two results, the first of which lies in a variable, whatever its cells are. -/
theorem resK_cX {fn : Func} {a t b id m md : Nat} (cs : List XV) {y : XV} (hr : fn.results = #[.cell a t, .tmp b]) (hl : look kn a = some (.optr id 0)) (ho : σ[id]? = some ⟨cs, md⟩) (h2 : md < 2) (ha : isAggT P t = some true) (hs : sizeT P t = some m) (hm : cs.length = m) (hy : look kn b = some y) :
    resK P fn σ kn = some (.tup [aggX cs, y]) := by
  unfold resK
  rw [hr]
  have e : resVarK P σ kn (.cell a t) = some (aggX cs) := by
    simp only [resVarK, hl, Option.bind_some, opLoad, ho]
    rw [if_neg (fun h => h h2)]
    simp only [takeVar, ha, hs, List.drop_zero]
    rw [if_pos (by omega), List.take_of_length_le (by omega)]; rfl
  have e2 : resVarK P σ kn (.tmp b) = some y := hy
  simp only [List.mapM_cons, List.mapM_nil, e, e2]
  rfl
theorem OwnL.mask {k j : Nat} {τ : List VObj} {a b : VObj} {x : XV} {cells : List XV} (o : OwnL k (τ.set j a) x cells) (h : ∀ i, idX x = some i → j ≠ i) : OwnL k (τ.set j b) x cells :=
  o.keep fun i hi => by rw [List.getElem?_set_ne (h i hi), List.getElem?_set_ne (h i hi)]
theorem snoc2 {α : Type} {A : List α} {a b : α} : (A ++ [a] ++ [b])[A.length + 1]? = some b := by
  rw [List.getElem?_append_right (by simp)]; simp

/-- s[1:] of whole numbers. -/
theorem K.tailI {x : Operand} {t e : TypeId} {ls : List Int} {cap : Option Nat} (hx : evK kn x = some (.d (.sl (Go.Ht.ints ls) ls.length cap))) (hl : 1 ≤ ls.length) (ht : P.underlying t = some (.slice e)) (hs : sizeT P e = some 1) :
    KEv P ⟨dst, .slice t x (some (.const (.int .i64 1))) none none, ty, pos, af, g⟩ σ kn (.d (.sl (Go.Ht.ints ls.tail) ls.tail.length (cap.map (· - 1)))) σ 0 := ev_op fun env he => by
  have e1 := evK_evalX he hx
  unfold evalOp
  rw [litOp_none (x := x) (by simp [Op.operands]) (by rw [e1]; rfl)]
  cases ls with
  | nil => simp at hl
  | cons a ls =>
    have e3 : evalX env (.const (.int .i64 1)) = .d (DI 1) := rfl
    simp [e1, e3, opSlice, ht, hs, boundOf, litOf, Go.Ht.ints, List.take_of_length_le]
end
section
variable {P : Program} {n : Nat} {ops : Array Oper} {l : List Oper} {σ : List VObj} {kn : Kn} {dst : Option Tmp} {ty : TypeId} {pos : String} {af : Array Edge} {g : Option (Nat × Bool)}
  {R : List Nat → List VObj → Kn → Prop}
/-- All cells of a variable are written. -/
theorem KT.putAll {x y : Operand} {t : TypeId} {id : Nat} {cells cs : List XV} {v : XV} (hg : guardK ops kn ⟨dst, .store t x y, ty, pos, af, g⟩ = some true) (hd : dstOk n dst = true) (hx : evK kn x = some (.optr id 0)) (hy : evK kn y = some v)
    (ho : σ[id]? = some ⟨cells, 0⟩) (hc : cellsX v = cs) (hz : cells.length = cs.length) (h1 : cs.all oneX = true) (hs : sizeT P t = some cs.length)
    (h : KT P n ops l (σ.set id ⟨cs, 0⟩) (extK dst undefX kn) (fun fls τ k => R (2 :: fls) τ k)) :
    KT P n ops (⟨dst, .store t x y, ty, pos, af, g⟩ :: l) σ kn R := by
  subst hc
  refine KT.step hg hd (K.storeN hx hy ho (by omega) h1 hs) ?_
  rw [splice_all hz]
  exact h
end
end Go.Vm

end
section
/-
  LISTS of whole numbers in an own slice: how slices.Reverse, slices.Compact and slices.Min go through them.
-/
namespace Go.Ht
open Go.Vm
/-- Cells of whole numbers. -/
def xs (l : List Int) : List XV := l.map fun z => XV.d (DI z)
theorem xs_len (l : List Int) : (xs l).length = l.length := by simp [xs]
theorem xs_get {l : List Int} {i : Nat} (hi : i < l.length) : (xs l)[0 + i]? = some (.d (DI l[i])) := by rw [Nat.zero_add]; simp [xs, hi]
theorem xs_get' {l : List Int} {i : Nat} (hi : i < l.length) : (xs l)[i]? = some (.d (DI l[i])) := by simp [xs, hi]
theorem xs_set {l : List Int} {i : Nat} {z : Int} : (xs l).set (0 + i) (.d (DI z)) = xs (l.set i z) := by rw [Nat.zero_add]; unfold xs; rw [List.map_set]
theorem xs_app (l m : List Int) : xs (l ++ m) = xs l ++ xs m := by simp [xs]
theorem xs_ints (l : List Int) : xs l = (ints l).map .d := by simp [xs, ints]
theorem xs_rep (n : Nat) : List.replicate n (XV.d (DI 0)) = xs (List.replicate n 0) := by simp [xs]

/-- With k elements exchanged from both ends. -/
def revS (l : List Int) (k : Nat) : List Int := (List.range l.length).map fun j => if j < k ∨ l.length ≤ j + k then l.getD (l.length - 1 - j) 0 else l.getD j 0
theorem revS_len (l : List Int) (k : Nat) : (revS l k).length = l.length := by simp [revS]
theorem revS_get {l : List Int} {k i : Nat} (hi : i < l.length) : (revS l k)[i]'(by rw [revS_len]; exact hi) = if i < k ∨ l.length ≤ i + k then l.getD (l.length - 1 - i) 0 else l.getD i 0 := by simp [revS]
theorem revS_zero (l : List Int) : revS l 0 = l := by
  apply List.ext_getElem
  · simp [revS]
  · intro i h1 h2
    have h3 : ¬ (i < 0 ∨ l.length ≤ i + 0) := by omega
    rw [revS_get h2, if_neg h3]; simp [h2]
theorem revS_full {l : List Int} {k : Nat} (hk : l.length ≤ 2 * k + 1) : revS l k = l.reverse := by
  apply List.ext_getElem
  · simp [revS]
  · intro i h1 h2
    have hi : i < l.length := by simpa using h2
    rw [revS_get hi, List.getElem_reverse]
    by_cases h : i < k ∨ l.length ≤ i + k
    · rw [if_pos h]; simp [show l.length - 1 - i < l.length by omega]
    · rw [if_neg h]
      have e : l.length - 1 - i = i := by omega
      simp [e, hi]
theorem revS_succ {l : List Int} {k : Nat} (hk : 2 * k + 1 < l.length) : ((revS l k).set k (l.getD (l.length - 1 - k) 0)).set (l.length - 1 - k) (l.getD k 0) = revS l (k + 1) := by
  apply List.ext_getElem
  · simp [revS]
  · intro i h1 h2
    have hi : i < l.length := by simpa [revS] using h2
    rw [List.getElem_set, List.getElem_set, revS_get hi, revS_get hi]
    by_cases e1 : l.length - 1 - k = i
    · rw [if_pos e1, if_pos (by omega), show l.length - 1 - i = k by omega]
    · rw [if_neg e1]
      by_cases e2 : k = i
      · subst e2; rw [if_pos rfl, if_pos (by omega)]
      · rw [if_neg e2]
        by_cases h : i < k ∨ l.length ≤ i + k
        · rw [if_pos h, if_pos (by omega)]
        · rw [if_neg h, if_neg (by omega)]

theorem rev_load {l : List Int} {k i : Nat} (hi : i < l.length) (h : ¬ (i < k ∨ l.length ≤ i + k)) : (xs (revS l k))[0 + i]? = some (.d (DI (l.getD i 0))) := by
  rw [xs_get (by rw [revS_len]; exact hi), revS_get hi, if_neg h]

theorem compact_snoc : ∀ (l : List Int) (x y : Int), compact (l ++ [x, y]) = if x = y then compact (l ++ [x]) else compact (l ++ [x]) ++ [y]
  | [], x, y => by
    simp only [List.nil_append, compact]
    split
    · rename_i e; rw [e]
    · rfl
  | [a], x, y => by
    have h := compact_snoc [] x y
    simp only [List.nil_append, List.cons_append] at h ⊢
    rw [compact, h]
    simp only [compact]
    split <;> split <;> rfl
  | a :: b :: l, x, y => by
    have ih := compact_snoc (b :: l) x y
    simp only [List.cons_append] at ih ⊢
    rw [compact, ih, compact]
    split <;> split <;> rfl

theorem take_two {l : List Int} {k : Nat} (hk : k < l.length) (h1 : 1 ≤ k) : l.take (k + 1) = l.take (k - 1) ++ [l[k - 1], l[k]] := by
  obtain ⟨m, rfl⟩ : ∃ m, k = m + 1 := ⟨k - 1, by omega⟩
  rw [List.take_succ_eq_append_getElem hk, List.take_succ_eq_append_getElem (show m < l.length by omega), List.append_assoc]; rfl

theorem take_one {l : List Int} {k : Nat} (hk : k ≤ l.length) (h1 : 1 ≤ k) : l.take k = l.take (k - 1) ++ [l[k - 1]] := by
  obtain ⟨m, rfl⟩ : ∃ m, k = m + 1 := ⟨k - 1, by omega⟩
  rw [List.take_succ_eq_append_getElem (show m < l.length by omega)]; rfl

/-- The next element. -/
theorem compact_step {l : List Int} {k : Nat} (hk : k < l.length) (h1 : 1 ≤ k) : compact (l.take (k + 1)) = if l[k - 1] = l[k] then compact (l.take k) else compact (l.take k) ++ [l[k]] := by
  rw [take_two hk h1, compact_snoc, ← take_one (by omega) h1]

theorem foldl_take {f : Int → Int → Int} {l : List Int} {x : Int} {k : Nat} (hk : k < l.length) : (l.take (k + 1)).foldl f x = f ((l.take k).foldl f x) l[k] := by
  rw [List.take_succ_eq_append_getElem hk, List.foldl_append]; rfl

theorem lt_of_get {α : Type} {σ : List α} {id : Nat} {o : α} (h : σ[id]? = some o) : id < σ.length := (List.getElem?_eq_some_iff.1 h).1
/-- The cells of a slice that is half way compacted: what has come, and the rest as it was. -/
def compS (l : List Int) (k : Nat) : List Int := compact (l.take k) ++ l.drop (compact (l.take k)).length
theorem compS_len (l : List Int) (k : Nat) : (compS l k).length = l.length := by
  have := compact_length (l.take k)
  rw [List.length_take] at this
  unfold compS; rw [List.length_append, List.length_drop]; omega
theorem compS_get {l : List Int} {k i : Nat} (hi : i < l.length) (h : (compact (l.take k)).length ≤ i) : (compS l k)[i]'(by rw [compS_len]; exact hi) = l[i] := by
  unfold compS
  rw [List.getElem_append_right h]
  simp
  congr 1; omega
theorem compS_step_no {l : List Int} {k : Nat} (hk : k < l.length) (h1 : 1 ≤ k) (he : l[k - 1] = l[k]) : compS l (k + 1) = compS l k := by
  unfold compS; rw [compact_step hk h1, if_pos he]
theorem compS_step_yes {l : List Int} {k : Nat} (hk : k < l.length) (h1 : 1 ≤ k) (he : l[k - 1] ≠ l[k]) : (compS l k).set (compact (l.take k)).length l[k] = compS l (k + 1) := by
  have hc := compact_length (l.take k)
  rw [List.length_take] at hc
  unfold compS
  rw [compact_step hk h1, if_neg he, List.length_append, List.length_singleton]
  rw [List.set_append_right _ _ (Nat.le_refl _), Nat.sub_self]
  have : l.drop (compact (l.take k)).length = l[(compact (l.take k)).length]'(by omega) :: l.drop ((compact (l.take k)).length + 1) := (List.drop_eq_getElem_cons _)
  rw [this, List.set_cons_zero]; simp
theorem compS_load {l : List Int} {k i j : Nat} (hj : j = i) (hi : i < l.length) (h : (compact (l.take k)).length ≤ i) : (xs (compS l k))[j]? = some (.d (DI l[i])) := by
  subst hj
  rw [xs_get' (by rw [compS_len]; exact hi), compS_get hi h]
theorem compact_short {l : List Int} (h : l.length < 2) : compact l = l := by
  match l, h with
  | [], _ => rfl
  | [x], _ => rfl
theorem compS_start {l : List Int} {k : Nat} (hk : k ≤ l.length) (hc : compact (l.take k) = l.take k) : compS l k = l := by
  unfold compS
  rw [hc, List.length_take, Nat.min_eq_left hk, List.take_append_drop]
theorem compS_end {l : List Int} : splice (xs (compS l l.length)) (0 + (compact l).length) (List.replicate (l.length - (compact l).length) (XV.d (DI 0))) = xs (compact l ++ List.replicate (l.length - (compact l).length) 0) := by
  have hc := compact_length l
  unfold compS splice
  rw [List.take_of_length_le (Nat.le_refl l.length), Nat.zero_add, xs_rep, xs_app, xs_app]
  have h1 : (xs (compact l) ++ xs (l.drop (compact l).length)).take (compact l).length = xs (compact l) := by
    rw [List.take_append_of_le_length (by rw [xs_len]; exact Nat.le_refl _), List.take_of_length_le (by rw [xs_len]; exact Nat.le_refl _)]
  rw [h1, List.drop_of_length_le (by rw [List.length_append, xs_len, xs_len, xs_len, List.length_drop, List.length_replicate]; omega), List.append_nil]

/-! ### Pinches -/
def pinG (ls c : List Int) (n k : Nat) : List Int := ((List.range k).filter fun j => decide (1 ≤ j) && decide (j + 1 < n) && decide (c.getD j 0 = 0)).map fun j => ls.getD j 0
theorem pinG_succ {ls c : List Int} {n k : Nat} : pinG ls c n (k + 1) = if 1 ≤ k ∧ k + 1 < n ∧ c.getD k 0 = 0 then pinG ls c n k ++ [ls.getD k 0] else pinG ls c n k := by
  unfold pinG
  rw [List.range_succ, List.filter_append, List.map_append]
  by_cases h : 1 ≤ k ∧ k + 1 < n ∧ c.getD k 0 = 0
  · rw [if_pos h]
    have : (decide (1 ≤ k) && decide (k + 1 < n) && decide (c.getD k 0 = 0)) = true := by simp only [Bool.and_eq_true, decide_eq_true_eq]; exact ⟨⟨h.1, h.2.1⟩, h.2.2⟩
    rw [List.filter_cons_of_pos (by simpa using this)]; rfl
  · rw [if_neg h]
    have : ¬ (decide (1 ≤ k) && decide (k + 1 < n) && decide (c.getD k 0 = 0)) = true := by simp only [Bool.and_eq_true, decide_eq_true_eq]; exact fun ⟨⟨a, b⟩, c⟩ => h ⟨a, b, c⟩
    have e : List.filter (fun j => decide (1 ≤ j) && decide (j + 1 < n) && decide (c.getD j 0 = 0)) [k] = [] := List.filter_eq_nil_iff.2 fun a ha => by rw [List.mem_singleton] at ha; subst ha; exact this
    rw [e]; simp
theorem pinG_one {ls c : List Int} {n : Nat} : pinG ls c n 1 = [] := by
  rw [pinG_succ, if_neg (by omega)]; rfl
theorem pinG_end {ls c : List Int} {n k : Nat} (h : n ≤ k + 1) : ∀ m, pinG ls c n (k + m) = pinG ls c n k
  | 0 => rfl
  | m + 1 => by rw [← Nat.add_assoc, pinG_succ, if_neg (by omega), pinG_end h m]
theorem pinG_len (ls c : List Int) (n : Nat) : ∀ k, (pinG ls c n k).length ≤ k
  | 0 => by simp [pinG]
  | k + 1 => by
    have := pinG_len ls c n k
    rw [pinG_succ]; split
    · rw [List.length_append, List.length_singleton]; omega
    · omega
/-- The levels, but for the first and the last, at which a cascade is 0. -/
def pins (ls c : List Int) : List Int := pinG ls c c.length c.length
/-- The value of an own slice of whole numbers. -/
def intsV (l : List Int) : DV := match l with | [] => Dnil | _ => .sl (ints l) l.length none
theorem intsV_ok (l : List Int) : Ints (intsV l) l := by
  cases l with
  | nil => exact .nil
  | cons a l => exact ints_ok
theorem intsV_len {l : List Int} (h : l ≠ []) : intsV l = .sl (ints l) l.length none := by
  cases l with
  | nil => exact absurd rfl h
  | cons a l => rfl
theorem own_ints {σ : List VObj} {x : XV} {zs : List Int} {k : Nat} (h : OwnK 1 σ x (xs zs)) (hne : zs = [] → x = .d Dnil) : deepen (freezeAll σ) (k + 2) x = some (intsV zs) := by
  cases zs with
  | nil => rw [hne rfl]; rfl
  | cons a l =>
    generalize hc : xs (a :: l) = cs at h
    cases h with
    | nil => have := congrArg List.length hc; rw [xs_len] at this; simp at this
    | @sl id n cells h hn =>
      subst hc
      rw [xs_len, Nat.mul_one] at hn
      subst hn
      have f2 : (freezeAll σ)[id]? = some ⟨xs (a :: l), 1⟩ := by simp [freezeAll, h]
      rw [deepen_osl f2 rfl (by rw [xs_len]; omega), List.drop_zero, Nat.mul_one, List.take_of_length_le (by rw [xs_len]; exact Nat.le_refl _), xs_ints, mapM_deep]; rfl
/-- The least cold utility. -/
def coldU (gap : Int) (l : List Sm) : Int := cat (surp gap l) (hotU gap l) (prs (lvls gap l)) (prs (lvls gap l)).length
theorem casc_length (gap : Int) (l : List Sm) (h : Int) : (casc gap l h).length = (prs (lvls gap l)).length + 1 := cscan_length _ _ _
theorem casc_get {gap : Int} {l : List Sm} {h : Int} {k : Nat} (hk : k < (casc gap l h).length) : (casc gap l h)[k] = cat (surp gap l) h (prs (lvls gap l)) k := by
  have := cscan_get (surp gap l) h (prs (lvls gap l)) k (by rw [casc_length] at hk; omega)
  rw [List.getElem?_eq_some_iff] at this
  exact this.2
theorem casc_lvls {gap : Int} {l : List Sm} (hok : okH l gap = true) (h : Int) : (casc gap l h).length = (lvls gap l).length := by
  have := lvls_two hok
  rw [casc_length, prs_length]; omega

/-! ### The reference -/
theorem ht_comm (gap : Int) (s : Sm) (u d : Int) : s.r * max 0 (min (up gap s) u - max (lo gap s) d) = ht gap s u d := by
  unfold ht; rw [Int.min_comm, Int.max_comm (lo gap s)]
def hasE (gap : Int) (l : List Sm) (t : Int) : Bool := l.any fun s => decide (up gap s = t) || decide (lo gap s = t)
def lvR (gap : Int) (l : List Sm) (k : Nat) : List Int := ((List.range k).map fun j => (200 : Int) - (j : Nat)).filter (hasE gap l)
theorem lvR_zero (gap : Int) (l : List Sm) : lvR gap l 0 = [] := rfl
theorem lvR_succ (gap : Int) (l : List Sm) (k : Nat) : lvR gap l (k + 1) = if hasE gap l ((200 : Int) - (k : Nat)) then lvR gap l k ++ [(200 : Int) - (k : Nat)] else lvR gap l k := by
  unfold lvR
  rw [List.range_succ, List.map_append, List.filter_append]
  by_cases h : hasE gap l ((200 : Int) - (k : Nat)) = true
  · rw [if_pos h]
    have e : List.filter (hasE gap l) (List.map (fun j => (200 : Int) - (j : Nat)) [k]) = [(200 : Int) - (k : Nat)] := by simp [h]
    rw [e]
  · rw [if_neg h]
    have e : List.filter (hasE gap l) (List.map (fun j => (200 : Int) - (j : Nat)) [k]) = [] := by simp [h]
    rw [e, List.append_nil]
theorem lvR_len (gap : Int) (l : List Sm) (k : Nat) : (lvR gap l k).length ≤ k := by
  unfold lvR
  have := List.length_filter_le (hasE gap l) ((List.range k).map fun j => (200 : Int) - (j : Nat))
  simpa using this
theorem lvR_eq {gap : Int} {l : List Sm} (hok : okH l gap = true) : lvR gap l 221 = lvls gap l := by
  refine falling_ext ?_ (lvls_falling gap l) fun x => ?_
  · unfold lvR
    refine List.Pairwise.filter _ (List.pairwise_map.2 ?_)
    exact List.pairwise_lt_range.imp fun h => by omega
  · unfold lvR hasE
    rw [List.mem_filter, List.mem_map, lvls_mem, List.any_eq_true]
    constructor
    · rintro ⟨_, s, hs, he⟩
      refine ⟨s, hs, ?_⟩
      simpa using he
    · intro h
      have hx := lvls_in hok x (lvls_mem.2 h)
      obtain ⟨s, hs, he⟩ := h
      refine ⟨⟨(200 - x).toNat, ?_, ?_⟩, s, hs, by simpa using he⟩
      · rw [List.mem_range]; omega
      · omega
theorem hasE_snoc {gap : Int} {l : List Sm} {t : Int} {i : Nat} (hi : i < l.length) : hasE gap (l.take (i + 1)) t = (hasE gap (l.take i) t || (decide (up gap l[i] = t) || decide (lo gap l[i] = t))) := by
  unfold hasE
  rw [List.take_succ_eq_append_getElem hi, List.any_append]; simp
theorem hasE_mem {gap : Int} {l : List Sm} {t : Int} {i : Nat} (hi : i < l.length) (h : up gap l[i] = t ∨ lo gap l[i] = t) : hasE gap l t = true := by
  unfold hasE
  rw [List.any_eq_true]
  exact ⟨l[i], List.getElem_mem hi, by simpa using h⟩
theorem ht_top {gap : Int} {s : Sm} (hok : s.ok = true) (h0 : 0 ≤ gap) (h1 : gap ≤ 20) (d : Int) : ht gap s 1000 d = ht gap s 200 d := by
  have := ends_in hok h0 h1
  unfold ht
  rw [show min 1000 (up gap s) = up gap s by omega, show min 200 (up gap s) = up gap s by omega]
theorem surp_top {gap : Int} {l : List Sm} (hok : okH l gap = true) (d : Int) : surp gap l 1000 d = surp gap l 200 d := by
  obtain ⟨_, _, h3, h4, h5⟩ := okH_iff.1 hok
  unfold surp
  congr 1
  refine List.map_congr_left fun s hs => ?_
  unfold Ht.hs
  rw [ht_top (h5 s hs) h3 h4]
end Go.Ht

end
section
/-
  RULES: a literal of two structs; the first streams of a slice; utilities of two streams.
-/
namespace Go.Vm
theorem deepen_litK {cells : List XV} {ds : List DV} {m k lo : Nat} (hc : cells = ds.map .d) (hl : ds.length = m * k) : deepen [⟨cells, 1⟩] 9 (.osl 0 0 m k lo true) = some (.sl ds m (some lo)) := by
  subst hc
  rw [deepen_osl (k := 8) (ob := ⟨ds.map .d, 1⟩) rfl rfl (by simp [hl])]
  have h2 : (((⟨ds.map XV.d, 1⟩ : VObj).cells.drop 0).take (m * k)) = ds.map .d := by
    show ((ds.map XV.d).drop 0).take (m * k) = _
    rw [List.drop_zero, List.take_of_length_le (by simp [hl])]
  rw [h2, mapM_deep]
  rfl
section
variable {P : Program} {σ : List VObj} {kn : Kn} {dst : Option Tmp} {ty : TypeId} {pos : String} {af : Array Edge} {g : Option (Nat × Bool)}
/-- A literal of two structs of three cells. -/
theorem K.lit2T {t e : TypeId} {x y : Operand} {a b c a' b' c' : DV} {z : Value} (hx : evK kn x = some (.d (.agg [a, b, c]))) (hy : evK kn y = some (.d (.agg [a', b', c']))) (ht : P.underlying t = some (.slice e)) (hs : sizeT P e = some 3) (hz : zeroT P e = some z) :
    KEv P ⟨dst, .buildSlice t 2 #[(0, x), (1, y)], ty, pos, af, g⟩ σ kn (.d (.sl [a, b, c, a', b', c'] 2 (some 2))) σ 0 := by
  refine K.litSl (k := 3) (qs := [(0, .d (.agg [a, b, c])), (1, .d (.agg [a', b', c']))]) (cells := [a, b, c, a', b', c'].map .d) (lo := 2) (by simp [hx, hy]) (by simp) ?_ (deepen_litK rfl rfl)
  obtain ⟨p, q, r, s, u, v, hz4⟩ : ∃ p q r s u v, zeroRow z 6 = [p, q, r, s, u, v] := ⟨_, _, _, _, _, _, rfl⟩
  simp [opBuildSlice, ht, hs, hz, fillX, cellsX, hz4, splice]
end
end Go.Vm
namespace Go.Ht
open Go.Vm
theorem okH_take (l : List Sm) (gap : Int) : okH (l.take 10) gap = okH l gap := by
  rw [Bool.eq_iff_iff, okH_iff, okH_iff]
  by_cases h : l.length ≤ 10
  · rw [List.take_of_length_le h]
  · simp only [List.length_take]; constructor <;> (intro h; omega)
theorem take_ok {l : List Sm} {gap : Int} (h : okH l gap = true) : l.take 10 = l := List.take_of_length_le (by have := (okH_iff.1 h).2.1; omega)
theorem take_end {α : Type} {l : List α} {i n : Nat} (h : i = n ∨ i = l.length ∧ i ≤ n) : l.take i = l.take n := by
  rcases h with e | ⟨e, e2⟩
  · rw [e]
  · rw [List.take_of_length_le (by omega), List.take_of_length_le (by omega)]
/-- The streams of the closed call. -/
def awL : List Sm := [⟨150, 50, 2⟩, ⟨20, 120, 3⟩]
theorem aw_ok : okH awL 10 = true := by decide
theorem aw_lvls : lvls 10 awL = [140, 120, 40, 20] := falling_ext (lvls_falling _ _) (by decide) fun x => by
  rw [lvls_mem]
  simp [awL, up, lo, hot]; omega
theorem aw_hot : hotU 10 awL = 100 := by unfold hotU casc; rw [aw_lvls]; decide +kernel
theorem aw_cold : coldU 10 awL = 0 := by unfold coldU; rw [aw_hot, aw_lvls]; decide +kernel
end Go.Ht

end
