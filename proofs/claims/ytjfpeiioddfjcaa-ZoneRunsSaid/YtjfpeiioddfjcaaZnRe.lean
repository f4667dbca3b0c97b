import Derived.Test.YtjfpeiioddfjcaaZnRc
/-
  THE REFERENCE's strictest bounds: the least sums over all ways, and that they are those of the tightened matrix.
-/
namespace Go.Zn
def lastN (w : List Nat) : Nat := w.getD (w.length - 1) 0
def foldP (b : Nat → Nat → Int) (W : List (List Nat)) (y : Nat) : Int := W.foldl (fun acc w => if lastN w = y then min acc (alI b w) else acc) 1099511627776
def rsM (n : Nat) (b : Nat → Nat → Int) (i k : Nat) : Nat → Nat → Int := fun x y => if x < i then foldP b (waysN n x) y else if x = i then foldP b ((waysN n i).take k) y else 1099511627776
def rtM (n : Nat) (b : Nat → Nat → Int) : Nat → Nat → Int := rsM n b n 0
def anyR (n : Nat) (a : Nat → Nat → Int) : Bool := (List.range n).any fun i => (waysN n i).any fun w => rrB n a (zl w)
theorem rsM_zero {n : Nat} {b : Nat → Nat → Int} : rsM n b 0 0 = fun _ _ => 1099511627776 := by
  funext x y
  unfold rsM
  rw [if_neg (by omega)]
  split <;> rfl
theorem rsM_step {n i k : Nat} {b : Nat → Nat → Int} (hk : k < (waysN n i).length) : set2 (rsM n b i k) i (lastN (waysN n i)[k]) (min (rsM n b i k i (lastN (waysN n i)[k])) (alI b (waysN n i)[k])) = rsM n b i (k + 1) := by
  funext x y
  unfold set2 rsM
  by_cases hx : x < i
  · rw [if_pos hx, if_neg (by omega), if_pos hx]
  · rw [if_neg hx]
    by_cases hxi : x = i
    · subst hxi
      rw [if_neg hx, if_pos rfl, if_neg (Nat.lt_irrefl _), if_pos rfl, if_pos rfl]
      have e : foldP b ((waysN n x).take (k + 1)) y = if lastN (waysN n x)[k] = y then min (foldP b ((waysN n x).take k) y) (alI b (waysN n x)[k]) else foldP b ((waysN n x).take k) y := by
        unfold foldP
        rw [List.take_succ_eq_append_getElem hk, List.foldl_append]; rfl
      rw [e]
      by_cases hy : y = lastN (waysN n x)[k]
      · rw [if_pos ⟨rfl, hy⟩, if_pos hy.symm, hy]
      · rw [if_neg (fun h => hy h.2), if_neg (fun h => hy h.symm)]
    · rw [if_neg hx, if_neg hxi, if_neg hxi, if_neg (fun h => hxi h.1)]
theorem rsM_next {n i k : Nat} {b : Nat → Nat → Int} (hk : (waysN n i).length ≤ k) : rsM n b i k = rsM n b (i + 1) 0 := by
  funext x y
  unfold rsM
  by_cases hx : x < i
  · rw [if_pos hx, if_pos (by omega)]
  · rw [if_neg hx]
    by_cases hxi : x = i
    · subst hxi
      rw [if_pos rfl, if_pos (by omega), List.take_of_length_le hk]
    · rw [if_neg hxi, if_neg (by omega)]
      split <;> rfl
theorem lastN_cons {i : Nat} {l : List Nat} : lastN (i :: l) = endp i l := by
  have := endp_take i l l.length (Nat.le_refl _)
  rw [List.take_length] at this
  rw [this]
  unfold lastN
  rw [List.length_cons, Nat.add_sub_cancel]
theorem foldl_le {b : Nat → Nat → Int} {y : Nat} : ∀ (W : List (List Nat)) (x0 : Int), (W.foldl (fun acc w => if lastN w = y then min acc (alI b w) else acc) x0 ≤ x0) ∧ (∀ w ∈ W, lastN w = y → W.foldl (fun acc w => if lastN w = y then min acc (alI b w) else acc) x0 ≤ alI b w) ∧
    (W.foldl (fun acc w => if lastN w = y then min acc (alI b w) else acc) x0 = x0 ∨ ∃ w ∈ W, lastN w = y ∧ W.foldl (fun acc w => if lastN w = y then min acc (alI b w) else acc) x0 = alI b w)
  | [], x0 => ⟨Int.le_refl _, fun w h => by simp at h, .inl rfl⟩
  | v :: W, x0 => by
    obtain ⟨h1, h2, h3⟩ := foldl_le (b := b) (y := y) W (if lastN v = y then min x0 (alI b v) else x0)
    rw [List.foldl_cons]
    have hx : (if lastN v = y then min x0 (alI b v) else x0) ≤ x0 := by split <;> omega
    refine ⟨Int.le_trans h1 hx, fun w hw he => ?_, ?_⟩
    · rcases List.mem_cons.1 hw with rfl | hw
      · refine Int.le_trans h1 ?_
        rw [if_pos he]; omega
      · exact h2 w hw he
    · rcases h3 with h3 | ⟨w, hw, he, h3⟩
      · rw [h3]
        by_cases hv : lastN v = y
        · rw [if_pos hv]
          rcases Int.le_total x0 (alI b v) with hm | hm
          · left; rw [Int.min_eq_left hm]
          · right; exact ⟨v, by simp, hv, Int.min_eq_right hm⟩
        · left; rw [if_neg hv]
      · exact .inr ⟨w, by simp [hw], he, h3⟩
/-- A way from one node to another: there is always one. -/
theorem way_ex {n i j : Nat} (hi : i < n) (hj : j < n) : ∃ l, Simple n i l ∧ endp i l = j := by
  by_cases h : i = j
  · subst h; exact ⟨[], ⟨by simp, fun x hx => by simp at hx; omega⟩, rfl⟩
  · exact ⟨[j], ⟨by simp [h], fun x hx => by simp at hx; omega⟩, rfl⟩
theorem simple_len {n i : Nat} {l : List Nat} (h : Simple n i l) : l.length + 1 ≤ n := by
  have := dif_len h.2 h.1
  simpa using this
/-- The least sums over ways are the least sums over ways. -/
theorem rtM_min {n : Nat} {b : Nat → Nat → Int} (hn : n ≤ 4) (hb : ZgM 20480000 b) {i j : Nat} (hi : i < n) (hj : j < n) : IsMin n (dec2 b) i j (dec (rtM n b i j)) := by
  have e : rtM n b i j = foldP b (waysN n i) j := by unfold rtM rsM; rw [if_pos hi]
  rw [e]
  obtain ⟨h1, h2, h3⟩ := foldl_le (b := b) (y := j) (waysN n i) 1099511627776
  have hg : ∀ l, Simple n i l → Zg 1000000000 (alI b (i :: l)) := fun l hl => alI_good hb (by have := simple_len hl; rw [List.length_cons]; omega)
  have hlow : ∀ l, Simple n i l → endp i l = j → foldP b (waysN n i) j ≤ alI b (i :: l) := fun l hl he => h2 _ ((waysN_mem hi).2 ⟨l, rfl, hl⟩) (by rw [lastN_cons]; exact he)
  have hatt : ∃ l, Simple n i l ∧ endp i l = j ∧ alI b (i :: l) = foldP b (waysN n i) j := by
    rcases h3 with h3 | ⟨w, hw, he, h3⟩
    · obtain ⟨l, hl, he⟩ := way_ex hi hj
      refine ⟨l, hl, he, ?_⟩
      have h4 := hlow l hl he
      have h5 := hg l hl
      have h6 : foldP b (waysN n i) j = 1099511627776 := h3
      unfold Zg Lim at h5; omega
    · obtain ⟨l, rfl, hl⟩ := (waysN_mem hi).1 hw
      exact ⟨l, hl, by rw [← lastN_cons]; exact he, h3.symm⟩
  obtain ⟨l0, k1, k2, k3⟩ := hatt
  have g0 := hg l0 k1
  rw [k3] at g0
  refine ⟨fun l hl he => ?_, l0, k1, k2, ?_⟩
  · rw [← alI_w hb (by have := simple_len hl; omega)]
    exact (dec_le (Lim.mono g0 (by decide) (by decide)) (Lim.mono (hg l hl) (by decide) (by decide))).2 (hlow l hl he)
  · rw [← alI_w hb (by have := simple_len k1; omega), k3]
theorem anyR_iff {n : Nat} {a : Nat → Nat → Int} (hn : n ≤ 4) (ha : ZgM 20480000 a) : anyR n a = false ↔ NoNeg n (dec2 (atm a)) := by
  constructor
  · intro h i l hs
    refine Classical.byContradiction fun hc => ?_
    have hi : i < n := hs.2 i (by simp)
    have : anyR n a = true := List.any_eq_true.2 ⟨i, List.mem_range.2 hi, List.any_eq_true.2 ⟨i :: l, (waysN_mem hi).2 ⟨l, rfl, hs⟩, (rrB_cons hn ha).2 ⟨hs, hc⟩⟩⟩
    rw [this] at h; cases h
  · intro h
    refine Bool.eq_false_iff.2 fun ht => ?_
    obtain ⟨i, hi, h1⟩ := List.any_eq_true.1 ht
    obtain ⟨w, hw, h2⟩ := List.any_eq_true.1 h1
    obtain ⟨l, rfl, hl⟩ := (waysN_mem (List.mem_range.1 hi)).1 hw
    exact ((rrB_cons hn ha).1 h2).2 (h i l hl)
/-- Sums along a way of different nodes see no element (i, i). -/
theorem w_off {α : Type} [OM α] {a b : Nat → Nat → α} (h : ∀ i j, i ≠ j → a i j = b i j) : ∀ (i : Nat) (l : List Nat), (i :: l).Nodup → w a i l = w b i l
  | _, [], _ => rfl
  | i, j :: l, hd => by
    have h1 := List.nodup_cons.1 hd
    rw [w, w, h i j (fun e => h1.1 (by simp [e])), w_off h j l h1.2]
theorem atm_flo {n : Nat} {a : Nat → Nat → Int} {i j : Nat} (hi : i < n) (hj : j < n) (h : i ≠ j) : atm a i j = flo n a i j := by
  unfold atm flo floP
  by_cases h0 : i = 0
  · rw [if_pos h0, if_pos (by omega)]
  · rw [if_neg h0, if_neg (by omega)]
def off (n : Nat) (a : Nat → Nat → Int) : Nat → Nat → BO := fun i j => if i = j ∨ n ≤ i ∨ n ≤ j then none else dec (atm a i j)
theorem w_in {α : Type} [OM α] {n : Nat} {a b : Nat → Nat → α} (h : ∀ i j, i < n → j < n → i ≠ j → a i j = b i j) : ∀ (i : Nat) (l : List Nat), Simple n i l → w a i l = w b i l
  | _, [], _ => rfl
  | i, j :: l, hs => by
    have h1 := List.nodup_cons.1 hs.1
    rw [w, w, h i j (hs.2 i (by simp)) (hs.2 j (by simp)) (fun e => h1.1 (by simp [e])), w_in h j l ⟨h1.2, fun x hx => hs.2 x (by simp at hx; rcases hx with rfl | hx <;> simp [*])⟩]
theorem cyc_flo {n : Nat} {a : Nat → Nat → Int} (ha : ZgM 20480000 a) : ∀ i l, Simple n i l → (OM.le (OM.e : BO) (cyc (dec2 (atm a)) i l) ↔ OM.le (OM.e : BO) (cyc (dec2 (flo n a)) i l)) := fun i l hs => by
  have hw : ∀ i l, Simple n i l → w (dec2 (atm a)) i l = w (dec2 (flo n a)) i l := fun i l hs => w_in (fun i j hi hj hij => by unfold dec2; rw [atm_flo hi hj hij]) i l hs
  have hi : i < n := hs.2 i (by simp)
  have he : endp i l < n := hs.2 _ (endp_mem i l)
  unfold cyc
  rw [hw i l hs]
  by_cases h : endp i l = i
  · have := simple_loop hs.1 h
    subst this
    show OM.le (dec 1) (OM.add OM.e (dec (atm a i i))) ↔ OM.le (dec 1) (OM.add OM.e (dec (flo n a i i)))
    rw [e_add, e_add]
    have g1 := atm_good ha i i
    have g2 : Zg 20480000 (flo n a i i) := flo_lim (by omega) ha i i
    rw [le_dec one_good g1, le_dec one_good g2]
    unfold atm flo floP
    rw [if_pos (show (i = 0 ∧ i < n) ∨ (i = i ∧ i < n) from .inr ⟨rfl, hi⟩)]
    split <;> omega
  · rw [show dec2 (atm a) (endp i l) i = dec2 (flo n a) (endp i l) i by unfold dec2; rw [atm_flo he hi h]]
theorem noneg_flo {n : Nat} {a : Nat → Nat → Int} (ha : ZgM 20480000 a) : NoNeg n (dec2 (atm a)) ↔ NoNeg n (dec2 (flo n a)) :=
  ⟨fun h i l hs => (cyc_flo ha i l hs).1 (h i l hs), fun h i l hs => (cyc_flo ha i l hs).2 (h i l hs)⟩
/-- Both accept the same proofs. -/
theorem rr_rf {n : Nat} {a : Nat → Nat → Int} (hn : n ≤ 4) (ha : ZgM 5000 a) (l : List Int) : rrB n a l = rfB n a l := by
  have ha2 : ZgM 20480000 a := fun i j => Lim.mono (ha i j) (by decide) (by decide)
  have hf : ZgM 5000 (flo n a) := flo_lim (by omega) ha
  cases hd : difB n l with
  | false =>
    unfold rrB rfB
    rw [hd]; rfl
  | true =>
    obtain ⟨q, rfl⟩ := nat_of (difB_iff.1 hd).1
    cases q with
    | nil => rw [show zl [] = [] from rfl, rrB_nil, rfB_nil]
    | cons i t =>
      refine Bool.eq_iff_iff.2 ?_
      rw [rrB_cons hn ha2, rfB_cons hn hf]
      exact ⟨fun ⟨h1, h2⟩ => ⟨h1, fun h => h2 ((cyc_flo ha2 i t h1).2 h)⟩, fun ⟨h1, h2⟩ => ⟨h1, fun h => h2 ((cyc_flo ha2 i t h1).1 h)⟩⟩
theorem min_flo {n : Nat} {a : Nat → Nat → Int} {i j : Nat} {x : BO} (h : IsMin n (dec2 (atm a)) i j x) : IsMin n (dec2 (flo n a)) i j x := by
  have hw : ∀ i l, Simple n i l → w (dec2 (atm a)) i l = w (dec2 (flo n a)) i l := fun i l hs => w_in (fun i j hi hj hij => by unfold dec2; rw [atm_flo hi hj hij]) i l hs
  obtain ⟨h1, l, h2, h3, h4⟩ := h
  exact ⟨fun m k1 k2 => by rw [← hw i m k1]; exact h1 m k1 k2, l, h2, h3, by rw [← hw i l h2]; exact h4⟩
/-- The reference's bounds are those of the tightened matrix. -/
theorem rt_tight {n : Nat} {a : Nat → Nat → Int} (hn : n ≤ 4) (ha : ZgM 5000 a) : anyR n a = emptyB n (tightM n a) ∧ (anyR n a = false → ∀ i j, i < n → j < n → rtM n (atm a) i j = tightM n a i j) := by
  have ha2 : ZgM 20480000 a := fun i j => Lim.mono (ha i j) (by decide) (by decide)
  have hf : ZgM 5000 (flo n a) := flo_lim (by omega) ha
  have h1 : anyR n a = false ↔ emptyB n (tightM n a) = false := by
    rw [anyR_iff hn ha2, noneg_flo ha2]
    constructor
    · intro h
      cases he : emptyB n (tightM n a) with
      | false => rfl
      | true =>
        obtain ⟨i, hi, h2⟩ := emptyB_iff.1 he
        have := fw_diag h (fun i hi => flo_diag hf hi) hi
        rw [← tight_dec hn hf] at this
        have e := dec_inj (show dec (tightM n a i i) = dec 1 from this)
        omega
    · exact flo_noneg hn hf
  refine ⟨?_, fun h i j hi hj => ?_⟩
  · cases h2 : anyR n a with
    | false => rw [h1.1 h2]
    | true => cases h3 : emptyB n (tightM n a) with
      | true => rfl
      | false => rw [h1.2 h3] at h2; cases h2
  · have hnn := (noneg_flo ha2).1 ((anyR_iff hn ha2).1 h)
    have k1 := min_flo (rtM_min hn (atm_good ha2) hi hj)
    have k2 := fw_min hnn (fun i hi => flo_diag hf hi) hi hj
    rw [← tight_dec hn hf] at k2
    exact dec_inj (k1.uniq k2)
/-- What is closed is its own strictest for the reference too. -/
theorem rt_closed {n : Nat} {c : Nat → Nat → Int} (hn : n ≤ 4) (hc : TightOk n c) : anyR n c = false ∧ ∀ i j, i < n → j < n → rtM n (atm c) i j = c i j := by
  have he : ∀ i j, i < n → j < n → atm c i j = c i j := fun i j hi hj => by
    unfold atm
    split
    · rename_i h0; subst h0; have := hc.zero j hj; omega
    · rfl
  have hd : ∀ i j, i < n → j < n → dec2 (atm c) i j = dec2 c i j := fun i j hi hj => by unfold dec2; rw [he i j hi hj]
  have hnn : NoNeg n (dec2 c) := closed_noneg hc.tri fun i hi => by
    show OM.le (dec 1) (dec (c i i))
    rw [hc.one i hi]; exact OM.le_refl _
  have hw : ∀ i l, Simple n i l → w (dec2 (atm c)) i l = w (dec2 c) i l := fun i l hs => w_in (fun i j hi hj _ => hd i j hi hj) i l hs
  constructor
  · rw [anyR_iff hn hc.good]
    intro i l hs
    unfold cyc
    rw [hw i l hs, hd _ _ (hs.2 _ (endp_mem i l)) (hs.2 i (by simp))]
    exact hnn i l hs
  · intro i j hi hj
    have k1 := rtM_min hn (atm_good hc.good) hi hj
    have k2 : IsMin n (dec2 (atm c)) i j (dec (c i j)) := by
      have hm := fw_min hnn (fun i hi => by
        show OM.le (dec (c i i)) (dec 1)
        rw [hc.one i hi]; exact OM.le_refl _) hi hj
      rw [fw_self hc.tri hi hj] at hm
      obtain ⟨m1, l, m2, m3, m4⟩ := hm
      exact ⟨fun l q1 q2 => by rw [hw i l q1]; exact m1 l q1 q2, l, m2, m3, by rw [hw i l m2]; exact m4⟩
    exact dec_inj (k1.uniq k2)
end Go.Zn

