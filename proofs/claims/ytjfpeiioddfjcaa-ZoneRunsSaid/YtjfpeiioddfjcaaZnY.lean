import Derived.Test.YtjfpeiioddfjcaaZnX
/-
  PROOFS OF EMPTINESS: cycles whose bounds add up to less than nothing; the search finds one if there is one.
-/
namespace Go.Zn
def zl (q : List Nat) : List Int := q.map fun (x : Nat) => (x : Int)
def difB (n : Nat) (l : List Int) : Bool := decide (∀ x ∈ l, 0 ≤ x ∧ x < n) && decide l.Nodup
def totP (b : Nat → Nat → Int) (q : List Nat) : Nat → Int
  | 0 => 1
  | k + 1 => bsum (totP b q k) (b (q.getD k 0) (q.getD ((k + 1) % q.length) 0))
def rfB (n : Nat) (a : Nat → Nat → Int) (l : List Int) : Bool := difB n l && decide (totP (flo n a) (l.map Int.toNat) l.length < 1)
theorem difB_iff {n : Nat} {l : List Int} : difB n l = true ↔ (∀ x ∈ l, 0 ≤ x ∧ x < n) ∧ l.Nodup := by
  unfold difB
  rw [Bool.and_eq_true, decide_eq_true_eq, decide_eq_true_eq]
theorem zl_nat {q : List Nat} : (zl q).map Int.toNat = q := by
  unfold zl
  rw [List.map_map]
  conv => rhs; rw [← List.map_id q]
  exact List.map_congr_left fun x _ => rfl
theorem zl_len {q : List Nat} : (zl q).length = q.length := by simp [zl]
theorem zl_snoc {q : List Nat} {c : Nat} : zl (q ++ [c]) = zl q ++ [(c : Int)] := by simp [zl]
theorem zl_mem {q : List Nat} {c : Nat} : (c : Int) ∈ zl q ↔ c ∈ q := by
  unfold zl
  rw [List.mem_map]
  exact ⟨fun ⟨x, h1, h2⟩ => by rw [show c = x by omega]; exact h1, fun h => ⟨c, h, rfl⟩⟩
theorem zl_nodup {q : List Nat} : (zl q).Nodup ↔ q.Nodup := by
  unfold zl
  induction q with
  | nil => simp
  | cons a q ih =>
    rw [List.map_cons, List.nodup_cons, List.nodup_cons, ih]
    have := zl_mem (q := q) (c := a)
    unfold zl at this
    rw [this]
theorem zl_dif {n : Nat} {q : List Nat} : difB n (zl q) = true ↔ (∀ x ∈ q, x < n) ∧ q.Nodup := by
  rw [difB_iff, zl_nodup]
  constructor
  · intro ⟨h1, h2⟩
    exact ⟨fun x hx => by have := h1 x (zl_mem.2 hx); omega, h2⟩
  · intro ⟨h1, h2⟩
    refine ⟨fun x hx => ?_, h2⟩
    unfold zl at hx
    obtain ⟨y, hy, rfl⟩ := List.mem_map.1 hx
    have := h1 y hy
    omega
theorem nat_of {n : Nat} {l : List Int} (h : ∀ x ∈ l, 0 ≤ x ∧ x < n) : ∃ q : List Nat, l = zl q := by
  refine ⟨l.map Int.toNat, ?_⟩
  unfold zl
  rw [List.map_map]
  conv => lhs; rw [← List.map_id l]
  exact List.map_congr_left fun x hx => by
    have := (h x hx).1
    show x = ((x.toNat : Nat) : Int)
    omega
/-- Different numbers below n are no more than n. -/
theorem dif_len {n : Nat} {q : List Nat} (h : ∀ x ∈ q, x < n) (hd : q.Nodup) : q.length ≤ n := by
  have := hd.length_le_of_subset (l₂ := List.range n) fun x hx => List.mem_range.2 (h x hx)
  simpa using this
theorem totP_good {b : Nat → Nat → Int} (hb : ZgM 5000 b) {q : List Nat} : ∀ k : Nat, Zg (1 + 5001 * (k : Int)) (totP b q k)
  | 0 => .inr ⟨by show -(1 + 5001 * ((0 : Nat) : Int)) ≤ 1; omega, by show (1 : Int) ≤ 1 + 5001 * ((0 : Nat) : Int); omega⟩
  | k + 1 => Lim.mono (bsum_good (totP_good hb k) (hb _ _)) (by omega) (by omega)
theorem endp_take : ∀ (i : Nat) (l : List Nat) (k : Nat), k ≤ l.length → endp i (l.take k) = (i :: l).getD k 0
  | i, l, 0, _ => by simp [endp]
  | i, [], k + 1, h => by simp at h
  | i, j :: l, k + 1, h => by
    rw [List.take_succ_cons]
    show endp j (l.take k) = _
    rw [endp_take j l k (by simpa using h)]; rfl
theorem totP_w {b : Nat → Nat → Int} (hb : ZgM 5000 b) {i : Nat} {l : List Nat} (hl : l.length ≤ 10) : ∀ k, k ≤ l.length → dec (totP b (i :: l) k) = w (dec2 b) i (l.take k)
  | 0, _ => by rw [List.take_zero]; rfl
  | k + 1, hk => by
    have ih := totP_w (i := i) hb hl k (by omega)
    have e1 : (k + 1) % (i :: l).length = k + 1 := Nat.mod_eq_of_lt (by rw [List.length_cons]; omega)
    have g1 : Zg TOP (totP b (i :: l) k) := Lim.mono (totP_good hb k) (by unfold TOP; omega) (by unfold TOP; omega)
    show dec (bsum (totP b (i :: l) k) (b ((i :: l).getD k 0) ((i :: l).getD ((k + 1) % (i :: l).length) 0))) = _
    rw [e1, dec_bsum g1 (Lim.mono (hb _ _) (by decide) (by decide)), ih, List.take_succ_eq_append_getElem (by omega), w_append, w_one, endp_take i l k (by omega)]
    show badd _ (dec (b _ ((i :: l).getD (k + 1) 0))) = badd _ (dec2 b _ _)
    rw [show (i :: l).getD (k + 1) 0 = l[k] by simp [show k < l.length by omega]]; rfl
theorem totP_cyc {b : Nat → Nat → Int} (hb : ZgM 5000 b) {i : Nat} {l : List Nat} (hl : l.length ≤ 10) : dec (totP b (i :: l) (l.length + 1)) = cyc (dec2 b) i l := by
  have h1 := totP_w (i := i) hb hl l.length (Nat.le_refl _)
  have g1 : Zg TOP (totP b (i :: l) l.length) := Lim.mono (totP_good hb _) (by unfold TOP; omega) (by unfold TOP; omega)
  show dec (bsum (totP b (i :: l) l.length) (b ((i :: l).getD l.length 0) ((i :: l).getD ((l.length + 1) % (i :: l).length) 0))) = _
  rw [show (l.length + 1) % (i :: l).length = 0 from by rw [List.length_cons]; exact Nat.mod_self _, dec_bsum g1 (Lim.mono (hb _ _) (by decide) (by decide)), h1, List.take_length]
  unfold cyc
  have := endp_take i l l.length (Nat.le_refl _)
  rw [List.take_length] at this
  rw [this]; rfl
theorem rfB_cons {n : Nat} {a : Nat → Nat → Int} (hn : n ≤ 4) (ha : ZgM 5000 (flo n a)) {i : Nat} {l : List Nat} : rfB n a (zl (i :: l)) = true ↔ Simple n i l ∧ ¬ OM.le (OM.e : BO) (cyc (dec2 (flo n a)) i l) := by
  unfold rfB
  rw [Bool.and_eq_true, zl_dif, decide_eq_true_eq, zl_nat, zl_len, List.length_cons]
  constructor
  · intro ⟨⟨h1, h2⟩, h3⟩
    have hl := dif_len h1 h2
    rw [List.length_cons] at hl
    refine ⟨⟨h2, h1⟩, ?_⟩
    rw [← totP_cyc ha (by omega), ← dec_one]
    intro h4
    have g1 : Zg TOP (totP (flo n a) (i :: l) (l.length + 1)) := Lim.mono (totP_good ha _) (by unfold TOP; omega) (by unfold TOP; omega)
    have := (dec_le (.inr ⟨by decide, by decide⟩) g1).1 h4
    omega
  · intro ⟨⟨h2, h1⟩, h3⟩
    have hl := dif_len h1 h2
    rw [List.length_cons] at hl
    refine ⟨⟨h1, h2⟩, ?_⟩
    rw [← totP_cyc ha (by omega), ← dec_one] at h3
    have g1 : Zg TOP (totP (flo n a) (i :: l) (l.length + 1)) := Lim.mono (totP_good ha _) (by unfold TOP; omega) (by unfold TOP; omega)
    refine Int.not_le.1 fun h4 => h3 ((dec_le (.inr ⟨by decide, by decide⟩) g1).2 h4)
theorem rfB_nil {n : Nat} {a : Nat → Nat → Int} : rfB n a [] = false := by
  unfold rfB
  rw [show decide (totP (flo n a) (([] : List Int).map Int.toNat) ([] : List Int).length < 1) = false from rfl, Bool.and_false]
theorem rfB_dif {n : Nat} {a : Nat → Nat → Int} {l : List Int} (h : rfB n a l = true) : difB n l = true := by
  unfold rfB at h
  exact (Bool.and_eq_true_iff.1 h).1
/-- There is a proof of emptiness just where the tightened zone is empty. -/
theorem empty_iff {n : Nat} {a : Nat → Nat → Int} (hn : n ≤ 4) (ha : ZgM 5000 (flo n a)) : emptyB n (tightM n a) = true ↔ ∃ q : List Nat, rfB n a (zl q) = true := by
  constructor
  · intro h
    refine Classical.byContradiction fun hno => ?_
    have hnn : NoNeg n (dec2 (flo n a)) := fun i l hs => Classical.byContradiction fun hc => hno ⟨i :: l, (rfB_cons hn ha).2 ⟨hs, hc⟩⟩
    obtain ⟨i, hi, h1⟩ := emptyB_iff.1 h
    have := fw_diag hnn (fun i hi => flo_diag ha hi) hi
    rw [← tight_dec hn ha] at this
    have e := dec_inj (show dec (tightM n a i i) = dec 1 from this)
    omega
  · intro ⟨q, hq⟩
    cases q with
    | nil => rw [show zl [] = [] from rfl, rfB_nil] at hq; cases hq
    | cons i l =>
      obtain ⟨h1, h2⟩ := (rfB_cons hn ha).1 hq
      cases he : emptyB n (tightM n a) with
      | true => rfl
      | false => exact absurd (flo_noneg hn ha he i l h1) h2
end Go.Zn
namespace Go.Vm
open Go.Zn
def intsDV (l : List Int) : DV := .sl (l.map DI) l.length none
def wd0 (q : List Nat) : DV := if q = [] then Dnil else intsDV (zl q)
def dfsR (g : Nat → DV) : Nat → DV
  | 0 => Dnil
  | k + 1 => if isNilD (dfsR g k) then g k else dfsR g k
def dfs (n : Nat) (a : Nat → Nat → Int) : Nat → List Nat → DV
  | 0, _ => Dnil
  | f + 1, q => if rfB n a (zl q) then wd0 q else dfsR (fun c => if c ∈ q then Dnil else dfs n a f (q ++ [c])) n
theorem wd0_sl (q : List Nat) : SlD (wd0 q) := by unfold wd0; split; exact .nil; exact .sl _ _ _
theorem wd0_nil {q : List Nat} : isNilD (wd0 q) = decide (q = []) := by
  unfold wd0
  by_cases h : q = []
  · rw [if_pos h, decide_eq_true h]; rfl
  · rw [if_neg h, decide_eq_false h]; rfl
theorem wd0_ints (q : List Nat) : Ints (wd0 q) (zl q) := by
  unfold wd0
  split
  · rename_i h; subst h; exact .nil
  · exact .sl (by simp) fun i c x hc hx => by
      rw [List.getElem?_map, hx] at hc
      simp at hc; exact hc.symm
theorem dfsR_sl {g : Nat → DV} (h : ∀ c, SlD (g c)) : ∀ k, SlD (dfsR g k)
  | 0 => .nil
  | k + 1 => by unfold dfsR; split; exact h k; exact dfsR_sl h k
theorem dfs_sl {n : Nat} {a : Nat → Nat → Int} : ∀ f q, SlD (dfs n a f q)
  | 0, _ => .nil
  | f + 1, q => by
    unfold dfs
    split
    · exact wd0_sl q
    · exact dfsR_sl (fun c => by split; exact .nil; exact dfs_sl f _) n
theorem SlD.nil_of {d : DV} (h : SlD d) (hn : isNilD d = true) : d = Dnil := by cases h with | nil => rfl | sl => cases hn
theorem dfsR_nil {g : Nat → DV} : ∀ {k}, isNilD (dfsR g k) = true ↔ ∀ c, c < k → isNilD (g c) = true
  | 0 => ⟨fun _ c h => by omega, fun _ => rfl⟩
  | k + 1 => by
    have ih := dfsR_nil (g := g) (k := k)
    unfold dfsR
    by_cases h : isNilD (dfsR g k) = true
    · rw [if_pos h]
      constructor
      · intro h1 c hc
        by_cases e : c = k
        · subst e; exact h1
        · exact ih.1 h c (by omega)
      · intro h1; exact h1 k (by omega)
    · rw [if_neg h]
      exact ⟨fun h1 => absurd h1 h, fun h1 => absurd (ih.2 fun c hc => h1 c (by omega)) h⟩
theorem dfsR_mem {g : Nat → DV} : ∀ {k}, isNilD (dfsR g k) = false → ∃ c, c < k ∧ dfsR g k = g c
  | 0, h => by cases h
  | k + 1, h => by
    unfold dfsR at h ⊢
    by_cases h1 : isNilD (dfsR g k) = true
    · rw [if_pos h1] at h ⊢; exact ⟨k, by omega, rfl⟩
    · rw [if_neg h1] at h ⊢
      obtain ⟨c, h2, h3⟩ := dfsR_mem (g := g) (k := k) (by simpa using h1)
      exact ⟨c, by omega, h3⟩
theorem dfs_sound {n : Nat} {a : Nat → Nat → Int} : ∀ f q, isNilD (dfs n a f q) = false → ∃ r, dfs n a f q = wd0 r ∧ rfB n a (zl r) = true
  | 0, _, h => by cases h
  | f + 1, q, h => by
    unfold dfs at h ⊢
    by_cases h1 : rfB n a (zl q) = true
    · rw [if_pos h1]; exact ⟨q, rfl, h1⟩
    · rw [if_neg h1] at h ⊢
      obtain ⟨c, h2, h3⟩ := dfsR_mem h
      rw [h3] at h ⊢
      by_cases h4 : c ∈ q
      · rw [if_pos h4] at h; cases h
      · rw [if_neg h4] at h ⊢; exact dfs_sound f _ h
theorem dfs_complete {n : Nat} {a : Nat → Nat → Int} : ∀ f (q t : List Nat), n < f + q.length → rfB n a (zl (q ++ t)) = true → isNilD (dfs n a f q) = false
  | 0, q, t, hf, h => by
    have := zl_dif.1 (rfB_dif h)
    have := dif_len this.1 this.2
    rw [List.length_append] at this; omega
  | f + 1, q, t, hf, h => by
    unfold dfs
    by_cases h1 : rfB n a (zl q) = true
    · rw [if_pos h1, wd0_nil]
      refine decide_eq_false fun e => ?_
      subst e
      rw [show zl [] = [] from rfl, rfB_nil] at h1; cases h1
    · rw [if_neg h1]
      cases t with
      | nil => rw [List.append_nil] at h; exact absurd h h1
      | cons c t =>
        obtain ⟨d1, d2⟩ := zl_dif.1 (rfB_dif h)
        have hc : c ∉ q := fun hq => (List.nodup_append.1 d2).2.2 c hq c (by simp) rfl
        have ih := dfs_complete (n := n) (a := a) f (q ++ [c]) t (by rw [List.length_append]; simp; omega) (by rw [List.append_assoc]; exact h)
        refine Bool.eq_false_iff.2 fun hn => ?_
        have := dfsR_nil.1 hn c (d1 c (by simp))
        rw [if_neg hc, ih] at this; cases this
section
variable {P : Program} {σ : List VObj} {kn : Kn} {dst : Option Tmp} {ty : TypeId} {pos : String} {af : Array Edge} {g : Option (Nat × Bool)}
theorem K.eqNilD {x : Operand} {t u e : TypeId} {d : DV} (hx : evK kn x = some (.d d)) (hd : SlD d) (ht : P.underlying t = some (.slice e)) :
    KEv P ⟨dst, .binOp .eql t x (.const (.slice none 0 0)) u, ty, pos, af, g⟩ σ kn (.d (DB (isNilD d))) σ 0 := by
  cases hd with
  | nil => exact K.eqNilNil hx ht
  | sl cs len cap => exact K.eqNil hx ht
theorem K.neqNilNil {x : Operand} {t u e : TypeId} (hx : evK kn x = some (.d Dnil)) (ht : P.underlying t = some (.slice e)) :
    KEv P ⟨dst, .binOp .neq t x (.const (.slice none 0 0)) u, ty, pos, af, g⟩ σ kn (.d (DB false)) σ 0 :=
  K.bin hx rfl (by
    rw [pureRun_bind]
    show (some ()).bind _ = _
    simp only [Option.bind_some]
    show pureRun P (do pure (Value.bool (!(← Op.equal t (.slice none 0 0) (.slice none 0 0)))) : Sem Value) = _
    rw [pureRun_bind]
    have : pureRun P (Op.equal t (.slice none 0 0) (.slice none 0 0)) = some true := by
      show pureRun P (Op.equalIn (9999 + 1) t (.slice none 0 0) (.slice none 0 0)) = _
      unfold Op.equalIn
      rw [pureRun_bind, pureRun_underlying ht]; rfl
    rw [this]; rfl)
theorem K.neqNilD {x : Operand} {t u e : TypeId} {d : DV} (hx : evK kn x = some (.d d)) (hd : SlD d) (ht : P.underlying t = some (.slice e)) :
    KEv P ⟨dst, .binOp .neq t x (.const (.slice none 0 0)) u, ty, pos, af, g⟩ σ kn (.d (DB (!isNilD d))) σ 0 := by
  cases hd with
  | nil => exact K.neqNilNil hx ht
  | sl cs len cap =>
    exact ev_op fun env he => by
      have e1 := evK_evalX he hx
      have e2 : evalX env (.const (.slice none 0 0)) = .d (.lit (.slice none 0 0)) := rfl
      unfold evalOp
      rw [litOp_none (x := x) (by simp [Op.operands]) (by rw [e1]; rfl)]
      simp [e1, e2, opEqNil, isSliceT, ht, isSl, isNilSl, isNilD]
theorem K.appQ0 {t e : TypeId} {x y : Operand} {id : Nat} {v : XV} {z : Value} (hx : evK kn x = some (.d Dnil)) (hy : evK kn y = some (.osl id 0 1 1 1 true)) (hid : σ[id]? = some ⟨[v], 0⟩)
    (h1v : oneX v = true) (ht : P.underlying t = some (.slice e)) (h1 : OneT P e z) : KEv P ⟨dst, .call ⟨.builtin .append, #[x, y], #[t, t]⟩, ty, pos, af, g⟩ σ kn (.osl σ.length 0 1 1 1 false) (σ ++ [⟨[v], 0⟩]) 2 := ev_op fun env he => by
  have hz : (zeroT P e).map (·.cells.size) = some 1 := by rw [h1.zero]; simp [h1.cells]
  have e1 := evK_evalX he hx
  have e2 := evK_evalX he hy
  unfold evalOp
  rw [litOp_none (x := y) (by simp [Op.operands, Call.operands]) (by rw [e2]; rfl)]
  simp [e1, e2, opAppend, ht, h1.size, srcCells, hid, h1v, growTo, h1.bytes, hz]
theorem K.appQ1 {t e : TypeId} {x y : Operand} {cells : List XV} {oid id len : Nat} {v : XV} {z : Value} (hx : evK kn x = some (.osl oid 0 len 1 len false)) (hy : evK kn y = some (.osl id 0 1 1 1 true)) (ho : σ[oid]? = some ⟨cells, 0⟩) (hlen : cells.length = len) (hid : σ[id]? = some ⟨[v], 0⟩)
    (h1v : oneX v = true) (hl : len < 1073741823) (ht : P.underlying t = some (.slice e)) (h1 : OneT P e z) :
    KEv P ⟨dst, .call ⟨.builtin .append, #[x, y], #[t, t]⟩, ty, pos, af, g⟩ σ kn (.osl σ.length 0 (len + 1) 1 (len + 1) false) ((σ.set oid ⟨cells, 2⟩) ++ [⟨cells ++ [v], 0⟩]) 2 := ev_op fun env he => by
  subst hlen
  have hz : (zeroT P e).map (·.cells.size) = some 1 := by rw [h1.zero]; simp [h1.cells]
  have e1 := evK_evalX he hx
  have e2 := evK_evalX he hy
  unfold evalOp
  rw [litOp_none (x := x) (by simp [Op.operands, Call.operands]) (by rw [e1]; rfl)]
  have h3 : cells.length + 1 ≤ 1073741824 := by omega
  have h4 : ¬ cells.length + 1 ≤ cells.length := by omega
  simp [e1, e2, opAppend, ht, h1.size, srcCells, hid, h1v, ho, h1.bytes, hz, h3, h4]
end
end Go.Vm

