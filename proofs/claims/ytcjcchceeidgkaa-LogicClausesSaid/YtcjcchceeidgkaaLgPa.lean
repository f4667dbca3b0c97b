import Derived.Test.YtcjcchceeidgkaaLgX
/-
  PATHS: pure part and rules. (No seat.)
-/
namespace Go.Vm
section
variable {P : Program} {σ : List VObj} {kn : Kn} {dst : Option Tmp} {ty : TypeId} {pos : String} {af : Array Edge} {g : Option (Nat × Bool)}
/-- A call of a function value that gets some of the caller's objects, which are not written from here on. -/
theorem K.callZV {c : Operand} {v : XV} {f : FuncId} {first caps : List XV} {args : Array Operand} {ts : Array TypeId} {xs : List XV} {ds : List DV} {res : DV} (ids : List Nat) (m : Nat) (hv : evK kn c = some v) (hf : asFn v = some (f, first, caps)) (ha : args.toList.mapM (evK kn) = some xs) (hp : plainFn P f = true)
    (hd : (first ++ xs ++ caps).mapM (deepen (freezeIds σ ids) m) = some ds) (hc : DeepCall P f ds res) : KEv P ⟨dst, .call ⟨.value c, args, ts⟩, ty, pos, af, g⟩ σ kn (.d res) (freezeIds σ ids) 3 := fun env he =>
  .callF (first := first) (caps := caps) ids m rfl (by rw [evK_evalX he hv]; exact hf) hp (by rw [mapM_evK he ha]; exact hd) hc
/-- s[:n:n] of a slice of n cells. -/
theorem K.slice3 {x h m : Operand} {t e : TypeId} {cs : List DV} {len : Nat} {cap : Option Nat} (hx : evK kn x = some (.d (.sl cs len cap))) (hh : evK kn h = some (.d (DI len))) (hm : evK kn m = some (.d (DI len))) (hn : cs.length = len)
    (ht : P.underlying t = some (.slice e)) (hs : sizeT P e = some 1) : KEv P ⟨dst, .slice t x none (some h) (some m), ty, pos, af, g⟩ σ kn (.d (.sl cs len (some len))) σ 0 := ev_op fun env he => by
  have e1 := evK_evalX he hx
  have e2 := evK_evalX he hh
  have e3 := evK_evalX he hm
  unfold evalOp
  rw [litOp_none (x := x) (by simp [Op.operands]) (by rw [e1]; rfl)]
  subst hn
  simp [e1, e2, e3, opSlice, ht, hs, boundOf, litOf, DI]
/-- append to a slice without room. -/
theorem K.appFull {t e : TypeId} {x y : Operand} {cs : List DV} {len id : Nat} {v : XV} {z : Value} (hx : evK kn x = some (.d (.sl cs len (some len)))) (hy : evK kn y = some (.osl id 0 1 1 1 true)) (hid : σ[id]? = some ⟨[v], 0⟩) (hn : cs.length = len)
    (h1v : oneX v = true) (hlen : len < 1073741823) (ht : P.underlying t = some (.slice e)) (h1 : OneT P e z) :
    KEv P ⟨dst, .call ⟨.builtin .append, #[x, y], #[t, t]⟩, ty, pos, af, g⟩ σ kn (.osl σ.length 0 (len + 1) 1 (len + 1) false) (σ ++ [⟨cs.map .d ++ [v], 0⟩]) 2 := ev_op fun env he => by
  have hz : (zeroT P e).map (·.cells.size) = some 1 := by rw [h1.zero]; simp [h1.cells]
  have e1 := evK_evalX he hx
  have e2 := evK_evalX he hy
  unfold evalOp
  rw [litOp_none (x := y) (by simp [Op.operands, Call.operands]) (by rw [e2]; rfl)]
  subst hn
  have h3 : cs.length + 1 ≤ 1073741824 := by omega
  simp [e1, e2, opAppend, ht, h1.size, srcCells, hid, h1v, growTo, h1.bytes, hz, h3]
end
end Go.Vm
namespace Go.Lg
open Go.Vm

/-- The state after the k-th of a path. -/
def aft (Q : List Int) (lp : Int) (k : Nat) : Int := if k + 1 < Q.length then Q.getD (k + 1) 0 else Q.getD lp.toNat 0
def inS (n : Nat) (x : Int) : Bool := decide (0 ≤ x) && decide (x < (n : Int))
def stepB (nx : List Nat) (Q : List Int) (lp : Int) (k : Nat) : Bool := (inS nx.length (Q.getD k 0) && inS nx.length (aft Q lp k)) && (nx.getD (Q.getD k 0).toNat 0).testBit (aft Q lp k).toNat
def headB (Q : List Int) (lp : Int) : Bool := (decide (1 ≤ Q.length) && decide (Q.length ≤ 64)) && (decide (0 ≤ lp) && decide (lp < (Q.length : Int)))
/-- Whether a path is one of the structure. -/
def fitsB (nx : List Nat) (Q : List Int) (lp : Int) : Bool := headB Q lp && (List.range Q.length).all (stepB nx Q lp)

theorem inS_iff {n : Nat} {x : Int} : inS n x = true ↔ 0 ≤ x ∧ x < (n : Int) := by unfold inS; simp
theorem headB_iff {Q : List Int} {lp : Int} : headB Q lp = true ↔ 1 ≤ Q.length ∧ Q.length ≤ 64 ∧ 0 ≤ lp ∧ lp < (Q.length : Int) := by
  unfold headB; simp only [Bool.and_eq_true, decide_eq_true_iff]; exact ⟨fun h => ⟨h.1.1, h.1.2, h.2.1, h.2.2⟩, fun h => ⟨⟨h.1, h.2.1⟩, h.2.2.1, h.2.2.2⟩⟩
theorem fits_all {nx : List Nat} {Q : List Int} {lp : Int} (h : fitsB nx Q lp = true) : headB Q lp = true ∧ ∀ k, k < Q.length → stepB nx Q lp k = true := by
  unfold fitsB at h
  simp only [Bool.and_eq_true, List.all_eq_true, List.mem_range] at h
  exact h
theorem fits_no {nx : List Nat} {Q : List Int} {lp : Int} {k : Nat} (hk : k < Q.length) (h : stepB nx Q lp k = false) : fitsB nx Q lp = false := by
  cases hf : fitsB nx Q lp with
  | false => rfl
  | true => rw [(fits_all hf).2 k hk] at h; cases h
theorem fits_yes {nx : List Nat} {Q : List Int} {lp : Int} (hh : headB Q lp = true) (h : ∀ k, k < Q.length → stepB nx Q lp k = true) : fitsB nx Q lp = true := by
  unfold fitsB; rw [hh, Bool.true_and, List.all_eq_true]
  exact fun k hk => h k (List.mem_range.1 hk)
theorem fits_head {nx : List Nat} {Q : List Int} {lp : Int} (h : headB Q lp = false) : fitsB nx Q lp = false := by
  unfold fitsB; rw [h]; rfl
theorem fits_in {nx : List Nat} {Q : List Int} {lp : Int} (h : fitsB nx Q lp = true) : ∀ k, k < Q.length → 0 ≤ Q.getD k 0 ∧ Q.getD k 0 < (nx.length : Int) := fun k hk => by
  have := (fits_all h).2 k hk
  unfold stepB at this
  simp only [Bool.and_eq_true] at this
  exact inS_iff.1 this.1.1
theorem fits_take {nx : List Nat} {Q : List Int} {lp : Int} : fitsB nx (Q.take 70) lp = fitsB nx Q lp := by
  by_cases h : Q.length ≤ 70
  · rw [List.take_of_length_le h]
  · rw [fits_head (Q := Q), fits_head (Q := Q.take 70)]
    · cases hh : headB (Q.take 70) lp with
      | false => rfl
      | true => have := headB_iff.1 hh; simp at this; omega
    · cases hh : headB Q lp with
      | false => rfl
      | true => have := headB_iff.1 hh; omega

def EX' : ByteArray := ⟨#[69, 88]⟩
def EF' : ByteArray := ⟨#[69, 70]⟩
def EG' : ByteArray := ⟨#[69, 71]⟩
def EU' : ByteArray := ⟨#[69, 85]⟩
def shownB (op : ByteArray) : Bool := ((decide (op = EX') || decide (op = EF')) || decide (op = EG')) || decide (op = EU')
def tb (x : Nat) (s : Int) : Bool := x.testBit s.toNat
/-- Until, along a path that is run through once. -/
def untQ (x y : Nat) : List Int → Bool
  | [] => false
  | s :: r => if tb y s then true else if tb x s then untQ x y r else false
/-- Whether a path shows a formula. -/
def showB (op : ByteArray) (Q : List Int) (lp : Int) (x y : Nat) : Bool :=
  if op = EX' then tb x (aft Q lp 0) else if op = EF' then Q.any (tb x) else if op = EU' then untQ x y Q else Q.all (tb x)

/-- The first place with a property, or -1. -/
def ixI (p : Int → Bool) (l : List Int) : Int := if l.any p then (l.findIdx p : Int) else -1
theorem ix_found {p : Int → Bool} : ∀ {l : List Int} {i : Nat}, i < l.length → p (l.getD i 0) = true → (∀ j, j < i → p (l.getD j 0) = false) → l.findIdx p = i ∧ l.any p = true
  | [], i, h, _, _ => absurd h (Nat.not_lt_zero _)
  | a :: l, 0, _, h1, _ => by
    have h1' : p a = true := h1
    simp [List.findIdx_cons, h1']
  | a :: l, i + 1, h, h1, h2 => by
    have ha : p a = false := h2 0 (Nat.zero_lt_succ _)
    obtain ⟨e1, e2⟩ := ix_found (p := p) (l := l) (i := i) (by simpa using h) h1 fun j hj => h2 (j + 1) (Nat.succ_lt_succ hj)
    simp [List.findIdx_cons, ha, e1, e2]
theorem any_none {p : Int → Bool} : ∀ {l : List Int}, (∀ j, j < l.length → p (l.getD j 0) = false) → l.any p = false
  | [], _ => rfl
  | a :: l, h => by
    rw [List.any_cons, show p a = false from h 0 (Nat.zero_lt_succ _), Bool.false_or]
    exact any_none fun j hj => h (j + 1) (Nat.succ_lt_succ hj)
theorem ixI_found {p : Int → Bool} {l : List Int} {i : Nat} (h : i < l.length) (h1 : p (l.getD i 0) = true) (h2 : ∀ j, j < i → p (l.getD j 0) = false) : ixI p l = (i : Int) := by
  obtain ⟨e1, e2⟩ := ix_found h h1 h2
  unfold ixI; rw [e2, e1]; rfl
theorem ixI_none {p : Int → Bool} {l : List Int} (h : ∀ j, j < l.length → p (l.getD j 0) = false) : ixI p l = -1 := by
  unfold ixI; rw [any_none h]; rfl
theorem ixI_any {p : Int → Bool} {l : List Int} : decide (0 ≤ ixI p l) = l.any p := by
  unfold ixI
  cases l.any p with
  | true => exact decide_eq_true (by simp)
  | false => rfl
theorem ixI_lt {p : Int → Bool} {l : List Int} (h : 0 ≤ ixI p l) : ∃ k : Nat, ixI p l = (k : Int) ∧ k ≤ l.length ∧ l.findIdx p = k ∧ l.any p = true := by
  unfold ixI at *
  cases ha : l.any p with
  | true => exact ⟨l.findIdx p, by simp, List.findIdx_le_length, rfl, rfl⟩
  | false => rw [ha] at h; simp at h
theorem unt_ix {x y : Nat} : ∀ {l : List Int}, untQ x y l = (l.any (tb y) && !((l.take (l.findIdx (tb y))).any fun s => !tb x s))
  | [] => rfl
  | a :: l => by
    rw [untQ, List.findIdx_cons, List.any_cons]
    cases hy : tb y a with
    | true => simp
    | false =>
      cases hx : tb x a with
      | false => simp [hx]
      | true => simp [hx, unt_ix (l := l)]
theorem all_not {x : Nat} {l : List Int} : l.all (tb x) = !(l.any fun s => !tb x s) := by
  induction l with
  | nil => rfl
  | cons a l ih => simp [ih]

theorem unt_step_y {x y : Nat} {l : List Int} {i : Nat} (hi : i < l.length) (h : tb y (l.getD i 0) = true) : untQ x y (l.drop i) = true := by
  rw [List.drop_eq_getElem_cons hi, untQ]
  have e : l.getD i 0 = l[i] := by rw [List.getD_eq_getElem?_getD, List.getElem?_eq_getElem hi]; rfl
  rw [← e, h]; rfl
theorem unt_step_no {x y : Nat} {l : List Int} {i : Nat} (hi : i < l.length) (hy : tb y (l.getD i 0) = false) (h : tb x (l.getD i 0) = false) : untQ x y (l.drop i) = false := by
  rw [List.drop_eq_getElem_cons hi, untQ]
  have e : l.getD i 0 = l[i] := by rw [List.getD_eq_getElem?_getD, List.getElem?_eq_getElem hi]; rfl
  rw [← e, hy, h]; rfl
theorem unt_step {x y : Nat} {l : List Int} {i : Nat} (hi : i < l.length) (hy : tb y (l.getD i 0) = false) (h : tb x (l.getD i 0) = true) : untQ x y (l.drop i) = untQ x y (l.drop (i + 1)) := by
  rw [List.drop_eq_getElem_cons hi, untQ]
  have e : l.getD i 0 = l[i] := by rw [List.getD_eq_getElem?_getD, List.getElem?_eq_getElem hi]; rfl
  rw [← e, hy, h]; rfl
theorem any_step {p : Int → Bool} {l : List Int} {i : Nat} (hi : i < l.length) : (l.take (i + 1)).any p = ((l.take i).any p || p (l.getD i 0)) := by
  have e : l.getD i 0 = l[i] := by rw [List.getD_eq_getElem?_getD, List.getElem?_eq_getElem hi]; rfl
  rw [e, List.take_succ_eq_append_getElem hi, List.any_append]; simp
theorem all_step {p : Int → Bool} {l : List Int} {i : Nat} (hi : i < l.length) : (l.take (i + 1)).all p = ((l.take i).all p && p (l.getD i 0)) := by
  have e : l.getD i 0 = l[i] := by rw [List.getD_eq_getElem?_getD, List.getElem?_eq_getElem hi]; rfl
  rw [e, List.take_succ_eq_append_getElem hi, List.all_append]; simp
theorem all_any {p : Int → Bool} {l : List Int} (h : 1 ≤ l.length) (ha : l.all p = true) : l.any p = true := by
  cases l with
  | nil => simp at h
  | cons a l => simp only [List.all_cons, Bool.and_eq_true] at ha; simp [ha.1]

theorem shrII {a : Nat} {x : Int} (h : 0 ≤ x ∧ x < 64) : Int.fdiv (a : Int) (2 ^ min x.toNat IntKind.i64.bits) = ((a / 2 ^ x.toNat : Nat) : Int) := by
  have := shrI (a := a) (i := x.toNat) (by omega)
  rwa [show ((x.toNat : Nat) : Int).toNat = x.toNat from rfl] at this
end Go.Lg
namespace Go.Lg
open Go.Vm
section
variable {P : Program} {M : Nat → Prop} {W0 : World} {n : Nat} {ops : Array Oper} {l : List Oper} {σ : List VObj} {kn : Kn} {dst : Option Tmp} {ty : TypeId} {pos : String} {af : Array Edge} {g : Option (Nat × Bool)} {R : List Nat → List VObj → Kn → Prop}
theorem KT.idxD {x i : Operand} {t e : TypeId} {d : DV} {xs : List Int} {z : Int} {m : Nat} (hg : guardK ops kn ⟨dst, .indexAddr t x i, ty, pos, af, g⟩ = some true) (hd : dstOk n dst = true) (hx : evK kn x = some (.d d)) (hv : Ints d xs)
    (hi : evK kn i = some (.d (DI z))) (hz : z = (m : Int)) (hm : m < xs.length) (ht : P.underlying t = some (.slice e)) (hs : sizeT P e = some 1)
    (h : ∀ cs, KT P n ops l σ (extK dst (.d (.ptr (DI (xs.getD m 0) :: cs))) kn) (fun fls τ k => R (0 :: fls) τ k)) : KT P n ops (⟨dst, .indexAddr t x i, ty, pos, af, g⟩ :: l) σ kn R := by
  subst hz
  refine KT.idx hg hd hx hv hi hm ht hs fun c cs hc => ?_
  cases hc
  have e : xs.getD m 0 = xs[m] := by rw [List.getD_eq_getElem?_getD, List.getElem?_eq_getElem hm]; rfl
  rw [← e]
  exact h cs
theorem KT.idxN {x i : Operand} {t e : TypeId} {d : DV} {xs : List Nat} {z : Int} {m : Nat} (hg : guardK ops kn ⟨dst, .indexAddr t x i, ty, pos, af, g⟩ = some true) (hd : dstOk n dst = true) (hx : evK kn x = some (.d d)) (hv : Nats d xs)
    (hi : evK kn i = some (.d (DI z))) (hz : z = (m : Int)) (hm : m < xs.length) (ht : P.underlying t = some (.slice e)) (hs : sizeT P e = some 1)
    (h : ∀ rest, KT P n ops l σ (extK dst (.d (.ptr (DI ((xs.getD m 0 : Nat)) :: rest))) kn) (fun fls τ k => R (0 :: fls) τ k)) :
    KT P n ops (⟨dst, .indexAddr t x i, ty, pos, af, g⟩ :: l) σ kn R := by
  subst hz
  exact KT.idxNat hg hd hx hv hi hm ht hs h
end
end Go.Lg
namespace Go.Lg
open Go.Vm
theorem bit_cases (s x : Nat) : s / 2 ^ x &&& 1 = 0 ∨ s / 2 ^ x &&& 1 = 1 := by rw [Nat.and_one_is_mod]; omega
theorem bit_no {s : Nat} {x : Int} (h : ((s / 2 ^ x.toNat &&& 1 : Nat) : Int) = 0) : tb s x = false := by
  unfold tb; rw [← bitOne, h]; rfl
theorem bit_yes {s : Nat} {x : Int} (h : ¬ ((s / 2 ^ x.toNat &&& 1 : Nat) : Int) = 0) : tb s x = true := by
  unfold tb; rw [← bitOne]; exact decide_eq_true (by have := bit_cases s x.toNat; omega)
theorem bit_is {s : Nat} {x : Int} : decide (((s / 2 ^ x.toNat &&& 1 : Nat) : Int) = 1) = tb s x := bitOne _ _
theorem show_is {op : ByteArray} {Q : List Int} {lp : Int} {x y : Nat} (h1 : 1 ≤ Q.length) (hx : ¬ op = EX') (hu : ¬ op = EU') : (Q.all (tb x) || (Q.any (tb x) && decide (op = EF'))) = showB op Q lp x y := by
  unfold showB
  rw [if_neg hx, if_neg hu]
  by_cases hf : op = EF'
  · rw [if_pos hf, decide_eq_true hf, Bool.and_true]
    cases ha : Q.all (tb x) with
    | true => rw [all_any h1 ha]; rfl
    | false => rfl
  · rw [if_neg hf, decide_eq_false hf, Bool.and_false, Bool.or_false]
theorem cell1 {cs : List DV} {Q : List Int} {len : Nat} {cap : Option Nat} {lp : Int} (hn : cs.length = Q.length) (hQ : Ints (.sl cs len cap) Q) (h1 : 1 ≤ Q.length) : (cs.map XV.d ++ [.d (DI (Q.getD lp.toNat 0))])[0 + 1]? = some (.d (DI (aft Q lp 0))) := by
  unfold aft
  cases hQ with
  | sl hn2 h =>
    by_cases h2 : 0 + 1 < Q.length
    · rw [if_pos h2, List.getElem?_append_left (by simp; omega), List.getElem?_map, List.getElem?_eq_getElem (show 0 + 1 < cs.length by omega)]
      have := h 1 _ _ (List.getElem?_eq_getElem (show 1 < cs.length by omega)) (List.getElem?_eq_getElem (show 1 < Q.length by omega))
      show some (XV.d cs[1]) = _
      rw [show cs[1] = DI Q[1] from this, List.getD_eq_getElem?_getD, List.getElem?_eq_getElem (show 0 + 1 < Q.length by omega)]
      rfl
    · rw [if_neg h2, List.getElem?_append_right (by simp; omega)]
      have e : 0 + 1 - (cs.map XV.d).length = 0 := by simp; omega
      rw [e]; rfl
theorem ar1 {n : Nat} {op : ByteArray} (h : (n : Int) = arI op) (hs : shownB op = true) : 1 ≤ n ∧ (op = EU' → 2 ≤ n) := by
  unfold shownB at hs
  simp only [Bool.or_eq_true, decide_eq_true_iff] at hs
  have e1 : arI EX' = 1 := by decide
  have e2 : arI EF' = 1 := by decide
  have e3 : arI EG' = 1 := by decide
  have e4 : arI EU' = 2 := by decide
  rcases hs with ((rfl | rfl) | rfl) | rfl
  · exact ⟨by omega, fun e => absurd e (by decide)⟩
  · exact ⟨by omega, fun e => absurd e (by decide)⟩
  · exact ⟨by omega, fun e => absurd e (by decide)⟩
  · exact ⟨by omega, fun _ => by omega⟩
end Go.Lg

