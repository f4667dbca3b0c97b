import Derived.Test.YthbnnffmhnjpjaaVmZ
import Derived.Test.YthbnnffmhnjpjaaFlR
/-
  Links, fractions and numbers of firings as cells; slices whose variables take several cells.
-/
namespace Go.Vm
open Go.Fl
section
variable {P : Program} {σ : List VObj} {kn : Kn} {dst : Option Tmp} {ty : TypeId} {pos : String} {af : Array Edge} {g : Option (Nat × Bool)}
theorem K.makeK {t e : TypeId} {x y : Operand} {m c : Nat} {z : Value} {k : Nat} (hx : evK kn x = some (.d (DI m))) (hy : evK kn y = some (.d (DI c))) (hmc : m ≤ c) (hm : c ≤ 1073741824) (ht : P.underlying t = some (.slice e)) (hs : sizeT P e = some k) (hz : zeroT P e = some z) (hby : bytesT P e ≤ 65536) :
    KEv P ⟨dst, .makeSlice t x y, ty, pos, af, g⟩ σ kn (.osl σ.length 0 m k c true) (σ ++ [⟨zeroRow z (c * k), 0⟩]) 3 := ev_op fun env he => by
  have e1 := evK_evalX he hx
  have e2 := evK_evalX he hy
  have hl : litOp P env ⟨dst, .makeSlice t x y, ty, pos, af, g⟩ = none := by
    unfold litOp
    rw [if_pos (by simp [Op.operands, isSelect, e1, e2, litOf])]
    have e3 : pureRun P (execOp (fun x => (litOf (evalX env x)).getD undef) ⟨dst, .makeSlice t x y, ty, pos, af, g⟩) = none := by
      obtain ⟨i, hi, hi1⟩ : ∃ i, P.info? e = some i ∧ i.size = k := by
        have := hs
        unfold sizeT at this
        cases hi : P.info? e with
        | none => rw [hi] at this; simp at this
        | some i => rw [hi] at this; simp at this; exact ⟨i, rfl, this⟩
      have hb : i.bytes ≤ 65536 := by have := hby; simpa [bytesT, hi] using this
      simp only [execOp, e1, e2, litOf, Option.getD_some]
      rw [pureRun_bind]
      have : pureRun P (Instr.makeSlice t (.int .i64 m) (.int .i64 c)) = none := by
        unfold Instr.makeSlice
        rw [pureRun_bind, pureRun_underlying ht]
        simp only [Option.bind_some]
        have w1 : IntKind.i64.wrap (m : Int) = m := wrap_id (by omega)
        have w2 : IntKind.i64.wrap (c : Int) = c := wrap_id (by omega)
        rw [pureRun_bind]
        show (some (m : Int)).bind _ = _
        simp only [Option.bind_some]
        rw [pureRun_bind]
        show (some (c : Int)).bind _ = _
        simp only [Option.bind_some]
        rw [pureRun_bind]
        have hti : pureRun P (typeInfo e) = some i := by
          unfold typeInfo
          rw [pureRun_bind]
          show (some P).bind _ = _
          simp only [Option.bind_some, hi]; rfl
        rw [hti]
        simp only [Option.bind_some, w1, w2]
        have hbb : (i.bytes : Int) * c ≤ 2 ^ 48 := by
          have : i.bytes * c ≤ 65536 * 1073741824 := Nat.mul_le_mul hb hm
          have h3 : ((i.bytes * c : Nat) : Int) = (i.bytes : Int) * c := by rw [Int.natCast_mul]
          omega
        have hno : ¬ ((decide ((c : Int) < 0) || decide ((i.bytes : Int) * c > 2 ^ 48) || decide ((m : Int) < 0) || decide ((m : Int) > c)) = true) := by simp; omega
        rw [if_neg hno]
        rw [pureRun_bind]
        have hask : ∀ k : Nat, pureRun P (askRoom k) = some () ∨ pureRun P (askRoom k) = none := by
          intro k; unfold askRoom; split
          · left; rfl
          · left; rfl
        rcases hask ((c : Int).toNat * i.bytes) with h | h
        · rw [h]
          simp only [Option.bind_some]
          rw [pureRun_bind]
          have hsz : pureRun P (sizeOf e) = some k := by
            unfold sizeOf
            rw [pureRun_bind, hti]
            show some i.size = _
            rw [hi1]
          rw [hsz]
          simp only [Option.bind_some]
          split
          · rfl
          · rw [pureRun_bind]
            cases hz : pureRun P (zeroValue e) with
            | none => rfl
            | some z => rfl
        · rw [h]; rfl
      rw [this]; rfl
    rw [e3]
  unfold evalOp
  rw [hl]
  have c1 : (m : Int) ≤ (c : Int) := by omega
  have c2 : (c : Int) ≤ 1073741824 := by omega
  simp [e1, e2, opMakeSlice, litOf, ht, hs, hz, hby, c1, c2]

theorem K.idxOK {x i : Operand} {t e : TypeId} {id off len lo m k : Nat} {ex : Bool} (hx : evK kn x = some (.osl id off len k lo ex)) (hi : evK kn i = some (.d (DI (m : Int)))) (hm : m < len) (ht : P.underlying t = some (.slice e)) (hs : sizeT P e = some k) :
    KEv P ⟨dst, .indexAddr t x i, ty, pos, af, g⟩ σ kn (.optr id (off + m * k)) σ 0 := ev_op fun env he => by
  have e1 := evK_evalX he hx
  have e2 := evK_evalX he hi
  unfold evalOp
  rw [litOp_none (x := x) (by simp [Op.operands]) (by rw [e1]; rfl)]
  have h1 : (m : Int) < (len : Int) := by omega
  simp [e1, e2, opIndexAddr, litOf, ht, hs, h1]
theorem K.idxDK {x i : Operand} {t e : TypeId} {cs : List DV} {len m k : Nat} {cap : Option Nat} (hx : evK kn x = some (.d (.sl cs len cap))) (hi : evK kn i = some (.d (DI (m : Int)))) (hm : m < len) (ht : P.underlying t = some (.slice e)) (hs : sizeT P e = some k) :
    KEv P ⟨dst, .indexAddr t x i, ty, pos, af, g⟩ σ kn (.d (.ptr (cs.drop (m * k)))) σ 0 := ev_op fun env he => by
  have e1 := evK_evalX he hx
  have e2 := evK_evalX he hi
  unfold evalOp
  rw [litOp_none (x := x) (by simp [Op.operands]) (by rw [e1]; rfl)]
  have h1 : (m : Int) < (len : Int) := by omega
  simp [e1, e2, opIndexAddr, litOf, ht, hs, h1]
theorem K.lenD {x : Operand} {t e : TypeId} {cs : List DV} {len : Nat} {cap : Option Nat} (hx : evK kn x = some (.d (.sl cs len cap))) (ht : P.underlying t = some (.slice e)) : KEv P ⟨dst, .call ⟨.builtin .len, #[x], #[t]⟩, ty, pos, af, g⟩ σ kn (.d (DI len)) σ 0 := ev_op fun env he => by
  have e1 := evK_evalX he hx
  unfold evalOp
  rw [litOp_none (x := x) (by simp [Op.operands, Call.operands]) (by rw [e1]; rfl)]
  simp [e1, opLen, isSliceT, ht]
end

/-- A link of any numbers. -/
structure LZ where
  f : Int
  t : Int
  g : Int
  k : Int
  s : Int
def _root_.Go.Fl.LN.z (l : LN) : LZ := ⟨l.f, l.t, l.g, l.k, l.s⟩
def lk5 (l : LZ) : List DV := [DI l.f, DI l.t, DI l.g, DI l.k, DI l.s]
def flatK (L : List LZ) : List DV := L.flatMap lk5
/-- A slice of links. -/
inductive Lks : DV → List LZ → Prop
  | nil : Lks Dnil []
  | sl {L : List LZ} {cap : Option Nat} : Lks (.sl (flatK L) L.length cap) L
theorem flatK_len (L : List LZ) : (flatK L).length = L.length * 5 := by
  induction L with
  | nil => rfl
  | cons r rows ih => simp [flatK] at ih ⊢; rw [ih]; simp [lk5]; omega
theorem flatK_drop : ∀ (L : List LZ) (m : Nat) (h : m < L.length), (flatK L).drop (m * 5) = lk5 L[m] ++ flatK (L.drop (m + 1))
  | [], _, h => by simp at h
  | r :: L, 0, _ => by simp [flatK]
  | r :: L, m + 1, h => by
    have := flatK_drop L m (by simpa using h)
    rw [show flatK (r :: L) = lk5 r ++ flatK L from rfl, Nat.add_mul, Nat.one_mul, List.drop_append]
    rw [List.drop_eq_nil_of_le (by simp [lk5]), show m * 5 + 5 - (lk5 r).length = m * 5 by simp [lk5]]
    simpa using this
theorem flatK_take (L : List LZ) (m : Nat) (h : m < L.length) : ((flatK L).drop (m * 5)).take 5 = lk5 L[m] := by
  rw [flatK_drop _ _ h]; rfl
theorem flatK_snoc (L : List LZ) (l : LZ) : flatK (L ++ [l]) = flatK L ++ lk5 l := by simp [flatK]
section
variable {P : Program} {n : Nat} {ops : Array Oper} {l : List Oper} {σ : List VObj} {kn : Kn} {dst : Option Tmp} {ty : TypeId} {pos : String} {af : Array Edge} {g : Option (Nat × Bool)} {R : List Nat → List VObj → Kn → Prop}
theorem K.lenL {x : Operand} {t e : TypeId} {d : DV} {L : List LZ} (hx : evK kn x = some (.d d)) (hL : Lks d L) (ht : P.underlying t = some (.slice e)) : KEv P ⟨dst, .call ⟨.builtin .len, #[x], #[t]⟩, ty, pos, af, g⟩ σ kn (.d (DI (L.length : Nat))) σ 0 := by
  cases hL with
  | nil => exact K.len (R := IsI) (l := []) hx .nil ht
  | sl => exact K.lenD hx ht
/-- A link of a slice of links. -/
theorem K.idxL {x i : Operand} {t e : TypeId} {d : DV} {L : List LZ} {m : Nat} (hx : evK kn x = some (.d d)) (hL : Lks d L) (hi : evK kn i = some (.d (DI (m : Int)))) (hm : m < L.length) (ht : P.underlying t = some (.slice e)) (hs : sizeT P e = some 5) :
    KEv P ⟨dst, .indexAddr t x i, ty, pos, af, g⟩ σ kn (.d (.ptr ((flatK L).drop (m * 5)))) σ 0 := by
  cases hL with
  | nil => simp at hm
  | sl => exact K.idxDK hx hi hm ht hs
theorem K.loadL {x : Operand} {t : TypeId} {L : List LZ} {m : Nat} (hm : m < L.length) (hx : evK kn x = some (.d (.ptr ((flatK L).drop (m * 5))))) (ht : isAggT P t = some true) (hs : sizeT P t = some 5) :
    KEv P ⟨dst, .load t x, ty, pos, af, g⟩ σ kn (.d (.agg (lk5 L[m]))) σ 0 := by
  rw [← flatK_take L m hm]
  exact K.loadAgg (m := 5) hx ht hs (by rw [List.length_drop, flatK_len]; omega)
/-- A field of a link of a slice of links. -/
theorem K.loadLF {x : Operand} {t : TypeId} {L : List LZ} {m : Nat} (j : Nat) {c : DV} (hm : m < L.length) (hx : evK kn x = some (.d (.ptr (((flatK L).drop (m * 5)).drop j)))) (hc : (lk5 L[m])[j]? = some c) (ht : isAggT P t = some false) :
    KEv P ⟨dst, .load t x, ty, pos, af, g⟩ σ kn (.d c) σ 0 := by
  have hj : j < 5 := by
    have := (List.getElem?_eq_some_iff.1 hc).1
    simpa [lk5] using this
  have e : ((flatK L).drop (m * 5)).drop j = c :: (lk5 L[m]).drop (j + 1) ++ flatK (L.drop (m + 1)) := by
    rw [flatK_drop _ _ hm, List.drop_append_of_le_length (by simp [lk5]; omega)]
    rw [List.drop_eq_getElem_cons (by simp [lk5]; omega)]
    rw [(List.getElem?_eq_some_iff.1 hc).2]
  rw [e] at hx
  exact K.load hx ht
end

/-- How often each actor fires: six cells. -/
def wN (X : Nat → Nat) : List DV := (List.range 6).map fun i => DI (X i : Nat)
abbrev wX (X : Nat → Nat) : List XV := (wN X).map .d
theorem wN_len (X : Nat → Nat) : (wN X).length = 6 := by simp [wN]
theorem wX_len (X : Nat → Nat) : (wX X).length = 6 := by simp [wN]
theorem wX_get (X : Nat → Nat) {i : Nat} (hi : i < 6) : (wX X)[0 + i * 1]? = some (.d (DI (X i : Nat))) := by
  rw [Nat.zero_add, Nat.mul_one]; simp [wN, hi]
theorem wN_get (X : Nat → Nat) {i : Nat} (hi : i < 6) : (wN X)[i]? = some (DI (X i : Nat)) := by simp [wN, hi]
theorem wN_drop (X : Nat → Nat) {i : Nat} (hi : i < 6) : (wN X).drop (i * 1) = DI (X i : Nat) :: (wN X).drop (i + 1) := by
  rw [Nat.mul_one, List.drop_eq_getElem_cons (by simp [wN]; omega)]
  simp [wN]
theorem wX_set (X : Nat → Nat) {i : Nat} (hi : i < 6) (v : Nat) : (wX X).set (0 + i * 1) (.d (DI (v : Nat))) = wX fun j => if j = i then v else X j := by
  rw [Nat.zero_add, Nat.mul_one]
  refine List.ext_getElem? fun k => ?_
  rw [List.getElem?_set]
  by_cases hk : k < 6
  · by_cases e : i = k
    · subst e; simp [wN, hk]
    · rw [if_neg e]
      simp only [wX, wN, List.getElem?_map, List.getElem?_range hk, Option.map_some, Option.some.injEq, XV.d.injEq]
      rw [if_neg (fun h => e h.symm)]
  · rw [if_neg (by omega), List.getElem?_eq_none (by simp [wN]; omega), List.getElem?_eq_none (by simp [wN]; omega)]
theorem wX_bump (X : Nat → Nat) {i : Nat} (hi : i < 6) : (wX X).set (0 + i * 1) (.d (DI ((X i : Nat) + 1 : Int))) = wX (bump X i) := by
  have := wX_set X hi (X i + 1)
  rw [show (((X i + 1 : Nat) : Int)) = (X i : Int) + 1 by omega] at this
  rw [this]
  congr 2
  funext j
  unfold bump
  split
  · rename_i e; subst e; rfl
  · rfl
theorem wN_agg (X : Nat → Nat) : aggX (((wX X).drop 0).take 6) = .d (.agg (wN X)) := by
  rw [List.drop_zero, List.take_of_length_le (by simp [wN]), aggX_d]
theorem wN_zero : ([DI 0, DI 0, DI 0, DI 0, DI 0, DI 0] : List DV) = wN fun _ => 0 := rfl

/-- Fractions: two cells each. -/
def frN (N : Nat) (R : Rat6) : List DV := (List.range (N * 2)).map fun j => if j % 2 = 0 then DI ((R (j / 2)).1 : Nat) else DI ((R (j / 2)).2 : Nat)
abbrev frX (N : Nat) (R : Rat6) : List XV := (frN N R).map .d
theorem frN_len (N : Nat) (R : Rat6) : (frN N R).length = N * 2 := by simp [frN]
theorem frN_take (N : Nat) (R : Rat6) {m : Nat} (hm : m < N) : ((frN N R).drop (m * 2)).take 2 = [DI ((R m).1 : Nat), DI ((R m).2 : Nat)] := by
  refine List.ext_getElem? fun k => ?_
  rw [List.getElem?_take, List.getElem?_drop]
  unfold frN
  by_cases hk : k < 2
  · rw [if_pos hk, List.getElem?_map, List.getElem?_range (by omega)]
    simp only [Option.map_some]
    rcases (show k = 0 ∨ k = 1 by omega) with rfl | rfl
    · rw [if_pos (by omega), show (m * 2 + 0) / 2 = m by omega]; rfl
    · rw [if_neg (by omega), show (m * 2 + 1) / 2 = m by omega]; rfl
  · rw [if_neg hk]
    rw [List.getElem?_eq_none (by simp; omega)]
theorem frX_take (N : Nat) (R : Rat6) {m : Nat} (hm : m < N) : aggX (((frX N R).drop (0 + m * 2)).take 2) = .d (.agg [DI ((R m).1 : Nat), DI ((R m).2 : Nat)]) := by
  rw [Nat.zero_add, ← List.map_drop, ← List.map_take, frN_take N R hm]; rfl
theorem frX_splice (N : Nat) (R : Rat6) {m : Nat} (hm : m < N) (v : Fra) : splice (frX N R) (0 + m * 2) [.d (DI (v.1 : Nat)), .d (DI (v.2 : Nat))] = frX N (setF R m v) := by
  rw [Nat.zero_add]
  refine List.ext_getElem? fun k => ?_
  rw [getElem?_splice _ _ _ (by simp [frN]; omega)]
  simp only [List.length_cons, List.length_nil]
  unfold frX frN
  by_cases hk : k < N * 2
  · by_cases h : m * 2 ≤ k ∧ k < m * 2 + 2
    · rw [if_pos h]
      simp only [List.getElem?_map, List.getElem?_range hk, Option.map_some]
      unfold setF
      rw [show k / 2 = m by omega]
      rcases (show k = m * 2 ∨ k = m * 2 + 1 by omega) with rfl | rfl
      · rw [Nat.sub_self, if_pos (by omega), if_pos rfl]; rfl
      · rw [show m * 2 + 1 - m * 2 = 1 by omega, if_neg (by omega), if_pos rfl]; rfl
    · rw [if_neg h]
      simp only [List.getElem?_map, List.getElem?_range hk, Option.map_some]
      unfold setF
      have hn : ¬ k / 2 = m := by omega
      simp only [hn, if_false]
  · rw [if_neg (by omega), List.getElem?_eq_none (by simp; omega), List.getElem?_eq_none (by simp; omega)]
theorem frX_zero {N : Nat} {z : Value} (hz : z.cells = #[.int .i64 0, .int .i64 0]) : zeroRow z (N * 2) = frX N fun _ => (0, 0) := by
  unfold zeroRow frX frN
  rw [List.map_map]
  refine List.map_congr_left fun j _ => ?_
  rw [hz]
  simp only [Function.comp]
  have : j % 2 = 0 ∨ j % 2 = 1 := by omega
  rcases this with h | h
  · rw [if_pos h]; simp [h]
  · rw [if_neg (by omega)]; simp [h]
end Go.Vm

