import Derived.Test.YtdilkpcnkhedlaaVmW
import Derived.Tactics
import Derived.Scope
section
/-
  VALUES WITHOUT ADDRESSES, 24: sets of small numbers as bits of an int.
-/
namespace Go.Vm
open Go.RowKit

/-- The bits of a that b has not. -/
def diffN (a b : Nat) : Nat := a ^^^ (a &&& b)
theorem testBit_diffN (a b i : Nat) : (diffN a b).testBit i = (a.testBit i && !b.testBit i) := by
  unfold diffN
  rw [Nat.testBit_xor, Nat.testBit_and]
  cases a.testBit i <;> cases b.testBit i <;> rfl
theorem diffN_le (a b : Nat) : diffN a b ≤ a := by
  have h : diffN a b &&& a = diffN a b := by
    apply Nat.eq_of_testBit_eq
    intro i
    rw [Nat.testBit_and, testBit_diffN]
    cases a.testBit i <;> simp
  rw [← h]; exact Nat.and_le_right

theorem ofInt_toNat {a : Nat} (ha : a < 2 ^ 63) : (BitVec.ofInt 64 (a : Int)).toNat = a := by
  rw [BitVec.ofInt_natCast, BitVec.toNat_ofNat]
  exact Nat.mod_eq_of_lt (by omega)

theorem andI {a b : Nat} (ha : a < 2 ^ 63) (hb : b < 2 ^ 63) : IntKind.i64.wrap (BitVec.ofInt IntKind.i64.bits (a : Int) &&& BitVec.ofInt IntKind.i64.bits (b : Int)).toNat = ((a &&& b : Nat) : Int) := by
  show IntKind.i64.wrap (BitVec.ofInt 64 (a : Int) &&& BitVec.ofInt 64 (b : Int)).toNat = _
  rw [BitVec.toNat_and, ofInt_toNat ha, ofInt_toNat hb]
  have := Nat.and_le_left (n := a) (m := b)
  exact wrap_id (by omega)
theorem orI {a b : Nat} (ha : a < 2 ^ 63) (hb : b < 2 ^ 63) : IntKind.i64.wrap (BitVec.ofInt IntKind.i64.bits (a : Int) ||| BitVec.ofInt IntKind.i64.bits (b : Int)).toNat = ((a ||| b : Nat) : Int) := by
  show IntKind.i64.wrap (BitVec.ofInt 64 (a : Int) ||| BitVec.ofInt 64 (b : Int)).toNat = _
  rw [BitVec.toNat_or, ofInt_toNat ha, ofInt_toNat hb]
  have := Nat.or_lt_two_pow ha hb
  exact wrap_id (by omega)
theorem diffI {a b : Nat} (ha : a < 2 ^ 63) (hb : b < 2 ^ 63) : IntKind.i64.wrap (BitVec.ofInt IntKind.i64.bits (a : Int) &&& ~~~BitVec.ofInt IntKind.i64.bits (b : Int)).toNat = ((diffN a b : Nat) : Int) := by
  show IntKind.i64.wrap (BitVec.ofInt 64 (a : Int) &&& ~~~BitVec.ofInt 64 (b : Int)).toNat = _
  have e : (BitVec.ofInt 64 (a : Int) &&& ~~~BitVec.ofInt 64 (b : Int)).toNat = diffN a b := by
    apply Nat.eq_of_testBit_eq
    intro i
    rw [testBit_diffN, BitVec.toNat_and, Nat.testBit_and, ofInt_toNat ha]
    by_cases hi : i < 64
    · have h1 : Nat.testBit (BitVec.ofInt 64 (b : Int)).toNat i = b.testBit i := by rw [ofInt_toNat hb]
      rw [← h1, ← BitVec.getLsbD, ← BitVec.getLsbD, BitVec.getLsbD_not]
      simp [hi]
    · rw [Nat.testBit_lt_two_pow (Nat.lt_of_lt_of_le ha (Nat.pow_le_pow_right (by omega) (by omega : 63 ≤ i)))]
      simp
  rw [e]
  have := diffN_le a b
  exact wrap_id (by omega)
theorem shlI {i : Nat} (hi : i < 63) : IntKind.i64.wrap ((1 : Int) * 2 ^ min ((i : Int)).toNat IntKind.i64.bits) = ((2 ^ i : Nat) : Int) := by
  have e : min ((i : Int)).toNat IntKind.i64.bits = i := by
    show min i 64 = i
    omega
  rw [e, Int.one_mul]
  have h : (2 : Nat) ^ i < 2 ^ 63 := Nat.pow_lt_pow_right (by omega) hi
  have : ((2 : Int) ^ i) = ((2 ^ i : Nat) : Int) := by simp
  rw [this]
  generalize (2 : Nat) ^ i = z at h ⊢
  exact wrap_id (by omega)
theorem shrI {a i : Nat} (hi : i < 64) : Int.fdiv (a : Int) (2 ^ min ((i : Int)).toNat IntKind.i64.bits) = ((a / 2 ^ i : Nat) : Int) := by
  have e : min ((i : Int)).toNat IntKind.i64.bits = i := by
    show min i 64 = i
    omega
  rw [e, Int.fdiv_eq_ediv_of_nonneg _ (by exact Int.pow_nonneg (by decide))]
  simp
theorem bitOne (a i : Nat) : (decide (((a / 2 ^ i &&& 1 : Nat) : Int) = 1)) = a.testBit i := by
  rw [Nat.testBit_eq_decide_div_mod_eq, Nat.and_one_is_mod]
  generalize a / 2 ^ i = z
  have : (((z % 2 : Nat) : Int) = 1) ↔ z % 2 = 1 := by omega
  simp only [this]

theorem ints_cells {cs : List DV} {l : List Int} (hn : cs.length = l.length) (h : ∀ (i : Nat) (c : DV) (x : Int), cs[i]? = some c → l[i]? = some x → IsI c x) : cs = l.map DI := by
  apply List.ext_getElem? 
  intro i
  rw [List.getElem?_map]
  by_cases hi : i < l.length
  · have h1 := List.getElem?_eq_getElem (show i < cs.length by omega)
    have h2 := List.getElem?_eq_getElem hi
    rw [h1, h2, h i _ _ h1 h2]; rfl
  · rw [List.getElem?_eq_none (by omega), List.getElem?_eq_none (by omega)]; rfl

theorem all_oneX (l : List Int) : (l.map fun n => XV.d (DI n)).all oneX = true := by
  rw [List.all_map, List.all_eq_true]
  intro x _
  rfl

/-- What is copied or appended from integers. -/
theorem srcCells_ints {σ : List VObj} {d : DV} {l : List Int} (hd : Ints d l) : ∃ fl, srcCells σ 1 (.d d) = some (l.map (fun n => XV.d (DI n)), l.length, fl) := by
  cases hd with
  | nil => exact ⟨0, rfl⟩
  | @sl cs _ cap hn h =>
    have e := ints_cells hn h
    subst e
    refine ⟨0, ?_⟩
    simp only [srcCells]
    rw [if_pos (by simp), List.take_of_length_le (by simp), List.map_map]
    rfl

section
variable {P : Program} {σ : List VObj} {kn : Kn} {dst : Option Tmp} {ty : TypeId} {pos : String} {af : Array Edge} {g : Option (Nat × Bool)}

/-- a[:] of an array of the call's own. -/
theorem K.sliceA {t e : TypeId} {x : Operand} {id off n k : Nat} {ob : VObj} (hx : evK kn x = some (.optr id off)) (ht : P.underlying t = some (.array n e)) (hs : sizeT P e = some k) (ho : σ[id]? = some ob) (h2 : ob.mode < 2) (hn : 0 < n) (hf : off + n * k ≤ ob.cells.length) :
    KEv P ⟨dst, .slice t x none none none, ty, pos, af, g⟩ σ kn (.osl id off n k n true) σ 1 := ev_op fun env he => by
  have e1 := evK_evalX he hx
  unfold evalOp
  rw [litOp_none (x := x) (by simp [Op.operands]) (by rw [e1]; rfl)]
  have h0 : opSlice P t (.optr id off) none none none = none := by
    unfold opSlice; rw [ht]
  simp only [e1, Option.map_none, h0, opSliceA, ht, ho, hs, boundOf]
  rw [if_pos ⟨h2, Nat.zero_le _, Nat.le_refl _, hn, hf⟩]
  simp

/-- a[:n]. -/
theorem K.sliceAh {t e : TypeId} {x h : Operand} {id off n k m : Nat} {ob : VObj} (hx : evK kn x = some (.optr id off)) (hh : evK kn h = some (.d (DI (m : Int)))) (ht : P.underlying t = some (.array n e)) (hs : sizeT P e = some k) (ho : σ[id]? = some ob) (h2 : ob.mode < 2) (hn : 0 < n) (hm : m ≤ n) (hf : off + n * k ≤ ob.cells.length) :
    KEv P ⟨dst, .slice t x none (some h) none, ty, pos, af, g⟩ σ kn (.osl id off m k n true) σ 1 := ev_op fun env he => by
  have e1 := evK_evalX he hx
  have e2 := evK_evalX he hh
  unfold evalOp
  rw [litOp_none (x := x) (by simp [Op.operands]) (by rw [e1]; rfl)]
  have h0 : opSlice P t (.optr id off) none (some (.d (DI (m : Int)))) none = none := by
    unfold opSlice; rw [ht]
  simp only [e1, e2, Option.map_none, Option.map_some, h0, opSliceA, ht, ho, hs, boundOf, litOf]
  rw [if_pos (Int.natCast_nonneg m)]
  simp only [Int.toNat_natCast]
  rw [if_pos ⟨h2, Nat.zero_le _, hm, hn, hf⟩]
  simp

/-- copy of integers into an own slice. -/
theorem K.copyI {a x : Operand} {ts : Array TypeId} {t e : TypeId} {d : DV} {l : List Int} {id off len lo : Nat} {ex : Bool} {ob : VObj} (ha : evK kn a = some (.osl id off len 1 lo ex)) (hx : evK kn x = some (.d d)) (hd : Ints d l) (h0 : ts[0]? = some t)
    (ht : P.underlying t = some (.slice e)) (hs : sizeT P e = some 1) (ho : σ[id]? = some ob) (hm : ob.mode = 0) (hf : off + min l.length len ≤ ob.cells.length) (hl : 0 < l.length) :
    KEv P ⟨dst, .call ⟨.builtin .copy, #[a, x], ts⟩, ty, pos, af, g⟩ σ kn (.d (DI (min l.length len : Nat))) (σ.set id ⟨splice ob.cells off ((l.take (min l.length len)).map fun n => .d (DI n)), 0⟩) 2 := ev_op fun env he => by
  have e1 := evK_evalX he ha
  have e2 := evK_evalX he hx
  unfold evalOp
  rw [litOp_none (x := a) (by simp [Op.operands, Call.operands]) (by rw [e1]; rfl)]
  obtain ⟨fl, hsrc⟩ := srcCells_ints (σ := σ) hd
  simp only [e1, e2, opCopy, h0, Option.bind_some, ht, hs, ho, hsrc]
  rw [if_pos ⟨trivial, hm, by simpa using hf, all_oneX l, hl⟩]
  simp [List.map_take]

/-- One cell that is a slice. -/
inductive SlD : DV → Prop
  | nil : SlD Dnil
  | sl (cs : List DV) (len : Nat) (cap : Option Nat) : SlD (.sl cs len cap)
theorem SlD.of {α : Type} {R : DV → α → Prop} {d : DV} {l : List α} (h : Vec R d l) : SlD d := by cases h with | nil => exact .nil | sl => exact .sl _ _ _
theorem SlD.cells {d : DV} (h : SlD d) : cellsX (.d d) = [.d d] := by cases h <;> rfl
theorem SlD.one {d : DV} (h : SlD d) : oneX (.d d) = true := by cases h <;> rfl
def isNilD : DV → Bool
  | .lit _ => true
  | _ => false
/-- A struct of three slices, just built. -/
def mk3 (a b c : DV) : DV := if isNilD a && isNilD b && isNilD c then .lit (.agg #[.slice none 0 0, .slice none 0 0, .slice none 0 0]) else .agg [a, b, c]
theorem mk3_cells {a b c : DV} (ha : SlD a) (hb : SlD b) (hc : SlD c) : cellsX (.d (mk3 a b c)) = [.d a, .d b, .d c] := by
  cases ha <;> cases hb <;> cases hc <;> rfl
theorem mk3_build {a b c : DV} {t : TypeId} {fs : Array Field} (ha : SlD a) (hb : SlD b) (hc : SlD c) (hz : zeroT P t = some (.agg #[.slice none 0 0, .slice none 0 0, .slice none 0 0])) (hu : P.underlying t = some (.struct fs))
    (hp : placesT P fs = some #[(0, 1), (1, 1), (2, 1)]) : opBuild P t [(0, .d a), (1, .d b), (2, .d c)] = some (.d (.agg [a, b, c])) := by
  have e1 : ((#[(0, 1), (1, 1), (2, 1)] : Array (Nat × Nat))[0]?) = some (0, 1) := rfl
  have e2 : ((#[(0, 1), (1, 1), (2, 1)] : Array (Nat × Nat))[1]?) = some (1, 1) := rfl
  have e3 : ((#[(0, 1), (1, 1), (2, 1)] : Array (Nat × Nat))[2]?) = some (2, 1) := rfl
  simp [opBuild, hz, hu, hp, fillP, ha.cells, hb.cells, hc.cells, splice, Value.cells, aggX, allD]
theorem K.build3 {t : TypeId} {x y z : Operand} {a b c : DV} {fs : Array Field} (hx : evK kn x = some (.d a)) (hy : evK kn y = some (.d b)) (hzz : evK kn z = some (.d c)) (ha : SlD a) (hb : SlD b) (hc : SlD c)
    (hz : zeroT P t = some (.agg #[.slice none 0 0, .slice none 0 0, .slice none 0 0])) (hu : P.underlying t = some (.struct fs)) (hp : (match P.underlying t with | some (.struct fs) => placesT P fs | _ => none) = some #[(0, 1), (1, 1), (2, 1)])
    (hnil : pureRun P (Instr.build t #[(0, .slice none 0 0), (1, .slice none 0 0), (2, .slice none 0 0)]) = some (.agg #[.slice none 0 0, .slice none 0 0, .slice none 0 0])) :
    KEv P ⟨dst, .build t #[(0, x), (1, y), (2, z)], ty, pos, af, g⟩ σ kn (.d (mk3 a b c)) σ 0 := by
  rw [hu] at hp
  have key := mk3_build ha hb hc hz hu hp
  have hm : (#[(0, x), (1, y), (2, z)] : Array (Nat × Operand)).toList.mapM (fun p => (evK kn p.2).map fun v => (p.1, v)) = some [(0, .d a), (1, .d b), (2, .d c)] := by
    simp [hx, hy, hzz]
  by_cases hall : isNilD a && isNilD b && isNilD c
  · cases ha <;> simp [isNilD] at hall
    cases hb <;> simp at hall
    cases hc <;> simp at hall
    exact K.buildL (us := [(0, .slice none 0 0), (1, .slice none 0 0), (2, .slice none 0 0)]) (by simp [hx, hy, hzz, litOf]) hnil
  · have e : mk3 a b c = .agg [a, b, c] := by unfold mk3; rw [if_neg hall]
    rw [e]
    by_cases h1 : isNilD a = true
    · by_cases h2 : isNilD b = true
      · have h3 : isNilD c = false := by simpa [h1, h2] using hall
        cases hc with
        | nil => cases h3
        | sl cs len cap => exact K.build (x := z) hm (by simp) hzz rfl key
      · cases hb with
        | nil => exact absurd rfl h2
        | sl cs len cap => exact K.build (x := y) hm (by simp) hy rfl key
    · cases ha with
      | nil => exact absurd rfl h1
      | sl cs len cap => exact K.build (x := x) hm (by simp) hx rfl key

/-- The object behind an own slice. -/
def idX : XV → Option Nat
  | .osl id _ _ _ _ _ => some id
  | _ => none
/-- A slice that is appended to, of variables of k cells. -/
inductive OwnK (k : Nat) (σ : List VObj) : XV → List XV → Prop
  | nil : OwnK k σ (.d Dnil) []
  | sl {id n : Nat} {cells : List XV} (h : σ[id]? = some ⟨cells, 0⟩) (hn : cells.length = n * k) : OwnK k σ (.osl id 0 n k n false) cells
theorem OwnK.cells {k : Nat} {x : XV} {cells : List XV} (h : OwnK k σ x cells) : cellsX x = [x] ∧ oneX x = true := by cases h <;> exact ⟨rfl, rfl⟩
theorem OwnK.keep {k : Nat} {σ' : List VObj} {x : XV} {cells : List XV} (h : OwnK k σ x cells) (hk : ∀ j, idX x = some j → σ'[j]? = σ[j]?) : OwnK k σ' x cells := by
  cases h with
  | nil => exact .nil
  | sl h hn => exact .sl (by rw [hk _ rfl]; exact h) hn
theorem OwnK.lt {k : Nat} {x : XV} {cells : List XV} (h : OwnK k σ x cells) {j : Nat} (hj : idX x = some j) : j < σ.length := by
  cases h with
  | nil => cases hj
  | sl h hn => cases hj; exact (List.getElem?_eq_some_iff.1 h).1
theorem OwnK.pushed {k : Nat} {x : XV} {cells : List XV} (h : OwnK k σ x cells) (o : VObj) : OwnK k (σ ++ [o]) x cells := by
  cases h with
  | nil => exact .nil
  | sl h hn => exact .sl (getElem?_pre _ _ _ _ h) hn

theorem zeroRow_len (z : Value) (n : Nat) : (zeroRow z n).length = n := by simp [zeroRow]

/-- A literal of one variable of k cells. -/
theorem K.buildK {t e : TypeId} {x : Operand} {k : Nat} {ds : List DV} {z : Value} (hx : evK kn x = some (.d (.agg ds))) (hk : ds.length = k) (ht : P.underlying t = some (.slice e)) (hs : sizeT P e = some k) (hz : zeroT P e = some z) (hk2 : k ≤ 16777216) :
    KEv P ⟨dst, .buildSlice t 1 #[(0, x)], ty, pos, af, g⟩ σ kn (.osl σ.length 0 1 k 1 true) (σ ++ [⟨ds.map .d, 0⟩]) 3 := ev_op fun env he => by
  have e1 := evK_evalX he hx
  unfold evalOp
  rw [litOp_buildSlice]
  have h3 : splice (zeroRow z k) 0 (ds.map XV.d) = ds.map XV.d := by
    simp [splice, zeroRow, hk]
  simp [e1, opBuildSlice, ht, hs, hz, fillX, cellsX, zeroRow_len, hk, h3, hk2]

section
variable {n : Nat} {ops : Array Oper} {l : List Oper} {R : List Nat → List VObj → Kn → Prop}
theorem KT.appK {t e : TypeId} {x y : Operand} {k : Nat} {sx : XV} {cells vs : List XV} {id : Nat} (hg : guardK ops kn ⟨dst, .call ⟨.builtin .append, #[x, y], #[t, t]⟩, ty, pos, af, g⟩ = some true) (hd : dstOk n dst = true)
    (hx : evK kn x = some sx) (hy : evK kn y = some (.osl id 0 1 k 1 true)) (hown : OwnK k σ sx cells) (hid : σ[id]? = some ⟨vs, 0⟩) (hvs : vs.length = k) (h1v : vs.all oneX = true) (hlen : cells.length < 1073741823)
    (ht : P.underlying t = some (.slice e)) (hs : sizeT P e = some k) (hb : bytesT P e ≤ 65536) (hz : (zeroT P e).map (·.cells.size) = some k) (hk : 0 < k)
    (h : ∀ σ' x', OwnK k σ' x' (cells ++ vs) → (∀ j, idX sx ≠ some j → j < σ.length → σ'[j]? = σ[j]?) → (∃ j, idX x' = some j ∧ σ.length ≤ j) → KT P n ops l σ' (extK dst x' kn) (fun fls τ k => R (2 :: fls) τ k)) :
    KT P n ops (⟨dst, .call ⟨.builtin .append, #[x, y], #[t, t]⟩, ty, pos, af, g⟩ :: l) σ kn R := by
  have hsrc : srcCells σ k (.osl id 0 1 k 1 true) = some (vs, 1, 1) := by
    simp [srcCells, hid, hvs]
    rw [List.take_of_length_le (by omega)]
  cases hown with
  | nil =>
    refine KT.step hg hd (x := .osl σ.length 0 1 k 1 false) (σ' := σ ++ [⟨vs, 0⟩]) (fl := 2) (ev_op fun env he => ?_) (h _ _ (.sl (by simp) (by simp [hvs])) (fun j _ hj => by rw [List.getElem?_append_left hj]) ⟨_, rfl, Nat.le_refl _⟩)
    have e1 := evK_evalX he hx
    have e2 := evK_evalX he hy
    unfold evalOp
    rw [litOp_none (x := y) (by simp [Op.operands, Call.operands]) (by rw [e2]; rfl)]
    simp [e1, e2, opAppend, ht, hs, hsrc, h1v, growTo, hb, hz]
  | @sl oid m cells ho hn =>
    have hm : m < 1073741823 := by
      have : m * 1 ≤ m * k := Nat.mul_le_mul_left _ hk
      omega
    refine KT.step hg hd (x := .osl σ.length 0 (m + 1) k (m + 1) false) (σ' := (σ.set oid ⟨cells, 2⟩) ++ [⟨cells ++ vs, 0⟩]) (fl := 2) (ev_op fun env he => ?_)
      (h _ _ (.sl (by rw [List.getElem?_append_right (by simp)]; simp) (by simp [hn, hvs, Nat.add_mul])) (fun j hj hlt => by
        rw [List.getElem?_append_left (by simpa using hlt), List.getElem?_set]
        rw [if_neg (fun e => hj (by rw [e]; rfl))]) ⟨_, rfl, Nat.le_refl _⟩)
    have e1 := evK_evalX he hx
    have e2 := evK_evalX he hy
    unfold evalOp
    rw [litOp_none (x := x) (by simp [Op.operands, Call.operands]) (by rw [e1]; rfl)]
    have h3 : m + 1 ≤ 1073741824 := by omega
    have h4 : ¬ m + 1 ≤ m := by omega
    simp [e1, e2, opAppend, ht, hs, hsrc, h1v, ho, hb, hz, h3, h4, hn]

theorem KT.storeG {x y : Operand} {t : TypeId} {id off : Nat} {cells : List XV} {v : XV} (hg : guardK ops kn ⟨dst, .store t x y, ty, pos, af, g⟩ = some true) (hd : dstOk n dst = true) (hx : evK kn x = some (.optr id off)) (hy : evK kn y = some v)
    (ho : σ[id]? = some ⟨cells, 0⟩) (hof : off < cells.length) (hc : cellsX v = [v]) (h1 : oneX v = true) (hs : sizeT P t = some 1)
    (h : ∀ σ', σ'.length = σ.length → σ'[id]? = some ⟨cells.set off v, 0⟩ → (∀ j, j ≠ id → σ'[j]? = σ[j]?) → KT P n ops l σ' (extK dst undefX kn) (fun fls τ k => R (2 :: fls) τ k)) :
    KT P n ops (⟨dst, .store t x y, ty, pos, af, g⟩ :: l) σ kn R := by
  refine KT.step hg hd (K.storeO hx hy ho hof hc h1 hs) (h _ (by simp) ?_ fun j hj => ?_)
  · rw [List.getElem?_set, if_pos rfl, if_pos (List.getElem?_eq_some_iff.1 ho).1]
  · rw [List.getElem?_set, if_neg (fun e => hj e.symm)]
end

theorem K.lenO {x : Operand} {t e : TypeId} {id off len k lo : Nat} {ex : Bool} (hx : evK kn x = some (.osl id off len k lo ex)) (ht : P.underlying t = some (.slice e)) :
    KEv P ⟨dst, .call ⟨.builtin .len, #[x], #[t]⟩, ty, pos, af, g⟩ σ kn (.d (DI len)) σ 0 := ev_op fun env he => by
  have e1 := evK_evalX he hx
  unfold evalOp
  rw [litOp_none (x := x) (by simp [Op.operands, Call.operands]) (by rw [e1]; rfl)]
  simp [e1, opLen, isSliceT, ht]
end

end Go.Vm

end
section
/-
  Whole numbers as digits to the base 2^32: the values of sums, differences, products.
-/
namespace Go.Big

abbrev B : Nat := 4294967296
def val : List Nat → Nat
  | [] => 0
  | d :: ds => d + B * val ds
def Dig (l : List Nat) : Prop := ∀ d ∈ l, d < B
/-- No zero at the end. -/
def Can (l : List Nat) : Prop := ∀ h : 0 < l.length, l[l.length - 1] ≠ 0

theorem val_append : ∀ (l r : List Nat), val (l ++ r) = val l + B ^ l.length * val r
  | [], r => by simp [val]
  | d :: l, r => by
    have := val_append l r
    simp only [List.cons_append, val, this, List.length_cons, Nat.pow_succ]
    grind
theorem val_lt : ∀ {l : List Nat}, Dig l → val l < B ^ l.length
  | [], _ => by simp [val]
  | d :: l, h => by
    have ih := val_lt (l := l) fun x hx => h x (by simp [hx])
    have h0 := h d (by simp)
    simp only [val, List.length_cons, Nat.pow_succ]
    have : B * val l + B ≤ B ^ l.length * B := by
      have : (val l + 1) * B ≤ B ^ l.length * B := Nat.mul_le_mul_right _ ih
      grind
    omega
theorem Dig.take {l : List Nat} (h : Dig l) (k : Nat) : Dig (l.take k) := fun d hd => h d (List.mem_of_mem_take hd)
theorem Dig.drop {l : List Nat} (h : Dig l) (k : Nat) : Dig (l.drop k) := fun d hd => h d (List.mem_of_mem_drop hd)
theorem pow_pos' (k : Nat) : 0 < B ^ k := Nat.pow_pos (by decide)
theorem val_split (l : List Nat) (i : Nat) (h : i < l.length) : val l = val (l.take i) + B ^ i * (l[i] + B * val (l.drop (i + 1))) := by
  have e : l = l.take i ++ (l[i] :: l.drop (i + 1)) := by rw [← List.drop_eq_getElem_cons h, List.take_append_drop]
  conv => lhs; rw [e]
  rw [val_append, List.length_take, Nat.min_eq_left (by omega)]
  rfl
theorem val_ge {l : List Nat} (h : Can l) (h0 : 0 < l.length) : B ^ (l.length - 1) ≤ val l := by
  rw [val_split l (l.length - 1) (by omega)]
  have := h h0
  have h1 : 1 ≤ l[l.length - 1] := by omega
  have : B ^ (l.length - 1) * 1 ≤ B ^ (l.length - 1) * (l[l.length - 1] + B * val (l.drop (l.length - 1 + 1))) := Nat.mul_le_mul_left _ (by omega)
  omega
theorem len_le {l : List Nat} (h : Can l) {k : Nat} (hk : val l < B ^ k) : l.length ≤ k := by
  rcases Nat.lt_or_ge k l.length with h1 | h1
  · have h2 := val_ge h (by omega)
    have h3 : B ^ k ≤ B ^ (l.length - 1) := Nat.pow_le_pow_right (by decide) (by omega)
    omega
  · exact h1
theorem len_eq {l r : List Nat} (hl : Can l) (hr : Can r) (dl : Dig l) (dr : Dig r) (h : val l = val r) : l.length = r.length := by
  have h1 := len_le hl (k := r.length) (by rw [h]; exact val_lt dr)
  have h2 := len_le hr (k := l.length) (by rw [← h]; exact val_lt dl)
  omega
theorem val_inj : ∀ {l r : List Nat}, l.length = r.length → Dig l → Dig r → val l = val r → l = r
  | [], [], _, _, _, _ => rfl
  | [], _ :: _, h, _, _, _ => by simp at h
  | _ :: _, [], h, _, _, _ => by simp at h
  | a :: l, b :: r, h, hl, hr, he => by
    have h1 := hl a (by simp)
    have h2 := hr b (by simp)
    simp only [val] at he
    have : a = b ∧ val l = val r := by simp only [B] at h1 h2 he; omega
    rw [this.1, val_inj (by simpa using h) (fun x hx => hl x (by simp [hx])) (fun x hx => hr x (by simp [hx])) this.2]
/-- Where the first digits from the top differ. -/
theorem val_cmp {a b : List Nat} (da : Dig a) (db : Dig b) (hl : a.length = b.length) {i : Nat} (hi : i < a.length) (hs : a.drop (i + 1) = b.drop (i + 1)) (hne : a[i] ≠ b[i]'(by omega)) : (val b < val a) ↔ b[i]'(by omega) < a[i] := by
  rw [val_split a i hi, val_split b i (by omega), hs]
  have h1 := val_lt (da.take i)
  have h2 := val_lt (db.take i)
  rw [List.length_take, Nat.min_eq_left (by omega)] at h1 h2
  generalize val (b.drop (i + 1)) = s
  generalize val (a.take i) = p at h1 ⊢
  generalize val (b.take i) = q at h2 ⊢
  generalize a[i] = x at hne ⊢
  generalize b[i]'(by omega) = y at hne ⊢
  have e1 : B ^ i * (x + B * s) = B ^ i * x + B ^ i * (B * s) := Nat.mul_add _ _ _
  have e2 : B ^ i * (y + B * s) = B ^ i * y + B ^ i * (B * s) := Nat.mul_add _ _ _
  rw [e1, e2]
  generalize B ^ i * (B * s) = t
  constructor
  · intro h
    rcases Nat.lt_or_ge y x with h3 | h3
    · exact h3
    · exfalso
      have h4 : x + 1 ≤ y := by omega
      have h5 : B ^ i * (x + 1) ≤ B ^ i * y := Nat.mul_le_mul_left _ h4
      rw [Nat.mul_add] at h5
      omega
  · intro h
    have h5 : B ^ i * (y + 1) ≤ B ^ i * x := Nat.mul_le_mul_left _ h
    rw [Nat.mul_add] at h5
    omega
/-- Zeros at the end do not count. -/
theorem val_trim {l : List Nat} {k : Nat} (hk : k ≤ l.length) (h : ∀ i (hi : i < l.length), k ≤ i → l[i] = 0) : val (l.take k) = val l := by
  have e : l = l.take k ++ l.drop k := (List.take_append_drop k l).symm
  have z : ∀ (r : List Nat), (∀ x ∈ r, x = 0) → val r = 0 := by
    intro r
    induction r with
    | nil => intro _; rfl
    | cons a r ih => intro hr; simp only [val]; rw [hr a (by simp), ih fun x hx => hr x (by simp [hx])]; rfl
  conv => rhs; rw [e]
  rw [val_append, z (l.drop k) (fun x hx => by
    obtain ⟨i, hi, rfl⟩ := List.getElem_of_mem hx
    rw [List.getElem_drop]
    rw [List.length_drop] at hi
    exact h (k + i) (by omega) (by omega))]
  simp

/-- The sum of a digit function. -/
def valF (o : Nat → Nat) : Nat → Nat
  | 0 => 0
  | n + 1 => valF o n + o n * B ^ n
theorem valF_congr {o p : Nat → Nat} : ∀ n, (∀ i, i < n → o i = p i) → valF o n = valF p n
  | 0, _ => rfl
  | n + 1, h => by simp only [valF]; rw [valF_congr n (fun i hi => h i (by omega)), h n (by omega)]
theorem valF_list (o : Nat → Nat) : ∀ n, val ((List.range n).map o) = valF o n
  | 0 => rfl
  | n + 1 => by rw [List.range_succ, List.map_append, val_append, valF_list o n]; simp [valF, val, Nat.mul_comm]
theorem valF_zero : ∀ n, valF (fun _ => 0) n = 0
  | 0 => rfl
  | n + 1 => by simp [valF, valF_zero n]
def upd (o : Nat → Nat) (j v : Nat) : Nat → Nat := fun k => if k = j then v else o k
theorem valF_upd (o : Nat → Nat) (j v : Nat) : ∀ n, j < n → valF (upd o j v) n + o j * B ^ j = valF o n + v * B ^ j
  | 0, h => by omega
  | n + 1, h => by
    simp only [valF]
    by_cases e : j = n
    · subst e
      have : valF (upd o j v) j = valF o j := valF_congr j fun i hi => by simp [upd, show i ≠ j by omega]
      rw [this]; simp only [upd, if_pos]; omega
    · have ih := valF_upd o j v n (by omega)
      have : upd o j v n = o n := by simp [upd, show n ≠ j by omega]
      rw [this]; omega
theorem val_valF (l : List Nat) : valF (fun i => l.getD i 0) l.length = val l := by
  rw [← valF_list]
  congr 1
  refine List.ext_getElem? fun i => ?_
  by_cases hi : i < l.length
  · simp [hi]
  · rw [List.getElem?_eq_none (by simp; omega), List.getElem?_eq_none (by omega)]
theorem valF_more (l : List Nat) : ∀ n, l.length ≤ n → valF (fun i => l.getD i 0) n = val l
  | n, h => by
    obtain ⟨k, rfl⟩ := Nat.exists_eq_add_of_le h
    clear h
    induction k with
    | zero => exact val_valF l
    | succ k ih =>
      rw [← Nat.add_assoc]
      simp only [valF]
      rw [ih]; simp [show ¬ l.length + k < l.length by omega]

/-- The carry of a sum, and its digits. -/
def car (a b : List Nat) : Nat → Nat
  | 0 => 0
  | i + 1 => (car a b i + a.getD i 0 + b.getD i 0) / B
def sumDig (a b : List Nat) (i : Nat) : Nat := (car a b i + a.getD i 0 + b.getD i 0) % B
theorem getD_lt {l : List Nat} (h : Dig l) (i : Nat) : l.getD i 0 < B := by
  by_cases hi : i < l.length
  · rw [show l.getD i 0 = l[i] by simp [hi]]; exact h _ (List.getElem_mem hi)
  · simp [hi]
theorem car_le {a b : List Nat} (da : Dig a) (db : Dig b) : ∀ i, car a b i ≤ 1
  | 0 => by simp [car]
  | i + 1 => by
    have := car_le da db i
    have h1 := getD_lt da i
    have h2 := getD_lt db i
    simp only [car, B] at h1 h2 ⊢
    omega
theorem sum_val (a b : List Nat) : ∀ n, valF (sumDig a b) n + car a b n * B ^ n = valF (fun i => a.getD i 0) n + valF (fun i => b.getD i 0) n
  | 0 => by simp [valF, car]
  | n + 1 => by
    have ih := sum_val a b n
    simp only [valF, car]
    have e : sumDig a b n + B * ((car a b n + a.getD n 0 + b.getD n 0) / B) = car a b n + a.getD n 0 + b.getD n 0 := Nat.mod_add_div _ _
    generalize sumDig a b n = d at e ⊢
    generalize (car a b n + a.getD n 0 + b.getD n 0) / B = c at e ⊢
    have e2 : d * B ^ n + c * B ^ (n + 1) = (car a b n + a.getD n 0 + b.getD n 0) * B ^ n := by rw [← e, Nat.pow_succ]; grind
    have e3 : (car a b n + a.getD n 0 + b.getD n 0) * B ^ n = car a b n * B ^ n + a.getD n 0 * B ^ n + b.getD n 0 * B ^ n := by grind
    omega

/-- The borrow of a difference, and its digits. -/
def bor (a b : List Nat) : Nat → Nat
  | 0 => 0
  | i + 1 => ((a.getD i 0 + (2 ^ 64 - bor a b i) + (2 ^ 64 - b.getD i 0)) % 2 ^ 64) / 2 ^ 63
def minDig (a b : List Nat) (i : Nat) : Nat := ((a.getD i 0 + (2 ^ 64 - bor a b i) + (2 ^ 64 - b.getD i 0)) % 2 ^ 64) % B
theorem bor_le {a b : List Nat} (_ : Dig a) (_ : Dig b) : ∀ i, bor a b i ≤ 1
  | 0 => by simp [bor]
  | i + 1 => by simp only [bor]; omega
theorem minus_val {a b : List Nat} (da : Dig a) (db : Dig b) : ∀ n, valF (minDig a b) n + valF (fun i => b.getD i 0) n = valF (fun i => a.getD i 0) n + bor a b n * B ^ n
  | 0 => by simp [valF, bor]
  | n + 1 => by
    have ih := minus_val da db n
    have h1 := getD_lt da n
    have h2 := getD_lt db n
    have h3 := bor_le da db n
    simp only [valF]
    have e : minDig a b n + b.getD n 0 + bor a b n = a.getD n 0 + B * bor a b (n + 1) := by
      simp only [minDig, bor]
      generalize bor a b n = r at h3 ⊢
      generalize a.getD n 0 = x at h1 ⊢
      generalize b.getD n 0 = y at h2 ⊢
      simp only [B] at h1 h2 ⊢
      omega
    generalize minDig a b n = d at e ⊢
    generalize bor a b (n + 1) = c at e ⊢
    have e2 : (d + b.getD n 0 + bor a b n) * B ^ n = (a.getD n 0 + B * c) * B ^ n := by rw [e]
    have e3 : (d + b.getD n 0 + bor a b n) * B ^ n = d * B ^ n + b.getD n 0 * B ^ n + bor a b n * B ^ n := by grind
    have e4 : (a.getD n 0 + B * c) * B ^ n = a.getD n 0 * B ^ n + c * B ^ (n + 1) := by rw [Nat.pow_succ]; grind
    omega
theorem minus_full {a b : List Nat} (da : Dig a) (db : Dig b) (hl : b.length ≤ a.length) (hv : val b ≤ val a) : valF (minDig a b) a.length = val a - val b := by
  have h := minus_val da db a.length
  rw [val_valF, valF_more b a.length hl] at h
  have h1 := bor_le da db a.length
  have h2 : valF (minDig a b) a.length < B ^ a.length := by
    rw [← valF_list]
    have := val_lt (l := (List.range a.length).map (minDig a b)) fun d hd => by
      obtain ⟨i, _, rfl⟩ := List.mem_map.1 hd
      exact Nat.mod_lt _ (by decide)
    simpa using this
  rcases Nat.lt_or_ge 0 (bor a b a.length) with h3 | h3
  · have : bor a b a.length = 1 := by omega
    rw [this] at h; omega
  · have : bor a b a.length = 0 := by omega
    rw [this] at h; omega

/-- A row of a product. -/
def inn (x : Nat) (b : List Nat) (i : Nat) : Nat → Nat × (Nat → Nat) → Nat × (Nat → Nat)
  | 0, s => s
  | k + 1, s => let r := inn x b i k s; let t := r.1 + (r.2 (i + k) + x * b.getD k 0); (t / B, upd r.2 (i + k) (t % B))
def rowT (x : Nat) (b : List Nat) (i : Nat) (o : Nat → Nat) : Nat → Nat := upd (inn x b i b.length (0, o)).2 (i + b.length) (inn x b i b.length (0, o)).1
def outT (a b : List Nat) : Nat → (Nat → Nat)
  | 0 => fun _ => 0
  | i + 1 => rowT (a.getD i 0) b i (outT a b i)
theorem inn_facts {x : Nat} {b : List Nat} {i : Nat} {o : Nat → Nat} (hx : x < B) (db : Dig b) (ho : ∀ j, o j < B) : ∀ k, (inn x b i k (0, o)).1 < B ∧ (∀ j, (inn x b i k (0, o)).2 j < B) ∧ (∀ j, i + k ≤ j → (inn x b i k (0, o)).2 j = o j) ∧
    ∀ n, i + k ≤ n → valF (inn x b i k (0, o)).2 n + (inn x b i k (0, o)).1 * B ^ (i + k) = valF o n + x * valF (fun q => b.getD q 0) k * B ^ i
  | 0 => by simp [inn, valF, ho]
  | k + 1 => by
    obtain ⟨h1, h2, h3, h4⟩ := inn_facts hx db ho k
    simp only [inn]
    generalize hr : inn x b i k (0, o) = r at h1 h2 h3 h4
    have hb := getD_lt db k
    have ho' := h2 (i + k)
    have hxy : x * b.getD k 0 ≤ (B - 1) * (B - 1) := Nat.mul_le_mul (by omega) (by omega)
    generalize ht : r.1 + (r.2 (i + k) + x * b.getD k 0) = t
    have htB : t / B < B := by
      rw [Nat.div_lt_iff_lt_mul (by decide)]
      have : B * B = (B - 1) * (B - 1) + (B - 1) + (B - 1) + 1 := by decide
      omega
    refine ⟨htB, fun j => ?_, fun j hj => ?_, fun n hn => ?_⟩
    · simp only [upd]; split
      · exact Nat.mod_lt _ (by decide)
      · exact h2 j
    · simp only [upd]; rw [if_neg (by omega)]; exact h3 j (by omega)
    · have e1 := valF_upd r.2 (i + k) (t % B) n (by omega)
      have e2 := h4 n (by omega)
      have e3 : t % B + B * (t / B) = t := Nat.mod_add_div _ _
      simp only [valF]
      generalize t % B = d at e1 e3 ⊢
      generalize t / B = c at e3 ⊢
      have e4 : d * B ^ (i + k) + c * B ^ (i + (k + 1)) = r.1 * B ^ (i + k) + r.2 (i + k) * B ^ (i + k) + x * b.getD k 0 * B ^ (i + k) := by
        rw [← Nat.add_assoc i k 1, Nat.pow_succ]
        have : (d + B * c) * B ^ (i + k) = (r.1 + (r.2 (i + k) + x * b.getD k 0)) * B ^ (i + k) := by rw [e3, ht]
        grind
      have e5 : x * (valF (fun q => b.getD q 0) k + b.getD k 0 * B ^ k) * B ^ i = x * valF (fun q => b.getD q 0) k * B ^ i + x * b.getD k 0 * B ^ (i + k) := by
        rw [Nat.pow_add]; grind
      omega
theorem outT_facts {a b : List Nat} (da : Dig a) (db : Dig b) : ∀ i, (∀ j, outT a b i j < B) ∧ (∀ j, i + b.length ≤ j → outT a b i j = 0) ∧ ∀ n, i + b.length ≤ n → valF (outT a b i) n = valF (fun q => a.getD q 0) i * val b
  | 0 => by
    refine ⟨fun j => by simp [outT], fun j _ => rfl, fun n _ => ?_⟩
    simp only [outT, valF]
    rw [valF_zero]; simp
  | i + 1 => by
    obtain ⟨h1, h2, h3⟩ := outT_facts da db i
    obtain ⟨k1, k2, k3, k4⟩ := inn_facts (x := a.getD i 0) (i := i) (getD_lt da i) db h1 b.length
    simp only [outT, rowT]
    refine ⟨fun j => ?_, fun j hj => ?_, fun n hn => ?_⟩
    · simp only [upd]; split
      · exact k1
      · exact k2 j
    · simp only [upd]; rw [if_neg (by omega), k3 j (by omega)]; exact h2 j (by omega)
    · have e1 := valF_upd (inn (a.getD i 0) b i b.length (0, outT a b i)).2 (i + b.length) (inn (a.getD i 0) b i b.length (0, outT a b i)).1 n (by omega)
      have e2 := k4 n (by omega)
      rw [k3 _ (Nat.le_refl _), h2 _ (Nat.le_refl _)] at e1
      rw [val_valF, h3 n (by omega)] at e2
      simp only [valF]
      have e3 : (valF (fun q => a.getD q 0) i + a.getD i 0 * B ^ i) * val b = valF (fun q => a.getD q 0) i * val b + a.getD i 0 * val b * B ^ i := by grind
      omega
theorem times_full {a b : List Nat} (da : Dig a) (db : Dig b) : valF (outT a b a.length) (a.length + b.length) = val a * val b := by
  rw [(outT_facts da db a.length).2.2 _ (Nat.le_refl _), val_valF]

end Go.Big

end
section
/-
  Big numbers as deep values; rules for words of 32 bits, for parts of slices and for appends of slices.
-/
namespace Go.Vm
open Go.RowKit Go.Big

abbrev U32 (n : Nat) : DV := .lit (.int .u32 n)
abbrev IsU (c : DV) (n : Nat) : Prop := c = U32 n
abbrev Mag : DV → List Nat → Prop := Vec IsU

theorem wrapU32 (n : Nat) : IntKind.u32.wrap (n : Int) = ((n % B : Nat) : Int) := by
  simp [IntKind.wrap, IntKind.bits, IntKind.signed, B]
theorem wide32 {n : Nat} (h : n < B) : IntKind.u64.wrap (n : Int) = (n : Int) := by
  rw [wrapU, Nat.mod_eq_of_lt (Nat.lt_trans h (by decide))]
theorem wide64 {n : Nat} (h : n < 2 ^ 64) : IntKind.u64.wrap (n : Int) = (n : Int) := by
  rw [wrapU, Nat.mod_eq_of_lt h]

theorem takeV_all {α : Type} {R : DV → α → Prop} {d : DV} {l : List α} (h : Vec R d l) : takeV l.length d = d := by
  cases h with
  | nil => rfl
  | @sl cs _ cap hn h =>
    have e : cs.take l.length = cs := List.take_of_length_le (by omega)
    cases cap <;> simp [takeV, e]
theorem takeV_takeV {m n : Nat} (h : m ≤ n) (d : DV) : takeV m (takeV n d) = takeV m d := by
  cases d with
  | sl cs len cap => cases cap <;> simp [takeV, List.take_take, Nat.min_eq_left h]
  | _ => rfl

/-- d stands for a big number of this sign and these digits. -/
inductive BigV : DV → Bool → List Nat → Prop
  | mk {m : DV} {neg : Bool} {l : List Nat} (hm : Mag m l) (hd : Dig l) (hc : Big.Can l) : BigV (.agg [DB neg, m]) neg l
def sgnV (neg : Bool) (l : List Nat) : Int := if neg then -(val l : Int) else (val l : Int)
/-- d stands for this whole number. -/
def BigZ (d : DV) (z : Int) : Prop := ∃ neg l, BigV d neg l ∧ sgnV neg l = z
theorem BigV.len {d : DV} {neg : Bool} {l : List Nat} (h : BigV d neg l) {k : Nat} (hk : (sgnV neg l).natAbs < B ^ k) : l.length ≤ k := by
  cases h with
  | mk hm hd hc =>
    refine len_le hc ?_
    unfold sgnV at hk
    split at hk <;> omega
theorem can_trim {l : List Nat} {k : Nat} (hk : k ≤ l.length) (h : 0 < k → ∀ h2 : k - 1 < l.length, l[k - 1] ≠ 0) : Big.Can (l.take k) := fun h0 => by
  have e : (l.take k).length = k := by simp; omega
  rw [e] at h0
  have : (l.take k)[(l.take k).length - 1]'(by omega) = l[k - 1]'(by omega) := by
    rw [List.getElem_take]; congr 1; omega
  rw [this]
  exact h h0 (by omega)

/-- One's own slice up to its end; ex: its capacity is known. -/
inductive OwnE (σ : List VObj) : Bool → XV → List XV → Prop
  | sl {id n : Nat} {cells : List XV} {ex : Bool} (h : σ[id]? = some ⟨cells, 0⟩) (hn : cells.length = n) : OwnE σ ex (.osl id 0 n 1 n ex) cells
theorem OwnE.keep {σ σ' : List VObj} {ex : Bool} {x : XV} {cells : List XV} (h : OwnE σ ex x cells) (hk : ∀ j, idX x = some j → σ'[j]? = σ[j]?) : OwnE σ' ex x cells := by
  cases h with
  | sl h hn => exact .sl (by rw [hk _ rfl]; exact h) hn
theorem OwnE.lt {σ : List VObj} {ex : Bool} {x : XV} {cells : List XV} (h : OwnE σ ex x cells) {j : Nat} (hj : idX x = some j) : j < σ.length := by
  cases h with
  | sl h hn => cases hj; exact (List.getElem?_eq_some_iff.1 h).1

section
variable {P : Program} {n : Nat} {ops : Array Oper} {l : List Oper} {σ : List VObj} {kn : Kn} {dst : Option Tmp} {ty : TypeId} {pos : String} {af : Array Edge} {g : Option (Nat × Bool)} {R : List Nat → List VObj → Kn → Prop}
theorem KT.appD {t e : TypeId} {x y : Operand} {sx : XV} {d : DV} {xs : List Int} {cells : List XV} {ex : Bool} {z : Value} (hg : guardK ops kn ⟨dst, .call ⟨.builtin .append, #[x, y], #[t, t]⟩, ty, pos, af, g⟩ = some true) (hd : dstOk n dst = true)
    (hx : evK kn x = some sx) (hy : evK kn y = some (.d d)) (hv : Ints d xs) (hown : OwnE σ ex sx cells) (hlen : cells.length + xs.length ≤ 1073741824)
    (ht : P.underlying t = some (.slice e)) (h1 : OneT P e z)
    (h : ∀ σ' x', OwnE σ' (if xs = [] then ex else false) x' (cells ++ xs.map fun v => .d (DI v)) → (∀ j, idX sx ≠ some j → j < σ.length → σ'[j]? = σ[j]?) → (idX x' = idX sx ∨ ∃ j, idX x' = some j ∧ σ.length ≤ j) → KT P n ops l σ' (extK dst x' kn) (fun fls τ k => R (2 :: fls) τ k)) :
    KT P n ops (⟨dst, .call ⟨.builtin .append, #[x, y], #[t, t]⟩, ty, pos, af, g⟩ :: l) σ kn R := by
  obtain ⟨fl, hsrc⟩ := srcCells_ints (σ := σ) hv
  have hz : (zeroT P e).map (·.cells.size) = some 1 := by rw [h1.zero]; simp [h1.cells]
  cases hown with
  | @sl id m cells ex ho hn =>
  by_cases h0 : xs = []
  · subst h0
    refine KT.step hg hd (x := .osl id 0 m 1 m ex) (σ' := σ) (fl := 2) (ev_op fun env he => ?_) (h _ _ (by simpa using OwnE.sl ho hn) (fun _ _ _ => rfl) (.inl rfl))
    have e1 := evK_evalX he hx
    have e2 := evK_evalX he hy
    unfold evalOp
    rw [litOp_none (x := x) (by simp [Op.operands, Call.operands]) (by rw [e1]; rfl)]
    simp [e1, e2, opAppend, ht, h1.size, hsrc]
  · have hpos : 0 < xs.length := List.length_pos_iff.2 h0
    have ha := all_oneX xs
    have hm2 : m + xs.length ≤ 1073741824 := by omega
    have hno : ¬ m + xs.length ≤ m := by omega
    cases ex with
    | true =>
      refine KT.step hg hd (x := .osl σ.length 0 (m + xs.length) 1 (m + xs.length) false) (σ' := σ ++ [⟨cells ++ xs.map fun v => .d (DI v), 0⟩]) (fl := 2) (ev_op fun env he => ?_)
        (h _ _ (by rw [if_neg h0]; exact .sl (by simp) (by simp [hn])) (fun j _ hj => by rw [List.getElem?_append_left hj]) (.inr ⟨_, rfl, Nat.le_refl _⟩))
      have e1 := evK_evalX he hx
      have e2 := evK_evalX he hy
      unfold evalOp
      rw [litOp_none (x := x) (by simp [Op.operands, Call.operands]) (by rw [e1]; rfl)]
      have e3 : (cells.drop 0).take m = cells := by rw [List.drop_zero, List.take_of_length_le (by omega)]
      simp [e1, e2, opAppend, ht, h1.size, hsrc, ha, ho, growTo, h1.bytes, hz, hm2, hno, hn, h0]
      exact List.take_of_length_le (by omega)
    | false =>
      refine KT.step hg hd (x := .osl σ.length 0 (m + xs.length) 1 (m + xs.length) false) (σ' := (σ.set id ⟨cells, 2⟩) ++ [⟨cells ++ xs.map fun v => .d (DI v), 0⟩]) (fl := 2) (ev_op fun env he => ?_)
        (h _ _ (by rw [if_neg h0]; exact .sl (by rw [List.getElem?_append_right (by simp)]; simp) (by simp [hn])) (fun j hj hlt => by
          rw [List.getElem?_append_left (by simpa using hlt), List.getElem?_set]
          rw [if_neg (fun e => hj (by rw [e]; rfl))]) (.inr ⟨_, rfl, Nat.le_refl _⟩))
      have e1 := evK_evalX he hx
      have e2 := evK_evalX he hy
      unfold evalOp
      rw [litOp_none (x := x) (by simp [Op.operands, Call.operands]) (by rw [e1]; rfl)]
      simp [e1, e2, opAppend, ht, h1.size, hsrc, ha, ho, h1.bytes, hz, hm2, hno, hn, h0]
end
end Go.Vm

end
section
/-
  VALUES WITHOUT ADDRESSES, 25: the end of a slice; own slices that are only read from here on; stores told by what is there afterwards; sequences of results.
-/
namespace Go.Vm
open Go.RowKit

section
variable {P : Program} {M : Nat → Prop} {W0 : World} {n : Nat} {ops : Array Oper} {l : List Oper} {σ : List VObj} {kn : Kn} {dst : Option Tmp} {ty : TypeId} {pos : String} {af : Array Edge} {g : Option (Nat × Bool)} {R : List Nat → List VObj → Kn → Prop}

/-- From here on some objects are only read: what stands for a part of them is a deep value. -/
theorem KC.ghost {c : Code} {T : Exit → List VObj → Kn → Prop} (ids : List Nat) (m : Nat) {t : Nat} {x : XV} {d : DV} (hl : look kn t = some x) (hd : deepen (freezeIds σ ids) m x = some d)
    (h : KC P M W0 n c (freezeIds σ ids) (extK (some t) (.d d) kn) T) : KC P M W0 n c σ kn T := by
  intro env he C ι a w hF Q hQ
  obtain ⟨f1, f2⟩ := freezeIds_tamed hF.mem ids
  refine h (putE env (some t) (.d d)) (he.ext (some t) (.d d)) C ι a w ⟨f1, fun s => ?_, hF.size, hF.defers.ext f2, hF.round⟩ Q fun e ι' s' a' w' hT hFr hE => hQ e ι' s' a' w' hT hFr (f2.trans hE)
  have hs := (hF.env s).ext f2
  simp only [putE, upd]
  split
  · rename_i e
    subst e
    have he' : env s = x := he s x hl
    simp only [he'] at hs
    exact .d (deepen_sound f1 m _ x d hs hd)
  · exact hs

def dropV (m : Nat) (d : DV) : DV :=
  match d with
  | .sl cs len cap => .sl ((cs.drop m).take (len - m)) (len - m) (cap.map (· - m))
  | x => x
theorem dropV_vec {α : Type} {Q : DV → α → Prop} {d : DV} {xs : List α} (h : Vec Q d xs) {m : Nat} (hm : m ≤ xs.length) : Vec Q (dropV m d) (xs.drop m) := by
  cases h with
  | nil => simp; exact .nil
  | @sl cs _ cap hn h =>
    have hlen : (xs.drop m).length = xs.length - m := by simp
    have e : (cs.drop m).take (xs.length - m) = cs.drop m := List.take_of_length_le (by simp; omega)
    have : Vec Q (.sl ((cs.drop m).take (xs.length - m)) (xs.drop m).length (cap.map (· - m))) (xs.drop m) := .sl (by rw [e]; simp [hn]) fun i c x hc hx => by
      rw [e, List.getElem?_drop] at hc
      rw [List.getElem?_drop] at hx
      exact h _ c x hc hx
    rw [hlen] at this
    exact this
theorem K.dropV {α : Type} {Q : DV → α → Prop} {x h : Operand} {t e : TypeId} {d : DV} {xs : List α} {m : Nat} (hx : evK kn x = some (.d d)) (hv : Vec Q d xs) (hh : evK kn h = some (.d (DI (m : Int)))) (hm : m ≤ xs.length) (h0 : 0 < xs.length)
    (ht : P.underlying t = some (.slice e)) (hs : sizeT P e = some 1) : KEv P ⟨dst, .slice t x (some h) none none, ty, pos, af, g⟩ σ kn (.d (dropV m d)) σ 0 := by
  cases hv with
  | nil => simp at h0
  | @sl cs _ cap hn hq =>
    refine ev_op fun env he => ?_
    have e1 := evK_evalX he hx
    have e2 := evK_evalX he hh
    unfold evalOp
    rw [litOp_none (x := x) (by simp [Op.operands]) (by rw [e1]; rfl)]
    have h3 : xs.length ≤ cs.length := by omega
    simp [e1, e2, opSlice, litOf, ht, hs, boundOf, hm, h3, Go.Vm.dropV]

/-- A store of so many cells, told by what is there afterwards. -/
theorem KT.storeH {x y : Operand} {t : TypeId} {id off : Nat} {cells : List XV} {v : XV} {cs : List XV} (hg : guardK ops kn ⟨dst, .store t x y, ty, pos, af, g⟩ = some true) (hd : dstOk n dst = true) (hx : evK kn x = some (.optr id off)) (hy : evK kn y = some v)
    (ho : σ[id]? = some ⟨cells, 0⟩) (hc : cellsX v = cs) (hof : off + cs.length ≤ cells.length) (h1 : cs.all oneX = true) (hs : sizeT P t = some cs.length)
    (h : ∀ σ', σ'.length = σ.length → σ'[id]? = some ⟨splice cells off cs, 0⟩ → (∀ j, j ≠ id → σ'[j]? = σ[j]?) → KT P n ops l σ' (extK dst undefX kn) (fun fls τ k => R (2 :: fls) τ k)) :
    KT P n ops (⟨dst, .store t x y, ty, pos, af, g⟩ :: l) σ kn R := by
  subst hc
  refine KT.step hg hd (K.storeN hx hy ho hof h1 hs) (h _ (by simp) ?_ fun j hj => ?_)
  · rw [List.getElem?_set, if_pos rfl, if_pos (List.getElem?_eq_some_iff.1 ho).1]
  · rw [List.getElem?_set, if_neg (fun e => hj e.symm)]
end

/-- A sequence of results, each of which comes of the one before. -/
theorem seq_ex {S : Nat → DV → DV → Prop} {I : Nat → DV → Prop} (L : Nat) (d0 : DV) (h0 : I 0 d0) (hs : ∀ q d, q < L → I q d → ∃ d', S q d d' ∧ I (q + 1) d') :
    ∃ f : Nat → DV, f 0 = d0 ∧ (∀ q, q < L → S q (f q) (f (q + 1))) ∧ ∀ q, q ≤ L → I q (f q) := by
  have key : ∀ k, k ≤ L → ∃ f : Nat → DV, f 0 = d0 ∧ (∀ q, q < k → S q (f q) (f (q + 1))) ∧ ∀ q, q ≤ k → I q (f q) := by
    intro k
    induction k with
    | zero =>
      intro _
      refine ⟨fun _ => d0, rfl, fun q h => by omega, fun q h => ?_⟩
      obtain rfl : q = 0 := by omega
      exact h0
    | succ k ih =>
      intro hk
      obtain ⟨f, f0, f1, f2⟩ := ih (by omega)
      obtain ⟨d', s1, s2⟩ := hs k (f k) (by omega) (f2 k (Nat.le_refl _))
      refine ⟨fun q => if q ≤ k then f q else d', by simp [f0], fun q hq => ?_, fun q hq => ?_⟩
      · by_cases e : q = k
        · subst e
          simp only [Nat.le_refl, if_true, show ¬ q + 1 ≤ q by omega, if_false]
          exact s1
        · simp only [show q ≤ k by omega, show q + 1 ≤ k by omega, if_true]; exact f1 q (by omega)
      · by_cases e : q ≤ k
        · simp only [e, if_true]; exact f2 q e
        · obtain rfl : q = k + 1 := by omega
          simp only [e, if_false]; exact s2
  exact key L (Nat.le_refl _)
end Go.Vm

end
section
/-
  VALUES WITHOUT ADDRESSES, 26: lists of cells that are filled one after another; slice literals of two; own rows.
-/
namespace Go.Vm
open Go.RowKit

def updL (R : Nat) (f : Nat → XV) (z : XV) (i : Nat) : List XV := (List.range R).map fun k => if k < i then f k else z
section
variable {R : Nat} {f : Nat → XV} {z : XV} {i : Nat}
theorem updL_len : (updL R f z i).length = R := by simp [updL]
theorem updL_zero : List.replicate R z = updL R f z 0 := by
  refine List.ext_getElem? fun i => ?_
  by_cases hi : i < R
  · simp [updL, hi]
  · rw [List.getElem?_eq_none (by simp; omega), List.getElem?_eq_none (by simp [updL]; omega)]
theorem updL_set (hi : i < R) : (updL R f z i).set i (f i) = updL R f z (i + 1) := by
  refine List.ext_getElem? fun k => ?_
  rw [List.getElem?_set]
  by_cases hk : k < R
  · by_cases e : i = k
    · subst e; simp [updL, hi]
    · rw [if_neg e]
      simp only [updL, List.getElem?_map, List.getElem?_range hk, Option.map_some, Option.some.injEq]
      by_cases h : k < i
      · rw [if_pos h, if_pos (by omega)]
      · rw [if_neg h, if_neg (by omega)]
  · rw [if_neg (by omega), List.getElem?_eq_none (by simp [updL]; omega), List.getElem?_eq_none (by simp [updL]; omega)]
theorem updL_full (hi : R ≤ i) : updL R f z i = (List.range R).map f := by
  refine List.ext_getElem? fun k => ?_
  by_cases hk : k < R
  · simp [updL, hk, show k < i by omega]
  · rw [List.getElem?_eq_none (by simp [updL]; omega), List.getElem?_eq_none (by simp; omega)]
theorem updL_get {k : Nat} (hk : k < R) (h : k < i) : (updL R f z i)[k]? = some (f k) := by simp [updL, hk, h]
end

section
variable {P : Program} {n : Nat} {ops : Array Oper} {l : List Oper} {σ : List VObj} {kn : Kn} {dst : Option Tmp} {ty : TypeId} {pos : String} {af : Array Edge} {g : Option (Nat × Bool)}
theorem K.build2s {t e : TypeId} {x y : Operand} {a b : XV} {z : Value} (hx : evK kn x = some a) (hy : evK kn y = some b) (ha : cellsX a = [a]) (hb : cellsX b = [b]) (ht : P.underlying t = some (.slice e)) (h1 : OneT P e z) :
    KEv P ⟨dst, .buildSlice t 2 #[(0, x), (1, y)], ty, pos, af, g⟩ σ kn (.osl σ.length 0 2 1 2 true) (σ ++ [⟨[a, b], 0⟩]) 3 := ev_op fun env he => by
  have e1 := evK_evalX he hx
  have e2 := evK_evalX he hy
  unfold evalOp
  rw [litOp_buildSlice]
  obtain ⟨p, q, hz⟩ : ∃ p q, zeroRow z 2 = [p, q] := ⟨_, _, by rw [zeroRow_one h1.cells]; rfl⟩
  simp [e1, e2, opBuildSlice, ht, h1.size, h1.zero, fillX, ha, hb, hz, splice]
/-- A list of cells that is read from here on. -/
theorem deepen_cells {σ : List VObj} {id R : Nat} {cells : List XV} {ds : List DV} {ex : Bool} {k : Nat} (h : σ[id]? = some ⟨cells, 1⟩) (hc : cells = ds.map XV.d) (hn : ds.length = R) :
    deepen σ (k + 2) (.osl id 0 R 1 R ex) = some (.sl ds R (if ex then some R else none)) := by
  subst hc hn
  rw [deepen_osl (ob := ⟨ds.map XV.d, 1⟩) h rfl (by simp), List.drop_zero, List.take_of_length_le (by simp), mapM_deep]
  rfl
end

/-! A matrix that is made row by row. -/
section
variable (R N : Nat) (f : Nat → Nat → Int)
def oslF (k : Nat) : XV := .osl (k + 1) 0 N 1 N true
def rowF (i : Nat) (j : Nat) : XV := .d (DI (f i j))
def rowC (i j : Nat) : List XV := updL N (rowF f i) (.d (.lit (.int .i64 0))) j
def doneG (i : Nat) : List VObj := (List.range i).map fun k => ⟨rowC N f k N, 0⟩
def sgP (i : Nat) : List VObj := ⟨updL R (oslF N) (.d Dnil) i, 0⟩ :: doneG N f i
def sgQ (i j : Nat) : List VObj := ⟨updL R (oslF N) (.d Dnil) (i + 1), 0⟩ :: (doneG N f i ++ [⟨rowC N f i j, 0⟩])
def rowG (g : Nat → Int) : DV := .sl ((List.range N).map fun j => DI (g j)) N (some N)
def genD : DV := .sl ((List.range R).map fun k => rowG N (f k)) R (some R)
def genM : List (List Int) := (List.range R).map fun k => (List.range N).map (f k)
end
section
variable {R N : Nat} {f : Nat → Nat → Int}
theorem doneG_len (i : Nat) : (doneG N f i).length = i := by simp [doneG]
theorem doneG_succ (i : Nat) : doneG N f (i + 1) = doneG N f i ++ [⟨rowC N f i N, 0⟩] := by simp [doneG, List.range_succ]
theorem sgP_zero : sgP R N f 0 = [⟨List.replicate R (.d Dnil), 0⟩] := by rw [updL_zero (f := oslF N)]; rfl
theorem sgP_len (i : Nat) : (sgP R N f i).length = i + 1 := by simp [sgP, doneG_len]
theorem rowC_len (i j : Nat) : (rowC N f i j).length = N := updL_len
theorem sgP_start {i : Nat} (hi : i < R) : (sgP R N f i ++ [(⟨List.replicate N (XV.d (.lit (.int .i64 0))), 0⟩ : VObj)]).set 0 ⟨(updL R (oslF N) (.d Dnil) i).set (0 + i) (.osl (sgP R N f i).length 0 N 1 N true), 0⟩ = sgQ R N f i 0 := by
  rw [sgP_len, Nat.zero_add, show XV.osl (i + 1) 0 N 1 N true = oslF N i from rfl, updL_set hi, updL_zero (f := rowF f i)]
  rfl
theorem sgQ_row (i j : Nat) : (sgQ R N f i j)[i + 1]? = some ⟨rowC N f i j, 0⟩ := by
  simp only [sgQ, List.getElem?_cons_succ]
  rw [List.getElem?_append_right (by rw [doneG_len]; omega), doneG_len]; simp
theorem sgQ_step {i j : Nat} (hj : j < N) {v : Int} (hv : v = f i j) : (sgQ R N f i j).set (i + 1) ⟨(rowC N f i j).set (0 + j) (.d (DI v)), 0⟩ = sgQ R N f i (j + 1) := by
  subst hv
  rw [Nat.zero_add, show rowC N f i j = updL N (rowF f i) _ j from rfl, show XV.d (DI (f i j)) = rowF f i j from rfl, updL_set hj]
  simp only [sgQ, List.set_cons_succ]
  rw [List.set_append_right _ _ (by rw [doneG_len]; omega), doneG_len]
  simp [rowC]
theorem sgQ_end (i : Nat) : sgQ R N f i N = sgP R N f (i + 1) := by rw [sgQ, sgP, doneG_succ]
theorem oslF_get {i : Nat} (hi : i < R) : (updL R (oslF N) (.d Dnil) (i + 1))[0 + i]? = some (.osl (i + 1) 0 N 1 N true) := by
  rw [Nat.zero_add, updL_get hi (by omega)]; rfl
theorem gen_fin : deepen (freezeAll (sgP R N f R)) 5 (.osl 0 0 R 1 R true) = some (genD R N f) := by
  have hf : freezeAll (sgP R N f R) = ⟨updL R (oslF N) (.d Dnil) R, 1⟩ :: (List.range R).map fun i => (⟨((List.range N).map fun j => DI (f i j)).map XV.d, 1⟩ : VObj) := by
    simp [freezeAll, sgP, doneG, Function.comp_def, rowC, updL_full, rowF]
  have hlen : (updL R (oslF N) (.d Dnil) R).length = R := updL_len
  rw [hf, deepen_osl (ob := ⟨updL R (oslF N) (.d Dnil) R, 1⟩) rfl rfl (by simp [hlen])]
  have h2 : ((updL R (oslF N) (.d Dnil) R).drop 0).take (R * 1) = (List.range R).map (oslF N) := by rw [List.drop_zero, Nat.mul_one, List.take_of_length_le (by omega), updL_full (Nat.le_refl _)]
  rw [show ((⟨updL R (oslF N) (.d Dnil) R, 1⟩ : VObj).cells.drop 0).take (R * 1) = (List.range R).map (oslF N) from h2]
  have hall : ∀ (l : List Nat), (∀ i ∈ l, i < R) → (l.map (oslF N)).mapM (deepen (⟨updL R (oslF N) (.d Dnil) R, 1⟩ :: (List.range R).map fun i => (⟨((List.range N).map fun j => DI (f i j)).map XV.d, 1⟩ : VObj)) 4) = some (l.map fun k => rowG N (f k)) := by
    intro l
    induction l with
    | nil => intro _; rfl
    | cons i l ih =>
      intro hl
      have hi := hl i (by simp)
      rw [List.map_cons, List.mapM_cons, ih (fun k hk => hl k (by simp [hk]))]
      rw [show oslF N i = .osl (i + 1) 0 N 1 N true from rfl, deepen_cells (k := 2) (R := N) (ds := (List.range N).map fun j => DI (f i j)) (by simp [hi]) rfl (by simp)]
      rfl
  rw [hall (List.range R) (fun i hi => by simpa using hi)]; rfl
theorem rowG_ints (g : Nat → Int) : Ints (rowG N g) ((List.range N).map g) := by
  have : Ints (.sl ((List.range N).map fun j => DI (g j)) ((List.range N).map g).length (some N)) ((List.range N).map g) := .sl (by simp) fun i c x hc hx => by
    rw [List.getElem?_map] at hc hx
    cases h : (List.range N)[i]? with
    | none => rw [h] at hc; simp at hc
    | some r => rw [h] at hc hx; simp at hc hx; subst hc hx; rfl
  rw [show ((List.range N).map g).length = N by simp] at this
  exact this
theorem genD_mat : Mat (genD R N f) (genM R N f) := by
  have : Mat (.sl ((List.range R).map fun k => rowG N (f k)) (genM R N f).length (some R)) (genM R N f) := .sl (by simp [genM]) fun i c x hc hx => by
    rw [genM] at hx
    rw [List.getElem?_map] at hc hx
    cases h : (List.range R)[i]? with
    | none => rw [h] at hc; simp at hc
    | some r => rw [h] at hc hx; simp at hc hx; subst hc hx; exact rowG_ints _
  rw [show (genM R N f).length = R by simp [genM]] at this
  exact this
end

/-! A matrix to which row after row is appended. -/
section
variable (N : Nat) (g : Nat → Nat → Int)
def rowS (k : Nat) : List XV := (List.range N).map fun j => .d (DI (g k j))
abbrev oslI (id : Nat) : XV := .osl id 0 N 1 N true
structure RowsI (σ : List VObj) (x : XV) (ids : List Nat) : Prop where
  own : OwnK 1 σ x (ids.map (oslI N))
  row : ∀ k id, ids[k]? = some id → σ[id]? = some (⟨rowS N g k, 0⟩ : VObj)
  ne : ∀ id, id ∈ ids → idX x ≠ some id
def genS (R : Nat) : DV := .sl ((List.range R).map fun k => rowG N (g k)) R none
end
section
variable {N : Nat} {g : Nat → Nat → Int}
theorem RowsI.zero {σ : List VObj} : RowsI N g σ (.d Dnil) [] := ⟨.nil, fun k id h => by simp at h, fun id h => by simp at h⟩
theorem RowsI.step {σ0 σ1 σ2 : List VObj} {x0 x1 : XV} {ids : List Nat} {a b : VObj} (h : RowsI N g σ0 x0 ids) (ho : OwnK 1 σ1 x1 (ids.map (oslI N) ++ [oslI N σ0.length]))
    (k1 : ∀ j, idX x0 ≠ some j → j < ((σ0 ++ [a]) ++ [b]).length → σ1[j]? = ((σ0 ++ [a]) ++ [b])[j]?) (w1 : ∃ j, idX x1 = some j ∧ ((σ0 ++ [a]) ++ [b]).length ≤ j)
    (h2 : σ2[σ0.length]? = some ⟨rowS N g ids.length, 0⟩) (v2 : ∀ j, j ≠ σ0.length → σ2[j]? = σ1[j]?) : RowsI N g σ2 x1 (ids ++ [σ0.length]) := by
  obtain ⟨j1, e1, l1⟩ := w1
  simp only [List.length_append, List.length_cons, List.length_nil] at l1
  have lt : ∀ id, id ∈ ids → id < σ0.length := fun id hid => by
    obtain ⟨k, hk⟩ := List.mem_iff_getElem?.1 hid
    exact (List.getElem?_eq_some_iff.1 (h.row k id hk)).1
  refine ⟨?_, fun k id hk => ?_, fun id hid => ?_⟩
  · rw [List.map_append]
    exact ho.keep fun j hj => v2 j (by rw [e1] at hj; cases hj; omega)
  · by_cases hk2 : k < ids.length
    · rw [List.getElem?_append_left hk2] at hk
      have l := lt id (List.mem_of_getElem? hk)
      rw [v2 id (by omega), k1 id (h.ne id (List.mem_of_getElem? hk)) (by simp; omega), List.getElem?_append_left (by simp; omega), List.getElem?_append_left l]
      exact h.row k id hk
    · rw [List.getElem?_append_right (by omega)] at hk
      have hk3 : k = ids.length := by
        by_cases e : k - ids.length = 0
        · omega
        · rw [List.getElem?_eq_none (by simp; omega)] at hk; cases hk
      subst hk3
      simp at hk
      subst hk
      exact h2
  · rw [e1]
    rcases List.mem_append.1 hid with h3 | h3
    · have := lt id h3
      intro e; cases e; omega
    · simp at h3
      subst h3
      intro e; cases e; omega
theorem RowsI.fin {σ : List VObj} {x : XV} {ids : List Nat} (h : RowsI N g σ x ids) (h0 : 0 < ids.length) : deepen (freezeAll σ) 5 x = some (genS N g ids.length) := by
  obtain ⟨own, row, ne⟩ := h
  generalize hc : ids.map (oslI N) = cells at own
  cases own with
  | nil => have := congrArg List.length hc; rw [List.length_map, List.length_nil] at this; omega
  | @sl id k cells ho hn =>
    subst hc
    have hk : k = ids.length := by simp at hn; omega
    subst hk
    rw [deepen_osl (ob := ⟨ids.map (oslI N), 1⟩) (by simp [freezeAll, ho]) rfl (by simp), List.drop_zero, List.take_of_length_le (by simp)]
    have key : ∀ (l : List Nat) (m : Nat), (∀ k id, l[k]? = some id → σ[id]? = some (⟨rowS N g (m + k), 0⟩ : VObj)) → (l.map (oslI N)).mapM (deepen (freezeAll σ) 4) = some ((List.range' m l.length).map fun k => rowG N (g k)) := by
      intro l
      induction l with
      | nil => intro m _; rfl
      | cons i l ih =>
        intro m hl
        have h1 := hl 0 i rfl
        rw [Nat.add_zero] at h1
        rw [List.map_cons, List.mapM_cons, ih (m + 1) (fun k id hk => by rw [hl (k + 1) id hk, show m + (k + 1) = m + 1 + k by omega])]
        rw [show oslI N i = .osl i 0 N 1 N true from rfl, deepen_cells (k := 2) (R := N) (ds := (List.range N).map fun j => DI (g m j)) (by simp [freezeAll, h1]; rfl) (by simp [rowS]) (by simp)]
        rfl
    rw [key ids 0 (fun k id hk => by rw [Nat.zero_add]; exact row k id hk)]
    simp [genS, List.range_eq_range']
theorem genS_mat {R : Nat} : Mat (genS N g R) (genM R N g) := by
  have : Mat (.sl ((List.range R).map fun k => rowG N (g k)) (genM R N g).length none) (genM R N g) := .sl (by simp [genM]) fun i c x hc hx => by
    rw [genM] at hx
    rw [List.getElem?_map] at hc hx
    cases h : (List.range R)[i]? with
    | none => rw [h] at hc; simp at hc
    | some r => rw [h] at hc hx; simp at hc hx; subst hc hx; exact rowG_ints _
  rw [show (genM R N g).length = R by simp [genM]] at this
  exact this
theorem freeze_range (σ : List VObj) : freezeIds σ (List.range σ.length) = freezeAll σ := by
  refine List.ext_getElem? fun i => ?_
  simp only [freezeIds, freezeAll, List.getElem?_mapIdx, List.getElem?_map]
  by_cases h : i < σ.length
  · simp [h]
  · rw [List.getElem?_eq_none (by omega)]; rfl
/-- A row of zeros but for one place. -/
theorem row_one {i : Nat} {v : Int} (hi : i < N) (h1 : g i i = v) (h2 : ∀ j, j ≠ i → g i j = 0) : (List.replicate N (XV.d (.lit (.int .i64 0)))).set (0 + i) (.d (DI v)) = rowS N g i := by
  rw [Nat.zero_add]
  refine List.ext_getElem? fun k => ?_
  rw [List.getElem?_set]
  by_cases hk : k < N
  · by_cases e : i = k
    · subst e; simp [rowS, hk, h1]
    · rw [if_neg e]
      simp [rowS, hk, h2 k (fun h => e h.symm)]
  · rw [if_neg (by omega), List.getElem?_eq_none (by simp; omega), List.getElem?_eq_none (by simp [rowS]; omega)]
theorem row_none {i : Nat} (h2 : ∀ j, j < N → g i j = 0) : List.replicate N (XV.d (.lit (.int .i64 0))) = rowS N g i := by
  refine List.ext_getElem? fun k => ?_
  by_cases hk : k < N
  · simp [rowS, hk, h2 k hk]
  · rw [List.getElem?_eq_none (by simp; omega), List.getElem?_eq_none (by simp [rowS]; omega)]
end
end Go.Vm

end
section
/-
  DATAFLOW GRAPHS: what the program computes, as functions on numbers and lists, and what these functions promise.
-/
namespace Go.Fl

/-- A link of a valid graph. -/
structure LN where
  f : Nat
  t : Nat
  g : Nat
  k : Nat
  s : Nat

structure OkL (N : Nat) (l : LN) : Prop where
  f : l.f < N
  t : l.t < N
  g1 : 1 ≤ l.g
  g6 : l.g ≤ 6
  k1 : 1 ≤ l.k
  k6 : l.k ≤ 6
  s : l.s ≤ 20

/-- Sums of six. -/
def tot (X : Nat → Nat) : Nat := X 0 + X 1 + X 2 + X 3 + X 4 + X 5
theorem lt6 {P : Nat → Prop} (h0 : P 0) (h1 : P 1) (h2 : P 2) (h3 : P 3) (h4 : P 4) (h5 : P 5) {i : Nat} (hi : i < 6) : P i := by
  match i, hi with
  | 0, _ => exact h0
  | 1, _ => exact h1
  | 2, _ => exact h2
  | 3, _ => exact h3
  | 4, _ => exact h4
  | 5, _ => exact h5
theorem tot_upd {X : Nat → Nat} {v : Nat} {i : Nat} (hi : i < 6) : tot (fun j => if j = i then v else X j) + X i = tot X + v := by
  match i, hi with
  | 0, _ => simp [tot]; omega
  | 1, _ => simp [tot]; omega
  | 2, _ => simp [tot]; omega
  | 3, _ => simp [tot]; omega
  | 4, _ => simp [tot]; omega
  | 5, _ => simp [tot]; omega
theorem tot_le {X Y : Nat → Nat} (h : ∀ i, i < 6 → X i ≤ Y i) : tot X ≤ tot Y := by
  have := h 0 (by omega); have := h 1 (by omega); have := h 2 (by omega); have := h 3 (by omega); have := h 4 (by omega); have := h 5 (by omega)
  unfold tot; omega
theorem tot_eq {X Y : Nat → Nat} (h : ∀ i, i < 6 → X i ≤ Y i) (e : tot Y ≤ tot X) : ∀ i, i < 6 → X i = Y i := by
  have := h 0 (by omega); have := h 1 (by omega); have := h 2 (by omega); have := h 3 (by omega); have := h 4 (by omega); have := h 5 (by omega)
  unfold tot at e
  intro i hi
  match i, hi with
  | 0, _ => omega
  | 1, _ => omega
  | 2, _ => omega
  | 3, _ => omega
  | 4, _ => omega
  | 5, _ => omega
theorem le_tot {X : Nat → Nat} {i : Nat} (hi : i < 6) : X i ≤ tot X := by
  match i, hi with
  | 0, _ => unfold tot; omega
  | 1, _ => unfold tot; omega
  | 2, _ => unfold tot; omega
  | 3, _ => unfold tot; omega
  | 4, _ => unfold tot; omega
  | 5, _ => unfold tot; omega

def bump (X : Nat → Nat) (a : Nat) : Nat → Nat := fun i => if i = a then X i + 1 else X i
theorem tot_bump {X : Nat → Nat} {a : Nat} (ha : a < 6) : tot (bump X a) = tot X + 1 := by
  have h := tot_upd (X := X) (v := X a + 1) ha
  have e : (fun j => if j = a then X a + 1 else X j) = bump X a := by
    funext j; unfold bump; split
    · rename_i e; subst e; rfl
    · rfl
  rw [e] at h; omega

/-- The loads on a link. -/
def loadZ (l : LN) (X : Nat → Nat) : Int := (l.s : Int) + (l.g : Int) * (X l.f : Int) - (l.k : Int) * (X l.t : Int)
def waitB (X : Nat → Nat) (a : Nat) (l : LN) : Bool := decide (l.t = a) && decide (loadZ l X < (l.k : Int))
def canB (L : List LN) (X : Nat → Nat) (a : Nat) : Bool := L.all fun l => !waitB X a l
def fireB (L : List LN) (q X : Nat → Nat) (a : Nat) : Bool := decide (X a < q a) && canB L X a
def eqB (X q : Nat → Nat) : Bool := (List.range 6).all fun i => decide (X i = q i)
theorem eqB_iff {X q : Nat → Nat} : eqB X q = true ↔ ∀ i, i < 6 → X i = q i := by simp [eqB]
def nxt (L : List LN) (N : Nat) (q X : Nat → Nat) : Option Nat := (List.range N).find? (fireB L q X)
/-- The first schedule from X on. -/
def greedy (L : List LN) (N : Nat) (q : Nat → Nat) : Nat → (Nat → Nat) → Option (List Nat)
  | 0, X => if eqB X q then some [] else none
  | n + 1, X => if eqB X q then some [] else (nxt L N q X).bind fun a => (greedy L N q n (bump X a)).map (a :: ·)
/-- What firings in this order lead to. -/
def runL (L : List LN) (N : Nat) (q : Nat → Nat) : List Int → (Nat → Nat) → Option (Nat → Nat)
  | [], X => some X
  | a :: s, X => if 0 ≤ a ∧ a < N ∧ fireB L q X a.toNat = true then runL L N q s (bump X a.toNat) else none

theorem nxt_some {L : List LN} {N : Nat} {q X : Nat → Nat} {a : Nat} (h : nxt L N q X = some a) : a < N ∧ fireB L q X a = true := by
  have h1 := List.find?_some h
  have h2 := List.mem_of_find?_eq_some h
  exact ⟨by simpa using h2, h1⟩
theorem canB_iff {L : List LN} {X : Nat → Nat} {a : Nat} : canB L X a = true ↔ ∀ l ∈ L, l.t = a → (l.k : Int) ≤ loadZ l X := by
  simp only [canB, waitB, List.all_eq_true, Bool.not_eq_true', Bool.and_eq_false_iff, decide_eq_false_iff_not, Int.not_lt]
  refine ⟨fun h l hl ht => (h l hl).resolve_left fun hn => hn ht, fun h l hl => ?_⟩
  rcases Classical.em (l.t = a) with ht | ht
  · exact .inr (h l hl ht)
  · exact .inl ht
theorem fireB_iff {L : List LN} {q X : Nat → Nat} {a : Nat} : fireB L q X a = true ↔ X a < q a ∧ canB L X a = true := by simp [fireB]

/-- Firing one actor never keeps another from firing. -/
theorem can_mono {L : List LN} {X Y : Nat → Nat} {a : Nat} (hle : ∀ i, Y i ≤ X i) (he : X a = Y a) (h : canB L Y a = true) : canB L X a = true := by
  rw [canB_iff] at h ⊢
  intro l hl ht
  have h1 := h l hl ht
  unfold loadZ at h1 ⊢
  rw [ht] at h1 ⊢
  rw [he]
  have h2 : (l.g : Int) * (Y l.f : Int) ≤ (l.g : Int) * (X l.f : Int) := Int.mul_le_mul_of_nonneg_left (by have := hle l.f; omega) (by omega)
  omega

/-- Where a schedule exists, every beginning goes on. -/
theorem any_can {L : List LN} {N : Nat} {q X : Nat → Nat} (hX : ∃ i, i < 6 ∧ X i < q i) : ∀ (n : Nat) (Y : Nat → Nat) (s : List Nat), greedy L N q n Y = some s → (∀ i, Y i ≤ X i) → ∃ a, a < N ∧ fireB L q X a = true := by
  obtain ⟨i, hi, hlt⟩ := hX
  intro n
  induction n with
  | zero =>
    intro Y s h hle
    simp only [greedy] at h
    split at h
    · rename_i he
      have := eqB_iff.1 he i hi
      have := hle i
      omega
    · cases h
  | succ n ih =>
    intro Y s h hle
    simp only [greedy] at h
    split at h
    · rename_i he
      have := eqB_iff.1 he i hi
      have := hle i
      omega
    · cases hn : nxt L N q Y with
      | none => rw [hn] at h; cases h
      | some a =>
        rw [hn] at h
        simp only [Option.bind_some] at h
        cases hg : greedy L N q n (bump Y a) with
        | none => rw [hg] at h; cases h
        | some r =>
          obtain ⟨h1, h2⟩ := nxt_some hn
          rw [fireB_iff] at h2
          rcases Nat.lt_or_ge (Y a) (X a) with h3 | h3
          · refine ih (bump Y a) r hg fun j => ?_
            unfold bump
            split
            · rename_i e; subst e; omega
            · exact hle j
          · have e : X a = Y a := by have := hle a; omega
            exact ⟨a, h1, fireB_iff.2 ⟨by omega, can_mono hle e h2.2⟩⟩

theorem runL_snoc {L : List LN} {N : Nat} {q : Nat → Nat} {a : Int} : ∀ {s : List Int} {X Y : Nat → Nat}, runL L N q s X = some Y → 0 ≤ a ∧ a < N ∧ fireB L q Y a.toNat = true → runL L N q (s ++ [a]) X = some (bump Y a.toNat)
  | [], X, Y, h, ha => by
    simp only [runL, Option.some.injEq] at h
    subst h
    simp [runL, ha]
  | b :: s, X, Y, h, ha => by
    simp only [runL] at h
    split at h
    · rename_i hb
      simp only [List.cons_append, runL]
      rw [if_pos hb]
      exact runL_snoc h ha
    · cases h

abbrev zs (s : List Nat) : List Int := s.map fun (a : Nat) => (a : Int)
theorem greedy_sound {L : List LN} {N : Nat} {q : Nat → Nat} : ∀ (n : Nat) (X : Nat → Nat) (s : List Nat), greedy L N q n X = some s → ∃ Y, runL L N q (zs s) X = some Y ∧ eqB Y q = true
  | 0, X, s, h => by
    simp only [greedy] at h
    split at h
    · cases h; exact ⟨X, rfl, ‹_›⟩
    · cases h
  | n + 1, X, s, h => by
    simp only [greedy] at h
    split at h
    · cases h; exact ⟨X, rfl, ‹_›⟩
    · cases hn : nxt L N q X with
      | none => rw [hn] at h; cases h
      | some a =>
        rw [hn] at h
        simp only [Option.bind_some] at h
        cases hg : greedy L N q n (bump X a) with
        | none => rw [hg] at h; cases h
        | some r =>
          rw [hg] at h
          simp only [Option.map_some, Option.some.injEq] at h
          subst h
          obtain ⟨h1, h2⟩ := nxt_some hn
          obtain ⟨Y, hY, he⟩ := greedy_sound n _ r hg
          refine ⟨Y, ?_, he⟩
          simp only [zs, List.map_cons, runL]
          rw [if_pos ⟨by omega, by omega, by simpa using h2⟩]
          simpa using hY

theorem runL_tot {L : List LN} {N : Nat} {q : Nat → Nat} (hN : N ≤ 6) : ∀ {s : List Int} {X Y : Nat → Nat}, runL L N q s X = some Y → tot Y = tot X + s.length ∧ ((∀ i, i < 6 → X i ≤ q i) → ∀ i, i < 6 → Y i ≤ q i) ∧ (∀ i, N ≤ i → Y i = X i)
  | [], X, Y, h => by cases h; exact ⟨rfl, fun h => h, fun _ _ => rfl⟩
  | a :: s, X, Y, h => by
    simp only [runL] at h
    split at h
    · rename_i hb
      obtain ⟨h0, h1, h2⟩ := hb
      obtain ⟨k1, k2, k3⟩ := runL_tot hN h
      have h3 := tot_bump (X := X) (a := a.toNat) (by omega)
      rw [fireB_iff] at h2
      refine ⟨by simp only [List.length_cons]; omega, fun hX => k2 fun i hi => ?_, fun i hi => ?_⟩
      · unfold bump; split
        · rename_i e; subst e; omega
        · exact hX i hi
      · rw [k3 i hi]; unfold bump; rw [if_neg (by omega)]
    · cases h

theorem greedy_len {L : List LN} {N : Nat} {q : Nat → Nat} (hN : N ≤ 6) {n : Nat} {s : List Nat} (h : greedy L N q n (fun _ => 0) = some s) : s.length = tot q := by
  obtain ⟨Y, h1, h2⟩ := greedy_sound n _ s h
  have h3 := (runL_tot hN h1).1
  have h4 : tot Y = tot q := by
    have := eqB_iff.1 h2
    unfold tot
    rw [this 0 (by omega), this 1 (by omega), this 2 (by omega), this 3 (by omega), this 4 (by omega), this 5 (by omega)]
  have h5 : tot (fun _ => 0) = 0 := rfl
  rw [List.length_map] at h3
  omega

theorem greedy_mem {L : List LN} {N : Nat} {q : Nat → Nat} : ∀ (n : Nat) (X : Nat → Nat) (s : List Nat), greedy L N q n X = some s → ∀ a ∈ s, a < N
  | 0, X, s, h => by
    simp only [greedy] at h
    split at h
    · cases h; intro a ha; simp at ha
    · cases h
  | n + 1, X, s, h => by
    simp only [greedy] at h
    split at h
    · cases h; intro a ha; simp at ha
    · cases hn : nxt L N q X with
      | none => rw [hn] at h; cases h
      | some a =>
        rw [hn] at h
        simp only [Option.bind_some] at h
        cases hg : greedy L N q n (bump X a) with
        | none => rw [hg] at h; cases h
        | some r =>
          rw [hg] at h
          simp only [Option.map_some, Option.some.injEq] at h
          subst h
          intro b hb
          rcases List.mem_cons.1 hb with rfl | hb
          · exact (nxt_some hn).1
          · exact greedy_mem n _ r hg b hb
end Go.Fl

end
section
/-
  DATAFLOW GRAPHS: the repetition vector as the program computes it, and that it balances every link.
-/
namespace Go.Fl

abbrev Fra := Nat × Nat
def knB (x : Fra) : Bool := !(decide (x.1 = 0) && decide (x.2 = 0))
def gcdF (a b : Nat) : Nat := Nat.gcd a b
def timesF (x : Fra) (n d : Nat) : Fra := ((x.1 * n) / Nat.gcd (x.1 * n) (x.2 * d), (x.2 * d) / Nat.gcd (x.1 * n) (x.2 * d))
abbrev Rat6 := Nat → Fra
def setF (R : Rat6) (i : Nat) (v : Fra) : Rat6 := fun j => if j = i then v else R j
def stepR (p : Rat6 × Bool) (l : LN) : Rat6 × Bool :=
  if knB (p.1 l.f) = knB (p.1 l.t) then p
  else if knB (p.1 l.f) = false then (setF p.1 l.f (timesF (p.1 l.t) l.k l.g), true)
  else (setF p.1 l.t (timesF (p.1 l.f) l.g l.k), true)
def passR (L : List LN) (R : Rat6) : Rat6 × Bool := L.foldl stepR (R, false)
def ratesF (L : List LN) : Nat → Rat6 → Rat6
  | 0, R => R
  | n + 1, R => if (passR L R).2 = true then ratesF L n (passR L R).1 else (passR L R).1
def startR (first : Nat) : Rat6 := fun i => if i = first then (1, 1) else (0, 0)
def knum (R : Rat6) : Nat := tot fun i => if knB (R i) = true then 1 else 0
def balB (L : List LN) (R : Rat6) : Bool := L.all fun l => !(knB (R l.f) && decide (timesF (R l.f) l.g l.k ≠ R l.t))
def commF (R : Rat6) : Nat → Nat
  | 0 => 1
  | i + 1 => if knB (R i) = true then commF R i * ((R i).2 / Nat.gcd (commF R i) (R i).2) else commF R i
def addR (R : Rat6) (C : Nat) (q : Nat → Nat) : Nat → Nat := fun a => if knB (R a) = true then (R a).1 * (C / (R a).2) else q a
def repStep (L : List LN) (N i : Nat) (q : Nat → Nat) : Option (Nat → Nat) :=
  if 0 < q i then some q else if balB L (ratesF L 6 (startR i)) = true then some (addR (ratesF L 6 (startR i)) (commF (ratesF L 6 (startR i)) N) q) else none
def repFold (L : List LN) (N : Nat) : Nat → Option (Nat → Nat)
  | 0 => some fun _ => 0
  | i + 1 => (repFold L N i).bind (repStep L N i)

structure GoodF (x : Fra) (e : Nat) : Prop where
  n0 : 0 < x.1
  d0 : 0 < x.2
  nd : x.1 ∣ 60 ^ e
  dd : x.2 ∣ 60 ^ e
  co : Nat.gcd x.1 x.2 = 1

structure GoodR (N : Nat) (R : Rat6) : Prop where
  out : ∀ i, N ≤ i → R i = (0, 0)
  pos : 1 ≤ knum R
  val : ∀ i, knB (R i) = true → GoodF (R i) (knum R - 1)

theorem knB_false {x : Fra} : knB x = false ↔ x = (0, 0) := by
  obtain ⟨a, b⟩ := x
  simp [knB]
theorem knum_le (R : Rat6) : knum R ≤ 6 := by
  have : knum R ≤ tot fun _ => 1 := tot_le fun i _ => by split <;> omega
  exact this
theorem GoodF.kn {x : Fra} {e : Nat} (h : GoodF x e) : knB x = true := by
  have := h.n0
  simp [knB]; omega
theorem six_dvd {n : Nat} (h1 : 1 ≤ n) (h6 : n ≤ 6) : n ∣ 60 := by
  rcases (show n = 1 ∨ n = 2 ∨ n = 3 ∨ n = 4 ∨ n = 5 ∨ n = 6 by omega) with rfl | rfl | rfl | rfl | rfl | rfl <;> decide
theorem GoodF.mono {x : Fra} {e e' : Nat} (h : GoodF x e) (he : e ≤ e') : GoodF x e' :=
  ⟨h.n0, h.d0, Nat.dvd_trans h.nd (Nat.pow_dvd_pow 60 he), Nat.dvd_trans h.dd (Nat.pow_dvd_pow 60 he), h.co⟩
theorem GoodF.le {x : Fra} {e : Nat} (h : GoodF x e) (he : e ≤ 5) : x.1 ≤ 777600000 ∧ x.2 ≤ 777600000 := by
  have h5 := h.mono he
  exact ⟨Nat.le_of_dvd (by decide) (show x.1 ∣ 777600000 from h5.nd), Nat.le_of_dvd (by decide) (show x.2 ∣ 777600000 from h5.dd)⟩
theorem timesF_good {x : Fra} {e n d : Nat} (h : GoodF x e) (hn : 1 ≤ n) (hn6 : n ≤ 6) (hd : 1 ≤ d) (hd6 : d ≤ 6) : GoodF (timesF x n d) (e + 1) := by
  have p1 : 0 < x.1 * n := Nat.mul_pos h.n0 hn
  have p2 : 0 < x.2 * d := Nat.mul_pos h.d0 hd
  have g0 : 0 < Nat.gcd (x.1 * n) (x.2 * d) := Nat.gcd_pos_of_pos_left _ p1
  have g1 := Nat.gcd_dvd_left (x.1 * n) (x.2 * d)
  have g2 := Nat.gcd_dvd_right (x.1 * n) (x.2 * d)
  refine ⟨Nat.div_pos (Nat.le_of_dvd p1 g1) g0, Nat.div_pos (Nat.le_of_dvd p2 g2) g0, ?_, ?_, Nat.coprime_div_gcd_div_gcd g0⟩
  · refine Nat.dvd_trans (Nat.div_dvd_of_dvd g1) ?_
    rw [Nat.pow_succ]
    exact Nat.mul_dvd_mul h.nd (six_dvd hn hn6)
  · refine Nat.dvd_trans (Nat.div_dvd_of_dvd g2) ?_
    rw [Nat.pow_succ]
    exact Nat.mul_dvd_mul h.dd (six_dvd hd hd6)
theorem timesF_eq {x y : Fra} {n d : Nat} (hx : 0 < x.1) (_ : 0 < x.2) (hn : 0 < n) (_ : 0 < d) (h : timesF x n d = y) : x.1 * n * y.2 = x.2 * d * y.1 := by
  subst h
  have p1 : 0 < x.1 * n := Nat.mul_pos hx hn
  have g1 := Nat.gcd_dvd_left (x.1 * n) (x.2 * d)
  have g2 := Nat.gcd_dvd_right (x.1 * n) (x.2 * d)
  simp only [timesF]
  generalize hg : Nat.gcd (x.1 * n) (x.2 * d) = g at g1 g2 ⊢
  have g0 : 0 < g := hg ▸ Nat.gcd_pos_of_pos_left _ p1
  obtain ⟨a, ha⟩ := g1
  obtain ⟨b, hb⟩ := g2
  rw [ha, hb, Nat.mul_div_cancel_left _ g0, Nat.mul_div_cancel_left _ g0]
  rw [Nat.mul_assoc, Nat.mul_assoc, Nat.mul_comm a b]
/-- The same fraction times the same fraction in other terms. -/
theorem timesF_twice (x : Fra) (n d : Nat) : timesF x (2 * n) (2 * d) = timesF x n d := by
  unfold timesF
  have e1 : x.1 * (2 * n) = 2 * (x.1 * n) := by rw [Nat.mul_left_comm]
  have e2 : x.2 * (2 * d) = 2 * (x.2 * d) := by rw [Nat.mul_left_comm]
  rw [e1, e2, Nat.gcd_mul_left, Nat.mul_div_mul_left _ _ (by omega), Nat.mul_div_mul_left _ _ (by omega)]

theorem knum_set {R : Rat6} {i : Nat} {v : Fra} (hi : i < 6) (h : knB (R i) = false) (hv : knB v = true) : knum (setF R i v) = knum R + 1 := by
  have h1 := tot_upd (X := fun i => if knB (R i) = true then 1 else 0) (v := 1) hi
  have e : (fun j => if j = i then 1 else if knB (R j) = true then 1 else 0) = fun j => if knB (setF R i v j) = true then 1 else 0 := by
    funext j
    unfold setF
    by_cases e : j = i
    · rw [if_pos e, if_pos e, if_pos hv]
    · rw [if_neg e, if_neg e]
  rw [e, h] at h1
  simp only [Bool.false_eq_true, if_false] at h1
  exact h1

theorem GoodR.set {N : Nat} {R : Rat6} (hG : GoodR N R) (hN : N ≤ 6) {i : Nat} {v : Fra} (hi : i < N) (h : knB (R i) = false) (hv : GoodF v (knum R)) : GoodR N (setF R i v) ∧ knum (setF R i v) = knum R + 1 := by
  have hk := knum_set (v := v) (show i < 6 by omega) h hv.kn
  refine ⟨⟨fun j hj => ?_, by omega, fun j hj => ?_⟩, hk⟩
  · unfold setF; rw [if_neg (by omega)]; exact hG.out j hj
  · rw [hk]
    unfold setF at hj ⊢
    by_cases e : j = i
    · rw [if_pos e]; exact hv.mono (by omega)
    · rw [if_neg e] at hj ⊢; exact (hG.val j hj).mono (by omega)

theorem step_good {N : Nat} {p : Rat6 × Bool} {l : LN} (hN : N ≤ 6) (hG : GoodR N p.1) (hl : OkL N l) : GoodR N (stepR p l).1 ∧ ((stepR p l = p ∧ knB (p.1 l.f) = knB (p.1 l.t)) ∨ ((stepR p l).2 = true ∧ knum (stepR p l).1 = knum p.1 + 1)) := by
  have hp := hG.pos
  unfold stepR
  split
  · exact ⟨hG, .inl ⟨rfl, ‹_›⟩⟩
  · rename_i h1
    split
    · rename_i h2
      have h3 : knB (p.1 l.t) = true := by rw [h2] at h1; simpa using h1
      have h4 := timesF_good (hG.val _ h3) hl.k1 hl.k6 hl.g1 hl.g6
      have h5 := hG.set hN hl.f h2 (v := timesF (p.1 l.t) l.k l.g) (by rwa [show knum p.1 - 1 + 1 = knum p.1 by omega] at h4)
      exact ⟨h5.1, .inr ⟨rfl, h5.2⟩⟩
    · rename_i h2
      have h2 : knB (p.1 l.f) = true := by simpa using h2
      have h3 : knB (p.1 l.t) = false := by rw [h2] at h1; simpa using h1
      have h4 := timesF_good (hG.val _ h2) hl.g1 hl.g6 hl.k1 hl.k6
      have h5 := hG.set hN hl.t h3 (v := timesF (p.1 l.f) l.g l.k) (by rwa [show knum p.1 - 1 + 1 = knum p.1 by omega] at h4)
      exact ⟨h5.1, .inr ⟨rfl, h5.2⟩⟩

theorem fold_good {N : Nat} (hN : N ≤ 6) : ∀ {L : List LN} {p : Rat6 × Bool}, GoodR N p.1 → (∀ l ∈ L, OkL N l) → GoodR N (L.foldl stepR p).1 ∧
    ((L.foldl stepR p = p ∧ ∀ l ∈ L, knB (p.1 l.f) = knB (p.1 l.t)) ∨ ((L.foldl stepR p).2 = true ∧ knum p.1 + 1 ≤ knum (L.foldl stepR p).1))
  | [], p, hG, _ => ⟨hG, .inl ⟨rfl, fun l hl => by simp at hl⟩⟩
  | l :: L, p, hG, hL => by
    obtain ⟨h1, h2⟩ := step_good hN hG (hL l (by simp))
    obtain ⟨h3, h4⟩ := fold_good hN h1 (fun l hl => hL l (List.mem_cons_of_mem _ hl))
    rw [List.foldl_cons]
    refine ⟨h3, ?_⟩
    rcases h2 with ⟨h2, h2'⟩ | ⟨h2, h2'⟩ <;> rcases h4 with ⟨h4, h4'⟩ | ⟨h4, h4'⟩
    · rw [h2] at h4 h4' ⊢
      refine .inl ⟨h4, fun l' hl' => ?_⟩
      rcases List.mem_cons.1 hl' with rfl | hl'
      · exact h2'
      · exact h4' l' hl'
    · rw [h2] at h4 h4' ⊢; exact .inr ⟨h4, h4'⟩
    · right; rw [h4]; exact ⟨h2, by omega⟩
    · exact .inr ⟨h4, by omega⟩

theorem pass_good {N : Nat} {L : List LN} {R : Rat6} (hN : N ≤ 6) (hG : GoodR N R) (hL : ∀ l ∈ L, OkL N l) : GoodR N (passR L R).1 ∧
    (((passR L R).2 = false ∧ (passR L R).1 = R ∧ ∀ l ∈ L, knB (R l.f) = knB (R l.t)) ∨ ((passR L R).2 = true ∧ knum R + 1 ≤ knum (passR L R).1)) := by
  obtain ⟨h1, h2⟩ := fold_good hN (p := (R, false)) hG hL
  refine ⟨h1, ?_⟩
  rcases h2 with ⟨h2, h3⟩ | h2
  · left; unfold passR; rw [h2]; exact ⟨rfl, rfl, h3⟩
  · exact .inr h2

theorem rates_good {N : Nat} {L : List LN} (hN : N ≤ 6) (hL : ∀ l ∈ L, OkL N l) : ∀ (n : Nat) {R : Rat6}, GoodR N R → 7 ≤ knum R + n → GoodR N (ratesF L n R) ∧ (∀ l ∈ L, knB (ratesF L n R l.f) = knB (ratesF L n R l.t)) ∧ ∀ i, knB (R i) = true → ratesF L n R i = R i
  | 0, R, hG, h => by have := knum_le R; omega
  | n + 1, R, hG, h => by
    obtain ⟨h1, h2⟩ := pass_good hN hG hL
    have keep : ∀ i, knB (R i) = true → (passR L R).1 i = R i := by
      intro i hi
      have : ∀ (L : List LN) (p : Rat6 × Bool), knB (p.1 i) = true → (L.foldl stepR p).1 i = p.1 i := by
        intro L
        induction L with
        | nil => intro p _; rfl
        | cons l L ih =>
          intro p hp
          have e : (stepR p l).1 i = p.1 i := by
            unfold stepR
            split
            · rfl
            · split
              · rename_i h2; simp only [setF]; rw [if_neg (fun e => by subst e; rw [hp] at h2; cases h2)]
              · rename_i h1 h2
                simp only [setF]; rw [if_neg (fun e => by subst e; rw [hp] at h1; simp at h1 h2; rw [h1] at h2; cases h2)]
          rw [List.foldl_cons, ih _ (by rw [e]; exact hp), e]
      exact this L (R, false) hi
    simp only [ratesF]
    rcases h2 with ⟨h2, h3, h4⟩ | ⟨h2, h3⟩
    · rw [if_neg (by rw [h2]; simp)]
      rw [h3]; exact ⟨hG, h4, fun _ _ => rfl⟩
    · rw [if_pos h2]
      obtain ⟨k1, k2, k3⟩ := rates_good hN hL n h1 (by omega)
      exact ⟨k1, k2, fun i hi => by rw [k3 i (by rw [keep i hi]; exact hi), keep i hi]⟩

theorem start_good {N i : Nat} (hN : N ≤ 6) (hi : i < N) : GoodR N (startR i) ∧ knum (startR i) = 1 := by
  have hk : knum (startR i) = 1 := by
    have h1 := tot_upd (X := fun _ => 0) (v := 1) (show i < 6 by omega)
    have e : (fun j => if j = i then 1 else 0) = fun j => if knB (startR i j) = true then 1 else 0 := by
      funext j; unfold startR
      by_cases e : j = i
      · rw [if_pos e, if_pos e]; rfl
      · rw [if_neg e, if_neg e]; rfl
    rw [e] at h1
    have h0 : tot (fun _ => 0) = 0 := rfl
    rw [h0] at h1
    exact h1
  refine ⟨⟨fun j hj => ?_, by omega, fun j hj => ?_⟩, hk⟩
  · unfold startR; rw [if_neg (by omega)]
  · unfold startR at hj ⊢
    by_cases e : j = i
    · rw [if_pos e]; exact ⟨by decide, by decide, by simp, by simp, by decide⟩
    · rw [if_neg e] at hj; cases hj

theorem comm_good {N : Nat} {R : Rat6} (hG : GoodR N R) : ∀ (i : Nat), 0 < commF R i ∧ commF R i ∣ 60 ^ 5 ∧ ∀ j, j < i → knB (R j) = true → (R j).2 ∣ commF R i
  | 0 => ⟨by simp [commF], by simp [commF], fun j hj => by omega⟩
  | i + 1 => by
    obtain ⟨h1, h2, h3⟩ := comm_good hG i
    simp only [commF]
    split
    · rename_i hk
      have hv := (hG.val i hk).mono (show knum R - 1 ≤ 5 by have := knum_le R; omega)
      have e : commF R i * ((R i).2 / Nat.gcd (commF R i) (R i).2) = Nat.lcm (commF R i) (R i).2 := by
        unfold Nat.lcm; rw [Nat.mul_div_assoc _ (Nat.gcd_dvd_right _ _)]
      rw [e]
      refine ⟨Nat.lcm_pos h1 hv.d0, Nat.lcm_dvd h2 hv.dd, fun j hj hkj => ?_⟩
      by_cases e : j = i
      · subst e; exact Nat.dvd_lcm_right _ _
      · exact Nat.dvd_trans (h3 j (by omega) hkj) (Nat.dvd_lcm_left _ _)
    · rename_i hk
      refine ⟨h1, h2, fun j hj hkj => ?_⟩
      by_cases e : j = i
      · subst e; exact absurd hkj hk
      · exact h3 j (by omega) hkj

/-- What a repetition vector promises. -/
structure RepOk (L : List LN) (N i : Nat) (q : Nat → Nat) : Prop where
  pos : ∀ j, j < i → 0 < q j
  out : ∀ j, N ≤ j → q j = 0
  bal : ∀ l ∈ L, l.g * q l.f = l.k * q l.t
  le : ∀ j, q j ≤ 604661760000000000

theorem addR_le {N : Nat} {R : Rat6} (hG : GoodR N R) (j : Nat) (hk : knB (R j) = true) : (R j).1 ≤ 777600000 ∧ commF R N / (R j).2 ≤ 777600000 ∧ (R j).1 * (commF R N / (R j).2) ≤ 604661760000000000 := by
  have h1 := ((hG.val j hk).le (by have := knum_le R; omega)).1
  have h2 : commF R N ≤ 777600000 := Nat.le_of_dvd (by decide) (show commF R N ∣ 777600000 from (comm_good hG N).2.1)
  have h3 : commF R N / (R j).2 ≤ 777600000 := Nat.le_trans (Nat.div_le_self _ _) h2
  exact ⟨h1, h3, Nat.mul_le_mul h1 h3⟩

theorem add_ok {N : Nat} {L : List LN} {q : Nat → Nat} {i : Nat} (hN : N ≤ 6) (hL : ∀ l ∈ L, OkL N l) (hi : i < N) (hq : RepOk L N i q) (hb : balB L (ratesF L 6 (startR i)) = true) :
    RepOk L N (i + 1) (addR (ratesF L 6 (startR i)) (commF (ratesF L 6 (startR i)) N) q) := by
  obtain ⟨s1, s2⟩ := start_good hN hi
  obtain ⟨h1, h2, h3⟩ := rates_good hN hL 6 s1 (by omega)
  have hki : knB (startR i i) = true := by unfold startR; rw [if_pos rfl]; rfl
  have hi1 := h3 i hki
  generalize ratesF L 6 (startR i) = R at h1 h2 h3 hb hi1
  obtain ⟨c1, c2, c3⟩ := comm_good h1 N
  have hin : ∀ j, knB (R j) = true → j < N := fun j hj => by
    rcases Nat.lt_or_ge j N with h | h
    · exact h
    · rw [h1.out j h] at hj; cases hj
  have hpos : ∀ j, knB (R j) = true → 0 < (R j).1 * (commF R N / (R j).2) := fun j hj =>
    Nat.mul_pos (h1.val j hj).n0 (Nat.div_pos (Nat.le_of_dvd c1 (c3 j (hin j hj) hj)) (h1.val j hj).d0)
  refine ⟨fun j hj => ?_, fun j hj => ?_, fun l hl => ?_, fun j => ?_⟩
  · unfold addR
    split
    · exact hpos j ‹_›
    · rename_i hk
      refine hq.pos j ?_
      rcases Nat.lt_or_ge j i with h | h
      · exact h
      · have : j = i := by omega
        subst this
        rw [hi1] at hk; exact absurd hki hk
  · unfold addR
    rw [h1.out j hj]
    exact hq.out j hj
  · have hkk := h2 l hl
    unfold addR
    by_cases hk : knB (R l.f) = true
    · rw [if_pos hk, if_pos (hkk ▸ hk)]
      have hkt : knB (R l.t) = true := hkk ▸ hk
      have hb1 := List.all_eq_true.1 hb l hl
      rw [hk] at hb1
      have hb2 : timesF (R l.f) l.g l.k = R l.t := by simpa using hb1
      have hg := (hL l hl).g1
      have hkp := (hL l hl).k1
      have h4 := timesF_eq (h1.val _ hk).n0 (h1.val _ hk).d0 hg hkp hb2
      obtain ⟨a, ha⟩ := c3 _ (hin _ hk) hk
      obtain ⟨b, hb⟩ := c3 _ (hin _ hkt) hkt
      have ea : commF R N / (R l.f).2 = a := by rw [ha]; exact Nat.mul_div_cancel_left _ (h1.val _ hk).d0
      have eb : commF R N / (R l.t).2 = b := by rw [hb]; exact Nat.mul_div_cancel_left _ (h1.val _ hkt).d0
      rw [ea, eb]
      have d1 := (h1.val _ hk).d0
      have d2 := (h1.val _ hkt).d0
      have hab : (R l.f).2 * a = (R l.t).2 * b := by rw [← ha, ← hb]
      -- g·nf·a = k·nt·b, from nf·g·dt = df·k·nt and df·a = dt·b
      refine Nat.eq_of_mul_eq_mul_right d2 ?_
      calc l.g * ((R l.f).1 * a) * (R l.t).2 = ((R l.f).1 * l.g * (R l.t).2) * a := by
            simp only [Nat.mul_comm, Nat.mul_left_comm]
        _ = ((R l.f).2 * l.k * (R l.t).1) * a := by rw [h4]
        _ = l.k * (R l.t).1 * ((R l.f).2 * a) := by simp only [Nat.mul_comm, Nat.mul_left_comm]
        _ = l.k * (R l.t).1 * ((R l.t).2 * b) := by rw [hab]
        _ = l.k * ((R l.t).1 * b) * (R l.t).2 := by simp only [Nat.mul_comm, Nat.mul_left_comm]
    · rw [if_neg hk, if_neg (hkk ▸ hk)]
      exact hq.bal l hl
  · unfold addR
    split
    · exact (addR_le h1 j ‹_›).2.2
    · exact hq.le j

theorem repFold_ok {N : Nat} {L : List LN} (hN : N ≤ 6) (hL : ∀ l ∈ L, OkL N l) : ∀ (i : Nat), i ≤ N → ∀ q, repFold L N i = some q → RepOk L N i q
  | 0, _, q, h => by
    simp only [repFold, Option.some.injEq] at h
    subst h
    exact ⟨fun j hj => by omega, fun _ _ => rfl, fun l _ => by simp, fun _ => by omega⟩
  | i + 1, hi, q, h => by
    simp only [repFold] at h
    cases h0 : repFold L N i with
    | none => rw [h0] at h; cases h
    | some q0 =>
      rw [h0] at h
      simp only [Option.bind_some] at h
      have ih := repFold_ok hN hL i (by omega) q0 h0
      unfold repStep at h
      split at h
      · rename_i hp
        cases h
        refine ⟨fun j hj => ?_, ih.out, ih.bal, ih.le⟩
        by_cases e : j = i
        · subst e; exact hp
        · exact ih.pos j (by omega)
      · split at h
        · rename_i hb
          cases h
          exact add_ok hN hL (by omega) ih hb
        · cases h
end Go.Fl

end
section
/-
  Links, fractions and numbers of firings as cells; slices whose variables take several cells.
-/
namespace Go.Vm
open Go.Fl
section
variable {P : Program} {σ : List VObj} {kn : Kn} {dst : Option Tmp} {ty : TypeId} {pos : String} {af : Array Edge} {g : Option (Nat × Bool)}
theorem K.makeK {t e : TypeId} {x y : Operand} {m c : Nat} {z : Value} {k : Nat} (hx : evK kn x = some (.d (DI m))) (hy : evK kn y = some (.d (DI c))) (hmc : m ≤ c) (hm : c ≤ 1073741824) (ht : P.underlying t = some (.slice e)) (hs : sizeT P e = some k) (hz : zeroT P e = some z) (hby : bytesT P e ≤ 65536) :
    KEv P ⟨dst, .makeSlice t x y, ty, pos, af, g⟩ σ kn (.osl σ.length 0 m k c true) (σ ++ [⟨zeroRow z (c * k), 0⟩]) 3 := ev_op fun env he => by
  have e1 := evK_evalX he hx
  have e2 := evK_evalX he hy
  have hl : litOp P env ⟨dst, .makeSlice t x y, ty, pos, af, g⟩ = none := by
    unfold litOp
    rw [if_pos (by simp [Op.operands, isSelect, e1, e2, litOf])]
    have e3 : pureRun P (execOp (fun x => (litOf (evalX env x)).getD undef) ⟨dst, .makeSlice t x y, ty, pos, af, g⟩) = none := by
      obtain ⟨i, hi, hi1⟩ : ∃ i, P.info? e = some i ∧ i.size = k := by
        have := hs
        unfold sizeT at this
        cases hi : P.info? e with
        | none => rw [hi] at this; simp at this
        | some i => rw [hi] at this; simp at this; exact ⟨i, rfl, this⟩
      have hb : i.bytes ≤ 65536 := by have := hby; simpa [bytesT, hi] using this
      simp only [execOp, e1, e2, litOf, Option.getD_some]
      rw [pureRun_bind]
      have : pureRun P (Instr.makeSlice t (.int .i64 m) (.int .i64 c)) = none := by
        unfold Instr.makeSlice
        rw [pureRun_bind, pureRun_underlying ht]
        simp only [Option.bind_some]
        have w1 : IntKind.i64.wrap (m : Int) = m := wrap_id (by omega)
        have w2 : IntKind.i64.wrap (c : Int) = c := wrap_id (by omega)
        rw [pureRun_bind]
        show (some (m : Int)).bind _ = _
        simp only [Option.bind_some]
        rw [pureRun_bind]
        show (some (c : Int)).bind _ = _
        simp only [Option.bind_some]
        rw [pureRun_bind]
        have hti : pureRun P (typeInfo e) = some i := by
          unfold typeInfo
          rw [pureRun_bind]
          show (some P).bind _ = _
          simp only [Option.bind_some, hi]; rfl
        rw [hti]
        simp only [Option.bind_some, w1, w2]
        have hbb : (i.bytes : Int) * c ≤ 2 ^ 48 := by
          have : i.bytes * c ≤ 65536 * 1073741824 := Nat.mul_le_mul hb hm
          have h3 : ((i.bytes * c : Nat) : Int) = (i.bytes : Int) * c := by rw [Int.natCast_mul]
          omega
        have hno : ¬ ((decide ((c : Int) < 0) || decide ((i.bytes : Int) * c > 2 ^ 48) || decide ((m : Int) < 0) || decide ((m : Int) > c)) = true) := by simp; omega
        rw [if_neg hno]
        rw [pureRun_bind]
        have hask : ∀ k : Nat, pureRun P (askRoom k) = some () ∨ pureRun P (askRoom k) = none := by
          intro k; unfold askRoom; split
          · left; rfl
          · left; rfl
        rcases hask ((c : Int).toNat * i.bytes) with h | h
        · rw [h]
          simp only [Option.bind_some]
          rw [pureRun_bind]
          have hsz : pureRun P (sizeOf e) = some k := by
            unfold sizeOf
            rw [pureRun_bind, hti]
            show some i.size = _
            rw [hi1]
          rw [hsz]
          simp only [Option.bind_some]
          split
          · rfl
          · rw [pureRun_bind]
            cases hz : pureRun P (zeroValue e) with
            | none => rfl
            | some z => rfl
        · rw [h]; rfl
      rw [this]; rfl
    rw [e3]
  unfold evalOp
  rw [hl]
  have c1 : (m : Int) ≤ (c : Int) := by omega
  have c2 : (c : Int) ≤ 1073741824 := by omega
  simp [e1, e2, opMakeSlice, litOf, ht, hs, hz, hby, c1, c2]

theorem K.idxOK {x i : Operand} {t e : TypeId} {id off len lo m k : Nat} {ex : Bool} (hx : evK kn x = some (.osl id off len k lo ex)) (hi : evK kn i = some (.d (DI (m : Int)))) (hm : m < len) (ht : P.underlying t = some (.slice e)) (hs : sizeT P e = some k) :
    KEv P ⟨dst, .indexAddr t x i, ty, pos, af, g⟩ σ kn (.optr id (off + m * k)) σ 0 := ev_op fun env he => by
  have e1 := evK_evalX he hx
  have e2 := evK_evalX he hi
  unfold evalOp
  rw [litOp_none (x := x) (by simp [Op.operands]) (by rw [e1]; rfl)]
  have h1 : (m : Int) < (len : Int) := by omega
  simp [e1, e2, opIndexAddr, litOf, ht, hs, h1]
theorem K.idxDK {x i : Operand} {t e : TypeId} {cs : List DV} {len m k : Nat} {cap : Option Nat} (hx : evK kn x = some (.d (.sl cs len cap))) (hi : evK kn i = some (.d (DI (m : Int)))) (hm : m < len) (ht : P.underlying t = some (.slice e)) (hs : sizeT P e = some k) :
    KEv P ⟨dst, .indexAddr t x i, ty, pos, af, g⟩ σ kn (.d (.ptr (cs.drop (m * k)))) σ 0 := ev_op fun env he => by
  have e1 := evK_evalX he hx
  have e2 := evK_evalX he hi
  unfold evalOp
  rw [litOp_none (x := x) (by simp [Op.operands]) (by rw [e1]; rfl)]
  have h1 : (m : Int) < (len : Int) := by omega
  simp [e1, e2, opIndexAddr, litOf, ht, hs, h1]
theorem K.lenD {x : Operand} {t e : TypeId} {cs : List DV} {len : Nat} {cap : Option Nat} (hx : evK kn x = some (.d (.sl cs len cap))) (ht : P.underlying t = some (.slice e)) : KEv P ⟨dst, .call ⟨.builtin .len, #[x], #[t]⟩, ty, pos, af, g⟩ σ kn (.d (DI len)) σ 0 := ev_op fun env he => by
  have e1 := evK_evalX he hx
  unfold evalOp
  rw [litOp_none (x := x) (by simp [Op.operands, Call.operands]) (by rw [e1]; rfl)]
  simp [e1, opLen, isSliceT, ht]
end

/-- A link of any numbers. -/
structure LZ where
  f : Int
  t : Int
  g : Int
  k : Int
  s : Int
def _root_.Go.Fl.LN.z (l : LN) : LZ := ⟨l.f, l.t, l.g, l.k, l.s⟩
def lk5 (l : LZ) : List DV := [DI l.f, DI l.t, DI l.g, DI l.k, DI l.s]
def flatK (L : List LZ) : List DV := L.flatMap lk5
/-- A slice of links. -/
inductive Lks : DV → List LZ → Prop
  | nil : Lks Dnil []
  | sl {L : List LZ} {cap : Option Nat} : Lks (.sl (flatK L) L.length cap) L
theorem flatK_len (L : List LZ) : (flatK L).length = L.length * 5 := by
  induction L with
  | nil => rfl
  | cons r rows ih => simp [flatK] at ih ⊢; rw [ih]; simp [lk5]; omega
theorem flatK_drop : ∀ (L : List LZ) (m : Nat) (h : m < L.length), (flatK L).drop (m * 5) = lk5 L[m] ++ flatK (L.drop (m + 1))
  | [], _, h => by simp at h
  | r :: L, 0, _ => by simp [flatK]
  | r :: L, m + 1, h => by
    have := flatK_drop L m (by simpa using h)
    rw [show flatK (r :: L) = lk5 r ++ flatK L from rfl, Nat.add_mul, Nat.one_mul, List.drop_append]
    rw [List.drop_eq_nil_of_le (by simp [lk5]), show m * 5 + 5 - (lk5 r).length = m * 5 by simp [lk5]]
    simpa using this
theorem flatK_take (L : List LZ) (m : Nat) (h : m < L.length) : ((flatK L).drop (m * 5)).take 5 = lk5 L[m] := by
  rw [flatK_drop _ _ h]; rfl
theorem flatK_snoc (L : List LZ) (l : LZ) : flatK (L ++ [l]) = flatK L ++ lk5 l := by simp [flatK]
section
variable {P : Program} {n : Nat} {ops : Array Oper} {l : List Oper} {σ : List VObj} {kn : Kn} {dst : Option Tmp} {ty : TypeId} {pos : String} {af : Array Edge} {g : Option (Nat × Bool)} {R : List Nat → List VObj → Kn → Prop}
theorem K.lenL {x : Operand} {t e : TypeId} {d : DV} {L : List LZ} (hx : evK kn x = some (.d d)) (hL : Lks d L) (ht : P.underlying t = some (.slice e)) : KEv P ⟨dst, .call ⟨.builtin .len, #[x], #[t]⟩, ty, pos, af, g⟩ σ kn (.d (DI (L.length : Nat))) σ 0 := by
  cases hL with
  | nil => exact K.len (R := IsI) (l := []) hx .nil ht
  | sl => exact K.lenD hx ht
/-- A link of a slice of links. -/
theorem K.idxL {x i : Operand} {t e : TypeId} {d : DV} {L : List LZ} {m : Nat} (hx : evK kn x = some (.d d)) (hL : Lks d L) (hi : evK kn i = some (.d (DI (m : Int)))) (hm : m < L.length) (ht : P.underlying t = some (.slice e)) (hs : sizeT P e = some 5) :
    KEv P ⟨dst, .indexAddr t x i, ty, pos, af, g⟩ σ kn (.d (.ptr ((flatK L).drop (m * 5)))) σ 0 := by
  cases hL with
  | nil => simp at hm
  | sl => exact K.idxDK hx hi hm ht hs
theorem K.loadL {x : Operand} {t : TypeId} {L : List LZ} {m : Nat} (hm : m < L.length) (hx : evK kn x = some (.d (.ptr ((flatK L).drop (m * 5))))) (ht : isAggT P t = some true) (hs : sizeT P t = some 5) :
    KEv P ⟨dst, .load t x, ty, pos, af, g⟩ σ kn (.d (.agg (lk5 L[m]))) σ 0 := by
  rw [← flatK_take L m hm]
  exact K.loadAgg (m := 5) hx ht hs (by rw [List.length_drop, flatK_len]; omega)
/-- A field of a link of a slice of links. -/
theorem K.loadLF {x : Operand} {t : TypeId} {L : List LZ} {m : Nat} (j : Nat) {c : DV} (hm : m < L.length) (hx : evK kn x = some (.d (.ptr (((flatK L).drop (m * 5)).drop j)))) (hc : (lk5 L[m])[j]? = some c) (ht : isAggT P t = some false) :
    KEv P ⟨dst, .load t x, ty, pos, af, g⟩ σ kn (.d c) σ 0 := by
  have hj : j < 5 := by
    have := (List.getElem?_eq_some_iff.1 hc).1
    simpa [lk5] using this
  have e : ((flatK L).drop (m * 5)).drop j = c :: (lk5 L[m]).drop (j + 1) ++ flatK (L.drop (m + 1)) := by
    rw [flatK_drop _ _ hm, List.drop_append_of_le_length (by simp [lk5]; omega)]
    rw [List.drop_eq_getElem_cons (by simp [lk5]; omega)]
    rw [(List.getElem?_eq_some_iff.1 hc).2]
  rw [e] at hx
  exact K.load hx ht
end

/-- How often each actor fires: six cells. -/
def wN (X : Nat → Nat) : List DV := (List.range 6).map fun i => DI (X i : Nat)
abbrev wX (X : Nat → Nat) : List XV := (wN X).map .d
theorem wN_len (X : Nat → Nat) : (wN X).length = 6 := by simp [wN]
theorem wX_len (X : Nat → Nat) : (wX X).length = 6 := by simp [wN]
theorem wX_get (X : Nat → Nat) {i : Nat} (hi : i < 6) : (wX X)[0 + i * 1]? = some (.d (DI (X i : Nat))) := by
  rw [Nat.zero_add, Nat.mul_one]; simp [wN, hi]
theorem wN_get (X : Nat → Nat) {i : Nat} (hi : i < 6) : (wN X)[i]? = some (DI (X i : Nat)) := by simp [wN, hi]
theorem wN_drop (X : Nat → Nat) {i : Nat} (hi : i < 6) : (wN X).drop (i * 1) = DI (X i : Nat) :: (wN X).drop (i + 1) := by
  rw [Nat.mul_one, List.drop_eq_getElem_cons (by simp [wN]; omega)]
  simp [wN]
theorem wX_set (X : Nat → Nat) {i : Nat} (hi : i < 6) (v : Nat) : (wX X).set (0 + i * 1) (.d (DI (v : Nat))) = wX fun j => if j = i then v else X j := by
  rw [Nat.zero_add, Nat.mul_one]
  refine List.ext_getElem? fun k => ?_
  rw [List.getElem?_set]
  by_cases hk : k < 6
  · by_cases e : i = k
    · subst e; simp [wN, hk]
    · rw [if_neg e]
      simp only [wX, wN, List.getElem?_map, List.getElem?_range hk, Option.map_some, Option.some.injEq, XV.d.injEq]
      rw [if_neg (fun h => e h.symm)]
  · rw [if_neg (by omega), List.getElem?_eq_none (by simp [wN]; omega), List.getElem?_eq_none (by simp [wN]; omega)]
theorem wX_bump (X : Nat → Nat) {i : Nat} (hi : i < 6) : (wX X).set (0 + i * 1) (.d (DI ((X i : Nat) + 1 : Int))) = wX (bump X i) := by
  have := wX_set X hi (X i + 1)
  rw [show (((X i + 1 : Nat) : Int)) = (X i : Int) + 1 by omega] at this
  rw [this]
  congr 2
  funext j
  unfold bump
  split
  · rename_i e; subst e; rfl
  · rfl
theorem wN_agg (X : Nat → Nat) : aggX (((wX X).drop 0).take 6) = .d (.agg (wN X)) := by
  rw [List.drop_zero, List.take_of_length_le (by simp [wN]), aggX_d]
theorem wN_zero : ([DI 0, DI 0, DI 0, DI 0, DI 0, DI 0] : List DV) = wN fun _ => 0 := rfl

/-- Fractions: two cells each. -/
def frN (N : Nat) (R : Rat6) : List DV := (List.range (N * 2)).map fun j => if j % 2 = 0 then DI ((R (j / 2)).1 : Nat) else DI ((R (j / 2)).2 : Nat)
abbrev frX (N : Nat) (R : Rat6) : List XV := (frN N R).map .d
theorem frN_len (N : Nat) (R : Rat6) : (frN N R).length = N * 2 := by simp [frN]
theorem frN_take (N : Nat) (R : Rat6) {m : Nat} (hm : m < N) : ((frN N R).drop (m * 2)).take 2 = [DI ((R m).1 : Nat), DI ((R m).2 : Nat)] := by
  refine List.ext_getElem? fun k => ?_
  rw [List.getElem?_take, List.getElem?_drop]
  unfold frN
  by_cases hk : k < 2
  · rw [if_pos hk, List.getElem?_map, List.getElem?_range (by omega)]
    simp only [Option.map_some]
    rcases (show k = 0 ∨ k = 1 by omega) with rfl | rfl
    · rw [if_pos (by omega), show (m * 2 + 0) / 2 = m by omega]; rfl
    · rw [if_neg (by omega), show (m * 2 + 1) / 2 = m by omega]; rfl
  · rw [if_neg hk]
    rw [List.getElem?_eq_none (by simp; omega)]
theorem frX_take (N : Nat) (R : Rat6) {m : Nat} (hm : m < N) : aggX (((frX N R).drop (0 + m * 2)).take 2) = .d (.agg [DI ((R m).1 : Nat), DI ((R m).2 : Nat)]) := by
  rw [Nat.zero_add, ← List.map_drop, ← List.map_take, frN_take N R hm]; rfl
theorem frX_splice (N : Nat) (R : Rat6) {m : Nat} (hm : m < N) (v : Fra) : splice (frX N R) (0 + m * 2) [.d (DI (v.1 : Nat)), .d (DI (v.2 : Nat))] = frX N (setF R m v) := by
  rw [Nat.zero_add]
  refine List.ext_getElem? fun k => ?_
  rw [getElem?_splice _ _ _ (by simp [frN]; omega)]
  simp only [List.length_cons, List.length_nil]
  unfold frX frN
  by_cases hk : k < N * 2
  · by_cases h : m * 2 ≤ k ∧ k < m * 2 + 2
    · rw [if_pos h]
      simp only [List.getElem?_map, List.getElem?_range hk, Option.map_some]
      unfold setF
      rw [show k / 2 = m by omega]
      rcases (show k = m * 2 ∨ k = m * 2 + 1 by omega) with rfl | rfl
      · rw [Nat.sub_self, if_pos (by omega), if_pos rfl]; rfl
      · rw [show m * 2 + 1 - m * 2 = 1 by omega, if_neg (by omega), if_pos rfl]; rfl
    · rw [if_neg h]
      simp only [List.getElem?_map, List.getElem?_range hk, Option.map_some]
      unfold setF
      have hn : ¬ k / 2 = m := by omega
      simp only [hn, if_false]
  · rw [if_neg (by omega), List.getElem?_eq_none (by simp; omega), List.getElem?_eq_none (by simp; omega)]
theorem frX_zero {N : Nat} {z : Value} (hz : z.cells = #[.int .i64 0, .int .i64 0]) : zeroRow z (N * 2) = frX N fun _ => (0, 0) := by
  unfold zeroRow frX frN
  rw [List.map_map]
  refine List.map_congr_left fun j _ => ?_
  rw [hz]
  simp only [Function.comp]
  have : j % 2 = 0 ∨ j % 2 = 1 := by omega
  rcases this with h | h
  · rw [if_pos h]; simp [h]
  · rw [if_neg (by omega)]; simp [h]
end Go.Vm

end
section
/-
  Scopes with a label that nothing jumps to.
-/
namespace Go.Vm
open Go.Fl
section
variable {P : Program} {M : Nat → Prop} {W0 : World} {n : Nat} {σ : List VObj} {kn : Kn}
theorem stepR_scope {b : Frame} {a : Act} {k : List Item} {cs : List Frame} {w : World} {c : Code} : step P (lone (b.atR a (.code (.scope c) :: k)) cs w) = .next (lone (b.atR a (.code c :: .inScope c :: k)) cs w) :=
  step_lone_go (by simp [stepG, stepG.exec, Frame.atR])
theorem stepR_inScope {b : Frame} {a : Act} {k : List Item} {cs : List Frame} {w : World} {c : Code} : step P (lone (b.atR a (.inScope c :: k)) cs w) = .next (lone (b.atR a k) cs w) :=
  step_lone_go (by simp [stepG, stepG.exec, Frame.atR])
theorem wpIn_scope_straight {F : Fence} {n : Nat} {Q : Exit → Act → World → Prop} {a : Act} {w : World} {c : Code} (h : c.wpIn F n P (Exit.noGoto Q) a w) : (Code.scope c).wpIn F n P Q a w := by
  intro b k cs hro hb hr
  have h0 : (lone (b.atR a (.code (.scope c) :: k)) cs w).fenced P F := fenced_calm hb hr rfl
  obtain ⟨e, a₁, w₁, hq, harr⟩ := h b (.inScope c :: k) cs hro hb hr
  cases e with
  | normal => exact ⟨.normal, a₁, w₁, hq, .head h0 stepR_scope (StepsIn.trans harr (.one (fenced_calm hb hr rfl) stepR_inScope))⟩
  | exit id =>
    have hx : exitTo id (.inScope c :: k) = exitTo id k := by simp [exitTo]
    exact ⟨.exit id, a₁, w₁, hq, fun k' hk => .head h0 stepR_scope (harr.1 k' (by rw [hx]; exact hk)), fun hr' hk => let ⟨k₁, h1, h2⟩ := harr.2 hr' (by rw [hx]; exact hk); ⟨k₁, h1, .head h0 stepR_scope h2⟩⟩
  | goto l => exact hq.elim
  | ret => exact ⟨_, a₁, w₁, hq, .of_steps (.one h0 stepR_scope) harr⟩
  | panic ch => exact ⟨_, a₁, w₁, hq, .of_steps (.one h0 stepR_scope) harr⟩
  | outgrown => exact ⟨_, a₁, w₁, hq, .of_steps (.one h0 stepR_scope) harr⟩
def noGotoK (T : Exit → List VObj → Kn → Prop) : Exit → List VObj → Kn → Prop
  | .goto _, _, _ => False
  | e, σ, k => T e σ k
theorem Wp.scope {c : Code} {s : St} {T : Exit → St → Prop} (h : Wp P M W0 n c s (fun e s => match e with | .goto _ => False | e => T e s)) : Wp P M W0 n (.scope c) s T :=
  fun C ι a w hf Q hq => wpIn_scope_straight (h C ι a w hf (Exit.noGoto Q) fun e ι' s' a' w' h1 h2 h3 => by
    cases e with
    | goto l => exact h1.elim
    | normal => exact hq _ ι' s' a' w' h1 h2 h3
    | exit id => exact hq _ ι' s' a' w' h1 h2 h3
    | ret => exact hq _ ι' s' a' w' h1 h2 h3
    | panic ch => exact hq _ ι' s' a' w' h1 h2 h3
    | outgrown => exact hq _ ι' s' a' w' h1 h2 h3)
theorem KC.scope {c : Code} {T : Exit → List VObj → Kn → Prop} (h : KC P M W0 n c σ kn (noGotoK T)) : KC P M W0 n (.scope c) σ kn T := fun env he =>
  Wp.scope ((h env he).mono fun e s ⟨kn', h1, h2⟩ => by
    cases e with
    | goto l => exact h2.elim
    | normal => exact ⟨kn', h1, h2⟩
    | exit id => exact ⟨kn', h1, h2⟩
    | ret => exact ⟨kn', h1, h2⟩
    | panic ch => exact ⟨kn', h1, h2⟩
    | outgrown => exact ⟨kn', h1, h2⟩)
theorem KC.label {l : Nat} {T : Exit → List VObj → Kn → Prop} (h : T .normal σ kn) : KC P M W0 n (.label l) σ kn T := fun _ he => Wp.label ⟨kn, he, h⟩
variable {T : Exit → List VObj → Kn → Prop} {id : Nat}
theorem noGotoK_n (h : T .normal σ kn) : noGotoK T .normal σ kn := h
theorem noGotoK_r (h : T .ret σ kn) : noGotoK T .ret σ kn := h
theorem noGotoK_x (h : T (.exit id) σ kn) : noGotoK T (.exit id) σ kn := h
end
section
variable {P : Program} {σ : List VObj} {kn : Kn} {dst : Option Tmp} {ty : TypeId} {pos : String} {af : Array Edge} {g : Option (Nat × Bool)}
/-- An element of an array that is read as a value. -/
theorem K.indexA {t e : TypeId} {x i : Operand} {ds : List DV} {m len k : Nat} {d : DV} (hx : evK kn x = some (.d (.agg ds))) (hi : evK kn i = some (.d (DI (m : Int)))) (hm : m < len) (ht : P.underlying t = some (.array len e)) (hs : sizeT P e = some k) (ha : isAggT P e = some false) (hd : ds[m * k]? = some d) :
    KEv P ⟨dst, .index t x i, ty, pos, af, g⟩ σ kn (.d d) σ 0 := ev_op fun env he => by
  have e1 := evK_evalX he hx
  have e2 := evK_evalX he hi
  unfold evalOp
  rw [litOp_none (x := x) (by simp [Op.operands]) (by rw [e1]; rfl)]
  have h1 : (m : Int) < (len : Int) := by omega
  have e3 : ((ds.map XV.d).drop (m * k)).head? = some (.d d) := by rw [List.head?_drop, List.getElem?_map, hd]; rfl
  simp [e1, e2, opIndex, litOf, ht, aggCells, hs, h1, takeVar, ha]
  simpa using e3
/-- A struct or an array in a variable of one's own. -/
theorem K.loadOA {x : Operand} {t : TypeId} {id m md : Nat} (ds : List DV) (hx : evK kn x = some (.optr id 0)) (ho : σ[id]? = some ⟨ds.map .d, md⟩) (h2 : md < 2) (ha : isAggT P t = some true) (hs : sizeT P t = some m) (hm : ds.length = m) :
    KEv P ⟨dst, .load t x, ty, pos, af, g⟩ σ kn (.d (.agg ds)) σ 1 := by
  have h := K.loadOAgg (dst := dst) (ty := ty) (pos := pos) (af := af) (g := g) hx ho h2 ha hs (by simp; omega)
  rwa [List.drop_zero, List.take_of_length_le (by simp; omega), aggX_d] at h
/-- A link of a slice of links of a valid graph. -/
theorem K.idxN {x i : Operand} {t e : TypeId} {d : DV} {L : List LN} {m : Nat} (hx : evK kn x = some (.d d)) (hL : Lks d (L.map LN.z)) (hi : evK kn i = some (.d (DI (m : Int)))) (hm : m < L.length) (ht : P.underlying t = some (.slice e)) (hs : sizeT P e = some 5) :
    KEv P ⟨dst, .indexAddr t x i, ty, pos, af, g⟩ σ kn (.d (.ptr ((flatK (L.map LN.z)).drop (m * 5)))) σ 0 := K.idxL hx hL hi (by simpa using hm) ht hs
theorem K.loadN {x : Operand} {t : TypeId} {L : List LN} {m : Nat} (hm : m < L.length) (hx : evK kn x = some (.d (.ptr ((flatK (L.map LN.z)).drop (m * 5))))) (ht : isAggT P t = some true) (hs : sizeT P t = some 5) :
    KEv P ⟨dst, .load t x, ty, pos, af, g⟩ σ kn (.d (.agg (lk5 L[m].z))) σ 0 := by
  have h := K.loadL (σ := σ) (dst := dst) (ty := ty) (pos := pos) (af := af) (g := g) (L := L.map LN.z) (m := m) (by simpa using hm) hx ht hs
  rwa [List.getElem_map] at h
theorem K.lenN {x : Operand} {t e : TypeId} {d : DV} {L : List LN} (hx : evK kn x = some (.d d)) (hL : Lks d (L.map LN.z)) (ht : P.underlying t = some (.slice e)) : KEv P ⟨dst, .call ⟨.builtin .len, #[x], #[t]⟩, ty, pos, af, g⟩ σ kn (.d (DI (L.length : Nat))) σ 0 := by
  have h := K.lenL (σ := σ) (dst := dst) (ty := ty) (pos := pos) (af := af) (g := g) hx hL ht
  rwa [List.length_map] at h
/-- A fraction of a slice of fractions that is read. -/
theorem K.loadF {x : Operand} {t : TypeId} {N m : Nat} {R : Rat6} (hm : m < N) (hx : evK kn x = some (.d (.ptr ((frN N R).drop (m * 2))))) (ht : isAggT P t = some true) (hs : sizeT P t = some 2) :
    KEv P ⟨dst, .load t x, ty, pos, af, g⟩ σ kn (.d (.agg [DI ((R m).1 : Nat), DI ((R m).2 : Nat)])) σ 0 := by
  rw [← frN_take N R hm]
  exact K.loadAgg (m := 2) hx ht hs (by rw [List.length_drop, frN_len]; omega)
/-- .. of one's own. -/
theorem K.loadOF {x : Operand} {t : TypeId} {N m id md : Nat} {R : Rat6} (hm : m < N) (hx : evK kn x = some (.optr id (0 + m * 2))) (ho : σ[id]? = some ⟨frX N R, md⟩) (h2 : md < 2) (ht : isAggT P t = some true) (hs : sizeT P t = some 2) :
    KEv P ⟨dst, .load t x, ty, pos, af, g⟩ σ kn (.d (.agg [DI ((R m).1 : Nat), DI ((R m).2 : Nat)])) σ 1 := by
  rw [← frX_take N R hm]
  exact K.loadOAgg (m := 2) hx ho h2 ht hs (by simp [frN_len]; omega)
theorem tmodN (a b : Nat) : Int.tmod (a : Int) (b : Int) = ((a % b : Nat) : Int) := by rw [Int.tmod_eq_emod_of_nonneg (by omega)]; rfl
theorem tdivN (a b : Nat) : Int.tdiv (a : Int) (b : Int) = ((a / b : Nat) : Int) := by rw [Int.tdiv_eq_ediv_of_nonneg (by omega)]; rfl
theorem wrapN {a : Nat} (h : a ≤ 9223372036854775807) : IntKind.i64.wrap (a : Int) = (a : Int) := wrap_id (by omega)
theorem mulN {a b : Nat} (h : a * b ≤ 9223372036854775807) : IntKind.i64.wrap ((a : Int) * (b : Int)) = ((a * b : Nat) : Int) := by rw [← Int.natCast_mul]; exact wrapN h
theorem addN {a b : Nat} (h : a + b ≤ 9223372036854775807) : IntKind.i64.wrap ((a : Int) + (b : Int)) = ((a + b : Nat) : Int) := by rw [← Int.natCast_add]; exact wrapN h
theorem divN {a b : Nat} (h : a ≤ 9223372036854775807) : IntKind.i64.wrap (Int.tdiv (a : Int) (b : Int)) = ((a / b : Nat) : Int) := by rw [tdivN]; exact wrapN (Nat.le_trans (Nat.div_le_self _ _) h)
theorem oneN {a : Nat} (h : a < 9223372036854775807) : IntKind.i64.wrap ((a : Int) + 1) = ((a + 1 : Nat) : Int) := by rw [wrap_id (by omega)]; omega
theorem splice_all {α : Type} {cells cs : List α} (h : cells.length = cs.length) : splice cells 0 cs = cs := by
  simp [splice, List.drop_eq_nil_of_le (show cells.length ≤ cs.length by omega)]
end
section
variable {P : Program} {σ : List VObj} {kn : Kn}
/-- Two results, the first of which lies in a variable. -/
theorem resK_ct {fn : Func} {a t b id m md : Nat} (ds : List DV) {y : XV} (hr : fn.results = #[.cell a t, .tmp b]) (hl : look kn a = some (.optr id 0)) (ho : σ[id]? = some ⟨ds.map .d, md⟩) (h2 : md < 2) (ha : isAggT P t = some true) (hs : sizeT P t = some m) (hm : ds.length = m) (hy : look kn b = some y) :
    resK P fn σ kn = some (.tup [.d (.agg ds), y]) := by
  unfold resK
  rw [hr]
  have e : resVarK P σ kn (.cell a t) = some (.d (.agg ds)) := by
    simp only [resVarK, hl, Option.bind_some, opLoad, ho]
    rw [if_neg (fun h => h h2)]
    simp only [takeVar, ha, hs, List.drop_zero]
    rw [if_pos (by simp; omega), List.take_of_length_le (by simp; omega), aggX_d]; rfl
  have e2 : resVarK P σ kn (.tmp b) = some y := hy
  simp only [List.mapM_cons, List.mapM_nil, e, e2]
  rfl
/-- Three results, the first of which lies in a variable. -/
theorem resK_ctt {fn : Func} {a t b c id m md : Nat} (ds : List DV) {y z : XV} (hr : fn.results = #[.cell a t, .tmp b, .tmp c]) (hl : look kn a = some (.optr id 0)) (ho : σ[id]? = some ⟨ds.map .d, md⟩) (h2 : md < 2) (ha : isAggT P t = some true) (hs : sizeT P t = some m) (hm : ds.length = m) (hy : look kn b = some y) (hz : look kn c = some z) :
    resK P fn σ kn = some (.tup [.d (.agg ds), y, z]) := by
  unfold resK
  rw [hr]
  have e : resVarK P σ kn (.cell a t) = some (.d (.agg ds)) := by
    simp only [resVarK, hl, Option.bind_some, opLoad, ho]
    rw [if_neg (fun h => h h2)]
    simp only [takeVar, ha, hs, List.drop_zero]
    rw [if_pos (by simp; omega), List.take_of_length_le (by simp; omega), aggX_d]; rfl
  have e2 : resVarK P σ kn (.tmp b) = some y := hy
  have e3 : resVarK P σ kn (.tmp c) = some z := hz
  simp only [List.mapM_cons, List.mapM_nil, e, e2, e3]
  rfl
end
section
variable {P : Program} {σ : List VObj} {kn : Kn} {dst : Option Tmp} {ty : TypeId} {pos : String} {af : Array Edge} {g : Option (Nat × Bool)}
/-- append(nil, s...), s a slice of the call's own, not empty. -/
theorem K.appNil {t e : TypeId} {x y : Operand} {id off m lo : Nat} {ex : Bool} {ob : VObj} {z : Value} (hx : evK kn x = some (.d Dnil)) (hy : evK kn y = some (.osl id off m 1 lo ex)) (ho : σ[id]? = some ob) (h2 : ob.mode < 2)
    (hf : off + m ≤ ob.cells.length) (h1v : ((ob.cells.drop off).take m).all oneX = true) (h0 : m ≠ 0) (hlen : m ≤ 1073741824) (ht : P.underlying t = some (.slice e)) (h1 : OneT P e z) :
    KEv P ⟨dst, .call ⟨.builtin .append, #[x, y], #[t, t]⟩, ty, pos, af, g⟩ σ kn (.osl σ.length 0 m 1 m false) (σ ++ [⟨(ob.cells.drop off).take m, 0⟩]) 2 := ev_op fun env he => by
  have e1 := evK_evalX he hx
  have e2 := evK_evalX he hy
  have hz : (zeroT P e).map (·.cells.size) = some 1 := by rw [h1.zero]; simp [h1.cells]
  unfold evalOp
  rw [litOp_none (x := y) (by simp [Op.operands, Call.operands]) (by rw [e2]; rfl)]
  have e3 : srcCells σ 1 (.osl id off m 1 lo ex) = some ((ob.cells.drop off).take m, m, 1) := by
    simp only [srcCells, ho]
    rw [if_pos ⟨h2, trivial, by omega⟩, Nat.mul_one]
  simp [e1, e2, opAppend, ht, h1.size, e3, h0, growTo, hlen, h1.bytes, hz]
  rw [if_pos (by simpa using h1v)]
end
/-- The first numbers as a slice. -/
def seqD (q : Nat → Nat) (N : Nat) : DV := .sl ((List.range N).map fun i => DI (q i : Nat)) N none
theorem seqD_ints (q : Nat → Nat) (N : Nat) : Ints (seqD q N) ((List.range N).map fun i => (q i : Int)) := by
  have : Ints (.sl ((List.range N).map fun i => DI (q i : Nat)) ((List.range N).map fun i => (q i : Int)).length none) ((List.range N).map fun i => (q i : Int)) := .sl (by simp) fun i c x hc hx => by
    by_cases hi : i < N
    · simp [hi] at hc hx; subst hc hx; rfl
    · simp [hi] at hc
  rw [List.length_map, List.length_range] at this
  exact this
theorem wX_take (q : Nat → Nat) {N : Nat} (hN : N ≤ 6) : ((wX q).drop 0).take N = ((List.range N).map fun i => DI (q i : Nat)).map .d := by
  refine List.ext_getElem? fun k => ?_
  rw [List.drop_zero, List.getElem?_take]
  by_cases hk : k < N
  · rw [if_pos hk]; simp [wN, hk, show k < 6 by omega]
  · rw [if_neg hk, List.getElem?_eq_none (by simp; omega)]
/-- A list of numbers as a slice. -/
def lsD (s : List Int) : DV := slOf (s.map DI)
theorem lsD_ints (m : List Int) : Ints (lsD m) m := by
  cases m with
  | nil => exact .nil
  | cons a l =>
    have : Ints (.sl ((a :: l).map DI) (a :: l).length none) (a :: l) := .sl (by simp) fun i c x hc hx => by
      rw [List.getElem?_map, hx] at hc
      simp at hc; exact hc.symm
    have e : (a :: l).length = ((a :: l).map DI).length := by simp
    rw [e] at this
    exact this
theorem deepen_tup2 {σ : List VObj} {k : Nat} {x : XV} {dx y : DV} (h : deepen σ (k + 1) x = some dx) : deepen σ (k + 2) (.tup [x, .d y]) = some (.tup [dx, y]) := by
  show (([x, .d y] : List XV).mapM (deepen σ (k + 1))).map DV.tup = _
  rw [List.mapM_cons, h]; rfl
theorem deepen_tup3 {σ : List VObj} {k : Nat} {x : XV} {dx a y : DV} (h : deepen σ (k + 1) x = some dx) : deepen σ (k + 2) (.tup [.d a, x, .d y]) = some (.tup [a, dx, y]) := by
  show (([.d a, x, .d y] : List XV).mapM (deepen σ (k + 1))).map DV.tup = _
  rw [List.mapM_cons, List.mapM_cons, h]; rfl
theorem ownK_own {σ : List VObj} {x : XV} {cells : List XV} (h : OwnK 1 σ x cells) : Own σ x cells := by
  cases h with
  | nil => exact .nil
  | @sl id n cells h hn =>
    have : n = cells.length := by omega
    subst this
    exact .sl h
theorem freezeIds_not {σ : List VObj} {ids : List Nat} {j : Nat} (h : j ∉ ids) : (freezeIds σ ids)[j]? = σ[j]? := by
  unfold freezeIds
  rw [List.getElem?_mapIdx]
  cases hs : σ[j]? with
  | none => rfl
  | some o => simp [h]
theorem freezeIds_in {σ : List VObj} {ids : List Nat} {j : Nat} {cs : List XV} (h : j ∈ ids) (hs : σ[j]? = some ⟨cs, 0⟩) : (freezeIds σ ids)[j]? = some ⟨cs, 1⟩ := by
  unfold freezeIds
  rw [List.getElem?_mapIdx, hs]
  simp [h]
section
variable {P : Program} {σ : List VObj} {kn : Kn} {dst : Option Tmp} {ty : TypeId} {pos : String} {af : Array Edge} {g : Option (Nat × Bool)}
theorem K.buildC {t e : TypeId} {x : Operand} {k : Nat} {v : XV} {cs : List XV} {z : Value} (hx : evK kn x = some v) (hc : cellsX v = cs) (hk : cs.length = k) (ht : P.underlying t = some (.slice e)) (hs : sizeT P e = some k) (hz : zeroT P e = some z) (hk2 : k ≤ 16777216) :
    KEv P ⟨dst, .buildSlice t 1 #[(0, x)], ty, pos, af, g⟩ σ kn (.osl σ.length 0 1 k 1 true) (σ ++ [⟨cs, 0⟩]) 3 := ev_op fun env he => by
  have e1 := evK_evalX he hx
  unfold evalOp
  rw [litOp_buildSlice]
  have h3 : splice (zeroRow z k) 0 cs = cs := by
    simp [splice, zeroRow, hk]
  simp [e1, opBuildSlice, ht, hs, hz, fillX, hc, zeroRow_len, hk, h3, hk2]
end
section
variable {P : Program} {n : Nat} {ops : Array Oper} {l : List Oper} {σ : List VObj} {kn : Kn} {dst : Option Tmp} {ty : TypeId} {pos : String} {af : Array Edge} {g : Option (Nat × Bool)} {R : List Nat → List VObj → Kn → Prop}
/-- A store into the newest object. -/
theorem KT.storeL {x y : Operand} {t : TypeId} {A : List VObj} {z cs : List XV} {v : XV} (hg : guardK ops kn ⟨dst, .store t x y, ty, pos, af, g⟩ = some true) (hd : dstOk n dst = true) (hx : evK kn x = some (.optr A.length 0)) (hy : evK kn y = some v)
    (hc : cellsX v = cs) (hz : z.length = cs.length) (h1 : cs.all oneX = true) (hs : sizeT P t = some cs.length) (h : KT P n ops l (A ++ [⟨cs, 0⟩]) (extK dst undefX kn) (fun fls τ k => R (2 :: fls) τ k)) :
    KT P n ops (⟨dst, .store t x y, ty, pos, af, g⟩ :: l) (A ++ [⟨z, 0⟩]) kn R := by
  subst hc
  refine KT.step hg hd (K.storeN hx hy (List.getElem?_concat_length ..) (by omega) h1 hs) ?_
  rw [splice_all hz]
  have e : (A ++ [(⟨z, 0⟩ : VObj)]).set A.length ⟨cellsX v, 0⟩ = A ++ [⟨cellsX v, 0⟩] := by
    rw [List.set_append_right _ _ (Nat.le_refl _), Nat.sub_self]; rfl
  rw [e]
  exact h
theorem get_left {A B : List VObj} {id : Nat} {o : VObj} (h : A[id]? = some o) : (A ++ B)[id]? = some o := by
  rw [List.getElem?_append_left (List.getElem?_eq_some_iff.1 h).1]; exact h
end
end Go.Vm

end
section
/-
  A STATEMENT WHOSE ORDER IS OPEN, WALKED THROUGH EVERY ORDER: for statements that make two objects.
-/
namespace Go.Vm
open Go.RowKit

/-- The operations that are left, in every order. -/
def KA (P : Program) (M : Nat → Prop) (W0 : World) (n : Nat) (ops : Array Oper) (T : List VObj → Kn → Prop) (fuel : Nat) (listed : Array Bool) (σ : List VObj) (kn : Kn) : Prop :=
  ∀ env, Agree kn env → ∀ (C : Ctx) (ι : List Nat) (a : Act) (w : World), Fr M W0 C n ι ⟨σ, env⟩ a w → ∀ Q : Exit → Act → World → Prop,
    (∀ (ι' : List Nat) (s' : St) (kn' : Kn) (a' : Act) (w' : World), T s'.σ kn' → Agree kn' s'.env → Fr M W0 C n ι' s' a' w' → Ext M ι σ w ι' s'.σ w' → Q .normal a' w') → wpAnyIn (FR C.ro) 0 P .any ops Q fuel listed a w

/-- One of them next. -/
def KO (P : Program) (M : Nat → Prop) (W0 : World) (n : Nat) (ops : Array Oper) (T : List VObj → Kn → Prop) (fuel : Nat) (listed : Array Bool) (σ : List VObj) (kn : Kn) (i : Nat) : Prop :=
  ∃ (o : Oper) (x : XV) (σ' : List VObj) (fl : Nat), ops[i]? = some o ∧ guardK ops kn o = some true ∧ dstOk n o.dst = true ∧ KEv P o σ kn x σ' fl ∧
    KA P M W0 n ops T fuel (listed.setIfInBounds i true) σ' (extK o.dst x kn)

def KAll (p : Nat → Prop) : List Nat → Prop
  | [] => True
  | i :: l => p i ∧ KAll p l
theorem KAll.mem {p : Nat → Prop} : ∀ {l : List Nat}, KAll p l → ∀ i ∈ l, p i
  | [], _, _, h => by simp at h
  | j :: l, h, i, hi => by
    rcases List.mem_cons.1 hi with e | e
    · subst e; exact h.1
    · exact h.2.mem i e

section
variable {P : Program} {M : Nat → Prop} {W0 : World} {n : Nat} {ops : Array Oper} {T : List VObj → Kn → Prop} {fuel : Nat} {listed : Array Bool} {σ : List VObj} {kn : Kn}
theorem KA.done (hr : Region.ready .any ops listed = []) (h : T σ kn) : KA P M W0 n ops T fuel listed σ kn := by
  intro env ha C ι a w hf Q hq
  have := hq ι ⟨σ, env⟩ kn a w h ha hf (.refl _ _ _ _)
  cases fuel with
  | zero => exact ⟨hr, this⟩
  | succ f => exact ⟨fun _ => this, fun i hi => by rw [hr] at hi; simp at hi⟩
theorem KA.next {i0 : Nat} {r : List Nat} (hr : Region.ready .any ops listed = i0 :: r) (h : KAll (KO P M W0 n ops T fuel listed σ kn) (i0 :: r)) : KA P M W0 n ops T (fuel + 1) listed σ kn := by
  intro env ha C ι a w hf Q hq
  refine ⟨fun h0 => by rw [hr] at h0; simp at h0, fun i hi => ?_⟩
  rw [hr] at hi
  obtain ⟨o, x, σ', fl, ho, hg, hd, he, hk⟩ := h.mem i hi
  unfold wpOpIn
  rw [ho]
  simp only
  rw [if_pos (by rw [guardX_sound hf.env (guardK_X ha hg)])]
  refine (he env ha).wp hf.mem hf.env fun ι' v w' h1 h2 h3 => ?_
  exact hk (putE env o.dst x) (ha.ext o.dst x) C ι' _ w' (hf.put hd h1 h2 h3) Q fun ι'' s' kn' a' w'' k0 k1 k2 k3 => hq ι'' s' kn' a' w'' k0 k1 k2 (h2.trans k3)
theorem KO.op {i : Nat} {o : Oper} {x : XV} {σ' : List VObj} {fl : Nat} (ho : ops[i]? = some o) (hg : guardK ops kn o = some true) (hd : dstOk n o.dst = true) (he : KEv P o σ kn x σ' fl)
    (h : KA P M W0 n ops T fuel (listed.setIfInBounds i true) σ' (extK o.dst x kn)) : KO P M W0 n ops T fuel listed σ kn i := ⟨o, x, σ', fl, ho, hg, hd, he, h⟩
theorem KC.orders (hm : P.follows .mixedOrders = true) {rid : Nat} {T : Exit → List VObj → Kn → Prop} (h : KA P M W0 n ops (T .normal) ops.size (Array.replicate ops.size false) σ kn) : KC P M W0 n (.region rid ops true) σ kn T := by
  intro env ha C ι a w hf Q hq
  have hmem : Mem M W0 ι σ { w with drawn := w.drawn + 1 } ∧ Ext M ι σ w ι σ { w with drawn := w.drawn + 1 } := hf.mem.grown (Below.drew (Below.refl _ _))
  exact wpIn_region_any hm (h env ha C ι a _ ⟨hmem.1, fun t => (hf.env t).ext hmem.2, hf.size, hf.defers.ext hmem.2, hf.round⟩ Q fun ι' s' kn' a' w' k0 k1 k2 k3 => hq .normal ι' s' a' w' ⟨kn', k1, k0⟩ k2 (hmem.2.trans k3))
theorem KC.ordersS (hm : P.follows .mixedOrders = true) {rid : Nat} {y : Code} {T : Exit → List VObj → Kn → Prop} (h : KA P M W0 n ops (fun τ k => KC P M W0 n y τ k T) ops.size (Array.replicate ops.size false) σ kn) : KC P M W0 n (.seq (.region rid ops true) y) σ kn T :=
  .seq (.orders hm h)
end
end Go.Vm

end
