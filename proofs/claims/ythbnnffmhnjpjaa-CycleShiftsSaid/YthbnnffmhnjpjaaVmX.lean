import Derived.Test.YthbnnffmhnjpjaaVmW
/-
  VALUES WITHOUT ADDRESSES, 24: sets of small numbers as bits of an int.
-/
namespace Go.Vm
open Go.RowKit

/-- The bits of a that b has not. -/
def diffN (a b : Nat) : Nat := a ^^^ (a &&& b)
theorem testBit_diffN (a b i : Nat) : (diffN a b).testBit i = (a.testBit i && !b.testBit i) := by
  unfold diffN
  rw [Nat.testBit_xor, Nat.testBit_and]
  cases a.testBit i <;> cases b.testBit i <;> rfl
theorem diffN_le (a b : Nat) : diffN a b ≤ a := by
  have h : diffN a b &&& a = diffN a b := by
    apply Nat.eq_of_testBit_eq
    intro i
    rw [Nat.testBit_and, testBit_diffN]
    cases a.testBit i <;> simp
  rw [← h]; exact Nat.and_le_right

theorem ofInt_toNat {a : Nat} (ha : a < 2 ^ 63) : (BitVec.ofInt 64 (a : Int)).toNat = a := by
  rw [BitVec.ofInt_natCast, BitVec.toNat_ofNat]
  exact Nat.mod_eq_of_lt (by omega)

theorem andI {a b : Nat} (ha : a < 2 ^ 63) (hb : b < 2 ^ 63) : IntKind.i64.wrap (BitVec.ofInt IntKind.i64.bits (a : Int) &&& BitVec.ofInt IntKind.i64.bits (b : Int)).toNat = ((a &&& b : Nat) : Int) := by
  show IntKind.i64.wrap (BitVec.ofInt 64 (a : Int) &&& BitVec.ofInt 64 (b : Int)).toNat = _
  rw [BitVec.toNat_and, ofInt_toNat ha, ofInt_toNat hb]
  have := Nat.and_le_left (n := a) (m := b)
  exact wrap_id (by omega)
theorem orI {a b : Nat} (ha : a < 2 ^ 63) (hb : b < 2 ^ 63) : IntKind.i64.wrap (BitVec.ofInt IntKind.i64.bits (a : Int) ||| BitVec.ofInt IntKind.i64.bits (b : Int)).toNat = ((a ||| b : Nat) : Int) := by
  show IntKind.i64.wrap (BitVec.ofInt 64 (a : Int) ||| BitVec.ofInt 64 (b : Int)).toNat = _
  rw [BitVec.toNat_or, ofInt_toNat ha, ofInt_toNat hb]
  have := Nat.or_lt_two_pow ha hb
  exact wrap_id (by omega)
theorem diffI {a b : Nat} (ha : a < 2 ^ 63) (hb : b < 2 ^ 63) : IntKind.i64.wrap (BitVec.ofInt IntKind.i64.bits (a : Int) &&& ~~~BitVec.ofInt IntKind.i64.bits (b : Int)).toNat = ((diffN a b : Nat) : Int) := by
  show IntKind.i64.wrap (BitVec.ofInt 64 (a : Int) &&& ~~~BitVec.ofInt 64 (b : Int)).toNat = _
  have e : (BitVec.ofInt 64 (a : Int) &&& ~~~BitVec.ofInt 64 (b : Int)).toNat = diffN a b := by
    apply Nat.eq_of_testBit_eq
    intro i
    rw [testBit_diffN, BitVec.toNat_and, Nat.testBit_and, ofInt_toNat ha]
    by_cases hi : i < 64
    · have h1 : Nat.testBit (BitVec.ofInt 64 (b : Int)).toNat i = b.testBit i := by rw [ofInt_toNat hb]
      rw [← h1, ← BitVec.getLsbD, ← BitVec.getLsbD, BitVec.getLsbD_not]
      simp [hi]
    · rw [Nat.testBit_lt_two_pow (Nat.lt_of_lt_of_le ha (Nat.pow_le_pow_right (by omega) (by omega : 63 ≤ i)))]
      simp
  rw [e]
  have := diffN_le a b
  exact wrap_id (by omega)
theorem shlI {i : Nat} (hi : i < 63) : IntKind.i64.wrap ((1 : Int) * 2 ^ min ((i : Int)).toNat IntKind.i64.bits) = ((2 ^ i : Nat) : Int) := by
  have e : min ((i : Int)).toNat IntKind.i64.bits = i := by
    show min i 64 = i
    omega
  rw [e, Int.one_mul]
  have h : (2 : Nat) ^ i < 2 ^ 63 := Nat.pow_lt_pow_right (by omega) hi
  have : ((2 : Int) ^ i) = ((2 ^ i : Nat) : Int) := by simp
  rw [this]
  generalize (2 : Nat) ^ i = z at h ⊢
  exact wrap_id (by omega)
theorem shrI {a i : Nat} (hi : i < 64) : Int.fdiv (a : Int) (2 ^ min ((i : Int)).toNat IntKind.i64.bits) = ((a / 2 ^ i : Nat) : Int) := by
  have e : min ((i : Int)).toNat IntKind.i64.bits = i := by
    show min i 64 = i
    omega
  rw [e, Int.fdiv_eq_ediv_of_nonneg _ (by exact Int.pow_nonneg (by decide))]
  simp
theorem bitOne (a i : Nat) : (decide (((a / 2 ^ i &&& 1 : Nat) : Int) = 1)) = a.testBit i := by
  rw [Nat.testBit_eq_decide_div_mod_eq, Nat.and_one_is_mod]
  generalize a / 2 ^ i = z
  have : (((z % 2 : Nat) : Int) = 1) ↔ z % 2 = 1 := by omega
  simp only [this]

theorem ints_cells {cs : List DV} {l : List Int} (hn : cs.length = l.length) (h : ∀ (i : Nat) (c : DV) (x : Int), cs[i]? = some c → l[i]? = some x → IsI c x) : cs = l.map DI := by
  apply List.ext_getElem? 
  intro i
  rw [List.getElem?_map]
  by_cases hi : i < l.length
  · have h1 := List.getElem?_eq_getElem (show i < cs.length by omega)
    have h2 := List.getElem?_eq_getElem hi
    rw [h1, h2, h i _ _ h1 h2]; rfl
  · rw [List.getElem?_eq_none (by omega), List.getElem?_eq_none (by omega)]; rfl

theorem all_oneX (l : List Int) : (l.map fun n => XV.d (DI n)).all oneX = true := by
  rw [List.all_map, List.all_eq_true]
  intro x _
  rfl

/-- What is copied or appended from integers. -/
theorem srcCells_ints {σ : List VObj} {d : DV} {l : List Int} (hd : Ints d l) : ∃ fl, srcCells σ 1 (.d d) = some (l.map (fun n => XV.d (DI n)), l.length, fl) := by
  cases hd with
  | nil => exact ⟨0, rfl⟩
  | @sl cs _ cap hn h =>
    have e := ints_cells hn h
    subst e
    refine ⟨0, ?_⟩
    simp only [srcCells]
    rw [if_pos (by simp), List.take_of_length_le (by simp), List.map_map]
    rfl

section
variable {P : Program} {σ : List VObj} {kn : Kn} {dst : Option Tmp} {ty : TypeId} {pos : String} {af : Array Edge} {g : Option (Nat × Bool)}

/-- a[:] of an array of the call's own. -/
theorem K.sliceA {t e : TypeId} {x : Operand} {id off n k : Nat} {ob : VObj} (hx : evK kn x = some (.optr id off)) (ht : P.underlying t = some (.array n e)) (hs : sizeT P e = some k) (ho : σ[id]? = some ob) (h2 : ob.mode ≠ 2) (hn : 0 < n) (hf : off + n * k ≤ ob.cells.length) :
    KEv P ⟨dst, .slice t x none none none, ty, pos, af, g⟩ σ kn (.osl id off n k n true) σ 1 := ev_op fun env he => by
  have e1 := evK_evalX he hx
  unfold evalOp
  rw [litOp_none (x := x) (by simp [Op.operands]) (by rw [e1]; rfl)]
  have h0 : opSlice P t (.optr id off) none none none = none := by
    unfold opSlice; rw [ht]
  simp only [e1, Option.map_none, h0, opSliceA, ht, ho, hs, boundOf]
  rw [if_pos ⟨h2, Nat.zero_le _, Nat.le_refl _, hn, hf⟩]
  simp

/-- a[:n]. -/
theorem K.sliceAh {t e : TypeId} {x h : Operand} {id off n k m : Nat} {ob : VObj} (hx : evK kn x = some (.optr id off)) (hh : evK kn h = some (.d (DI (m : Int)))) (ht : P.underlying t = some (.array n e)) (hs : sizeT P e = some k) (ho : σ[id]? = some ob) (h2 : ob.mode ≠ 2) (hn : 0 < n) (hm : m ≤ n) (hf : off + n * k ≤ ob.cells.length) :
    KEv P ⟨dst, .slice t x none (some h) none, ty, pos, af, g⟩ σ kn (.osl id off m k n true) σ 1 := ev_op fun env he => by
  have e1 := evK_evalX he hx
  have e2 := evK_evalX he hh
  unfold evalOp
  rw [litOp_none (x := x) (by simp [Op.operands]) (by rw [e1]; rfl)]
  have h0 : opSlice P t (.optr id off) none (some (.d (DI (m : Int)))) none = none := by
    unfold opSlice; rw [ht]
  simp only [e1, e2, Option.map_none, Option.map_some, h0, opSliceA, ht, ho, hs, boundOf, litOf]
  rw [if_pos (Int.natCast_nonneg m)]
  simp only [Int.toNat_natCast]
  rw [if_pos ⟨h2, Nat.zero_le _, hm, hn, hf⟩]
  simp

/-- copy of integers into an own slice. -/
theorem K.copyI {a x : Operand} {ts : Array TypeId} {t e : TypeId} {d : DV} {l : List Int} {id off len lo : Nat} {ex : Bool} {ob : VObj} (ha : evK kn a = some (.osl id off len 1 lo ex)) (hx : evK kn x = some (.d d)) (hd : Ints d l) (h0 : ts[0]? = some t)
    (ht : P.underlying t = some (.slice e)) (hs : sizeT P e = some 1) (ho : σ[id]? = some ob) (hm : ob.mode = 0) (hf : off + min l.length len ≤ ob.cells.length) (hl : 0 < l.length) :
    KEv P ⟨dst, .call ⟨.builtin .copy, #[a, x], ts⟩, ty, pos, af, g⟩ σ kn (.d (DI (min l.length len : Nat))) (σ.set id ⟨splice ob.cells off ((l.take (min l.length len)).map fun n => .d (DI n)), 0⟩) 2 := ev_op fun env he => by
  have e1 := evK_evalX he ha
  have e2 := evK_evalX he hx
  unfold evalOp
  rw [litOp_none (x := a) (by simp [Op.operands, Call.operands]) (by rw [e1]; rfl)]
  obtain ⟨fl, hsrc⟩ := srcCells_ints (σ := σ) hd
  simp only [e1, e2, opCopy, h0, Option.bind_some, ht, hs, ho, hsrc]
  rw [if_pos ⟨trivial, hm, by simpa using hf, all_oneX l, hl⟩]
  simp [List.map_take]

/-- One cell that is a slice. -/
inductive SlD : DV → Prop
  | nil : SlD Dnil
  | sl (cs : List DV) (len : Nat) (cap : Option Nat) : SlD (.sl cs len cap)
theorem SlD.of {α : Type} {R : DV → α → Prop} {d : DV} {l : List α} (h : Vec R d l) : SlD d := by cases h with | nil => exact .nil | sl => exact .sl _ _ _
theorem SlD.cells {d : DV} (h : SlD d) : cellsX (.d d) = [.d d] := by cases h <;> rfl
theorem SlD.one {d : DV} (h : SlD d) : oneX (.d d) = true := by cases h <;> rfl
def isNilD : DV → Bool
  | .lit _ => true
  | _ => false
/-- A struct of three slices, just built. -/
def mk3 (a b c : DV) : DV := if isNilD a && isNilD b && isNilD c then .lit (.agg #[.slice none 0 0, .slice none 0 0, .slice none 0 0]) else .agg [a, b, c]
theorem mk3_cells {a b c : DV} (ha : SlD a) (hb : SlD b) (hc : SlD c) : cellsX (.d (mk3 a b c)) = [.d a, .d b, .d c] := by
  cases ha <;> cases hb <;> cases hc <;> rfl
theorem mk3_build {a b c : DV} {t : TypeId} {fs : Array Field} (ha : SlD a) (hb : SlD b) (hc : SlD c) (hz : zeroT P t = some (.agg #[.slice none 0 0, .slice none 0 0, .slice none 0 0])) (hu : P.underlying t = some (.struct fs))
    (hp : placesT P fs = some #[(0, 1), (1, 1), (2, 1)]) : opBuild P t [(0, .d a), (1, .d b), (2, .d c)] = some (.d (.agg [a, b, c])) := by
  have e1 : ((#[(0, 1), (1, 1), (2, 1)] : Array (Nat × Nat))[0]?) = some (0, 1) := rfl
  have e2 : ((#[(0, 1), (1, 1), (2, 1)] : Array (Nat × Nat))[1]?) = some (1, 1) := rfl
  have e3 : ((#[(0, 1), (1, 1), (2, 1)] : Array (Nat × Nat))[2]?) = some (2, 1) := rfl
  simp [opBuild, hz, hu, hp, fillP, ha.cells, hb.cells, hc.cells, splice, Value.cells, aggX, allD]
theorem K.build3 {t : TypeId} {x y z : Operand} {a b c : DV} {fs : Array Field} (hx : evK kn x = some (.d a)) (hy : evK kn y = some (.d b)) (hzz : evK kn z = some (.d c)) (ha : SlD a) (hb : SlD b) (hc : SlD c)
    (hz : zeroT P t = some (.agg #[.slice none 0 0, .slice none 0 0, .slice none 0 0])) (hu : P.underlying t = some (.struct fs)) (hp : (match P.underlying t with | some (.struct fs) => placesT P fs | _ => none) = some #[(0, 1), (1, 1), (2, 1)])
    (hnil : pureRun P (Instr.build t #[(0, .slice none 0 0), (1, .slice none 0 0), (2, .slice none 0 0)]) = some (.agg #[.slice none 0 0, .slice none 0 0, .slice none 0 0])) :
    KEv P ⟨dst, .build t #[(0, x), (1, y), (2, z)], ty, pos, af, g⟩ σ kn (.d (mk3 a b c)) σ 0 := by
  rw [hu] at hp
  have key := mk3_build ha hb hc hz hu hp
  have hm : (#[(0, x), (1, y), (2, z)] : Array (Nat × Operand)).toList.mapM (fun p => (evK kn p.2).map fun v => (p.1, v)) = some [(0, .d a), (1, .d b), (2, .d c)] := by
    simp [hx, hy, hzz]
  by_cases hall : isNilD a && isNilD b && isNilD c
  · cases ha <;> simp [isNilD] at hall
    cases hb <;> simp [isNilD] at hall
    cases hc <;> simp at hall
    exact K.buildL (us := [(0, .slice none 0 0), (1, .slice none 0 0), (2, .slice none 0 0)]) (by simp [hx, hy, hzz, litOf]) hnil
  · have e : mk3 a b c = .agg [a, b, c] := by unfold mk3; rw [if_neg hall]
    rw [e]
    by_cases h1 : isNilD a = true
    · by_cases h2 : isNilD b = true
      · have h3 : isNilD c = false := by simpa [h1, h2] using hall
        cases hc with
        | nil => cases h3
        | sl cs len cap => exact K.build (x := z) hm (by simp) hzz rfl key
      · cases hb with
        | nil => exact absurd rfl h2
        | sl cs len cap => exact K.build (x := y) hm (by simp) hy rfl key
    · cases ha with
      | nil => exact absurd rfl h1
      | sl cs len cap => exact K.build (x := x) hm (by simp) hx rfl key

/-- The object behind an own slice. -/
def idX : XV → Option Nat
  | .osl id _ _ _ _ _ => some id
  | _ => none
/-- A slice that is appended to, of variables of k cells. -/
inductive OwnK (k : Nat) (σ : List VObj) : XV → List XV → Prop
  | nil : OwnK k σ (.d Dnil) []
  | sl {id n : Nat} {cells : List XV} (h : σ[id]? = some ⟨cells, 0⟩) (hn : cells.length = n * k) : OwnK k σ (.osl id 0 n k n false) cells
theorem OwnK.cells {k : Nat} {x : XV} {cells : List XV} (h : OwnK k σ x cells) : cellsX x = [x] ∧ oneX x = true := by cases h <;> exact ⟨rfl, rfl⟩
theorem OwnK.keep {k : Nat} {σ' : List VObj} {x : XV} {cells : List XV} (h : OwnK k σ x cells) (hk : ∀ j, idX x = some j → σ'[j]? = σ[j]?) : OwnK k σ' x cells := by
  cases h with
  | nil => exact .nil
  | sl h hn => exact .sl (by rw [hk _ rfl]; exact h) hn
theorem OwnK.lt {k : Nat} {x : XV} {cells : List XV} (h : OwnK k σ x cells) {j : Nat} (hj : idX x = some j) : j < σ.length := by
  cases h with
  | nil => cases hj
  | sl h hn => cases hj; exact (List.getElem?_eq_some_iff.1 h).1
theorem OwnK.pushed {k : Nat} {x : XV} {cells : List XV} (h : OwnK k σ x cells) (o : VObj) : OwnK k (σ ++ [o]) x cells := by
  cases h with
  | nil => exact .nil
  | sl h hn => exact .sl (getElem?_pre _ _ _ _ h) hn

theorem zeroRow_len (z : Value) (n : Nat) : (zeroRow z n).length = n := by simp [zeroRow]

/-- A literal of one variable of k cells. -/
theorem K.buildK {t e : TypeId} {x : Operand} {k : Nat} {ds : List DV} {z : Value} (hx : evK kn x = some (.d (.agg ds))) (hk : ds.length = k) (ht : P.underlying t = some (.slice e)) (hs : sizeT P e = some k) (hz : zeroT P e = some z) (hk2 : k ≤ 16777216) :
    KEv P ⟨dst, .buildSlice t 1 #[(0, x)], ty, pos, af, g⟩ σ kn (.osl σ.length 0 1 k 1 true) (σ ++ [⟨ds.map .d, 0⟩]) 3 := ev_op fun env he => by
  have e1 := evK_evalX he hx
  unfold evalOp
  rw [litOp_buildSlice]
  have h3 : splice (zeroRow z k) 0 (ds.map XV.d) = ds.map XV.d := by
    simp [splice, zeroRow, hk]
  simp [e1, opBuildSlice, ht, hs, hz, fillX, cellsX, zeroRow_len, hk, h3, hk2]

section
variable {n : Nat} {ops : Array Oper} {l : List Oper} {R : List Nat → List VObj → Kn → Prop}
theorem KT.appK {t e : TypeId} {x y : Operand} {k : Nat} {sx : XV} {cells vs : List XV} {id : Nat} (hg : guardK ops kn ⟨dst, .call ⟨.builtin .append, #[x, y], #[t, t]⟩, ty, pos, af, g⟩ = some true) (hd : dstOk n dst = true)
    (hx : evK kn x = some sx) (hy : evK kn y = some (.osl id 0 1 k 1 true)) (hown : OwnK k σ sx cells) (hid : σ[id]? = some ⟨vs, 0⟩) (hvs : vs.length = k) (h1v : vs.all oneX = true) (hlen : cells.length < 1073741823)
    (ht : P.underlying t = some (.slice e)) (hs : sizeT P e = some k) (hb : bytesT P e ≤ 65536) (hz : (zeroT P e).map (·.cells.size) = some k) (hk : 0 < k)
    (h : ∀ σ' x', OwnK k σ' x' (cells ++ vs) → (∀ j, idX sx ≠ some j → j < σ.length → σ'[j]? = σ[j]?) → (∃ j, idX x' = some j ∧ σ.length ≤ j) → KT P n ops l σ' (extK dst x' kn) (fun fls τ k => R (2 :: fls) τ k)) :
    KT P n ops (⟨dst, .call ⟨.builtin .append, #[x, y], #[t, t]⟩, ty, pos, af, g⟩ :: l) σ kn R := by
  have hsrc : srcCells σ k (.osl id 0 1 k 1 true) = some (vs, 1, 1) := by
    simp [srcCells, hid, hvs]
    rw [List.take_of_length_le (by omega)]
  cases hown with
  | nil =>
    refine KT.step hg hd (x := .osl σ.length 0 1 k 1 false) (σ' := σ ++ [⟨vs, 0⟩]) (fl := 2) (ev_op fun env he => ?_) (h _ _ (.sl (by simp) (by simp [hvs])) (fun j _ hj => by rw [List.getElem?_append_left hj]) ⟨_, rfl, Nat.le_refl _⟩)
    have e1 := evK_evalX he hx
    have e2 := evK_evalX he hy
    unfold evalOp
    rw [litOp_none (x := y) (by simp [Op.operands, Call.operands]) (by rw [e2]; rfl)]
    simp [e1, e2, opAppend, ht, hs, hsrc, h1v, growTo, hb, hz]
  | @sl oid m cells ho hn =>
    have hm : m < 1073741823 := by
      have : m * 1 ≤ m * k := Nat.mul_le_mul_left _ hk
      omega
    refine KT.step hg hd (x := .osl σ.length 0 (m + 1) k (m + 1) false) (σ' := (σ.set oid ⟨cells, 2⟩) ++ [⟨cells ++ vs, 0⟩]) (fl := 2) (ev_op fun env he => ?_)
      (h _ _ (.sl (by rw [List.getElem?_append_right (by simp)]; simp) (by simp [hn, hvs, Nat.add_mul])) (fun j hj hlt => by
        rw [List.getElem?_append_left (by simpa using hlt), List.getElem?_set]
        rw [if_neg (fun e => hj (by rw [e]; rfl))]) ⟨_, rfl, Nat.le_refl _⟩)
    have e1 := evK_evalX he hx
    have e2 := evK_evalX he hy
    unfold evalOp
    rw [litOp_none (x := x) (by simp [Op.operands, Call.operands]) (by rw [e1]; rfl)]
    have h3 : m + 1 ≤ 1073741824 := by omega
    have h4 : ¬ m + 1 ≤ m := by omega
    simp [e1, e2, opAppend, ht, hs, hsrc, h1v, ho, hb, hz, h3, h4, hn]

theorem KT.storeG {x y : Operand} {t : TypeId} {id off : Nat} {cells : List XV} {v : XV} (hg : guardK ops kn ⟨dst, .store t x y, ty, pos, af, g⟩ = some true) (hd : dstOk n dst = true) (hx : evK kn x = some (.optr id off)) (hy : evK kn y = some v)
    (ho : σ[id]? = some ⟨cells, 0⟩) (hof : off < cells.length) (hc : cellsX v = [v]) (h1 : oneX v = true) (hs : sizeT P t = some 1)
    (h : ∀ σ', σ'.length = σ.length → σ'[id]? = some ⟨cells.set off v, 0⟩ → (∀ j, j ≠ id → σ'[j]? = σ[j]?) → KT P n ops l σ' (extK dst undefX kn) (fun fls τ k => R (2 :: fls) τ k)) :
    KT P n ops (⟨dst, .store t x y, ty, pos, af, g⟩ :: l) σ kn R := by
  refine KT.step hg hd (K.storeO hx hy ho hof hc h1 hs) (h _ (by simp) ?_ fun j hj => ?_)
  · rw [List.getElem?_set, if_pos rfl, if_pos (List.getElem?_eq_some_iff.1 ho).1]
  · rw [List.getElem?_set, if_neg (fun e => hj e.symm)]
end

theorem K.lenO {x : Operand} {t e : TypeId} {id off len k lo : Nat} {ex : Bool} (hx : evK kn x = some (.osl id off len k lo ex)) (ht : P.underlying t = some (.slice e)) :
    KEv P ⟨dst, .call ⟨.builtin .len, #[x], #[t]⟩, ty, pos, af, g⟩ σ kn (.d (DI len)) σ 0 := ev_op fun env he => by
  have e1 := evK_evalX he hx
  unfold evalOp
  rw [litOp_none (x := x) (by simp [Op.operands, Call.operands]) (by rw [e1]; rfl)]
  simp [e1, opLen, isSliceT, ht]
end

end Go.Vm

