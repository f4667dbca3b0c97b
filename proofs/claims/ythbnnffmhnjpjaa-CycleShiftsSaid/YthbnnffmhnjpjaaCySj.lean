import Derived.Test.YthbnnffmhnjpjaaCyZ
import Derived.Test.YthbnnffmhnjpjaaCyEa
import Derived.Test.YthbnnffmhnjpjaaCyEb
/-
  A MATRIX OF ONE'S OWN whose rows have been appended, and whose elements are written.
-/
namespace Go.Vm
open Go.RowKit Go.Cy

section
variable {N : Nat} {F G : Nat → Nat → Int} {σ : List VObj} {x : XV} {ids : List Nat}
theorem TRows.put (h : TRows N F σ x ids) (hnd : ∀ k k' id : Nat, ids[k]? = some id → ids[k']? = some id → k = k') {r j idr : Nat} {v : Int} (hr : ids[r]? = some idr) (hj : j < N) (hG : ∀ r', r' < ids.length → ∀ j', j' < N → G r' j' = if r' = r ∧ j' = j then v else F r' j') :
    TRows N G (σ.set idr ⟨(icells ((List.range N).map (F r))).set (0 + j) (.d (DI v)), 0⟩) x ids := by
  have hrow := h.row r idr hr
  have hlt := (List.getElem?_eq_some_iff.1 hrow).1
  have hrl := (List.getElem?_eq_some_iff.1 hr).1
  refine ⟨h.own.keep fun i hi => ?_, fun k id hk => ?_, h.ne⟩
  · rw [List.getElem?_set_ne (fun e => h.ne idr (List.mem_of_getElem? hr) (by rw [hi, e]))]
  · have hkl := (List.getElem?_eq_some_iff.1 hk).1
    by_cases e : id = idr
    · subst e
      have := hnd k r id hk hr
      subst this
      rw [List.getElem?_set_self hlt]
      congr 2
      refine List.ext_getElem (by simp [icells]) fun i h1 h2 => ?_
      simp only [icells, List.length_set, List.length_map, List.length_range] at h1 h2
      rw [List.getElem_set]
      simp only [icells, List.getElem_map, List.getElem_range]
      rw [hG k hrl i h1]
      by_cases ei : 0 + j = i
      · rw [if_pos ei, if_pos ⟨rfl, by omega⟩]
      · rw [if_neg ei, if_neg (fun h => ei (by omega))]
    · rw [List.getElem?_set_ne (fun e' => e e'.symm)]
      have hkr : k ≠ r := fun e' => by subst e'; rw [hk] at hr; cases hr; exact e rfl
      rw [h.row k id hk]
      congr 3
      refine List.map_congr_left fun i hi => ?_
      rw [hG k hkl i (by simpa using hi), if_neg (fun h => hkr h.1)]
theorem TRows.same (h : TRows N F σ x ids) (hG : ∀ r, r < ids.length → ∀ j, j < N → G r j = F r j) : TRows N G σ x ids :=
  ⟨h.own, fun k id hk => by
    rw [h.row k id hk]
    congr 3
    exact List.map_congr_left fun j hj => (hG k (List.getElem?_eq_some_iff.1 hk).1 j (by simpa using hj)).symm, h.ne⟩
end

/-- What 'few' leaves of a matrix of n columns. -/
def stepS (n : Nat) (a : Nat → Nat → Int) (i : Nat) (σ : List VObj) : List VObj :=
  let σ3 := σ ++ [(⟨[], 0⟩ : VObj)] ++ [⟨icells ((List.range n).map (a i)), 0⟩] ++ [⟨[oslT n (σ.length + 1)], 0⟩]
  match i with
  | 0 => σ3 ++ [⟨[oslT n (σ.length + 1)], 0⟩]
  | k + 1 => σ3.set (4 * k + 3) ⟨(List.range (k + 1)).map fun q => oslT n (4 * q + 1), 2⟩ ++ [⟨((List.range (k + 1)).map fun q => oslT n (4 * q + 1)) ++ [oslT n (σ.length + 1)], 0⟩]
def fewS (n : Nat) (a : Nat → Nat → Int) : Nat → List VObj
  | 0 => []
  | i + 1 => stepS n a i (fewS n a i)
def fewX : Nat → XV
  | 0 => .d Dnil
  | k + 1 => .osl (4 * k + 3) 0 (k + 1) 1 (k + 1) false
def fewI (i : Nat) : List Nat := (List.range i).map fun q => 4 * q + 1
theorem stepS_len (n : Nat) (a : Nat → Nat → Int) (i : Nat) (σ : List VObj) : (stepS n a i σ).length = σ.length + 4 := by
  cases i <;> simp [stepS]
theorem fewS_len (n : Nat) (a : Nat → Nat → Int) : ∀ i, (fewS n a i).length = 4 * i
  | 0 => rfl
  | i + 1 => by rw [fewS, stepS_len, fewS_len n a i]; omega
theorem fewI_get {i k id : Nat} : (fewI i)[k]? = some id ↔ k < i ∧ id = 4 * k + 1 := by
  unfold fewI
  rw [List.getElem?_map]
  by_cases h : k < i
  · rw [List.getElem?_range h]; simp; constructor
    · intro e; exact ⟨h, e.symm⟩
    · intro e; exact e.2.symm
  · rw [List.getElem?_eq_none (by simp; omega)]; simp; omega
theorem fewI_cells (n i : Nat) : (fewI i).map (oslT n) = (List.range i).map fun q => oslT n (4 * q + 1) := by simp [fewI, Function.comp_def]
theorem few_rows (n : Nat) (a : Nat → Nat → Int) : ∀ i, TRows n a (fewS n a i) (fewX i) (fewI i)
  | 0 => ⟨.nil, fun k id h => by simp [fewI] at h, fun id h => by simp [fewI] at h⟩
  | i + 1 => by
    have ih := few_rows n a i
    have hl := fewS_len n a i
    have hrow : ∀ k id, (fewI (i + 1))[k]? = some id → (fewS n a (i + 1))[id]? = some (⟨icells ((List.range n).map (a k)), 0⟩ : VObj) := by
      intro k id hk
      obtain ⟨h1, rfl⟩ := fewI_get.1 hk
      by_cases e : k = i
      · subst e
        cases k with
        | zero => simp [fewS, stepS]
        | succ k =>
          show (stepS n a (k + 1) (fewS n a (k + 1)))[4 * (k + 1) + 1]? = _
          unfold stepS
          simp only
          rw [List.getElem?_append_left (by simp; omega), List.getElem?_set_ne (by omega), List.getElem?_append_left (by simp; omega), List.getElem?_append_right (by simp; omega)]
          simp [hl]
      · have h2 := ih.row k (4 * k + 1) (fewI_get.2 ⟨by omega, rfl⟩)
        have h3 : 4 * k + 1 < (fewS n a i).length := by omega
        cases i with
        | zero => omega
        | succ i =>
          show (stepS n a (i + 1) (fewS n a (i + 1)))[4 * k + 1]? = _
          unfold stepS
          simp only
          rw [List.getElem?_append_left (by simp; omega), List.getElem?_set_ne (by omega), List.getElem?_append_left (by simp; omega), List.getElem?_append_left (by simp; omega), List.getElem?_append_left h3]
          exact h2
    refine ⟨?_, hrow, fun id hid => ?_⟩
    · rw [fewI_cells]
      have hob : (fewS n a (i + 1))[4 * i + 3]? = some ⟨(List.range (i + 1)).map fun q => oslT n (4 * q + 1), 0⟩ := by
        cases i with
        | zero => simp [fewS, stepS]
        | succ i =>
          show (stepS n a (i + 1) (fewS n a (i + 1)))[4 * (i + 1) + 3]? = _
          unfold stepS
          simp only
          rw [List.getElem?_append_right (by simp; omega)]
          rw [List.length_set, List.length_append, List.length_append, List.length_append, hl]
          simp only [List.length_cons, List.length_nil]
          rw [show 4 * (i + 1) + 3 - (4 * (i + 1) + (0 + 1) + (0 + 1) + (0 + 1)) = 0 by omega]
          simp only [List.getElem?_cons_zero, Option.some.injEq, VObj.mk.injEq, and_true]
          rw [List.range_succ (n := i + 1), List.map_append]; rfl
      have := OwnK.sl (k := 1) (σ := fewS n a (i + 1)) (n := i + 1) hob (by simp)
      exact this
    · obtain ⟨k, hk⟩ := List.mem_iff_getElem?.1 hid
      obtain ⟨h1, rfl⟩ := fewI_get.1 hk
      intro e
      have e2 : some (4 * i + 3) = some (4 * k + 1) := e
      simp at e2; omega
section
variable {P : Program} {σ : List VObj} {kn : Kn} {dst : Option Tmp} {ty : TypeId} {pos : String} {af : Array Edge} {g : Option (Nat × Bool)}
/-- append, told in full. -/
theorem K.appE0 {t e : TypeId} {x y : Operand} {id : Nat} {v : XV} {z : Value} (hx : evK kn x = some (.d Dnil)) (hy : evK kn y = some (.osl id 0 1 1 1 true)) (hid : σ[id]? = some ⟨[v], 0⟩)
    (h1v : oneX v = true) (ht : P.underlying t = some (.slice e)) (h1 : OneT P e z) : KEv P ⟨dst, .call ⟨.builtin .append, #[x, y], #[t, t]⟩, ty, pos, af, g⟩ σ kn (.osl σ.length 0 1 1 1 false) (σ ++ [⟨[v], 0⟩]) 2 := ev_op fun env he => by
  have hz : (zeroT P e).map (·.cells.size) = some 1 := by rw [h1.zero]; simp [h1.cells]
  have e1 := evK_evalX he hx
  have e2 := evK_evalX he hy
  unfold evalOp
  rw [litOp_none (x := y) (by simp [Op.operands, Call.operands]) (by rw [e2]; rfl)]
  simp [e1, e2, opAppend, ht, h1.size, srcCells, hid, h1v, growTo, h1.bytes, hz]
theorem K.appE1 {t e : TypeId} {x y : Operand} {cells : List XV} {oid id len : Nat} {v : XV} {z : Value} (hx : evK kn x = some (.osl oid 0 len 1 len false)) (hy : evK kn y = some (.osl id 0 1 1 1 true)) (ho : σ[oid]? = some ⟨cells, 0⟩) (hlen : cells.length = len) (hid : σ[id]? = some ⟨[v], 0⟩)
    (h1v : oneX v = true) (hl : len < 1073741823) (ht : P.underlying t = some (.slice e)) (h1 : OneT P e z) :
    KEv P ⟨dst, .call ⟨.builtin .append, #[x, y], #[t, t]⟩, ty, pos, af, g⟩ σ kn (.osl σ.length 0 (len + 1) 1 (len + 1) false) ((σ.set oid ⟨cells, 2⟩) ++ [⟨cells ++ [v], 0⟩]) 2 := ev_op fun env he => by
  subst hlen
  have hz : (zeroT P e).map (·.cells.size) = some 1 := by rw [h1.zero]; simp [h1.cells]
  have e1 := evK_evalX he hx
  have e2 := evK_evalX he hy
  unfold evalOp
  rw [litOp_none (x := x) (by simp [Op.operands, Call.operands]) (by rw [e1]; rfl)]
  have h3 : cells.length + 1 ≤ 1073741824 := by omega
  have h4 : ¬ cells.length + 1 ≤ cells.length := by omega
  simp [e1, e2, opAppend, ht, h1.size, srcCells, hid, h1v, ho, h1.bytes, hz, h3, h4]
end
end Go.Vm

/-
  A NUMBER ADDED TO EVERY WEIGHT.
-/
namespace Go.Cy
open Go.Vm
def shiftI (a : Nat → Nat → Int) (β : Int) (i j : Nat) : Int := if a i j = Nv then Nv else a i j + β
theorem shift_dec {a : Nat → Nat → Int} {β : Int} (ha : GoodM 1000 a) (hβ : -20 ≤ β ∧ β ≤ 20) : DM (shiftI a β) = gain (DM a) (-β) 1 := by
  funext i j
  show dec (shiftI a β i j) = (dec (a i j)).map _
  unfold shiftI
  split
  · rename_i h; rw [h, dec_nv]; rfl
  · rename_i h
    have := (ha i j).resolve_left h
    rw [dec_some h, dec_some (by unfold Nv; omega)]
    simp
theorem MeanOf.shift {n : Nat} {A : TM} {p q β : Int} (h : MeanOf n A p q) : MeanOf n (gain A (-β) 1) (p + β * q) q := by
  refine ⟨h.pos, fun k i w hk hw => ?_, ?_⟩
  · rw [pow_gain (by omega)] at hw
    obtain ⟨x, hx, rfl⟩ := Option.map_eq_some_iff.1 hw
    have := h.le k i x hk hx
    have e : q * (1 * x - -β * (k : Int)) = q * x + β * q * (k : Int) := by rw [Int.one_mul, Int.neg_mul, Int.sub_neg, Int.mul_add, Int.mul_comm β q, Int.mul_assoc]
    rw [e, Int.add_mul]; omega
  · obtain ⟨k, c, w, h1, h2, h3⟩ := h.eq
    refine ⟨k, c, 1 * w - -β * (k : Int), h1, by rw [pow_gain (by omega), h2]; rfl, ?_⟩
    have e : q * (1 * w - -β * (k : Int)) = q * w + β * q * (k : Int) := by rw [Int.one_mul, Int.neg_mul, Int.sub_neg, Int.mul_add, Int.mul_comm β q, Int.mul_assoc]
    rw [e, Int.add_mul]; omega
theorem MeanOf.unshift {n : Nat} {A : TM} {p q β : Int} (h : MeanOf n (gain A (-β) 1) p q) : MeanOf n A (p - β * q) q := by
  refine ⟨h.pos, fun k i w hk hw => ?_, ?_⟩
  · have h1 := h.le k i (1 * w - -β * (k : Int)) hk (by rw [pow_gain (by omega), hw]; rfl)
    have e : q * (1 * w - -β * (k : Int)) = q * w + β * q * (k : Int) := by rw [Int.one_mul, Int.neg_mul, Int.sub_neg, Int.mul_add, Int.mul_comm β q, Int.mul_assoc]
    rw [e] at h1
    rw [Int.sub_mul]; omega
  · obtain ⟨k, c, w, h1, h2, h3⟩ := h.eq
    rw [pow_gain (by omega)] at h2
    obtain ⟨x, hx, rfl⟩ := Option.map_eq_some_iff.1 h2
    have e : q * (1 * x - -β * (k : Int)) = q * x + β * q * (k : Int) := by rw [Int.one_mul, Int.neg_mul, Int.sub_neg, Int.mul_add, Int.mul_comm β q, Int.mul_assoc]
    rw [e] at h3
    refine ⟨k, c, x, h1, hx, ?_⟩
    rw [Int.sub_mul]; omega
theorem shift_sup {n : Nat} {a : Nat → Nat → Int} {β : Int} (ha : GoodM 1000 a) (hβ : -20 ≤ β ∧ β ≤ 20) (hs : Sup n (DM a)) : Sup n (DM (shiftI a β)) := by rw [shift_dec ha hβ]; exact gain_sup hs _ _
/-- The mean grows by the number. -/
theorem Small.mean_shift {n : Nat} {a : Nat → Nat → Int} {β : Int} (h : Small n a) (h' : Small n (shiftI a β)) (hβ : -20 ≤ β ∧ β ≤ 20) : meanI n (shiftI a β) = (meanI n a).map fun m => (m.1 + β * m.2, m.2) := by
  have hd := shift_dec h.ga hβ
  cases h1 : meanI n a with
  | none =>
    cases h2 : meanI n (shiftI a β) with
    | none => rfl
    | some m =>
      have hm := (h'.mean (p := m.1) (q := m.2) h2).1
      rw [hd] at hm
      obtain ⟨k, c, w, h3, h4, _⟩ := hm.unshift.eq
      rw [h.none h1 k c h3] at h4; cases h4
  | some m =>
    obtain ⟨a1, a2, a3, _⟩ := h.mean (p := m.1) (q := m.2) h1
    cases h2 : meanI n (shiftI a β) with
    | none =>
      have hm := a1.shift (β := β)
      rw [← hd] at hm
      obtain ⟨k, c, w, h3, h4, _⟩ := hm.eq
      rw [h'.none h2 k c h3] at h4; cases h4
    | some m' =>
      obtain ⟨b1, b2, b3, _⟩ := h'.mean (p := m'.1) (q := m'.2) h2
      have hm := a1.shift (β := β)
      rw [← hd] at hm
      have g : Int.gcd (m.1 + β * m.2) m.2 = 1 := by rw [Int.gcd_add_mul_right_left]; exact a2
      obtain ⟨e1, e2⟩ := low_uniq b3.1 a3.1 b2 g (b1.uniq hm)
      simp only [Option.map_some, Option.some.injEq]
      exact Prod.ext e1 e2
theorem gain_shift {a : Nat → Nat → Int} {β p q : Int} (ha : GoodM 1000 a) (hβ : -20 ≤ β ∧ β ≤ 20) : gainI (shiftI a β) (p + β * q) q = gainI a p q := by
  funext i j
  unfold gainI shiftI
  by_cases h : a i j = Nv
  · rw [if_pos h, if_pos rfl, if_pos h]
  · have := (ha i j).resolve_left h
    rw [if_neg h, if_neg (by unfold Nv; omega), if_neg h, Int.mul_add, Int.mul_comm q β]; omega
end Go.Cy

/-
  Times: the law CycleShifts.
-/
namespace Go.Proofs.Ythbnnffmhnjpjaa
open Go.Vm Go.Cy
theorem plainTry_16 : plainFn Try.prog 16 = true := by kernel_rfl
set_option maxRecDepth 10000 in
theorem cloneO' {σ : List VObj} {td : DV} {tm : List Int} (htd : Ints td tm) (h0 : tm.length ≠ 0) (hl : tm.length ≤ 1073741824) : OwnCall Try.prog 49 σ [.d td] (σ ++ [(⟨[], 0⟩ : VObj)] ++ [(⟨icells tm, 0⟩ : VObj)]) (.osl (σ ++ [(⟨[], 0⟩ : VObj)]).length 0 tm.length 1 tm.length false) := by
  rcases litOf_vec htd with ⟨rfl, rfl⟩ | ⟨cs, cap, rfl, hn, hr⟩
  · exact absurd rfl h0
  have ecs := ints_cells hn hr
  have etk : (cs.take tm.length).map XV.d = icells tm := by rw [List.take_of_length_le (by omega), ecs]; simp [icells, Function.comp_def]
  refine ownCall_K Try.func49 rfl (Nat.le_of_ble_eq_true rfl) fun M W0 => ?_
  refine KC.seq ?_
  refine KC.region ?_
  refine KT.step rfl rfl (K.assign rfl) ?_
  refine KT.nil ?_
  refine thenK_n ?_
  refine KC.seq ?_
  refine KC.seq ?_
  refine KC.region ?_
  refine KT.step rfl rfl (K.move rfl) ?_
  refine KT.step rfl rfl (K.eqNil rfl Try.underlying33) ?_
  refine KT.nil ?_
  refine thenK_n ?_
  refine KC.cond rfl (fun hc4 => ?_) (fun hc4 => ?_)
  · cases hc4
  · skip
    refine KC.skip ?_
    refine thenK_n ?_
    refine KC.seq ?_
    refine KC.region ?_
    refine KT.step rfl rfl (K.build0 Try.underlying33 Try.one3) ?_
    refine KT.step rfl rfl (K.move rfl) ?_
    refine KT.step rfl rfl (K.appAll rfl rfl (List.getElem?_concat_length ..) hn (by rw [etk]; simp [icells, oneX, Value.oneCell']) h0 hl Try.underlying33 Try.one3) ?_
    rw [etk]
    refine KT.step rfl rfl (K.assign rfl) ?_
    refine KT.nil ?_
    refine thenK_n ?_
    refine KC.ret ?_
    exact ⟨.inl rfl, rfl, rfl⟩

theorem cloneO {σ : List VObj} {td : DV} {tm : List Int} {n : Nat} (htd : Ints td tm) (hn : tm.length = n) (h0 : n ≠ 0) (hl : n ≤ 1073741824) : OwnCall Try.prog 49 σ [.d td] (σ ++ [(⟨[], 0⟩ : VObj)] ++ [(⟨icells tm, 0⟩ : VObj)]) (oslT n (σ.length + 1)) := by
  subst hn
  have h := cloneO' (σ := σ) htd h0 hl
  rw [List.length_append] at h
  exact h
set_option maxRecDepth 10000 in
theorem fewO {d : DV} {n : Nat} {a : Nat → Nat → Int} (hd : Mat d (genM n n a)) (h1 : 1 ≤ n) (hn : n ≤ 6) : OwnCall Try.prog 19 [] [.d d] (fewS n a n) (fewX n) := by
  refine ownCall_K Try.func19 rfl (Nat.le_of_ble_eq_true rfl) fun M W0 => ?_
  refine KC.seq ?_
  refine KC.region ?_
  refine KT.step rfl rfl (K.assign rfl) ?_
  refine KT.nil ?_
  refine thenK_n ?_
  refine KC.seq ?_
  refine KC.region ?_
  refine KT.step rfl rfl (K.assign rfl) ?_
  refine KT.nil ?_
  refine thenK_n ?_
  refine KC.seq ?_
  refine KC.seq ?_
  refine KC.region ?_
  refine KT.step rfl rfl (K.move rfl) ?_
  refine KT.step rfl rfl (K.len rfl hd Try.underlying22) ?_
  rw [genM_len]
  refine KT.step rfl rfl (K.move rfl) ?_
  refine KT.nil ?_
  refine thenK_n ?_
  refine KC.block ?_
  refine KC.loop (fun i : Nat => fewS n a i) (fun i => [(0, .d d), (3, fewX i), (6, .d d), (7, .d (DI (n : Nat))), (8, .d (DI (i : Nat)))]) (fun i => i ≤ n) (fun i => n - i) 0 (Nat.zero_le _) rfl (by simp [Go.Vm.look, extK, enterK, fewX]) ?_
  intro i hi
  refine KC.seq ?_
  refine KC.region ?_
  refine KT.step rfl rfl (K.lss rfl rfl) ?_
  refine KT.nil ?_
  refine thenK_n ?_
  refine KC.seq ?_
  refine KC.cond rfl (fun hc9 => ?_) (fun hc9 => ?_)
  · skip
    replace hc9 := of_decide_eq_true hc9
    refine KC.skip ?_
    refine thenK_n ?_
    refine KC.seq ?_
    refine KC.block ?_
    refine KC.seq ?_
    refine KC.region ?_
    refine KT.step rfl rfl (K.move rfl) ?_
    refine KT.idx rfl rfl rfl hd rfl (by rw [genM_len]; omega) Try.underlying22 Try.size33 fun c11 cs11 hq11 => ?_
    rw [genM_row] at hq11
    refine KT.step rfl rfl (K.load rfl Try.agg33) ?_
    refine KT.step rfl rfl (K.assign rfl) ?_
    refine KT.step rfl rfl (K.assign rfl) ?_
    refine KT.nil ?_
    refine thenK_n ?_
    refine KC.seq ?_
    refine KC.seq ?_
    refine KC.region ?_
    refine KT.step rfl rfl (K.move rfl) ?_
    refine KT.step rfl rfl (K.gtr rfl rfl) ?_
    refine KT.nil ?_
    refine thenK_n ?_
    refine KC.cond rfl (fun hc14 => ?_) (fun hc14 => ?_)
    · skip
      exact absurd (of_decide_eq_true hc14) (by omega)
    · skip
      replace hc14 := of_decide_eq_false hc14
      refine KC.skip ?_
      refine thenK_n ?_
      refine KC.region ?_
      refine KT.step rfl rfl (K.move rfl) ?_
      refine KT.step rfl rfl (K.move rfl) ?_
      refine KT.step rfl rfl (K.move rfl) ?_
      refine KT.step rfl rfl (K.len rfl hq11 Try.underlying33) ?_
      rw [List.length_map, List.length_range]
      refine KT.step rfl rfl (K.minN (a := n) (b := 8) rfl rfl) ?_
      rw [show min n 8 = n by omega]
      refine KT.sliceTo rfl rfl rfl hq11 rfl (by simp) Try.underlying33 Try.size3 fun r20 hq20 => ?_
      rw [List.take_of_length_le (by simp)] at hq20
      refine KT.step rfl rfl (K.callO (xs := [.d r20]) rfl plainTry_49 (cloneO (n := n) hq20 (by simp) (by omega) (by omega))) ?_
      rcases i with _ | i
      · skip
        refine KT.step rfl rfl (K.build1' (v := oslT n ((fewS n a 0).length + 1)) rfl rfl Try.underlying22 Try.one33) ?_
        refine KT.step rfl rfl (K.appE0 rfl rfl (List.getElem?_concat_length ..) rfl Try.underlying22 Try.one33) ?_
        refine KT.step rfl rfl (K.assign rfl) ?_
        refine KT.nil ?_
        refine blockK_n ?_
        refine thenK_n ?_
        refine KC.region ?_
        refine KT.step rfl rfl (K.add rfl rfl (wrap_id (by omega))) ?_
        refine KT.step rfl rfl (K.move rfl) ?_
        refine KT.nil ?_
        refine thenK_n ?_
        exact ⟨1, by omega, by omega, rfl, by simp [Go.Vm.look, extK, fewX, fewS]⟩
      · skip
        refine KT.step rfl rfl (K.build1' (v := oslT n ((fewS n a (i + 1)).length + 1)) rfl rfl Try.underlying22 Try.one33) ?_
        have hl := fewS_len n a (i + 1)
        have hown := (few_rows n a (i + 1)).own
        rw [fewI_cells] at hown
        have hob : (fewS n a (i + 1))[4 * i + 3]? = some ⟨(List.range (i + 1)).map fun q => oslT n (4 * q + 1), 0⟩ := by
          generalize hc : (List.range (i + 1)).map (fun q => oslT n (4 * q + 1)) = cells at hown
          have hown' : OwnK 1 (fewS n a (i + 1)) (.osl (4 * i + 3) 0 (i + 1) 1 (i + 1) false) cells := hown
          cases hown' with
          | sl h _ => exact h
        refine KT.step rfl rfl (K.appE1 (oid := 4 * i + 3) (len := i + 1) (cells := (List.range (i + 1)).map fun q => oslT n (4 * q + 1)) rfl rfl (by rw [List.getElem?_append_left (by simp; omega), List.getElem?_append_left (by simp; omega), List.getElem?_append_left (by omega)]; exact hob) (by simp) (List.getElem?_concat_length ..) rfl (by omega) Try.underlying22 Try.one33) ?_
        refine KT.step rfl rfl (K.assign rfl) ?_
        refine KT.nil ?_
        refine blockK_n ?_
        refine thenK_n ?_
        refine KC.region ?_
        refine KT.step rfl rfl (K.add rfl rfl (wrap_id (by omega))) ?_
        refine KT.step rfl rfl (K.move rfl) ?_
        refine KT.nil ?_
        refine thenK_n ?_
        exact ⟨i + 1 + 1, by omega, by omega, rfl, by simp [Go.Vm.look, extK, fewX, hl]⟩
  · skip
    replace hc9 := of_decide_eq_false hc9
    refine KC.exit ?_
    refine thenK_x ?_
    refine thenK_x ?_
    refine blockK_e ?_
    refine thenK_n ?_
    refine KC.seq ?_
    refine KC.region ?_
    refine KT.step rfl rfl (K.move rfl) ?_
    refine KT.step rfl rfl (K.assign rfl) ?_
    refine KT.nil ?_
    refine thenK_n ?_
    refine KC.ret ?_
    obtain rfl : i = n := by omega
    exact ⟨.inl rfl, rfl, rfl⟩

/-- Some elements have been shifted. -/
def mixS (a : Nat → Nat → Int) (β : Int) (r j : Nat) : Nat → Nat → Int := fun r' j' => if r' < r ∨ (r' = r ∧ j' < j) then shiftI a β r' j' else a r' j'
theorem mixS_at (a : Nat → Nat → Int) (β : Int) (r j : Nat) : mixS a β r j r j = a r j := if_neg (by omega)
theorem mixS_step {a : Nat → Nat → Int} {β : Int} {r c : Nat} (h : a r c ≠ Nv) (r' j' : Nat) : mixS a β r (c + 1) r' j' = if r' = r ∧ j' = c then a r c + β else mixS a β r c r' j' := by
  unfold mixS
  by_cases e : r' = r ∧ j' = c
  · obtain ⟨rfl, rfl⟩ := e
    rw [if_pos (by omega), if_pos ⟨rfl, rfl⟩]; unfold shiftI; rw [if_neg h]
  · rw [if_neg e]
    by_cases k : r' < r ∨ (r' = r ∧ j' < c)
    · rw [if_pos k, if_pos (by omega)]
    · rw [if_neg k, if_neg (by omega)]
theorem mixS_skip {a : Nat → Nat → Int} {β : Int} {r c : Nat} (h : a r c = Nv) (r' j' : Nat) : mixS a β r (c + 1) r' j' = mixS a β r c r' j' := by
  unfold mixS
  by_cases e : r' = r ∧ j' = c
  · obtain ⟨rfl, rfl⟩ := e
    rw [if_pos (by omega), if_neg (by omega)]; unfold shiftI; rw [if_pos h, h]
  · by_cases k : r' < r ∨ (r' = r ∧ j' < c)
    · rw [if_pos k, if_pos (by omega)]
    · rw [if_neg k, if_neg (by omega)]
def shM (m : List (List Int)) (β : Int) : List (List Int) := genM m.length m.length (shiftI (mf m) β)
theorem shM_mf {m : List (List Int)} {β : Int} (h : Cy.Small m.length (mf m)) : mf (shM m β) = shiftI (mf m) β := by
  funext i j
  unfold shM
  rw [mf_gen]
  split
  · rfl
  · rename_i hij
    have := mf_out h.sup hij
    unfold shiftI; rw [if_pos this]
theorem sh_facts {m : List (List Int)} {β : Int} (hv : validB 1000 m = true) (hβ : -20 ≤ β ∧ β ≤ 20) (h2 : measE (shM m β) ≠ 2) : measE (shM m β) = measE m ∧ measF (shM m β) = ((measF m).1 + β * (measF m).2, (measF m).2) ∧ crV (shM m β) = crV m := by
  obtain ⟨sm, _⟩ := Cy.Small.of hv
  have hv2 : validB 1000 (shM m β) = true := by
    cases h : validB 1000 (shM m β) with
    | true => rfl
    | false => exact absurd (meas_no h).1 h2
  obtain ⟨sm2, _⟩ := Cy.Small.of hv2
  have hl : (shM m β).length = m.length := genM_len _ _ _
  rw [hl, shM_mf sm] at sm2
  have hm := sm.mean_shift sm2 hβ
  have e1 : measE (shM m β) = measE m := by
    unfold measE; rw [hv2, hv, hl, shM_mf sm, hm]; cases meanI m.length (mf m) <;> rfl
  have e2 : measF (shM m β) = ((measF m).1 + β * (measF m).2, (measF m).2) := by
    unfold measF; rw [hv2, hv, hl, shM_mf sm, hm]
    cases meanI m.length (mf m) <;> simp
  refine ⟨e1, e2, ?_⟩
  unfold crV
  rw [e1]
  split
  · rw [hl]
    congr 1
    unfold gainM
    rw [e2, shM_mf sm]
    exact gain_shift sm.ga hβ
  · rfl
theorem small_meas (m : List (List Int)) : measE m = 2 → validB 1000 m = false := fun h => by
  cases hv : validB 1000 m with
  | false => rfl
  | true => unfold measE at h; rw [hv] at h; cases hm : meanI m.length (mf m) <;> rw [hm] at h <;> cases h
theorem sl1_mat {d : DV} {l : List Int} (h : Ints d l) : Mat (.sl [d] 1 (some 1)) [l] := by
  have : Mat (.sl [d] [l].length (some 1)) [l] := .sl rfl fun i c x hc hx => by
    cases i with
    | zero => simp at hc hx; subst hc hx; exact h
    | succ i => simp at hc
  exact this
set_option maxHeartbeats 3200000 in
set_option maxRecDepth 10000 in
theorem law16 {d : DV} {m : List (List Int)} {by_ : Int} (hd : Mat d m) (hl : m.length ≤ 9223372036854775807) (hr : ∀ r ∈ m, r.length ≤ 9223372036854775807) : DeepCall Try.prog 16 [d, DI by_] (DB true) := by
  obtain ⟨x1, x2, x3⟩ := errV_meas (m := m)
  have hcr : Ints (crD (fewM m)) (crV m) := by have := cr_ints (fewM m); rwa [few_crV] at this
  refine deepCall_K 5 Try.func16 rfl (Nat.le_of_ble_eq_true rfl) fun M W0 => ?_
  refine KC.seq ?_
  refine KC.region ?_
  refine KT.step rfl rfl (K.assign rfl) ?_
  refine KT.nil ?_
  refine thenK_n ?_
  refine KC.seq ?_
  refine KC.region ?_
  refine KT.step rfl rfl (K.move rfl) ?_
  refine KT.step rfl rfl (K.call1 rfl plainTry_19 (rows19 hd hl (fun i hi => by rw [show m.getD i [] = m[i] by simp [hi]]; exact hr _ (List.getElem_mem hi)))) ?_
  refine KT.step rfl rfl (K.call1 rfl plainTry_25 (MeanF hd hl hr)) ?_
  refine KT.step rfl rfl (K.move rfl) ?_
  refine KT.step rfl rfl (K.extract rfl rfl) ?_
  refine KT.step rfl rfl (K.extract rfl rfl) ?_
  refine KT.step rfl rfl (K.extract rfl rfl) ?_
  refine KT.step rfl rfl (K.assign rfl) ?_
  refine KT.step rfl rfl (K.assign rfl) ?_
  refine KT.step rfl rfl (K.assign rfl) ?_
  refine KT.nil ?_
  refine thenK_n ?_
  refine KC.seq ?_
  refine KC.region ?_
  refine KT.step rfl rfl (K.move rfl) ?_
  refine KT.step rfl rfl (K.call1 rfl plainTry_19 (rows19 hd hl (fun i hi => by rw [show m.getD i [] = m[i] by simp [hi]]; exact hr _ (List.getElem_mem hi)))) ?_
  refine KT.step rfl rfl (K.call1 rfl plainTry_27 (CriticalF hd hl hr)) ?_
  refine KT.step rfl rfl (K.move rfl) ?_
  refine KT.step rfl rfl (K.extract rfl rfl) ?_
  refine KT.step rfl rfl (K.extract rfl rfl) ?_
  refine KT.step rfl rfl (K.assign rfl) ?_
  refine KT.step rfl rfl (K.assign rfl) ?_
  refine KT.nil ?_
  refine thenK_n ?_
  refine KC.seq ?_
  refine KC.seq ?_
  refine KC.region ?_
  refine KT.step rfl rfl (K.move rfl) ?_
  refine KT.step rfl rfl (K.call1 rfl plainTry_38 (small38 hd hl hr)) ?_
  refine KT.step rfl rfl (K.not rfl) ?_
  refine KT.nil ?_
  refine thenK_n ?_
  refine KC.cond rfl (fun hc35 => ?_) (fun hc35 => ?_)
  · skip
    have hv : validB 1000 m = false := by rw [Bool.not_eq_true'] at hc35; exact hc35
    have hmE := (meas_no hv).1
    refine KC.seq ?_
    refine KC.region ?_
    refine KT.step rfl rfl (K.move rfl) ?_
    refine KT.step rfl rfl (K.eql rfl rfl) ?_
    refine KT.step rfl rfl (K.move rfl) ?_
    refine KT.bcase (fun hb38 => ?_) (fun hb38 => ?_)
    · skip
      replace hb38 := of_decide_eq_true hb38
      refine KT.step rfl rfl (K.move rfl) ?_
      refine KT.step rfl rfl (K.eql rfl rfl) ?_
      refine KT.step rfl rfl (K.pick rfl (fun _ => rfl) (fun h => by cases h)) ?_
      refine KT.step rfl rfl (K.move rfl) ?_
      refine KT.bcase (fun hb42 => ?_) (fun hb42 => ?_)
      · skip
        replace hb42 := of_decide_eq_true hb42
        refine KT.step rfl rfl (K.call0 plainTry_24 (awake24)) ?_
        refine KT.step rfl rfl (K.pick rfl (fun _ => rfl) (fun h => by cases h)) ?_
        refine KT.step rfl rfl (K.assign rfl) ?_
        refine KT.nil ?_
        refine thenK_n ?_
        refine KC.ret ?_
        refine thenK_r ?_
        exact ⟨.inl rfl, _, rfl, rfl⟩
      · skip
        exact absurd hmE (of_decide_eq_false hb42)
    · skip
      exact absurd hmE (of_decide_eq_false hb38)
  · skip
    have hv : validB 1000 m = true := by rw [Bool.not_eq_false'] at hc35; exact hc35
    obtain ⟨sm, p3⟩ := Cy.Small.of hv
    have n6 := sm.n6
    have hd' : Mat d (genM m.length m.length (mf m)) := p3 ▸ hd
    refine KC.skip ?_
    refine thenK_n ?_
    refine KC.seq ?_
    refine KC.region ?_
    refine KT.step rfl rfl (K.move rfl) ?_
    refine KT.step rfl rfl (K.conv rfl Try.underlying3 Try.underlying45 (wrapUI by_)) ?_
    refine KT.step rfl rfl (K.rem rfl rfl (by decide) (show Int.tmod ((by_ % 2 ^ 64).toNat : Int) 41 = (((by_ % 2 ^ 64).toNat % 41 : Nat) : Int) from tmodN _ 41)) ?_
    refine KT.step rfl rfl (K.conv rfl Try.underlying45 Try.underlying3 (show IntKind.i64.wrap ((((by_ % 2 ^ 64).toNat % 41 : Nat)) : Int) = _ from wrap_id (by omega))) ?_
    have hu : (by_ % 2 ^ 64).toNat % 41 < 41 := Nat.mod_lt _ (by decide)
    generalize (by_ % 2 ^ 64).toNat % 41 = u at hu ⊢
    refine KT.step rfl rfl (K.sub rfl rfl (wrap_id (by omega))) ?_
    obtain ⟨β, hβe⟩ : ∃ β : Int, β = (u : Int) - 20 := ⟨_, rfl⟩
    rw [← hβe]
    have hβ : -20 ≤ β ∧ β ≤ 20 := by omega
    refine KT.step rfl rfl (K.assign rfl) ?_
    refine KT.nil ?_
    refine thenK_n ?_
    refine KC.seq ?_
    refine KC.region ?_
    refine KT.step rfl rfl (K.move rfl) ?_
    refine KT.step rfl rfl (K.callO (xs := [.d d]) rfl plainTry_19 (fewO hd' sm.n1 sm.n6)) ?_
    refine KT.step rfl rfl (K.assign rfl) ?_
    refine KT.nil ?_
    refine thenK_n ?_
    refine KC.seq ?_
    refine KC.seq ?_
    refine KC.region ?_
    refine KT.step rfl rfl (K.move rfl) ?_
    have hX : fewX m.length = .osl (4 * (m.length - 1) + 3) 0 m.length 1 m.length false := by
      have := sm.n1
      obtain ⟨k, hk⟩ : ∃ k, m.length = k + 1 := ⟨m.length - 1, by omega⟩
      rw [hk]; rfl
    rw [hX]
    refine KT.step rfl rfl (K.lenO rfl Try.underlying22) ?_
    refine KT.step rfl rfl (K.move rfl) ?_
    refine KT.nil ?_
    refine thenK_n ?_
    refine KC.block ?_
    refine KC.loop (fun p : List VObj × Nat => p.1) (fun p => [(0, .d d), (1, .d (DI β)), (5, .d (DI (measF m).1)), (6, .d (DI (measF m).2)), (7, .d (DI (measE m))), (8, .d (crD (fewM m))), (9, .d (DI (measE m))), (10, .osl (4 * (m.length - 1) + 3) 0 m.length 1 m.length false), (52, .osl (4 * (m.length - 1) + 3) 0 m.length 1 m.length false), (53, .d (DI (m.length : Nat))), (54, .d (DI (p.2 : Nat)))]) (fun p => p.2 ≤ m.length ∧ TRows m.length (mixS (mf m) β p.2 0) p.1 (fewX m.length) (fewI m.length)) (fun p => m.length - p.2) (_, 0) ⟨Nat.zero_le _, (few_rows m.length (mf m) m.length).same fun r _ j _ => (if_neg (by omega))⟩ rfl (by simp [Go.Vm.look, extK, enterK, hX]) ?_
    intro p hp
    obtain ⟨σ0, r⟩ := p
    obtain ⟨hr2, rows⟩ := hp
    simp only at hr2 rows ⊢
    refine KC.seq ?_
    refine KC.region ?_
    refine KT.step rfl rfl (K.lss rfl rfl) ?_
    refine KT.nil ?_
    refine thenK_n ?_
    refine KC.seq ?_
    refine KC.cond rfl (fun hc55 => ?_) (fun hc55 => ?_)
    · skip
      replace hc55 := of_decide_eq_true hc55
      refine KC.skip ?_
      refine thenK_n ?_
      refine KC.seq ?_
      refine KC.block ?_
      refine KC.seq ?_
      refine KC.region ?_
      refine KT.step rfl rfl (K.idxO rfl rfl (by omega) Try.underlying22 Try.size33) ?_
      have hown := rows.own
      rw [hX] at hown
      have hids : (fewI m.length)[r]? = some (4 * r + 1) := fewI_get.2 ⟨by omega, rfl⟩
      have hob : ∃ cells, σ0[4 * (m.length - 1) + 3]? = some ⟨cells, 0⟩ ∧ cells[0 + r]? = some (oslT m.length (4 * r + 1)) := by
        generalize hc : (fewI m.length).map (oslT m.length) = cells at hown
        cases hown with
        | sl h _ => exact ⟨cells, h, by rw [← hc, Nat.zero_add, List.getElem?_map, hids]; rfl⟩
      obtain ⟨ocells, hoc, hor⟩ := hob
      refine KT.step rfl rfl (K.loadO rfl hoc (by simp) hor Try.agg33) ?_
      refine KT.step rfl rfl (K.assign rfl) ?_
      refine KT.nil ?_
      refine thenK_n ?_
      refine KC.seq ?_
      refine KC.region ?_
      refine KT.step rfl rfl (K.move rfl) ?_
      refine KT.step rfl rfl (K.lenO rfl Try.underlying33) ?_
      refine KT.step rfl rfl (K.move rfl) ?_
      refine KT.nil ?_
      refine thenK_n ?_
      refine KC.block ?_
      have hnd : ∀ k k' id : Nat, (fewI m.length)[k]? = some id → (fewI m.length)[k']? = some id → k = k' := fun k k' id h1 h2 => by
        have e1 := (fewI_get.1 h1).2
        have e2 := (fewI_get.1 h2).2
        omega
      refine KC.loop (fun p : List VObj × Nat => p.1) (fun p => [(0, .d d), (1, .d (DI β)), (5, .d (DI (measF m).1)), (6, .d (DI (measF m).2)), (7, .d (DI (measE m))), (8, .d (crD (fewM m))), (9, .d (DI (measE m))), (10, .osl (4 * (m.length - 1) + 3) 0 m.length 1 m.length false), (52, .osl (4 * (m.length - 1) + 3) 0 m.length 1 m.length false), (53, .d (DI (m.length : Nat))), (54, .d (DI (r : Nat))), (12, oslT m.length (4 * r + 1)), (58, oslT m.length (4 * r + 1)), (59, .d (DI (m.length : Nat))), (60, .d (DI (p.2 : Nat)))]) (fun p => p.2 ≤ m.length ∧ TRows m.length (mixS (mf m) β r p.2) p.1 (fewX m.length) (fewI m.length)) (fun p => m.length - p.2) (σ0, 0) ⟨Nat.zero_le _, rows⟩ rfl (by simp [Go.Vm.look, extK, enterK]) ?_
      clear rows hown hoc hor
      intro p hp
      obtain ⟨σ1, c⟩ := p
      obtain ⟨hc2, rows⟩ := hp
      simp only at hc2 rows ⊢
      refine KC.seq ?_
      refine KC.region ?_
      refine KT.step rfl rfl (K.lss rfl rfl) ?_
      refine KT.nil ?_
      refine thenK_n ?_
      refine KC.seq ?_
      refine KC.cond rfl (fun hc61 => ?_) (fun hc61 => ?_)
      · skip
        replace hc61 := of_decide_eq_true hc61
        refine KC.skip ?_
        refine thenK_n ?_
        refine KC.seq ?_
        refine KC.block ?_
        refine KC.seq ?_
        refine KC.region ?_
        refine KT.step rfl rfl (K.move rfl) ?_
        refine KT.step rfl rfl (K.idxO rfl rfl (by omega) Try.underlying33 Try.size3) ?_
        refine KT.step rfl rfl (K.loadO rfl (rows.row r (4 * r + 1) hids) (by simp) (icells_get (l := (List.range m.length).map (mixS (mf m) β r c r)) (i := c) (by simp; omega)) Try.agg3) ?_
        rw [get_range, mixS_at]
        refine KT.step rfl rfl (K.assign rfl) ?_
        refine KT.step rfl rfl (K.assign rfl) ?_
        refine KT.nil ?_
        refine thenK_n ?_
        refine KC.seq ?_
        refine KC.region ?_
        refine KT.step rfl rfl (K.move rfl) ?_
        refine KT.step rfl rfl (K.neq rfl rfl) ?_
        refine KT.nil ?_
        refine thenK_n ?_
        refine KC.cond rfl (fun hc66 => ?_) (fun hc66 => ?_)
        · skip
          replace hc66 := of_decide_eq_true hc66
          refine KC.region ?_
          refine KT.step rfl rfl (K.move rfl) ?_
          refine KT.step rfl rfl (K.move rfl) ?_
          refine KT.step rfl rfl (K.move rfl) ?_
          refine KT.step rfl rfl (K.move rfl) ?_
          refine KT.step rfl rfl (K.add rfl rfl (wrap_id (by have := (sm.ga r c).resolve_left hc66; omega))) ?_
          refine KT.step rfl rfl (K.idxO rfl rfl (by omega) Try.underlying33 Try.size3) ?_
          refine KT.step rfl rfl (K.storeO rfl rfl (rows.row r (4 * r + 1) hids) (by rw [icells_len]; simp; omega) rfl rfl Try.size3) ?_
          refine KT.nil ?_
          refine blockK_n ?_
          refine thenK_n ?_
          refine KC.region ?_
          refine KT.step rfl rfl (K.add rfl rfl (wrap_id (by omega))) ?_
          refine KT.step rfl rfl (K.move rfl) ?_
          refine KT.nil ?_
          refine thenK_n ?_
          refine ⟨(_, c + 1), ⟨by simp only; omega, rows.put hnd hids (show c < m.length by omega) fun r' _ j' _ => mixS_step hc66 r' j'⟩, by simp only; omega, rfl, by simp [Go.Vm.look, extK]⟩
        · skip
          replace hc66 := of_decide_eq_false hc66
          refine KC.skip ?_
          refine blockK_n ?_
          refine thenK_n ?_
          refine KC.region ?_
          refine KT.step rfl rfl (K.add rfl rfl (wrap_id (by omega))) ?_
          refine KT.step rfl rfl (K.move rfl) ?_
          refine KT.nil ?_
          refine thenK_n ?_
          exact ⟨(σ1, c + 1), ⟨by simp only; omega, rows.same fun r' _ j' _ => mixS_skip (Classical.not_not.1 hc66) r' j'⟩, by simp only; omega, rfl, by simp [Go.Vm.look, extK]⟩
      · skip
        replace hc61 := of_decide_eq_false hc61
        refine KC.exit ?_
        refine thenK_x ?_
        refine thenK_x ?_
        refine blockK_e ?_
        refine blockK_n ?_
        refine thenK_n ?_
        refine KC.region ?_
        refine KT.step rfl rfl (K.add rfl rfl (wrap_id (by omega))) ?_
        refine KT.step rfl rfl (K.move rfl) ?_
        refine KT.nil ?_
        refine thenK_n ?_
        obtain rfl : c = m.length := by omega
        refine ⟨(σ1, r + 1), ⟨by simp only; omega, rows.same fun r' hr' j' hj' => ?_⟩, by simp only; omega, rfl, by simp [Go.Vm.look, extK, hX]⟩
        unfold mixS
        by_cases h : r' < r + 1
        · rw [if_pos (by omega), if_pos (by omega)]
        · rw [if_neg (by omega), if_neg (by omega)]
    · skip
      replace hc55 := of_decide_eq_false hc55
      refine KC.exit ?_
      refine thenK_x ?_
      refine thenK_x ?_
      refine blockK_e ?_
      refine thenK_n ?_
      refine KC.seq ?_
      have hrows : TRows m.length (shiftI (mf m) β) σ0 (fewX m.length) (fewI m.length) := rows.same fun r' hr' j' hj' => by
        have : r' < m.length := by simpa [fewI] using hr'
        unfold mixS; rw [if_pos (by omega)]
      have hfin := hrows.fin (by simp [fewI]; exact sm.n1)
      rw [show (fewI m.length).length = m.length by simp [fewI], ← freeze_range] at hfin
      rw [hX] at hfin
      refine KC.ghost (List.range σ0.length) 5 (t := 10) (x := .osl (4 * (m.length - 1) + 3) 0 m.length 1 m.length false) (d := genT m.length (shiftI (mf m) β) m.length) rfl hfin ?_
      have hb : Mat (genT m.length (shiftI (mf m) β) m.length) (shM m β) := genT_mat
      have hbl := genM_lens (n := m.length) (by omega) (shiftI (mf m) β)
      refine KC.region ?_
      refine KT.step rfl rfl (K.move rfl) ?_
      refine KT.step rfl rfl (K.call1 rfl plainTry_25 (Mean25 hb hbl.1 hbl.2)) ?_
      refine KT.step rfl rfl (K.move rfl) ?_
      refine KT.step rfl rfl (K.extract rfl rfl) ?_
      refine KT.step rfl rfl (K.extract rfl rfl) ?_
      refine KT.step rfl rfl (K.extract rfl rfl) ?_
      refine KT.step rfl rfl (K.assign rfl) ?_
      refine KT.step rfl rfl (K.assign rfl) ?_
      refine KT.step rfl rfl (K.assign rfl) ?_
      refine KT.nil ?_
      refine thenK_n ?_
      refine KC.seq ?_
      refine KC.region ?_
      refine KT.step rfl rfl (K.move rfl) ?_
      refine KT.step rfl rfl (K.call1 rfl plainTry_27 (Critical27 hb hbl.1 hbl.2)) ?_
      refine KT.step rfl rfl (K.move rfl) ?_
      refine KT.step rfl rfl (K.extract rfl rfl) ?_
      refine KT.step rfl rfl (K.extract rfl rfl) ?_
      refine KT.step rfl rfl (K.assign rfl) ?_
      refine KT.step rfl rfl (K.assign rfl) ?_
      refine KT.nil ?_
      refine thenK_n ?_
      refine KC.seq ?_
      refine KC.seq ?_
      refine KC.region ?_
      refine KT.step rfl rfl (K.move rfl) ?_
      refine KT.step rfl rfl (K.eql rfl rfl) ?_
      refine KT.nil ?_
      refine thenK_n ?_
      refine KC.cond rfl (fun hc87 => ?_) (fun hc87 => ?_)
      · skip
        replace hc87 := of_decide_eq_true hc87
        have hbad := small_meas _ hc87
        refine KC.seq ?_
        refine KC.region ?_
        refine KT.step rfl rfl (K.move rfl) ?_
        refine KT.step rfl rfl (K.call1 rfl plainTry_38 (small38 hb hbl.1 hbl.2)) ?_
        refine KT.step rfl rfl (K.not rfl) ?_
        refine KT.step rfl rfl (K.move rfl) ?_
        refine KT.bcase (fun hb91 => ?_) (fun hb91 => ?_)
        · skip
          refine KT.step rfl rfl (K.call0 plainTry_24 (awake24)) ?_
          refine KT.step rfl rfl (K.pick rfl (fun _ => rfl) (fun h => by cases h)) ?_
          refine KT.step rfl rfl (K.assign rfl) ?_
          refine KT.nil ?_
          refine thenK_n ?_
          refine KC.ret ?_
          refine thenK_r ?_
          exact ⟨.inl rfl, _, rfl, rfl⟩
        · skip
          rw [hbad] at hb91
          cases hb91
      · skip
        replace hc87 := of_decide_eq_false hc87
        obtain ⟨e1, e2, e3⟩ := sh_facts hv hβ hc87
        refine KC.skip ?_
        refine thenK_n ?_
        refine KC.seq ?_
        refine KC.region ?_
        refine KT.step rfl rfl (K.move rfl) ?_
        refine KT.step rfl rfl (K.move rfl) ?_
        refine KT.step rfl rfl (K.eql rfl rfl) ?_
        refine KT.step rfl rfl (K.move rfl) ?_
        refine KT.bcase (fun hb97 => ?_) (fun hb97 => ?_)
        · skip
          replace hb97 := of_decide_eq_true hb97
          refine KT.step rfl rfl (K.move rfl) ?_
          refine KT.step rfl rfl (K.move rfl) ?_
          refine KT.step rfl rfl (K.eql rfl rfl) ?_
          refine KT.step rfl rfl (K.pick rfl (fun _ => rfl) (fun h => by cases h)) ?_
          refine KT.step rfl rfl (K.move rfl) ?_
          refine KT.bcase (fun hb102 => ?_) (fun hb102 => ?_)
          · skip
            replace hb102 := of_decide_eq_true hb102
            refine KT.step rfl rfl (K.move rfl) ?_
            refine KT.step rfl rfl (K.move rfl) ?_
            refine KT.step rfl rfl (K.eql rfl rfl) ?_
            refine KT.step rfl rfl (K.pick rfl (fun _ => rfl) (fun h => by cases h)) ?_
            refine KT.step rfl rfl (K.move rfl) ?_
            refine KT.bcase (fun hb107 => ?_) (fun hb107 => ?_)
            · skip
              replace hb107 := of_decide_eq_true hb107
              refine KT.step rfl rfl (K.move rfl) ?_
              refine KT.step rfl rfl (K.move rfl) ?_
              refine KT.step rfl rfl (K.eql rfl rfl) ?_
              refine KT.step rfl rfl (K.pick rfl (fun _ => rfl) (fun h => by cases h)) ?_
              refine KT.step rfl rfl (K.move rfl) ?_
              refine KT.bcase (fun hb112 => ?_) (fun hb112 => ?_)
              · skip
                replace hb112 := of_decide_eq_true hb112
                refine KT.step rfl rfl (K.move rfl) ?_
                refine KT.step rfl rfl (K.neq rfl rfl) ?_
                refine KT.step rfl rfl (K.move rfl) ?_
                refine KT.bcase (fun hb115 => ?_) (fun hb115 => ?_)
                · skip
                  replace hb115 := of_decide_eq_true hb115
                  refine KT.skip rfl rfl ?_
                  refine KT.skip rfl rfl ?_
                  refine KT.skip rfl rfl ?_
                  refine KT.skip rfl rfl ?_
                  refine KT.skip rfl rfl ?_
                  refine KT.skip rfl rfl ?_
                  refine KT.skip rfl rfl ?_
                  refine KT.step rfl rfl (K.pick rfl (fun _ => rfl) (fun h => by cases h)) ?_
                  refine KT.step rfl rfl (K.pick rfl (fun _ => rfl) (fun h => by cases h)) ?_
                  refine KT.step rfl rfl (K.move rfl) ?_
                  refine KT.step rfl rfl (K.move rfl) ?_
                  refine KT.step rfl rfl (K.build1' (v := .d (crD (fewM m))) rfl (SlD.of hcr).cells Try.underlying22 Try.one33) ?_
                  refine KT.step rfl rfl (K.move rfl) ?_
                  refine KT.step rfl rfl (K.build1' (v := .d (crD (shM m β))) rfl (SlD.of (cr_ints (shM m β))).cells Try.underlying22 Try.one33) ?_
                  have hsame := same23 (sl1_mat hcr) (sl1_mat (cr_ints (shM m β))) (by simp) (by simp; exact crV_len)
                  generalize hσL : freezeIds σ0 (List.range σ0.length) = σF at *
                  refine KT.step rfl rfl (K.callZ (xs := [.osl σF.length 0 1 1 1 true, .osl (σF ++ [(⟨[.d (crD (fewM m))], 0⟩ : VObj)]).length 0 1 1 1 true]) (ds := [.sl [crD (fewM m)] 1 (some 1), .sl [crD (shM m β)] 1 (some 1)]) [σF.length, (σF ++ [(⟨[.d (crD (fewM m))], 0⟩ : VObj)]).length] 5 rfl plainTry_23 (by
                    have f1 : (freezeIds (σF ++ [⟨[.d (crD (fewM m))], 0⟩] ++ [⟨[.d (crD (shM m β))], 0⟩]) [σF.length, (σF ++ [(⟨[.d (crD (fewM m))], 0⟩ : VObj)]).length])[σF.length]? = some ⟨[.d (crD (fewM m))], 1⟩ := freezeIds_in (by simp) (by rw [List.getElem?_append_left (by simp)]; exact List.getElem?_concat_length ..)
                    have f2 : (freezeIds (σF ++ [⟨[.d (crD (fewM m))], 0⟩] ++ [⟨[.d (crD (shM m β))], 0⟩]) [σF.length, (σF ++ [(⟨[.d (crD (fewM m))], 0⟩ : VObj)]).length])[(σF ++ [(⟨[.d (crD (fewM m))], 0⟩ : VObj)]).length]? = some ⟨[.d (crD (shM m β))], 1⟩ := freezeIds_in (by simp) (List.getElem?_concat_length ..)
                    rw [List.mapM_cons, List.mapM_cons, deepen_cells (k := 3) (R := 1) (ds := [crD (fewM m)]) f1 rfl rfl, deepen_cells (k := 3) (R := 1) (ds := [crD (shM m β)]) f2 rfl rfl]; rfl) hsame) ?_
                  refine KT.step rfl rfl (K.pick rfl (fun _ => rfl) (fun h => by cases h)) ?_
                  refine KT.step rfl rfl (K.move rfl) ?_
                  refine KT.bcase (fun hb132 => ?_) (fun hb132 => ?_)
                  · skip
                    refine KT.step rfl rfl (K.call0 plainTry_24 (awake24)) ?_
                    refine KT.step rfl rfl (K.pick rfl (fun _ => rfl) (fun h => by cases h)) ?_
                    refine KT.step rfl rfl (K.assign rfl) ?_
                    refine KT.nil ?_
                    refine thenK_n ?_
                    refine KC.ret ?_
                    exact ⟨.inl rfl, _, rfl, rfl⟩
                  · skip
                    exact absurd (by rw [e3]) (of_decide_eq_false hb132)
                · skip
                  replace hb115 := of_decide_eq_false hb115
                  refine KT.step rfl rfl (K.move rfl) ?_
                  refine KT.step rfl rfl (K.move rfl) ?_
                  refine KT.step rfl rfl (K.move rfl) ?_
                  refine KT.step rfl rfl (K.move rfl) ?_
                  have hb0 : measE m = 0 := by omega
                  obtain ⟨bp, bq⟩ := meas_bd hb0
                  have hbq := mul_bd (a := 20) (b := 6) (x := β) (y := (measF m).2) (by omega) (by omega) (by omega) (by omega)
                  refine KT.step rfl rfl (K.mul rfl rfl (wrap_id (by omega))) ?_
                  refine KT.step rfl rfl (K.add rfl rfl (wrap_id (by omega))) ?_
                  refine KT.step rfl rfl (K.eql rfl rfl) ?_
                  refine KT.step rfl rfl (K.pick rfl (fun h => by cases h) (fun _ => rfl)) ?_
                  refine KT.step rfl rfl (K.pick rfl (fun _ => rfl) (fun h => by cases h)) ?_
                  refine KT.step rfl rfl (K.move rfl) ?_
                  refine KT.bcase (fun hb125 => ?_) (fun hb125 => ?_)
                  · skip
                    replace hb125 := of_decide_eq_true hb125
                    refine KT.step rfl rfl (K.move rfl) ?_
                    refine KT.step rfl rfl (K.build1' (v := .d (crD (fewM m))) rfl (SlD.of hcr).cells Try.underlying22 Try.one33) ?_
                    refine KT.step rfl rfl (K.move rfl) ?_
                    refine KT.step rfl rfl (K.build1' (v := .d (crD (shM m β))) rfl (SlD.of (cr_ints (shM m β))).cells Try.underlying22 Try.one33) ?_
                    have hsame := same23 (sl1_mat hcr) (sl1_mat (cr_ints (shM m β))) (by simp) (by simp; exact crV_len)
                    generalize hσL : freezeIds σ0 (List.range σ0.length) = σF at *
                    refine KT.step rfl rfl (K.callZ (xs := [.osl σF.length 0 1 1 1 true, .osl (σF ++ [(⟨[.d (crD (fewM m))], 0⟩ : VObj)]).length 0 1 1 1 true]) (ds := [.sl [crD (fewM m)] 1 (some 1), .sl [crD (shM m β)] 1 (some 1)]) [σF.length, (σF ++ [(⟨[.d (crD (fewM m))], 0⟩ : VObj)]).length] 5 rfl plainTry_23 (by
                      have f1 : (freezeIds (σF ++ [⟨[.d (crD (fewM m))], 0⟩] ++ [⟨[.d (crD (shM m β))], 0⟩]) [σF.length, (σF ++ [(⟨[.d (crD (fewM m))], 0⟩ : VObj)]).length])[σF.length]? = some ⟨[.d (crD (fewM m))], 1⟩ := freezeIds_in (by simp) (by rw [List.getElem?_append_left (by simp)]; exact List.getElem?_concat_length ..)
                      have f2 : (freezeIds (σF ++ [⟨[.d (crD (fewM m))], 0⟩] ++ [⟨[.d (crD (shM m β))], 0⟩]) [σF.length, (σF ++ [(⟨[.d (crD (fewM m))], 0⟩ : VObj)]).length])[(σF ++ [(⟨[.d (crD (fewM m))], 0⟩ : VObj)]).length]? = some ⟨[.d (crD (shM m β))], 1⟩ := freezeIds_in (by simp) (List.getElem?_concat_length ..)
                      rw [List.mapM_cons, List.mapM_cons, deepen_cells (k := 3) (R := 1) (ds := [crD (fewM m)]) f1 rfl rfl, deepen_cells (k := 3) (R := 1) (ds := [crD (shM m β)]) f2 rfl rfl]; rfl) hsame) ?_
                    refine KT.step rfl rfl (K.pick rfl (fun _ => rfl) (fun h => by cases h)) ?_
                    refine KT.step rfl rfl (K.move rfl) ?_
                    refine KT.bcase (fun hb132 => ?_) (fun hb132 => ?_)
                    · skip
                      refine KT.step rfl rfl (K.call0 plainTry_24 (awake24)) ?_
                      refine KT.step rfl rfl (K.pick rfl (fun _ => rfl) (fun h => by cases h)) ?_
                      refine KT.step rfl rfl (K.assign rfl) ?_
                      refine KT.nil ?_
                      refine thenK_n ?_
                      refine KC.ret ?_
                      exact ⟨.inl rfl, _, rfl, rfl⟩
                    · skip
                      exact absurd (by rw [e3]) (of_decide_eq_false hb132)
                  · skip
                    exact absurd (by rw [e2]) (of_decide_eq_false hb125)
              · skip
                exact absurd (by rw [e2]) (of_decide_eq_false hb112)
            · skip
              exact absurd e1.symm (of_decide_eq_false hb107)
          · skip
            exact absurd e1.symm (of_decide_eq_false hb102)
        · skip
          exact absurd rfl (of_decide_eq_false hb97)
end Go.Proofs.Ythbnnffmhnjpjaa

