import Derived.Test.YtnfnjnaheckdbaaFlTa
/-
  Dataflow graphs: when the next firing of an actor begins.
-/
namespace Go.Proofs.Ytnfnjnaheckdbaa
open Go.Vm Go.Fl
theorem plainTry_88 : plainFn Try.prog 88 = true := by kernel_rfl

abbrev Sts := Nat → List Int
def tmAt (tm : List Int) (a : Nat) : Int := tm.getD a 0
def lastZ (l : List Int) : Int := if l.length = 0 then 0 else l.getD (l.length - 1) 0
def needF (tm : List Int) (st : Sts) (a : Nat) (x : Int) (l : LN) : Int :=
  if l.t = a then (if 0 ≤ putZ l ((((st a).length + 1) * l.k : Nat) - 1) then max x ((st l.f).getD (putZ l ((((st a).length + 1) * l.k : Nat) - 1)).toNat 0 + tmAt tm l.f) else x) else x
/-- When the next firing of actor a begins. -/
def earlF (L : List LN) (tm : List Int) (st : Sts) (a : Nat) : Int := L.foldl (needF tm st a) (lastZ (st a))
theorem intX_len (l : List Int) : (intX l).length = l.length := by simp [intX]
theorem intX_get {l : List Int} {m : Nat} (hm : m < l.length) : (intX l)[0 + m]? = some (.d (DI (l.getD m 0))) := by rw [Nat.zero_add]; simp [intX, hm]
/-- The slice of slices that starts fills. -/
structure StI (σ : List VObj) (id0 N : Nat) (xs : Nat → XV) (st : Sts) : Prop where
  arr : σ[id0]? = some ⟨(List.range N).map xs, 0⟩
  own : ∀ j, j < N → OwnK 1 σ (xs j) (intX (st j))
  nil : ∀ j, j < N → st j = [] → xs j = .d Dnil
  sep : ∀ i j, i < N → j < N → i ≠ j → ∀ k, idX (xs i) = some k → idX (xs j) ≠ some k
  low : ∀ j, j < N → ∀ k, idX (xs j) = some k → id0 < k
theorem StI.more {σ : List VObj} {id0 N : Nat} {xs : Nat → XV} {st : Sts} (h : StI σ id0 N xs st) (τ : List VObj) : StI (σ ++ τ) id0 N xs st :=
  ⟨get_left h.arr, fun j hj => (h.own j hj).keep fun _ hk => List.getElem?_append_left ((h.own j hj).lt hk), h.nil, h.sep, h.low⟩
theorem StI.ne {σ : List VObj} {id0 N : Nat} {xs : Nat → XV} {st : Sts} (h : StI σ id0 N xs st) (j : Nat) (hj : j < N) : idX (xs j) ≠ some id0 := fun e => by have := h.low j hj _ e; omega
theorem StI.get {σ : List VObj} {id0 N : Nat} {xs : Nat → XV} {st : Sts} (_ : StI σ id0 N xs st) {a : Nat} (ha : a < N) : ((List.range N).map xs)[0 + a]? = some (xs a) := by rw [Nat.zero_add]; simp [ha]
section
variable {P : Program} {n : Nat} {ops : Array Oper} {l : List Oper} {σ : List VObj} {kn : Kn} {dst : Option Tmp} {ty : TypeId} {pos : String} {af : Array Edge} {g : Option (Nat × Bool)} {R : List Nat → List VObj → Kn → Prop}
theorem K.lenOwn {x : Operand} {t e : TypeId} {sx : XV} {cells : List XV} (hx : evK kn x = some sx) (hown : OwnK 1 σ sx cells) (ht : P.underlying t = some (.slice e)) : KEv P ⟨dst, .call ⟨.builtin .len, #[x], #[t]⟩, ty, pos, af, g⟩ σ kn (.d (DI (cells.length : Nat))) σ 0 := by
  cases hown with
  | nil => exact K.len (R := IsI) (l := []) hx .nil ht
  | @sl id m cells h hn =>
    have := K.lenO (σ := σ) (dst := dst) (ty := ty) (pos := pos) (af := af) (g := g) hx ht
    rwa [show m = cells.length by omega] at this
theorem KT.idxOwn {x i : Operand} {t e : TypeId} {sx : XV} {cells : List XV} {m : Nat} (hg : guardK ops kn ⟨dst, .indexAddr t x i, ty, pos, af, g⟩ = some true) (hd : dstOk n dst = true) (hx : evK kn x = some sx) (hown : OwnK 1 σ sx cells)
    (hi : evK kn i = some (.d (DI (m : Int)))) (hm : m < cells.length) (ht : P.underlying t = some (.slice e)) (hs : sizeT P e = some 1)
    (h : ∀ id, σ[id]? = some ⟨cells, 0⟩ → KT P n ops l σ (extK dst (.optr id (0 + m)) kn) (fun fls τ k => R (0 :: fls) τ k)) : KT P n ops (⟨dst, .indexAddr t x i, ty, pos, af, g⟩ :: l) σ kn R := by
  cases hown with
  | nil => simp at hm
  | @sl id q cells hc hn => exact KT.step hg hd (K.idxO hx hi (by omega) ht hs) (h id hc)
end
theorem fold_take {α β : Type} (f : β → α → β) {l : List α} {i : Nat} (hi : i < l.length) (x : β) : (l.take (i + 1)).foldl f x = f ((l.take i).foldl f x) l[i] := by
  rw [List.take_succ_eq_append_getElem hi, List.foldl_append]; rfl
theorem obj_take {σ : List VObj} {g : VObj} {L : List LN} {i : Nat} (hi : i < L.length) : (σ ++ (g :: (L.take i).map lkO)) ++ [lkO L[i]] = σ ++ (g :: (L.take (i + 1)).map lkO) := by
  rw [List.take_succ_eq_append_getElem hi, List.map_append, List.append_assoc]; rfl
theorem need_bd {tm : List Int} {st : Sts} {a : Nat} {B : Int} (hB : 0 ≤ B) (hst : ∀ j, ∀ v ∈ st j, 0 ≤ v ∧ v ≤ B) (htm : ∀ v ∈ tm, 0 ≤ v ∧ v ≤ 100) (l : LN) {x : Int} (hx : 0 ≤ x ∧ x ≤ B + 100) : 0 ≤ needF tm st a x l ∧ needF tm st a x l ≤ B + 100 := by
  have hg : ∀ (l : List Int) (k : Nat) (C : Int), 0 ≤ C → (∀ v ∈ l, 0 ≤ v ∧ v ≤ C) → 0 ≤ l.getD k 0 ∧ l.getD k 0 ≤ C := fun l k C hC h => by
    by_cases hk : k < l.length
    · have := h l[k] (List.getElem_mem hk)
      simpa [hk] using this
    · simp [hk, hC]
  unfold needF
  split
  · split
    · have h1 := hg (st l.f) (putZ l ((((st a).length + 1) * l.k : Nat) - 1)).toNat B hB (hst _)
      have h2 := hg tm l.f 100 (by omega) htm
      unfold tmAt
      omega
    · exact hx
  · exact hx
theorem fold_bd {tm : List Int} {st : Sts} {a : Nat} {B : Int} (hB : 0 ≤ B) (hst : ∀ j, ∀ v ∈ st j, 0 ≤ v ∧ v ≤ B) (htm : ∀ v ∈ tm, 0 ≤ v ∧ v ≤ 100) : ∀ (L : List LN) {x : Int}, 0 ≤ x ∧ x ≤ B + 100 → 0 ≤ L.foldl (needF tm st a) x ∧ L.foldl (needF tm st a) x ≤ B + 100
  | [], _, hx => hx
  | l :: L, _, hx => fold_bd hB hst htm L (need_bd hB hst htm l hx)
theorem last_bd {l : List Int} {B : Int} (hB : 0 ≤ B) (h : ∀ v ∈ l, 0 ≤ v ∧ v ≤ B) : 0 ≤ lastZ l ∧ lastZ l ≤ B + 100 := by
  unfold lastZ
  split
  · omega
  · rename_i hl
    have := h l[l.length - 1] (List.getElem_mem (by omega))
    have e : l.getD (l.length - 1) 0 = l[l.length - 1] := by simp [show l.length - 1 < l.length by omega]
    rw [e]; omega
set_option maxRecDepth 10000 in
theorem earliest88 {σ : List VObj} {d td : DV} {N id0 a : Nat} {L : List LN} {tm : List Int} {xs : Nat → XV} {st : Sts} {B : Int} (hd : Lks d (L.map LN.z)) (hlen : L.length ≤ 10) (hok : ∀ l ∈ L, OkL N l) (htd : Ints td tm) (htl : tm.length = N) (htm : ∀ v ∈ tm, 0 ≤ v ∧ v ≤ 100)
    (hS : StI σ id0 N xs st) (ha : a < N) (_ : N ≤ 6) (hB : 0 ≤ B ∧ B ≤ 100000) (hst : ∀ j, ∀ v ∈ st j, 0 ≤ v ∧ v ≤ B) (hk4 : (st a).length ≤ 400)
    (hput : ∀ l ∈ L, l.t = a → 0 ≤ putZ l ((((st a).length + 1) * l.k : Nat) - 1) → (putZ l ((((st a).length + 1) * l.k : Nat) - 1)).toNat < (st l.f).length) :
    OwnCall Try.prog 88 σ [.d (.agg [DI (N : Nat), d]), .d (DI (a : Nat)), .osl id0 0 N 1 N true, .d td] (σ ++ (⟨[.d (DI (N : Nat)), .d d], 0⟩ :: L.map lkO)) (.d (DI (earlF L tm st a))) := by
  have hS1 := hS.more [(⟨[.d (DI (N : Nat)), .d d], 0⟩ : VObj)]
  have hlb := last_bd hB.1 (hst a)
  refine ownCall_K Try.func88 rfl (Nat.le_of_ble_eq_true rfl) fun M W0 => ?_
  refine KC.seq ?_
  refine KC.region ?_
  refine KT.step rfl rfl (K.box rfl) ?_
  refine KT.step rfl rfl (K.assign rfl) ?_
  refine KT.nil ?_
  refine thenK_n ?_
  refine KC.seq ?_
  refine KC.draw Try.mixed ?_
  refine KT.step rfl rfl (K.move rfl) ?_
  refine KT.step rfl rfl (K.move rfl) ?_
  refine KT.step rfl rfl (K.idxO rfl rfl ha Try.underlying50 Try.size25) ?_
  refine KT.step rfl rfl (K.loadO rfl hS1.arr (by simp) (hS1.get ha) Try.agg25) ?_
  refine KT.step rfl rfl (K.lenOwn rfl (hS1.own a ha) Try.underlying25) ?_
  rw [intX_len]
  refine KT.step rfl rfl (K.assign rfl) ?_
  refine KT.step rfl rfl (K.assign rfl) ?_
  refine KT.nil ?_
  refine ⟨by kernel_rfl, ?_⟩
  refine thenK_n ?_
  refine KC.seq ?_
  refine KC.seq ?_
  refine KC.region ?_
  refine KT.step rfl rfl (K.move rfl) ?_
  refine KT.step rfl rfl (K.gtr rfl rfl) ?_
  refine KT.nil ?_
  refine thenK_n ?_
  refine KC.cond rfl (fun hc20 => ?_) (fun hc20 => ?_)
  · skip
    replace hc20 := of_decide_eq_true hc20
    have hk0 : 0 < (st a).length := by omega
    have hlast : (st a).getD ((st a).length - 1) 0 = lastZ (st a) := by unfold lastZ; rw [if_neg (by omega)]
    refine KC.region ?_
    refine KT.step rfl rfl (K.move rfl) ?_
    refine KT.step rfl rfl (K.move rfl) ?_
    refine KT.step rfl rfl (K.idxO rfl rfl ha Try.underlying50 Try.size25) ?_
    refine KT.step rfl rfl (K.loadO rfl hS1.arr (by simp) (hS1.get ha) Try.agg25) ?_
    refine KT.step rfl rfl (K.move rfl) ?_
    refine KT.step rfl rfl (K.sub rfl rfl (show IntKind.i64.wrap (((st a).length : Int) - 1) = (((st a).length - 1 : Nat) : Int) from by rw [wrap_id (by omega)]; omega)) ?_
    refine KT.idxOwn rfl rfl rfl (hS1.own a ha) rfl (by rw [intX_len]; omega) Try.underlying25 Try.size3 fun id1 hid1 => ?_
    refine KT.step rfl rfl (K.loadO rfl hid1 (by simp) (intX_get (by omega)) Try.agg3) ?_
    refine KT.step rfl rfl (K.assign rfl) ?_
    refine KT.nil ?_
    refine thenK_n ?_
    refine KC.seq ?_
    refine KC.seq ?_
    refine KC.region ?_
    refine KT.step rfl rfl (K.fieldAddrO rfl Try.fld31_1 Try.size29) ?_
    refine KT.step rfl rfl (K.loadO rfl (List.getElem?_concat_length ..) (by simp) rfl Try.agg29) ?_
    refine KT.step rfl rfl (K.lenN rfl hd Try.underlying29) ?_
    refine KT.step rfl rfl (K.move rfl) ?_
    refine KT.nil ?_
    refine thenK_n ?_
    refine KC.block ?_
    try rw [hlast]
    refine KC.loop (fun i : Nat => σ ++ (⟨[.d (DI (N : Nat)), .d d], 0⟩ :: (L.take i).map lkO)) (fun i => [(1, .d (DI (a : Nat))), (2, .osl id0 0 N 1 N true), (3, .d td), (9, .d (DI ((L.take i).foldl (needF tm st a) (lastZ (st a))))), (10, .d (DI ((st a).length : Nat))), (30, .d d), (31, .d (DI (L.length : Nat))), (32, .d (DI (i : Nat)))]) (fun i => i ≤ L.length) (fun i => L.length - i) 0 (Nat.zero_le _) (by simp; rfl) (by first | (simp [Go.Vm.look, extK, enterK]; done) | (simp [Go.Vm.look, extK, enterK, hlast0]; done)) ?_
    intro i hi
    refine KC.seq ?_
    refine KC.region ?_
    refine KT.step rfl rfl (K.lss rfl rfl) ?_
    refine KT.nil ?_
    refine thenK_n ?_
    refine KC.seq ?_
    refine KC.cond rfl (fun hc33 => ?_) (fun hc33 => ?_)
    · skip
      replace hc33 := of_decide_eq_true hc33
      have hil : i < L.length := by omega
      have ok := hok _ (List.getElem_mem hil)
      have mb : ((st a).length + 1) * L[i].k ≤ 401 * 6 := Nat.mul_le_mul (by omega) ok.k6
      have ab := fold_bd hB.1 hst htm (a := a) (L.take i) hlb
      refine KC.skip ?_
      refine thenK_n ?_
      refine KC.seq ?_
      refine KC.block ?_
      refine KC.seq ?_
      refine KC.region ?_
      refine KT.step rfl rfl (K.idxN rfl hd rfl hil Try.underlying29 Try.size62) ?_
      refine KT.step rfl rfl (K.loadN hil rfl Try.agg62 Try.size62) ?_
      refine KT.step rfl rfl (K.alloc Try.zero62) ?_
      refine KT.storeL (cs := (lk5 L[i].z).map .d) rfl rfl rfl rfl rfl rfl rfl Try.size62 ?_
      have hn12 : ((σ ++ (⟨[.d (DI (N : Nat)), .d d], 0⟩ :: (L.take i).map lkO)) ++ [lkO L[i]])[(σ ++ (⟨[.d (DI (N : Nat)), .d d], 0⟩ :: (L.take i).map lkO)).length]? = some (lkO L[i]) := List.getElem?_concat_length ..
      have hS2 : StI ((σ ++ (⟨[.d (DI (N : Nat)), .d d], 0⟩ :: (L.take i).map lkO)) ++ [lkO L[i]]) id0 N xs st := (hS.more _).more _
      refine KT.nil ?_
      refine thenK_n ?_
      refine KC.seq ?_
      refine KC.seq ?_
      refine KC.region ?_
      refine KT.step rfl rfl (K.fieldAddrO rfl Try.fld62_1 Try.size3) ?_
      refine KT.step rfl rfl (K.loadO rfl hn12 (by simp) rfl Try.agg3) ?_
      refine KT.step rfl rfl (K.move rfl) ?_
      refine KT.step rfl rfl (K.neq rfl rfl) ?_
      refine KT.nil ?_
      refine thenK_n ?_
      refine KC.cond rfl (fun hc39 => ?_) (fun hc39 => ?_)
      · skip
        replace hc39 := of_decide_eq_true hc39
        replace hc39 : ¬ (L[i].t : Int) = (a : Int) := hc39
        refine KC.exit ?_
        refine thenK_x ?_
        refine blockK_e ?_
        refine thenK_n ?_
        refine KC.region ?_
        refine KT.step rfl rfl (K.add rfl rfl (wrap_id (by omega))) ?_
        refine KT.step rfl rfl (K.move rfl) ?_
        refine KT.nil ?_
        refine thenK_n ?_
        refine ⟨i + 1, by omega, by omega, obj_take hil, ?_⟩
        rw [fold_take _ hil]
        have e : needF tm st a ((L.take i).foldl (needF tm st a) (lastZ (st a))) L[i] = (L.take i).foldl (needF tm st a) (lastZ (st a)) := if_neg (by omega)
        rw [e]; simp [Go.Vm.look, extK]
      · skip
        replace hc39 := of_decide_eq_false hc39
        replace hc39 : ¬ ¬ (L[i].t : Int) = (a : Int) := hc39
        have hta : L[i].t = a := by omega
        refine KC.skip ?_
        refine thenK_n ?_
        refine KC.seq ?_
        refine KC.region ?_
        refine KT.step rfl rfl (K.loadOA (lk5 L[i].z) rfl hn12 (by decide) Try.agg62 Try.size62 rfl) ?_
        refine KT.step rfl rfl (K.move rfl) ?_
        refine KT.step rfl rfl (K.add rfl rfl (oneN (by omega))) ?_
        refine KT.step rfl rfl (K.fieldAddrO rfl Try.fld62_3 Try.size3) ?_
        refine KT.step rfl rfl (K.loadO rfl hn12 (by simp) rfl Try.agg3) ?_
        refine KT.step rfl rfl (K.mul rfl rfl (mulN (by omega))) ?_
        refine KT.step rfl rfl (K.sub rfl rfl (wrap_id (by omega))) ?_
        refine KT.step rfl rfl (K.call2 rfl rfl plainTry_80 (put80 ok (by omega))) ?_
        refine KT.step rfl rfl (K.assign rfl) ?_
        refine KT.nil ?_
        refine thenK_n ?_
        refine KC.seq ?_
        refine KC.region ?_
        refine KT.step rfl rfl (K.move rfl) ?_
        refine KT.step rfl rfl (K.geq rfl rfl) ?_
        refine KT.nil ?_
        refine thenK_n ?_
        refine KC.cond rfl (fun hc49 => ?_) (fun hc49 => ?_)
        · skip
          replace hc49 := of_decide_eq_true hc49
          obtain ⟨p, hp⟩ := Int.eq_ofNat_of_zero_le hc49
          have hpl := hput _ (List.getElem_mem hil) hta hc49
          rw [hp, Int.toNat_natCast] at hpl
          rw [hp]
          have hft : L[i].f < tm.length := by rw [htl]; exact ok.f
          have tb := htm _ (List.getElem_mem hft)
          have sb : 0 ≤ (st L[i].f).getD p 0 ∧ (st L[i].f).getD p 0 ≤ B := by
            have := hst _ _ (List.getElem_mem hpl)
            simpa [hpl] using this
          refine KC.draw Try.mixed ?_
          refine KT.step rfl rfl (K.move rfl) ?_
          refine KT.step rfl rfl (K.move rfl) ?_
          refine KT.step rfl rfl (K.fieldAddrO rfl Try.fld62_0 Try.size3) ?_
          refine KT.step rfl rfl (K.loadO rfl hn12 (by simp) rfl Try.agg3) ?_
          refine KT.step rfl rfl (K.idxO rfl rfl ok.f Try.underlying50 Try.size25) ?_
          refine KT.step rfl rfl (K.loadO rfl hS2.arr (by simp) (hS2.get ok.f) Try.agg25) ?_
          refine KT.step rfl rfl (K.move rfl) ?_
          refine KT.idxOwn rfl rfl rfl (hS2.own _ ok.f) rfl (by rw [intX_len]; exact hpl) Try.underlying25 Try.size3 fun id2 hid2 => ?_
          refine KT.step rfl rfl (K.loadO rfl hid2 (by simp) (intX_get hpl) Try.agg3) ?_
          refine KT.step rfl rfl (K.move rfl) ?_
          refine KT.step rfl rfl (K.fieldAddrO rfl Try.fld62_0 Try.size3) ?_
          refine KT.step rfl rfl (K.loadO rfl hn12 (by simp) rfl Try.agg3) ?_
          refine KT.idxI rfl rfl rfl (by assumption) rfl hft Try.underlying25 Try.size3 fun cs62 => ?_
          refine KT.step rfl rfl (K.load rfl Try.agg3) ?_
          refine KT.step rfl rfl (K.add rfl rfl (wrap_id (by omega))) ?_
          refine KT.step rfl rfl (K.max2 rfl rfl) ?_
          refine KT.step rfl rfl (K.assign rfl) ?_
          refine KT.nil ?_
          refine ⟨by kernel_rfl, ?_⟩
          refine blockK_n ?_
          refine thenK_n ?_
          refine KC.region ?_
          refine KT.step rfl rfl (K.add rfl rfl (wrap_id (by omega))) ?_
          refine KT.step rfl rfl (K.move rfl) ?_
          refine KT.nil ?_
          refine thenK_n ?_
          refine ⟨i + 1, by omega, by omega, obj_take hil, ?_⟩
          rw [fold_take _ hil]
          have e : needF tm st a ((L.take i).foldl (needF tm st a) (lastZ (st a))) L[i] = max ((L.take i).foldl (needF tm st a) (lastZ (st a))) ((st L[i].f).getD p 0 + tm[L[i].f]) := by
            unfold needF; rw [if_pos hta, if_pos (by omega), hp, Int.toNat_natCast]
            simp [tmAt, hft]
          rw [e]; simp [Go.Vm.look, extK]
        · skip
          replace hc49 := of_decide_eq_false hc49
          refine KC.skip ?_
          refine blockK_n ?_
          refine thenK_n ?_
          refine KC.region ?_
          refine KT.step rfl rfl (K.add rfl rfl (wrap_id (by omega))) ?_
          refine KT.step rfl rfl (K.move rfl) ?_
          refine KT.nil ?_
          refine thenK_n ?_
          refine ⟨i + 1, by omega, by omega, obj_take hil, ?_⟩
          rw [fold_take _ hil]
          have e : needF tm st a ((L.take i).foldl (needF tm st a) (lastZ (st a))) L[i] = (L.take i).foldl (needF tm st a) (lastZ (st a)) := by
            unfold needF; rw [if_pos hta, if_neg hc49]
          rw [e]; simp [Go.Vm.look, extK]
    · skip
      replace hc33 := of_decide_eq_false hc33
      refine KC.exit ?_
      refine thenK_x ?_
      refine thenK_x ?_
      refine blockK_e ?_
      refine thenK_n ?_
      refine KC.seq ?_
      refine KC.region ?_
      refine KT.step rfl rfl (K.move rfl) ?_
      refine KT.step rfl rfl (K.assign rfl) ?_
      refine KT.nil ?_
      refine thenK_n ?_
      refine KC.ret ?_
      obtain rfl : i = L.length := by omega
      rw [List.take_length]
      exact ⟨.inl rfl, rfl, rfl⟩
  · skip
    replace hc20 := of_decide_eq_false hc20
    have hlast0 : lastZ (st a) = 0 := by unfold lastZ; rw [if_pos (by omega)]
    refine KC.skip ?_
    refine thenK_n ?_
    refine KC.seq ?_
    refine KC.seq ?_
    refine KC.region ?_
    refine KT.step rfl rfl (K.fieldAddrO rfl Try.fld31_1 Try.size29) ?_
    refine KT.step rfl rfl (K.loadO rfl (List.getElem?_concat_length ..) (by simp) rfl Try.agg29) ?_
    refine KT.step rfl rfl (K.lenN rfl hd Try.underlying29) ?_
    refine KT.step rfl rfl (K.move rfl) ?_
    refine KT.nil ?_
    refine thenK_n ?_
    refine KC.block ?_
    try rw [hlast]
    refine KC.loop (fun i : Nat => σ ++ (⟨[.d (DI (N : Nat)), .d d], 0⟩ :: (L.take i).map lkO)) (fun i => [(1, .d (DI (a : Nat))), (2, .osl id0 0 N 1 N true), (3, .d td), (9, .d (DI ((L.take i).foldl (needF tm st a) (lastZ (st a))))), (10, .d (DI ((st a).length : Nat))), (30, .d d), (31, .d (DI (L.length : Nat))), (32, .d (DI (i : Nat)))]) (fun i => i ≤ L.length) (fun i => L.length - i) 0 (Nat.zero_le _) (by simp; rfl) (by first | (simp [Go.Vm.look, extK, enterK]; done) | (simp [Go.Vm.look, extK, enterK, hlast0]; done)) ?_
    intro i hi
    refine KC.seq ?_
    refine KC.region ?_
    refine KT.step rfl rfl (K.lss rfl rfl) ?_
    refine KT.nil ?_
    refine thenK_n ?_
    refine KC.seq ?_
    refine KC.cond rfl (fun hc33 => ?_) (fun hc33 => ?_)
    · skip
      replace hc33 := of_decide_eq_true hc33
      have hil : i < L.length := by omega
      have ok := hok _ (List.getElem_mem hil)
      have mb : ((st a).length + 1) * L[i].k ≤ 401 * 6 := Nat.mul_le_mul (by omega) ok.k6
      have ab := fold_bd hB.1 hst htm (a := a) (L.take i) hlb
      refine KC.skip ?_
      refine thenK_n ?_
      refine KC.seq ?_
      refine KC.block ?_
      refine KC.seq ?_
      refine KC.region ?_
      refine KT.step rfl rfl (K.idxN rfl hd rfl hil Try.underlying29 Try.size62) ?_
      refine KT.step rfl rfl (K.loadN hil rfl Try.agg62 Try.size62) ?_
      refine KT.step rfl rfl (K.alloc Try.zero62) ?_
      refine KT.storeL (cs := (lk5 L[i].z).map .d) rfl rfl rfl rfl rfl rfl rfl Try.size62 ?_
      have hn12 : ((σ ++ (⟨[.d (DI (N : Nat)), .d d], 0⟩ :: (L.take i).map lkO)) ++ [lkO L[i]])[(σ ++ (⟨[.d (DI (N : Nat)), .d d], 0⟩ :: (L.take i).map lkO)).length]? = some (lkO L[i]) := List.getElem?_concat_length ..
      have hS2 : StI ((σ ++ (⟨[.d (DI (N : Nat)), .d d], 0⟩ :: (L.take i).map lkO)) ++ [lkO L[i]]) id0 N xs st := (hS.more _).more _
      refine KT.nil ?_
      refine thenK_n ?_
      refine KC.seq ?_
      refine KC.seq ?_
      refine KC.region ?_
      refine KT.step rfl rfl (K.fieldAddrO rfl Try.fld62_1 Try.size3) ?_
      refine KT.step rfl rfl (K.loadO rfl hn12 (by simp) rfl Try.agg3) ?_
      refine KT.step rfl rfl (K.move rfl) ?_
      refine KT.step rfl rfl (K.neq rfl rfl) ?_
      refine KT.nil ?_
      refine thenK_n ?_
      refine KC.cond rfl (fun hc39 => ?_) (fun hc39 => ?_)
      · skip
        replace hc39 := of_decide_eq_true hc39
        replace hc39 : ¬ (L[i].t : Int) = (a : Int) := hc39
        refine KC.exit ?_
        refine thenK_x ?_
        refine blockK_e ?_
        refine thenK_n ?_
        refine KC.region ?_
        refine KT.step rfl rfl (K.add rfl rfl (wrap_id (by omega))) ?_
        refine KT.step rfl rfl (K.move rfl) ?_
        refine KT.nil ?_
        refine thenK_n ?_
        refine ⟨i + 1, by omega, by omega, obj_take hil, ?_⟩
        rw [fold_take _ hil]
        have e : needF tm st a ((L.take i).foldl (needF tm st a) (lastZ (st a))) L[i] = (L.take i).foldl (needF tm st a) (lastZ (st a)) := if_neg (by omega)
        rw [e]; simp [Go.Vm.look, extK]
      · skip
        replace hc39 := of_decide_eq_false hc39
        replace hc39 : ¬ ¬ (L[i].t : Int) = (a : Int) := hc39
        have hta : L[i].t = a := by omega
        refine KC.skip ?_
        refine thenK_n ?_
        refine KC.seq ?_
        refine KC.region ?_
        refine KT.step rfl rfl (K.loadOA (lk5 L[i].z) rfl hn12 (by decide) Try.agg62 Try.size62 rfl) ?_
        refine KT.step rfl rfl (K.move rfl) ?_
        refine KT.step rfl rfl (K.add rfl rfl (oneN (by omega))) ?_
        refine KT.step rfl rfl (K.fieldAddrO rfl Try.fld62_3 Try.size3) ?_
        refine KT.step rfl rfl (K.loadO rfl hn12 (by simp) rfl Try.agg3) ?_
        refine KT.step rfl rfl (K.mul rfl rfl (mulN (by omega))) ?_
        refine KT.step rfl rfl (K.sub rfl rfl (wrap_id (by omega))) ?_
        refine KT.step rfl rfl (K.call2 rfl rfl plainTry_80 (put80 ok (by omega))) ?_
        refine KT.step rfl rfl (K.assign rfl) ?_
        refine KT.nil ?_
        refine thenK_n ?_
        refine KC.seq ?_
        refine KC.region ?_
        refine KT.step rfl rfl (K.move rfl) ?_
        refine KT.step rfl rfl (K.geq rfl rfl) ?_
        refine KT.nil ?_
        refine thenK_n ?_
        refine KC.cond rfl (fun hc49 => ?_) (fun hc49 => ?_)
        · skip
          replace hc49 := of_decide_eq_true hc49
          obtain ⟨p, hp⟩ := Int.eq_ofNat_of_zero_le hc49
          have hpl := hput _ (List.getElem_mem hil) hta hc49
          rw [hp, Int.toNat_natCast] at hpl
          rw [hp]
          have hft : L[i].f < tm.length := by rw [htl]; exact ok.f
          have tb := htm _ (List.getElem_mem hft)
          have sb : 0 ≤ (st L[i].f).getD p 0 ∧ (st L[i].f).getD p 0 ≤ B := by
            have := hst _ _ (List.getElem_mem hpl)
            simpa [hpl] using this
          refine KC.draw Try.mixed ?_
          refine KT.step rfl rfl (K.move rfl) ?_
          refine KT.step rfl rfl (K.move rfl) ?_
          refine KT.step rfl rfl (K.fieldAddrO rfl Try.fld62_0 Try.size3) ?_
          refine KT.step rfl rfl (K.loadO rfl hn12 (by simp) rfl Try.agg3) ?_
          refine KT.step rfl rfl (K.idxO rfl rfl ok.f Try.underlying50 Try.size25) ?_
          refine KT.step rfl rfl (K.loadO rfl hS2.arr (by simp) (hS2.get ok.f) Try.agg25) ?_
          refine KT.step rfl rfl (K.move rfl) ?_
          refine KT.idxOwn rfl rfl rfl (hS2.own _ ok.f) rfl (by rw [intX_len]; exact hpl) Try.underlying25 Try.size3 fun id2 hid2 => ?_
          refine KT.step rfl rfl (K.loadO rfl hid2 (by simp) (intX_get hpl) Try.agg3) ?_
          refine KT.step rfl rfl (K.move rfl) ?_
          refine KT.step rfl rfl (K.fieldAddrO rfl Try.fld62_0 Try.size3) ?_
          refine KT.step rfl rfl (K.loadO rfl hn12 (by simp) rfl Try.agg3) ?_
          refine KT.idxI rfl rfl rfl (by assumption) rfl hft Try.underlying25 Try.size3 fun cs62 => ?_
          refine KT.step rfl rfl (K.load rfl Try.agg3) ?_
          refine KT.step rfl rfl (K.add rfl rfl (wrap_id (by omega))) ?_
          refine KT.step rfl rfl (K.max2 rfl rfl) ?_
          refine KT.step rfl rfl (K.assign rfl) ?_
          refine KT.nil ?_
          refine ⟨by kernel_rfl, ?_⟩
          refine blockK_n ?_
          refine thenK_n ?_
          refine KC.region ?_
          refine KT.step rfl rfl (K.add rfl rfl (wrap_id (by omega))) ?_
          refine KT.step rfl rfl (K.move rfl) ?_
          refine KT.nil ?_
          refine thenK_n ?_
          refine ⟨i + 1, by omega, by omega, obj_take hil, ?_⟩
          rw [fold_take _ hil]
          have e : needF tm st a ((L.take i).foldl (needF tm st a) (lastZ (st a))) L[i] = max ((L.take i).foldl (needF tm st a) (lastZ (st a))) ((st L[i].f).getD p 0 + tm[L[i].f]) := by
            unfold needF; rw [if_pos hta, if_pos (by omega), hp, Int.toNat_natCast]
            simp [tmAt, hft]
          rw [e]; simp [Go.Vm.look, extK]
        · skip
          replace hc49 := of_decide_eq_false hc49
          refine KC.skip ?_
          refine blockK_n ?_
          refine thenK_n ?_
          refine KC.region ?_
          refine KT.step rfl rfl (K.add rfl rfl (wrap_id (by omega))) ?_
          refine KT.step rfl rfl (K.move rfl) ?_
          refine KT.nil ?_
          refine thenK_n ?_
          refine ⟨i + 1, by omega, by omega, obj_take hil, ?_⟩
          rw [fold_take _ hil]
          have e : needF tm st a ((L.take i).foldl (needF tm st a) (lastZ (st a))) L[i] = (L.take i).foldl (needF tm st a) (lastZ (st a)) := by
            unfold needF; rw [if_pos hta, if_neg hc49]
          rw [e]; simp [Go.Vm.look, extK]
    · skip
      replace hc33 := of_decide_eq_false hc33
      refine KC.exit ?_
      refine thenK_x ?_
      refine thenK_x ?_
      refine blockK_e ?_
      refine thenK_n ?_
      refine KC.seq ?_
      refine KC.region ?_
      refine KT.step rfl rfl (K.move rfl) ?_
      refine KT.step rfl rfl (K.assign rfl) ?_
      refine KT.nil ?_
      refine thenK_n ?_
      refine KC.ret ?_
      obtain rfl : i = L.length := by omega
      rw [List.take_length]
      exact ⟨.inl rfl, rfl, rfl⟩
end Go.Proofs.Ytnfnjnaheckdbaa

