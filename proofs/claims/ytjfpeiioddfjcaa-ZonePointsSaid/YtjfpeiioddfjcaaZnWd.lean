import Derived.Test.YtjfpeiioddfjcaaZnWc
/-
  Zones: the reference: Has, Includes.
-/
namespace Go.Proofs.Ytjfpeiioddfjcaa
open Go.Vm Go.Zn
theorem plainTry_74 : plainFn Try.prog 74 = true := by kernel_rfl
theorem plainTry_32 : plainFn Try.prog 32 = true := by kernel_rfl
theorem plainTry_30 : plainFn Try.prog 30 = true := by kernel_rfl
theorem plainTry_34 : plainFn Try.prog 34 = true := by kernel_rfl

theorem K.appP {P : Program} {σ : List VObj} {kn : Kn} {dst : Option Tmp} {ty : TypeId} {pos : String} {af : Array Edge} {g : Option (Nat × Bool)} {t e : TypeId} {x y : Operand} {d : DV} {l : List Int} {id m : Nat} {z : Value} (hx : evK kn x = some (.osl id 0 1 1 1 true)) (hy : evK kn y = some (.d d)) (hd : Ints d l) (hid : σ[id]? = some ⟨[.d (DI 0)], 0⟩)
    (h0 : l.length ≠ 0) (hm : l.length + 1 = m) (hlen : m ≤ 1073741824) (ht : P.underlying t = some (.slice e)) (h1 : OneT P e z) :
    KEv P ⟨dst, .call ⟨.builtin .append, #[x, y], #[t, t]⟩, ty, pos, af, g⟩ σ kn (.osl σ.length 0 m 1 m false) (σ ++ [⟨vC m (pv l), 0⟩]) 2 := by
  cases hd with
  | nil => simp at h0
  | @sl cs _ cap hn h =>
    have e := ints_cells hn h
    subst e
    refine ev_op fun env he => ?_
    have e1 := evK_evalX he hx
    have e2 := evK_evalX he hy
    have hz : (zeroT P e).map (·.cells.size) = some 1 := by rw [h1.zero]; simp [h1.cells]
    have hv : [XV.d (DI 0)] ++ (l.map DI).map XV.d = vC m (pv l) := by
      subst hm
      unfold vC
      rw [List.range_succ_eq_map, List.map_cons]
      show XV.d (DI 0) :: (l.map DI).map XV.d = XV.d (DI (pv l 0)) :: _
      rw [pv_zero]
      refine congrArg (List.cons (XV.d (DI 0))) ?_
      refine List.ext_getElem? fun i => ?_
      rw [List.getElem?_map, List.getElem?_map, List.getElem?_map, List.getElem?_map]
      by_cases hi : i < l.length
      · rw [List.getElem?_range hi, List.getElem?_eq_getElem hi]
        show some (XV.d (DI l[i])) = some (.d (DI (pv l (i + 1))))
        rw [pv_succ, List.getD_eq_getElem?_getD, List.getElem?_eq_getElem hi]; rfl
      · rw [List.getElem?_eq_none (by omega), List.getElem?_eq_none (by simp; omega)]; rfl
    unfold evalOp
    rw [litOp_none (x := x) (by simp [Op.operands, Call.operands]) (by rw [e1]; rfl)]
    have ha : ((l.map DI).map XV.d).all oneX = true := by
      rw [List.all_map, List.all_map, List.all_eq_true]
      intro x _; rfl
    have hlm : 1 + l.length = m := by omega
    have hsc : srcCells σ 1 (.d (.sl (l.map DI) l.length cap)) = some ((l.map DI).map XV.d, l.length, 0) := by
      show (if l.length * 1 ≤ (l.map DI).length then some (((l.map DI).take (l.length * 1)).map XV.d, l.length, 0) else none) = _
      rw [if_pos (by simp), List.take_of_length_le (by simp)]
    simp only [e1, e2, opAppend, ht, h1.size, hsc, ha, h0, hid, if_true, if_false, hlm]
    rw [if_neg (show ¬ m ≤ 1 by omega), if_pos (by simp)]
    simp only [growTo, List.drop_zero, Nat.mul_one, List.take_succ_cons, List.take_zero]
    rw [hv]
    simp [hlen, h1.bytes, hz]
set_option maxHeartbeats 1000000 in
set_option maxRecDepth 10000 in
theorem has74 {d e : DV} {z : List (List Int)} {p : List Int} (hd : Mat d z) (hv : validZ z = true) (he : Ints e p) (hpl : p.length + 1 = z.length) (hpb : ∀ x ∈ p, 0 ≤ x ∧ x ≤ 20000) : DeepCall Try.prog 74 [d, e] (DB (insideB z.length (zf z) (pv p) 4)) := by
  have hn := (validZ_rows hv).2.1
  have h2 := (validZ_rows hv).1
  have hrow : ∀ k (h : k < z.length), z[k].length = z.length := fun k h => ((validZ_rows hv).2.2 _ (List.getElem_mem h)).1
  have hz := zf_lim hv
  refine deepCall_K 5 Try.func74 rfl (Nat.le_of_ble_eq_true rfl) fun M W0 => ?_
  refine KC.seq ?_
  refine KC.region ?_
  refine KT.step rfl rfl (K.assign rfl) ?_
  refine KT.nil ?_
  refine thenK_n ?_
  refine KC.seq ?_
  refine KC.region ?_
  refine KT.step rfl rfl (K.build1' (v := .d (DI 0)) rfl rfl Try.underlying23 Try.one3) ?_
  refine KT.step rfl rfl (K.move rfl) ?_
  refine KT.step rfl rfl (K.appP rfl rfl he rfl (by omega) hpl (by omega) Try.underlying23 Try.one3) ?_
  refine KT.step rfl rfl (K.assign rfl) ?_
  refine KT.nil ?_
  refine thenK_n ?_
  refine KC.seq ?_
  refine KC.seq ?_
  refine KC.region ?_
  refine KT.step rfl rfl (K.move rfl) ?_
  refine KT.step rfl rfl (K.len rfl hd Try.underlying22) ?_
  refine KT.step rfl rfl (K.move rfl) ?_
  refine KT.nil ?_
  refine thenK_n ?_
  refine KC.block ?_
  refine KC.loop (fun _ : Nat => [⟨[.d (DI 0)], 0⟩, ⟨vC z.length (pv p), 0⟩]) (fun i => [(5, .osl 1 0 z.length 1 z.length false), (13, .d d), (14, .d (DI (z.length : Nat))), (15, .d (DI (i : Nat)))]) (fun i => i ≤ z.length ∧ ∀ x y, x < i → y < z.length → pv p x - pv p y ≤ gre (zf z x y) 4) (fun i => z.length - i) 0 ⟨Nat.zero_le _, fun _ _ h => absurd h (Nat.not_lt_zero _)⟩ rfl (by simp [Go.Vm.look, extK, enterK]) ?_
  intro i hi
  obtain ⟨hi, hall⟩ := hi
  refine KC.seq ?_
  refine KC.region ?_
  refine KT.step rfl rfl (K.lss rfl rfl) ?_
  refine KT.nil ?_
  refine thenK_n ?_
  refine KC.seq ?_
  refine KC.cond rfl (fun hc16 => ?_) (fun hc16 => ?_)
  · skip
    replace hc16 := of_decide_eq_true hc16
    have hil : i < z.length := by omega
    have hvi := pv_lim hpb i
    refine KC.skip ?_
    refine thenK_n ?_
    refine KC.seq ?_
    refine KC.block ?_
    refine KC.seq ?_
    refine KC.region ?_
    refine KT.step rfl rfl (K.move rfl) ?_
    refine KT.idx rfl rfl rfl hd rfl hil Try.underlying22 Try.size23 fun c18 cs18 hq18 => ?_
    refine KT.step rfl rfl (K.load rfl Try.agg23) ?_
    refine KT.step rfl rfl (K.assign rfl) ?_
    refine KT.step rfl rfl (K.assign rfl) ?_
    refine KT.nil ?_
    refine thenK_n ?_
    refine KC.seq ?_
    refine KC.region ?_
    refine KT.step rfl rfl (K.move rfl) ?_
    refine KT.step rfl rfl (K.len rfl hq18 Try.underlying23) ?_
    rw [hrow]
    refine KT.step rfl rfl (K.move rfl) ?_
    refine KT.nil ?_
    refine thenK_n ?_
    refine KC.block ?_
    refine KC.loop (fun _ : Nat => [⟨[.d (DI 0)], 0⟩, ⟨vC z.length (pv p), 0⟩]) (fun j => [(5, .osl 1 0 z.length 1 z.length false), (13, .d d), (14, .d (DI (z.length : Nat))), (15, .d (DI (i : Nat))), (6, .d (DI (i : Nat))), (20, .d c18), (21, .d (DI (z.length : Nat))), (22, .d (DI (j : Nat)))]) (fun j => j ≤ z.length ∧ ∀ y, y < j → pv p i - pv p y ≤ gre (zf z i y) 4) (fun j => z.length - j) 0 ⟨Nat.zero_le _, fun _ h => absurd h (Nat.not_lt_zero _)⟩ rfl (by simp [Go.Vm.look, extK, enterK]) ?_
    intro j hj
    obtain ⟨hj, hall2⟩ := hj
    refine KC.seq ?_
    refine KC.region ?_
    refine KT.step rfl rfl (K.lss rfl rfl) ?_
    refine KT.nil ?_
    refine thenK_n ?_
    refine KC.seq ?_
    refine KC.cond rfl (fun hc23 => ?_) (fun hc23 => ?_)
    · skip
      replace hc23 := of_decide_eq_true hc23
      have hjl : j < z.length := by omega
      have hvj := pv_lim hpb j
      have hw4 := wB_4 (diff := pv p i - pv p j) (b := zf z i j) (by omega)
      refine KC.skip ?_
      refine thenK_n ?_
      refine KC.seq ?_
      refine KC.block ?_
      refine KC.seq ?_
      refine KC.region ?_
      refine KT.step rfl rfl (K.move rfl) ?_
      refine KT.idxI rfl rfl rfl hq18 rfl (by rw [hrow]; omega) Try.underlying23 Try.size3 fun cs25 => ?_
      rw [zf_get]
      refine KT.step rfl rfl (K.load rfl Try.agg3) ?_
      refine KT.step rfl rfl (K.assign rfl) ?_
      refine KT.step rfl rfl (K.assign rfl) ?_
      refine KT.nil ?_
      refine thenK_n ?_
      refine KC.seq ?_
      refine KC.draw Try.mixed ?_
      refine KT.step rfl rfl (K.move rfl) ?_
      refine KT.step rfl rfl (K.move rfl) ?_
      refine KT.step rfl rfl (K.idxO (m := i) rfl rfl hil Try.underlying23 Try.size3) ?_
      refine KT.step rfl rfl (K.loadO rfl rfl (by simp) (vC_get hil) Try.agg3) ?_
      refine KT.step rfl rfl (K.move rfl) ?_
      refine KT.step rfl rfl (K.move rfl) ?_
      refine KT.step rfl rfl (K.idxO (m := j) rfl rfl hjl Try.underlying23 Try.size3) ?_
      refine KT.step rfl rfl (K.loadO rfl rfl (by simp) (vC_get hjl) Try.agg3) ?_
      refine KT.step rfl rfl (K.sub rfl rfl (wrap_id (by omega))) ?_
      refine KT.step rfl rfl (K.move rfl) ?_
      refine KT.step rfl rfl (K.call3 rfl rfl rfl plainTry_38 (Within38 (by have := hz i j; unfold Zg Lim at this; omega) (by have := hz i j; unfold Zg Lim at this; omega))) ?_
      refine KT.step rfl rfl (K.not rfl) ?_
      refine KT.nil ?_
      refine ⟨by kernel_rfl, ?_⟩
      refine thenK_n ?_
      refine KC.cond rfl (fun hc38 => ?_) (fun hc38 => ?_)
      · skip
        refine KC.seq ?_
        refine KC.region ?_
        refine KT.step rfl rfl (K.assign rfl) ?_
        refine KT.nil ?_
        refine thenK_n ?_
        refine KC.ret ?_
        refine blockK_r ?_
        refine thenK_r ?_
        refine thenK_r ?_
        refine blockK_r ?_
        refine blockK_r ?_
        refine thenK_r ?_
        refine thenK_r ?_
        refine blockK_r ?_
        refine thenK_r ?_
        rw [hw4, Bool.not_eq_true'] at hc38
        have hno : insideB z.length (zf z) (pv p) 4 = false := Bool.eq_false_iff.2 fun h => of_decide_eq_false hc38 (In_iff.1 h i j hil hjl)
        exact ⟨.inl rfl, _, rfl, fin_b hno⟩
      · skip
        refine KC.skip ?_
        refine blockK_n ?_
        refine thenK_n ?_
        refine KC.region ?_
        refine KT.step rfl rfl (K.add rfl rfl (wrap_id (by omega))) ?_
        refine KT.step rfl rfl (K.move rfl) ?_
        refine KT.nil ?_
        refine thenK_n ?_
        rw [hw4, Bool.not_eq_false'] at hc38
        refine ⟨j + 1, ⟨by omega, fun y hy => ?_⟩, by omega, rfl, by simp [Go.Vm.look, extK]⟩
        by_cases e : y = j
        · subst e; exact of_decide_eq_true hc38
        · exact hall2 y (by omega)
    · skip
      replace hc23 := of_decide_eq_false hc23
      refine KC.exit ?_
      refine thenK_x ?_
      refine thenK_x ?_
      refine blockK_e ?_
      refine blockK_n ?_
      refine thenK_n ?_
      refine KC.region ?_
      refine KT.step rfl rfl (K.add rfl rfl (wrap_id (by omega))) ?_
      refine KT.step rfl rfl (K.move rfl) ?_
      refine KT.nil ?_
      refine thenK_n ?_
      refine ⟨i + 1, ⟨by omega, fun x y hx hy => ?_⟩, by omega, rfl, by simp [Go.Vm.look, extK]⟩
      by_cases e : x = i
      · subst e; exact hall2 y (by omega)
      · exact hall x y (by omega) hy
  · skip
    replace hc16 := of_decide_eq_false hc16
    refine KC.exit ?_
    refine thenK_x ?_
    refine thenK_x ?_
    refine blockK_e ?_
    refine thenK_n ?_
    refine KC.seq ?_
    refine KC.region ?_
    refine KT.step rfl rfl (K.assign rfl) ?_
    refine KT.nil ?_
    refine thenK_n ?_
    refine KC.ret ?_
    have hyes : insideB z.length (zf z) (pv p) 4 = true := In_iff.2 fun x y hx hy => hall x y (by omega) hy
    exact ⟨.inl rfl, _, rfl, fin_b hyes⟩
set_option maxRecDepth 10000 in
theorem rHas32 {d e : DV} {z : List (List Int)} {p : List Int} (hd : Mat d z) (hl : z.length ≤ 9223372036854775807) (hr : ∀ r ∈ z, r.length ≤ 9223372036854775807) (he : Ints e p) (hlp : p.length ≤ 9223372036854775807) : DeepCall Try.prog 32 [d, e] (.tup [DB (hasB z p), DI (hasE z p)]) := by
  refine deepCall_K 5 Try.func32 rfl (Nat.le_of_ble_eq_true rfl) fun M W0 => ?_
  refine KC.seq ?_
  refine KC.region ?_
  refine KT.step rfl rfl (K.assign rfl) ?_
  refine KT.step rfl rfl (K.assign rfl) ?_
  refine KT.nil ?_
  refine thenK_n ?_
  refine KC.seq ?_
  refine KC.seq ?_
  refine KC.region ?_
  refine KT.step rfl rfl (K.move rfl) ?_
  refine KT.step rfl rfl (K.call1 rfl plainTry_36 (Valid36 hd hl hr)) ?_
  refine KT.step rfl rfl (K.not rfl) ?_
  refine KT.step rfl rfl (K.move rfl) ?_
  refine KT.bcase (fun hb9 => ?_) (fun hb9 => ?_)
  · skip
    refine KT.skip rfl rfl ?_
    refine KT.skip rfl rfl ?_
    refine KT.skip rfl rfl ?_
    refine KT.skip rfl rfl ?_
    refine KT.skip rfl rfl ?_
    refine KT.skip rfl rfl ?_
    refine KT.step rfl rfl (K.pick rfl (fun _ => rfl) (fun h => by cases h)) ?_
    refine KT.nil ?_
    refine thenK_n ?_
    refine KC.cond rfl (fun hc16 => ?_) (fun hc16 => ?_)
    · skip
      refine KC.seq ?_
      refine KC.region ?_
      refine KT.step rfl rfl (K.assign rfl) ?_
      refine KT.step rfl rfl (K.assign rfl) ?_
      refine KT.nil ?_
      refine thenK_n ?_
      refine KC.ret ?_
      refine thenK_r ?_
      have hno : hasOk z p = false := by
        unfold hasOk
        rw [show validZ z = false by simpa using hb9]; rfl
      exact ⟨.inl rfl, _, rfl, fin_be (by unfold hasB; rw [hno]; rfl) (by unfold hasE; rw [hno]; rfl)⟩
    · cases hc16
  · skip
    refine KT.step rfl rfl (K.move rfl) ?_
    refine KT.step rfl rfl (K.move rfl) ?_
    refine KT.step rfl rfl (K.len rfl hd Try.underlying22) ?_
    refine KT.step rfl rfl (K.sub rfl rfl (wrap_id (by omega))) ?_
    refine KT.step rfl rfl (K.call2 rfl rfl plainTry_37 (Point37 he hlp)) ?_
    refine KT.step rfl rfl (K.not rfl) ?_
    refine KT.step rfl rfl (K.pick rfl (fun h => by cases h) (fun _ => rfl)) ?_
    refine KT.nil ?_
    refine thenK_n ?_
    refine KC.cond rfl (fun hc16 => ?_) (fun hc16 => ?_)
    · skip
      rw [Bool.not_eq_true'] at hc16
      refine KC.seq ?_
      refine KC.region ?_
      refine KT.step rfl rfl (K.assign rfl) ?_
      refine KT.step rfl rfl (K.assign rfl) ?_
      refine KT.nil ?_
      refine thenK_n ?_
      refine KC.ret ?_
      refine thenK_r ?_
      have hno : hasOk z p = false := by
        unfold hasOk
        rw [show ptB p ((z.length : Int) - 1) = false from hc16, Bool.and_false]
      exact ⟨.inl rfl, _, rfl, fin_be (by unfold hasB; rw [hno]; rfl) (by unfold hasE; rw [hno]; rfl)⟩
    · skip
      rw [Bool.not_eq_false'] at hc16
      have hpt : ptB p ((z.length : Int) - 1) = true := hc16
      have hv : validZ z = true := by simpa using hb9
      obtain ⟨k1, k2⟩ := hasE_of hv hpt
      refine KC.skip ?_
      refine thenK_n ?_
      refine KC.seq ?_
      refine KC.region ?_
      refine KT.step rfl rfl (K.move rfl) ?_
      refine KT.step rfl rfl (K.move rfl) ?_
      refine KT.step rfl rfl (K.call2 rfl rfl plainTry_74 (has74 hd hv he (by have := (pt_rows hpt).2; omega) (pt_rows hpt).1)) ?_
      refine KT.step rfl rfl (K.assign rfl) ?_
      refine KT.step rfl rfl (K.assign rfl) ?_
      refine KT.nil ?_
      refine thenK_n ?_
      refine KC.ret ?_
      exact ⟨.inl rfl, _, rfl, fin_be k2.symm k1.symm⟩
set_option maxHeartbeats 1000000 in
set_option maxRecDepth 10000 in
theorem rIncludes30 {d e : DV} {z w : List (List Int)} (hd : Mat d z) (hl : z.length ≤ 9223372036854775807) (hr : ∀ r ∈ z, r.length ≤ 9223372036854775807) (he : Mat e w) (hl2 : w.length ≤ 9223372036854775807) (hr2 : ∀ r ∈ w, r.length ≤ 9223372036854775807) : DeepCall Try.prog 30 [d, e] (.tup [DB (inB z w), DI (inE z w)]) := by
  refine deepCall_K 5 Try.func30 rfl (Nat.le_of_ble_eq_true rfl) fun M W0 => ?_
  refine KC.seq ?_
  refine KC.region ?_
  refine KT.step rfl rfl (K.assign rfl) ?_
  refine KT.step rfl rfl (K.assign rfl) ?_
  refine KT.nil ?_
  refine thenK_n ?_
  refine KC.seq ?_
  refine KC.seq ?_
  refine KC.region ?_
  refine KT.step rfl rfl (K.move rfl) ?_
  refine KT.step rfl rfl (K.call1 rfl plainTry_36 (Valid36 hd hl hr)) ?_
  refine KT.step rfl rfl (K.not rfl) ?_
  refine KT.step rfl rfl (K.move rfl) ?_
  refine KT.bcase (fun hb15 => ?_) (fun hb15 => ?_)
  · skip
    refine KT.skip rfl rfl ?_
    refine KT.skip rfl rfl ?_
    refine KT.skip rfl rfl ?_
    refine KT.step rfl rfl (K.pick rfl (fun _ => rfl) (fun h => by cases h)) ?_
    refine KT.step rfl rfl (K.move rfl) ?_
    refine KT.skip rfl rfl ?_
    refine KT.skip rfl rfl ?_
    refine KT.skip rfl rfl ?_
    refine KT.skip rfl rfl ?_
    refine KT.skip rfl rfl ?_
    refine KT.step rfl rfl (K.pick rfl (fun _ => rfl) (fun h => by cases h)) ?_
    refine KT.nil ?_
    refine thenK_n ?_
    refine KC.cond rfl (fun hc26 => ?_) (fun hc26 => ?_)
    · skip
      refine KC.seq ?_
      refine KC.region ?_
      refine KT.step rfl rfl (K.assign rfl) ?_
      refine KT.step rfl rfl (K.assign rfl) ?_
      refine KT.nil ?_
      refine thenK_n ?_
      refine KC.ret ?_
      refine thenK_r ?_
      have hno : inOk z w = false := by
        unfold inOk
        rw [show validZ z = false by simpa using hb15]; rfl
      exact ⟨.inl rfl, _, rfl, fin_be (by unfold inB; rw [hno]; rfl) (by unfold inE; rw [hno]; rfl)⟩
    · cases hc26
  · skip
    refine KT.step rfl rfl (K.move rfl) ?_
    refine KT.step rfl rfl (K.call1 rfl plainTry_36 (Valid36 he hl2 hr2)) ?_
    refine KT.step rfl rfl (K.not rfl) ?_
    refine KT.step rfl rfl (K.pick rfl (fun h => by cases h) (fun _ => rfl)) ?_
    refine KT.step rfl rfl (K.move rfl) ?_
    refine KT.bcase (fun hb20 => ?_) (fun hb20 => ?_)
    · skip
      refine KT.skip rfl rfl ?_
      refine KT.skip rfl rfl ?_
      refine KT.skip rfl rfl ?_
      refine KT.skip rfl rfl ?_
      refine KT.skip rfl rfl ?_
      refine KT.step rfl rfl (K.pick rfl (fun _ => rfl) (fun h => by cases h)) ?_
      refine KT.nil ?_
      refine thenK_n ?_
      refine KC.cond rfl (fun hc26 => ?_) (fun hc26 => ?_)
      · skip
        refine KC.seq ?_
        refine KC.region ?_
        refine KT.step rfl rfl (K.assign rfl) ?_
        refine KT.step rfl rfl (K.assign rfl) ?_
        refine KT.nil ?_
        refine thenK_n ?_
        refine KC.ret ?_
        refine thenK_r ?_
        have hno : inOk z w = false := by
          unfold inOk
          rw [show validZ w = false by simpa using hb20, Bool.and_false]; rfl
        exact ⟨.inl rfl, _, rfl, fin_be (by unfold inB; rw [hno]; rfl) (by unfold inE; rw [hno]; rfl)⟩
      · cases hc26
    · skip
      refine KT.step rfl rfl (K.move rfl) ?_
      refine KT.step rfl rfl (K.len rfl hd Try.underlying22) ?_
      refine KT.step rfl rfl (K.move rfl) ?_
      refine KT.step rfl rfl (K.len rfl he Try.underlying22) ?_
      refine KT.step rfl rfl (K.neq rfl rfl) ?_
      refine KT.step rfl rfl (K.pick rfl (fun h => by cases h) (fun _ => rfl)) ?_
      refine KT.nil ?_
      refine thenK_n ?_
      refine KC.cond rfl (fun hc26 => ?_) (fun hc26 => ?_)
      · skip
        replace hc26 := of_decide_eq_true hc26
        refine KC.seq ?_
        refine KC.region ?_
        refine KT.step rfl rfl (K.assign rfl) ?_
        refine KT.step rfl rfl (K.assign rfl) ?_
        refine KT.nil ?_
        refine thenK_n ?_
        refine KC.ret ?_
        refine thenK_r ?_
        have hne := hc26
        have hno : inOk z w = false := by
          unfold inOk
          rw [decide_eq_false (show ¬ z.length = w.length from fun h => hne (by rw [h])), Bool.and_false]
        exact ⟨.inl rfl, _, rfl, fin_be (by unfold inB; rw [hno]; rfl) (by unfold inE; rw [hno]; rfl)⟩
      · skip
        replace hc26 := of_decide_eq_false hc26
        have hz : validZ z = true := by simpa using hb15
        have hw : validZ w = true := by simpa using hb20
        have hlen : z.length = w.length := by have := Classical.not_not.1 hc26; omega
        have hok : inOk z w = true := by unfold inOk; rw [hz, hw, decide_eq_true hlen]; rfl
        have hE : inE z w = 0 := if_pos hok
        have hBq : inB z w = (emptyB w.length (tightM w.length (zf w)) || inclB w.length (zf z) (tightM w.length (zf w))) := by unfold inB; rw [hok, Bool.true_and]
        have hD := rtD_mat w
        have hte := tgE_ok hw
        have hrz : ∀ k (h : k < z.length), z[k].length = z.length := fun k h => ((validZ_rows hz).2.2 _ (List.getElem_mem h)).1
        have hn := (validZ_rows hw).2.1
        refine KC.skip ?_
        refine thenK_n ?_
        refine KC.seq ?_
        refine KC.region ?_
        refine KT.step rfl rfl (K.move rfl) ?_
        refine KT.step rfl rfl (K.call1 rfl plainTry_52 (rtight52 he (sq_of hw))) ?_
        refine KT.step rfl rfl (K.move rfl) ?_
        refine KT.step rfl rfl (K.extract rfl rfl) ?_
        refine KT.step rfl rfl (K.extract rfl rfl) ?_
        refine KT.step rfl rfl (K.assign rfl) ?_
        refine KT.step rfl rfl (K.assign rfl) ?_
        refine KT.nil ?_
        refine thenK_n ?_
        refine KC.seq ?_
        refine KC.seq ?_
        refine KC.region ?_
        refine KT.step rfl rfl (K.move rfl) ?_
        refine KT.step rfl rfl (K.neq rfl rfl) ?_
        refine KT.nil ?_
        refine thenK_n ?_
        refine KC.cond rfl (fun hc33 => ?_) (fun hc33 => ?_)
        · skip
          replace hc33 := of_decide_eq_true hc33
          have h33 := hc33
          have hem : emptyB w.length (tightM w.length (zf w)) = true := by
            cases he2 : emptyB w.length (tightM w.length (zf w)) with
            | true => rfl
            | false =>
              rw [he2] at hte
              exact absurd ((rtE_rTE hw).trans (rT_tg.1.trans hte)) h33
          refine KC.seq ?_
          refine KC.region ?_
          refine KT.step rfl rfl (K.assign rfl) ?_
          refine KT.step rfl rfl (K.assign rfl) ?_
          refine KT.nil ?_
          refine thenK_n ?_
          refine KC.ret ?_
          refine thenK_r ?_
          exact ⟨.inl rfl, _, rfl, fin_be (by rw [hBq, hem]; rfl) hE.symm⟩
        · skip
          replace hc33 := of_decide_eq_false hc33
          have h33 : rtE w = 0 := Classical.not_not.1 hc33
          have h34 : rTE w = 0 := (rtE_rTE hw).symm.trans h33
          obtain ⟨h35, hZe⟩ := rTE_ok h34
          have hem : emptyB w.length (tightM w.length (zf w)) = false := (tgE_zero h35).2
          have hBr : inB z w = inclB w.length (zf z) (tightM w.length (zf w)) := by rw [hBq, hem, Bool.false_or]
          obtain ⟨hsZ, hZl⟩ := rTZ_sq h34
          have hrow : ∀ k (h : k < (rtZ w).length), (rtZ w)[k].length = w.length := fun k h => (hsZ.rows _ (List.getElem_mem h)).trans hZl
          have hzz : ∀ x y, x < w.length → y < w.length → zf (rtZ w) x y = tightM w.length (zf w) x y := fun x y hx hy => by rw [hZe, zf_genM hx hy]
          refine KC.skip ?_
          refine thenK_n ?_
          refine KC.seq ?_
          refine KC.seq ?_
          refine KC.region ?_
          refine KT.step rfl rfl (K.move rfl) ?_
          refine KT.step rfl rfl (K.len rfl hD Try.underlying22) ?_
          rw [hZl]
          refine KT.step rfl rfl (K.move rfl) ?_
          refine KT.nil ?_
          refine thenK_n ?_
          refine KC.block ?_
          refine KC.loop (fun _ : Nat => []) (fun i => [(0, .d d), (34, .d (rtD w)), (35, .d (DI (w.length : Nat))), (36, .d (DI (i : Nat)))]) (fun i => i ≤ w.length ∧ ∀ x y, x < i → y < w.length → tightM w.length (zf w) x y ≤ zf z x y) (fun i => w.length - i) 0 ⟨Nat.zero_le _, fun _ _ h => absurd h (Nat.not_lt_zero _)⟩ rfl (by simp [Go.Vm.look, extK, enterK]) ?_
          intro i hi
          obtain ⟨hi, hall⟩ := hi
          refine KC.seq ?_
          refine KC.region ?_
          refine KT.step rfl rfl (K.lss rfl rfl) ?_
          refine KT.nil ?_
          refine thenK_n ?_
          refine KC.seq ?_
          refine KC.cond rfl (fun hc37 => ?_) (fun hc37 => ?_)
          · skip
            replace hc37 := of_decide_eq_true hc37
            have hil : i < w.length := by omega
            refine KC.skip ?_
            refine thenK_n ?_
            refine KC.seq ?_
            refine KC.block ?_
            refine KC.seq ?_
            refine KC.region ?_
            refine KT.step rfl rfl (K.move rfl) ?_
            refine KT.idx rfl rfl rfl hD rfl (by omega) Try.underlying22 Try.size23 fun c39 cs39 hq39 => ?_
            refine KT.step rfl rfl (K.load rfl Try.agg23) ?_
            refine KT.step rfl rfl (K.assign rfl) ?_
            refine KT.step rfl rfl (K.assign rfl) ?_
            refine KT.nil ?_
            refine thenK_n ?_
            refine KC.seq ?_
            refine KC.region ?_
            refine KT.step rfl rfl (K.move rfl) ?_
            refine KT.step rfl rfl (K.len rfl hq39 Try.underlying23) ?_
            rw [hrow]
            refine KT.step rfl rfl (K.move rfl) ?_
            refine KT.nil ?_
            refine thenK_n ?_
            refine KC.block ?_
            refine KC.loop (fun _ : Nat => []) (fun j => [(0, .d d), (34, .d (rtD w)), (35, .d (DI (w.length : Nat))), (36, .d (DI (i : Nat))), (8, .d (DI (i : Nat))), (41, .d c39), (42, .d (DI (w.length : Nat))), (43, .d (DI (j : Nat)))]) (fun j => j ≤ w.length ∧ ∀ y, y < j → tightM w.length (zf w) i y ≤ zf z i y) (fun j => w.length - j) 0 ⟨Nat.zero_le _, fun _ h => absurd h (Nat.not_lt_zero _)⟩ rfl (by simp [Go.Vm.look, extK, enterK]) ?_
            intro j hj
            obtain ⟨hj, hall2⟩ := hj
            refine KC.seq ?_
            refine KC.region ?_
            refine KT.step rfl rfl (K.lss rfl rfl) ?_
            refine KT.nil ?_
            refine thenK_n ?_
            refine KC.seq ?_
            refine KC.cond rfl (fun hc44 => ?_) (fun hc44 => ?_)
            · skip
              replace hc44 := of_decide_eq_true hc44
              have hjl : j < w.length := by omega
              have hzij := hzz i j hil hjl
              refine KC.skip ?_
              refine thenK_n ?_
              refine KC.seq ?_
              refine KC.block ?_
              refine KC.seq ?_
              refine KC.region ?_
              refine KT.step rfl rfl (K.move rfl) ?_
              refine KT.idxI rfl rfl rfl hq39 rfl (by rw [hrow]; omega) Try.underlying23 Try.size3 fun cs46 => ?_
              rw [zf_get]
              refine KT.step rfl rfl (K.load rfl Try.agg3) ?_
              refine KT.step rfl rfl (K.assign rfl) ?_
              refine KT.step rfl rfl (K.assign rfl) ?_
              refine KT.nil ?_
              refine thenK_n ?_
              refine KC.seq ?_
              refine KC.region ?_
              refine KT.step rfl rfl (K.move rfl) ?_
              refine KT.step rfl rfl (K.move rfl) ?_
              refine KT.step rfl rfl (K.move rfl) ?_
              refine KT.idx rfl rfl rfl hd rfl (by omega) Try.underlying22 Try.size23 fun c51 cs51 hq51 => ?_
              refine KT.step rfl rfl (K.load rfl Try.agg23) ?_
              refine KT.step rfl rfl (K.move rfl) ?_
              refine KT.idxI rfl rfl rfl hq51 rfl (by rw [hrz]; omega) Try.underlying23 Try.size3 fun cs54 => ?_
              rw [zf_get]
              refine KT.step rfl rfl (K.load rfl Try.agg3) ?_
              refine KT.step rfl rfl (K.gtr rfl rfl) ?_
              refine KT.nil ?_
              refine thenK_n ?_
              refine KC.cond rfl (fun hc56 => ?_) (fun hc56 => ?_)
              · skip
                replace hc56 := of_decide_eq_true hc56
                refine KC.seq ?_
                refine KC.region ?_
                refine KT.step rfl rfl (K.assign rfl) ?_
                refine KT.step rfl rfl (K.assign rfl) ?_
                refine KT.nil ?_
                refine thenK_n ?_
                refine KC.ret ?_
                refine blockK_r ?_
                refine thenK_r ?_
                refine thenK_r ?_
                refine blockK_r ?_
                refine blockK_r ?_
                refine thenK_r ?_
                refine thenK_r ?_
                refine blockK_r ?_
                refine thenK_r ?_
                exact ⟨.inl rfl, _, rfl, fin_be (by rw [hBr, inclB_false hil hjl (by rw [← hzij]; omega)]) hE.symm⟩
              · skip
                replace hc56 := of_decide_eq_false hc56
                refine KC.skip ?_
                refine blockK_n ?_
                refine thenK_n ?_
                refine KC.region ?_
                refine KT.step rfl rfl (K.add rfl rfl (wrap_id (by omega))) ?_
                refine KT.step rfl rfl (K.move rfl) ?_
                refine KT.nil ?_
                refine thenK_n ?_
                refine ⟨j + 1, ⟨by omega, fun y hy => ?_⟩, by omega, rfl, by simp [Go.Vm.look, extK]⟩
                by_cases e : y = j
                · subst e; rw [← hzij]; omega
                · exact hall2 y (by omega)
            · skip
              replace hc44 := of_decide_eq_false hc44
              refine KC.exit ?_
              refine thenK_x ?_
              refine thenK_x ?_
              refine blockK_e ?_
              refine blockK_n ?_
              refine thenK_n ?_
              refine KC.region ?_
              refine KT.step rfl rfl (K.add rfl rfl (wrap_id (by omega))) ?_
              refine KT.step rfl rfl (K.move rfl) ?_
              refine KT.nil ?_
              refine thenK_n ?_
              refine ⟨i + 1, ⟨by omega, fun x y hx hy => ?_⟩, by omega, rfl, by simp [Go.Vm.look, extK]⟩
              by_cases e : x = i
              · subst e; exact hall2 y (by omega)
              · exact hall x y (by omega) hy
          · skip
            replace hc37 := of_decide_eq_false hc37
            refine KC.exit ?_
            refine thenK_x ?_
            refine thenK_x ?_
            refine blockK_e ?_
            refine thenK_n ?_
            refine KC.seq ?_
            refine KC.region ?_
            refine KT.step rfl rfl (K.assign rfl) ?_
            refine KT.step rfl rfl (K.assign rfl) ?_
            refine KT.nil ?_
            refine thenK_n ?_
            refine KC.ret ?_
            have hit : inclB w.length (zf z) (tightM w.length (zf w)) = true := inclB_iff.2 fun x y hx hy => hall x y (by omega) hy
            exact ⟨.inl rfl, _, rfl, fin_be (by rw [hBr, hit]) hE.symm⟩
end Go.Proofs.Ytjfpeiioddfjcaa

