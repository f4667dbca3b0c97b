import Derived.Test.YtocgjopmlhpjdaaNetA
/-
  Nets: markings, arrays of tokens, firing.
-/
namespace Go.Proofs.Ytocgjopmlhpjdaa
open Go.Vm
theorem nilBuild32 : pureRun Try.prog (Instr.build 32 #[(0, .slice none 0 0), (1, .slice none 0 0), (2, .slice none 0 0)]) = some (.agg #[.slice none 0 0, .slice none 0 0, .slice none 0 0]) := by kernel_rfl
theorem row_le {m : List (List Int)} (r : ∀ x ∈ m, x.length ≤ 9223372036854775807) : ∀ i, i < m.length → (m.getD i []).length ≤ 9223372036854775807 := fun i hi => by
  rw [show m.getD i [] = m[i] by simp [hi]]
  exact r _ (List.getElem_mem hi)
set_option maxRecDepth 10000 in
theorem of13 {a b c : DV} {pre post : List (List Int)} {start : List Int} (h : NetD a b c pre post start) : DeepCall Try.prog 13 [.agg [a, b, c]] (.agg [rows8 pre a, rows8 post b, list8 start c]) := by
  obtain ⟨ha, hb, hc, l1, l2, l3, r1, r2⟩ := h
  have s1 := SlD.of (rows8_mat ha)
  have s2 := SlD.of (rows8_mat hb)
  have s3 := SlD.of (list8_ints hc)
  have e1 := mk3_cells s1 s2 s3
  refine deepCall_K 5 Try.func13 rfl (Nat.le_of_ble_eq_true rfl) fun M W0 => ?_
  refine KC.seq ?_
  refine KC.region ?_
  refine KT.step rfl rfl (K.box rfl) ?_
  refine KT.step rfl rfl (K.alloc Try.zero32) ?_
  refine KT.nil ?_
  refine thenK_n ?_
  refine KC.seq ?_
  refine KC.draw Try.mixed ?_
  refine KT.step rfl rfl (K.fieldAddrO rfl Try.fld25_0 Try.size22) ?_
  refine KT.step rfl rfl (K.loadO rfl rfl (by simp) rfl Try.agg22) ?_
  refine KT.step rfl rfl (K.call1 rfl plainTry_42 (rows42 ha l1 (row_le r1))) ?_
  refine KT.step rfl rfl (K.fieldAddrO rfl Try.fld25_1 Try.size22) ?_
  refine KT.step rfl rfl (K.loadO rfl rfl (by simp) rfl Try.agg22) ?_
  refine KT.step rfl rfl (K.call1 rfl plainTry_42 (rows42 hb l2 (row_le r2))) ?_
  refine KT.step rfl rfl (K.fieldAddrO rfl Try.fld25_2 Try.size23) ?_
  refine KT.step rfl rfl (K.loadO rfl rfl (by simp) rfl Try.agg23) ?_
  refine KT.step rfl rfl (K.call1 rfl plainTry_21 (list21 hc)) ?_
  refine KT.step rfl rfl (K.build3 rfl rfl rfl s1 s2 s3 Try.zero32 Try.underlying32 Try.places32 nilBuild32) ?_
  refine KT.step rfl rfl (K.storeN rfl rfl rfl (by rw [e1]; simp [Value.cells]) (by rw [e1]; simp [s1.one, s2.one, s3.one]) (by rw [e1]; exact Try.size32)) ?_
  rw [e1]
  refine KT.nil ?_
  refine ⟨by kernel_rfl, ?_⟩
  refine thenK_n ?_
  refine KC.ret ?_
  exact ⟨.inl rfl, _, resK_agg (m := 3) rfl rfl rfl (by simp) Try.agg32 Try.size32 (by simp [splice, Value.cells]), rfl⟩

def many : Int := 1099511627776
def withinB (x y : List Int) : Bool := (x.zip y).all fun p => decide (p.1 ≤ p.2)
theorem within_get {x y : List Int} {i : Nat} (hx : i < x.length) (hy : i < y.length) : (x.zip y)[i]'(by simp; omega) = (x[i], y[i]) := by simp
set_option maxRecDepth 10000 in
theorem within46 {d e : DV} {x y : List Int} (hd : Ints d x) (he : Ints e y) (hl : x.length ≤ y.length) (hx : x.length ≤ 9223372036854775807) : DeepCall Try.prog 46 [d, e] (DB (withinB x y)) := by
  refine deepCall_K 5 Try.func46 rfl (Nat.le_of_ble_eq_true rfl) fun M W0 => ?_
  refine KC.seq ?_
  refine KC.region ?_
  refine KT.step rfl rfl (K.assign rfl) ?_
  refine KT.nil ?_
  refine thenK_n ?_
  refine KC.seq ?_
  refine KC.seq ?_
  refine KC.region ?_
  refine KT.step rfl rfl (K.move rfl) ?_
  refine KT.step rfl rfl (K.len rfl (by assumption) Try.underlying23) ?_
  refine KT.step rfl rfl (K.move rfl) ?_
  refine KT.nil ?_
  refine thenK_n ?_
  refine KC.block ?_
  refine KC.loop (fun _ : Nat => []) (fun i => [(1, .d e), (7, .d d), (8, .d (DI x.length)), (9, .d (DI i))]) (fun i => i ≤ x.length ∧ ((x.zip y).take i).all (fun p => decide (p.1 ≤ p.2)) = true) (fun i => x.length - i) 0 ⟨Nat.zero_le _, by simp⟩ rfl (by simp [Go.Vm.look, extK, enterK]) ?_
  intro i hi
  obtain ⟨hi, hall⟩ := hi
  refine KC.seq ?_
  refine KC.region ?_
  refine KT.step rfl rfl (K.lss rfl rfl) ?_
  refine KT.nil ?_
  refine thenK_n ?_
  refine KC.seq ?_
  refine KC.cond rfl (fun hc10 => ?_) (fun hc10 => ?_)
  · skip
    replace hc10 := of_decide_eq_true hc10
    refine KC.skip ?_
    refine thenK_n ?_
    refine KC.seq ?_
    refine KC.block ?_
    refine KC.seq ?_
    refine KC.region ?_
    refine KT.step rfl rfl (K.move rfl) ?_
    refine KT.idxI rfl rfl rfl (by assumption) rfl (by omega) Try.underlying23 Try.size3 fun cs12 => ?_
    refine KT.step rfl rfl (K.load rfl Try.agg3) ?_
    refine KT.step rfl rfl (K.assign rfl) ?_
    refine KT.step rfl rfl (K.assign rfl) ?_
    refine KT.nil ?_
    refine thenK_n ?_
    refine KC.seq ?_
    refine KC.region ?_
    refine KT.step rfl rfl (K.move rfl) ?_
    refine KT.step rfl rfl (K.move rfl) ?_
    refine KT.step rfl rfl (K.move rfl) ?_
    refine KT.idxI rfl rfl rfl (by assumption) rfl (by omega) Try.underlying23 Try.size3 fun cs17 => ?_
    refine KT.step rfl rfl (K.load rfl Try.agg3) ?_
    refine KT.step rfl rfl (K.gtr rfl rfl) ?_
    refine KT.nil ?_
    refine thenK_n ?_
    refine KC.cond rfl (fun hc19 => ?_) (fun hc19 => ?_)
    · skip
      replace hc19 := of_decide_eq_true hc19
      refine KC.seq ?_
      refine KC.region ?_
      refine KT.step rfl rfl (K.assign rfl) ?_
      refine KT.nil ?_
      refine thenK_n ?_
      refine KC.ret ?_
      refine blockK_r ?_
      refine thenK_r ?_
      refine thenK_r ?_
      refine blockK_r ?_
      refine thenK_r ?_
      exact ⟨.inl rfl, _, rfl, fin_b (all_false (i := i) (by simp; omega) (by rw [within_get (by omega) (by omega)]; simpa using hc19))⟩
    · skip
      replace hc19 := of_decide_eq_false hc19
      refine KC.skip ?_
      refine blockK_n ?_
      refine thenK_n ?_
      refine KC.region ?_
      refine KT.step rfl rfl (K.add rfl rfl (wrap_id (by omega))) ?_
      refine KT.step rfl rfl (K.move rfl) ?_
      refine KT.nil ?_
      refine thenK_n ?_
      refine ⟨i + 1, ⟨by omega, ?_⟩, by omega, rfl, by simp [Go.Vm.look, extK]⟩
      rw [all_take _ (by simp; omega), hall, within_get (by omega) (by omega)]
      simpa using hc19
  · skip
    replace hc10 := of_decide_eq_false hc10
    refine KC.exit ?_
    refine thenK_x ?_
    refine thenK_x ?_
    refine blockK_e ?_
    refine thenK_n ?_
    refine KC.seq ?_
    refine KC.region ?_
    refine KT.step rfl rfl (K.assign rfl) ?_
    refine KT.nil ?_
    refine thenK_n ?_
    refine KC.ret ?_
    exact ⟨.inl rfl, _, rfl, fin_b (all_end (i := i) (by simp; omega) hall)⟩

/-- Six numbers. -/
def w6 (X : Nat → Int) : List DV := (List.range 6).map fun i => DI (X i)
def tk (l : List Int) (p : Nat) : Int := l.getD p 0
def halfW (F G : Nat → Int) (i : Nat) : List XV := (List.range 6).map fun k => .d (DI (if k < i then F k else G k))
theorem halfW_len (F G : Nat → Int) (i : Nat) : (halfW F G i).length = 6 := by simp [halfW]
theorem w6_get (X : Nat → Int) {i : Nat} (hi : i < 6) : ((w6 X).map XV.d)[0 + i * 1]? = some (.d (DI (X i))) := by
  rw [Nat.zero_add, Nat.mul_one]; simp [w6, hi]
theorem halfW_get (F G : Nat → Int) {i : Nat} (hi : i < 6) : (halfW F G i)[0 + i * 1]? = some (.d (DI (G i))) := by
  rw [Nat.zero_add, Nat.mul_one]; simp [halfW, hi]
theorem halfW_zero (F G : Nat → Int) : halfW F G 0 = (w6 G).map .d := by simp [halfW, w6]
theorem halfW_full (F G : Nat → Int) : halfW F G 6 = (w6 F).map .d := by simp [halfW, w6, List.range_succ]
theorem halfW_set (F G : Nat → Int) {i : Nat} (hi : i < 6) : (halfW F G i).set (0 + i * 1) (.d (DI (F i))) = halfW F G (i + 1) := by
  rw [Nat.zero_add, Nat.mul_one]
  refine List.ext_getElem? fun k => ?_
  rw [List.getElem?_set]
  by_cases hk : k < 6
  · by_cases e : i = k
    · subst e; simp [halfW, hk]
    · rw [if_neg e]
      simp only [halfW, List.getElem?_map, List.getElem?_range hk, Option.map_some, Option.some.injEq, XV.d.injEq]
      by_cases h : k < i
      · rw [if_pos h, if_pos (by omega)]
      · rw [if_neg h, if_neg (by omega)]
  · rw [if_neg (by omega), List.getElem?_eq_none (by simp [halfW]; omega), List.getElem?_eq_none (by simp [halfW]; omega)]
theorem halfW_same (F G : Nat → Int) {i : Nat} (hi : i < 6) (h : F i = G i) : halfW F G i = halfW F G (i + 1) := by
  rw [← halfW_set F G hi, h]
  refine List.ext_getElem? fun k => ?_
  rw [List.getElem?_set]
  by_cases e : 0 + i * 1 = k
  · subst e; rw [if_pos rfl, if_pos (by rw [halfW_len]; omega), halfW_get _ _ hi]
  · rw [if_neg e]
theorem w6_agg (F : Nat → Int) : aggX ((((w6 F).map XV.d).drop 0).take 6) = .d (.agg (w6 F)) := by
  rw [List.drop_zero, List.take_of_length_le (by simp [w6]), aggX_d]
def leq6 (X Y : Nat → Int) : Bool := (List.range 6).all fun i => decide (X i ≤ Y i)
/-- Rows of six. -/
def flatW (rows : List (List Int)) : List DV := rows.flatMap fun r => w6 (tk r)
abbrev toksD (rows : List (List Int)) : DV := .sl (flatW rows) rows.length none
abbrev sysD (size : Nat) (pre post : List (List Int)) (st : List Int) : DV := .agg (DI size :: toksD pre :: toksD post :: w6 (tk st))
theorem flatW_len (rows : List (List Int)) : (flatW rows).length = rows.length * 6 := by
  induction rows with
  | nil => rfl
  | cons r rows ih => simp [flatW] at ih ⊢; rw [ih]; simp [w6]; omega
theorem flatW_drop : ∀ (rows : List (List Int)) (m : Nat) (h : m < rows.length), (flatW rows).drop (m * 6) = w6 (tk rows[m]) ++ flatW (rows.drop (m + 1))
  | [], _, h => by simp at h
  | r :: rows, 0, _ => by simp [flatW]
  | r :: rows, m + 1, h => by
    have := flatW_drop rows m (by simpa using h)
    rw [show flatW (r :: rows) = w6 (tk r) ++ flatW rows from rfl, Nat.add_mul, Nat.one_mul, List.drop_append]
    rw [List.drop_eq_nil_of_le (by simp [w6]), show m * 6 + 6 - (w6 (tk r)).length = m * 6 by simp [w6]]
    simpa using this
theorem flatW_take (rows : List (List Int)) (m : Nat) (h : m < rows.length) : ((flatW rows).drop (m * 6)).take 6 = w6 (tk rows[m]) := by
  rw [flatW_drop _ _ h, List.take_append_of_le_length (by simp [w6]), List.take_of_length_le (by simp [w6])]
theorem w6_drop (X : Nat → Int) (i : Nat) (hi : i < 6) : (w6 X).drop (i * 1) = DI (X i) :: (w6 X).drop (i + 1) := by
  rw [Nat.mul_one, List.drop_eq_getElem_cons (by simp [w6]; omega)]
  simp [w6]
section
variable {P : Program} {σ : List VObj} {kn : Kn} {dst : Option Tmp} {ty : TypeId} {pos : String} {af : Array Edge} {g : Option (Nat × Bool)}
theorem K.idxT {x i : Operand} {t e : TypeId} {rows : List (List Int)} {len m : Nat} {cap : Option Nat} (hx : evK kn x = some (.d (.sl (flatW rows) len cap))) (hi : evK kn i = some (.d (DI (m : Int)))) (hm : m < len) (ht : P.underlying t = some (.slice e)) (hs : sizeT P e = some 6) :
    KEv P ⟨dst, .indexAddr t x i, ty, pos, af, g⟩ σ kn (.d (.ptr ((flatW rows).drop (m * 6)))) σ 0 := ev_op fun env he => by
  have e1 := evK_evalX he hx
  have e2 := evK_evalX he hi
  unfold evalOp
  rw [litOp_none (x := x) (by simp [Op.operands]) (by rw [e1]; rfl)]
  have h1 : (m : Int) < (len : Int) := by omega
  simp [e1, e2, opIndexAddr, litOf, ht, hs, h1]
theorem K.loadTI {x : Operand} {t : TypeId} {rows : List (List Int)} {m i : Nat} (hm : m < rows.length) (hi : i < 6) (hx : evK kn x = some (.d (.ptr (((flatW rows).drop (m * 6)).drop (i * 1))))) (ht : isAggT P t = some false) :
    KEv P ⟨dst, .load t x, ty, pos, af, g⟩ σ kn (.d (DI (tk rows[m] i))) σ 0 := by
  refine K.load (cs := (w6 (tk rows[m])).drop (i + 1) ++ flatW (rows.drop (m + 1))) ?_ ht
  rw [hx, flatW_drop _ _ hm, List.drop_append, w6_drop _ _ hi]
  simp [w6, show i - 6 = 0 by omega]
theorem K.loadT {x : Operand} {t : TypeId} {rows : List (List Int)} {m : Nat} (hm : m < rows.length) (hx : evK kn x = some (.d (.ptr ((flatW rows).drop (m * 6))))) (ht : isAggT P t = some true) (hs : sizeT P t = some 6) :
    KEv P ⟨dst, .load t x, ty, pos, af, g⟩ σ kn (.d (.agg (w6 (tk rows[m])))) σ 0 := by
  rw [← flatW_take rows m hm]
  exact K.loadAgg (m := 6) hx ht hs (by rw [List.length_drop, flatW_len]; omega)
end
set_option maxRecDepth 10000 in
theorem atMost58 (X Y : Nat → Int) : DeepCall Try.prog 58 [.agg (w6 X), .agg (w6 Y)] (DB (leq6 X Y)) := by
  refine deepCall_K 5 Try.func58 rfl (Nat.le_of_ble_eq_true rfl) fun M W0 => ?_
  refine KC.seq ?_
  refine KC.region ?_
  refine KT.step rfl rfl (K.box rfl) ?_
  refine KT.step rfl rfl (K.box rfl) ?_
  refine KT.step rfl rfl (K.assign rfl) ?_
  refine KT.nil ?_
  refine thenK_n ?_
  refine KC.seq ?_
  refine KC.seq ?_
  refine KC.region ?_
  refine KT.step rfl rfl (K.move rfl) ?_
  refine KT.nil ?_
  refine thenK_n ?_
  refine KC.block ?_
  refine KC.loop (fun _ : Nat => [⟨(w6 X).map .d, 0⟩, ⟨(w6 Y).map .d, 0⟩]) (fun i => [(2, .optr 0 0), (3, .optr 1 0), (6, .d (DI i))]) (fun i => i ≤ 6 ∧ ((List.range 6).take i).all (fun i => decide (X i ≤ Y i)) = true) (fun i => 6 - i) 0 ⟨Nat.zero_le _, by simp⟩ rfl (by simp [Go.Vm.look, extK, enterK]) ?_
  intro i hi
  obtain ⟨hi, hall⟩ := hi
  refine KC.seq ?_
  refine KC.region ?_
  refine KT.step rfl rfl (K.lss rfl rfl) ?_
  refine KT.nil ?_
  refine thenK_n ?_
  refine KC.seq ?_
  refine KC.cond rfl (fun hc7 => ?_) (fun hc7 => ?_)
  · skip
    replace hc7 : (i : Int) < 6 := of_decide_eq_true hc7
    refine KC.skip ?_
    refine thenK_n ?_
    refine KC.seq ?_
    refine KC.block ?_
    refine KC.seq ?_
    refine KC.region ?_
    refine KT.step rfl rfl (K.move rfl) ?_
    refine KT.step rfl rfl (K.assign rfl) ?_
    refine KT.nil ?_
    refine thenK_n ?_
    refine KC.seq ?_
    refine KC.draw Try.mixed ?_
    refine KT.step rfl rfl (K.move rfl) ?_
    refine KT.step rfl rfl (K.idxA rfl rfl (by omega) Try.underlying64 Try.size3) ?_
    refine KT.step rfl rfl (K.loadO rfl rfl (by simp) (w6_get X (by omega)) Try.agg3) ?_
    refine KT.step rfl rfl (K.move rfl) ?_
    refine KT.step rfl rfl (K.idxA rfl rfl (by omega) Try.underlying64 Try.size3) ?_
    refine KT.step rfl rfl (K.loadO rfl rfl (by simp) (w6_get Y (by omega)) Try.agg3) ?_
    refine KT.step rfl rfl (K.gtr rfl rfl) ?_
    refine KT.nil ?_
    refine ⟨by kernel_rfl, ?_⟩
    refine thenK_n ?_
    refine KC.cond rfl (fun hc15 => ?_) (fun hc15 => ?_)
    · skip
      replace hc15 := of_decide_eq_true hc15
      refine KC.seq ?_
      refine KC.region ?_
      refine KT.step rfl rfl (K.assign rfl) ?_
      refine KT.nil ?_
      refine thenK_n ?_
      refine KC.ret ?_
      refine blockK_r ?_
      refine thenK_r ?_
      refine thenK_r ?_
      refine blockK_r ?_
      refine thenK_r ?_
      exact ⟨.inl rfl, _, rfl, fin_b (all_false (i := i) (by simp; omega) (by simpa using hc15))⟩
    · skip
      replace hc15 := of_decide_eq_false hc15
      refine KC.skip ?_
      refine blockK_n ?_
      refine thenK_n ?_
      refine KC.region ?_
      refine KT.step rfl rfl (K.add rfl rfl (wrap_id (by omega))) ?_
      refine KT.step rfl rfl (K.move rfl) ?_
      refine KT.nil ?_
      refine thenK_n ?_
      refine ⟨i + 1, ⟨by omega, ?_⟩, by omega, rfl, by simp [Go.Vm.look, extK]⟩
      rw [all_take _ (by simp; omega), hall]
      simpa using hc15
  · skip
    replace hc7 : ¬ (i : Int) < 6 := of_decide_eq_false hc7
    refine KC.exit ?_
    refine thenK_x ?_
    refine thenK_x ?_
    refine blockK_e ?_
    refine thenK_n ?_
    refine KC.seq ?_
    refine KC.region ?_
    refine KT.step rfl rfl (K.assign rfl) ?_
    refine KT.nil ?_
    refine thenK_n ?_
    refine KC.ret ?_
    exact ⟨.inl rfl, _, rfl, fin_b (all_end (i := i) (by simp; omega) hall)⟩

def fireW (P Q M : Nat → Int) (p : Nat) : Int := if M p ≠ 1099511627776 then M p + (P p - Q p) else M p
structure Small (rows : List (List Int)) : Prop where
  bd : ∀ (m : Nat) (h : m < rows.length) (p : Nat), 0 ≤ tk rows[m] p ∧ tk rows[m] p ≤ 3
set_option maxRecDepth 10000 in
theorem fired73 {size : Nat} {pre post : List (List Int)} {s : List Int} {X : Nat → Int} {t : Nat} (h1 : Small pre) (h2 : Small post) (ht : t < pre.length) (ht2 : t < post.length) (hX : ∀ i, 0 ≤ X i ∧ X i ≤ 1099511627776) : DeepCall Try.prog 73 [sysD size pre post s, .agg (w6 X), DI (t : Int)] (.agg (w6 (fireW (tk post[t]) (tk pre[t]) X))) := by
  refine deepCall_K 5 Try.func73 rfl (Nat.le_of_ble_eq_true rfl) fun M W0 => ?_
  refine KC.seq ?_
  refine KC.region ?_
  refine KT.step rfl rfl (K.box rfl) ?_
  refine KT.step rfl rfl (K.box rfl) ?_
  refine KT.step rfl rfl (K.alloc Try.zero64) ?_
  refine KT.nil ?_
  refine thenK_n ?_
  refine KC.seq ?_
  refine KC.seq ?_
  refine KC.region ?_
  refine KT.step rfl rfl (K.move rfl) ?_
  refine KT.nil ?_
  refine thenK_n ?_
  refine KC.block ?_
  refine KC.loop (fun i => [⟨.d (DI size) :: .d (toksD pre) :: .d (toksD post) :: (w6 (tk s)).map .d, 0⟩, ⟨halfW (fireW (tk post[t]) (tk pre[t]) X) X i, 0⟩, ⟨(w6 fun _ => 0).map .d, 0⟩]) (fun i => [(2, .d (DI (t : Int))), (3, .optr 0 0), (4, .optr 1 0), (6, .optr 2 0), (8, .d (DI i))]) (fun i => i ≤ 6) (fun i => 6 - i) 0 (Nat.zero_le _) (by rw [halfW_zero]; rfl) (by simp [Go.Vm.look, extK, enterK]) ?_
  intro i hi
  refine KC.seq ?_
  refine KC.region ?_
  refine KT.step rfl rfl (K.lss rfl rfl) ?_
  refine KT.nil ?_
  refine thenK_n ?_
  refine KC.seq ?_
  refine KC.cond rfl (fun hc9 => ?_) (fun hc9 => ?_)
  · skip
    replace hc9 : (i : Int) < 6 := of_decide_eq_true hc9
    refine KC.skip ?_
    refine thenK_n ?_
    refine KC.seq ?_
    refine KC.block ?_
    refine KC.seq ?_
    refine KC.region ?_
    refine KT.step rfl rfl (K.move rfl) ?_
    refine KT.step rfl rfl (K.assign rfl) ?_
    refine KT.nil ?_
    refine thenK_n ?_
    refine KC.seq ?_
    refine KC.region ?_
    refine KT.step rfl rfl (K.move rfl) ?_
    refine KT.step rfl rfl (K.idxA rfl rfl (by omega) Try.underlying64 Try.size3) ?_
    refine KT.step rfl rfl (K.loadO rfl rfl (by simp) (halfW_get _ _ (by omega)) Try.agg3) ?_
    refine KT.step rfl rfl (K.neq rfl rfl) ?_
    refine KT.nil ?_
    refine thenK_n ?_
    refine KC.cond rfl (fun hc14 => ?_) (fun hc14 => ?_)
    · skip
      replace hc14 := of_decide_eq_true hc14
      have b1 := h1.bd t ht i
      have b2 := h2.bd t ht2 i
      have b3 := hX i
      refine KC.draw Try.mixed ?_
      refine KT.step rfl rfl (K.move rfl) ?_
      refine KT.step rfl rfl (K.idxA rfl rfl (by omega) Try.underlying64 Try.size3) ?_
      refine KT.step rfl rfl (K.loadO rfl rfl (by simp) (halfW_get _ _ (by omega)) Try.agg3) ?_
      refine KT.step rfl rfl (K.fieldAddrO rfl Try.fld66_2 Try.size62) ?_
      refine KT.step rfl rfl (K.loadO rfl rfl (by simp) rfl Try.agg62) ?_
      refine KT.step rfl rfl (K.move rfl) ?_
      refine KT.step rfl rfl (K.move rfl) ?_
      refine KT.step rfl rfl (K.idxT rfl rfl (by omega) Try.underlying62 Try.size64) ?_
      refine KT.step rfl rfl (K.idxAD rfl rfl (by omega) Try.underlying64 Try.size3) ?_
      refine KT.step rfl rfl (K.loadTI ht2 (by omega) rfl Try.agg3) ?_
      refine KT.step rfl rfl (K.fieldAddrO rfl Try.fld66_1 Try.size62) ?_
      refine KT.step rfl rfl (K.loadO rfl rfl (by simp) rfl Try.agg62) ?_
      refine KT.step rfl rfl (K.move rfl) ?_
      refine KT.step rfl rfl (K.move rfl) ?_
      refine KT.step rfl rfl (K.idxT rfl rfl (by omega) Try.underlying62 Try.size64) ?_
      refine KT.step rfl rfl (K.idxAD rfl rfl (by omega) Try.underlying64 Try.size3) ?_
      refine KT.step rfl rfl (K.loadTI ht (by omega) rfl Try.agg3) ?_
      refine KT.step rfl rfl (K.sub rfl rfl (wrap_id (by omega))) ?_
      refine KT.step rfl rfl (K.add rfl rfl (wrap_id (by omega))) ?_
      refine KT.step rfl rfl (K.idxA rfl rfl (by omega) Try.underlying64 Try.size3) ?_
      refine KT.step rfl rfl (K.storeO rfl rfl rfl (by rw [halfW_len]; omega) rfl rfl Try.size3) ?_
      refine KT.nil ?_
      refine ⟨by kernel_rfl, ?_⟩
      refine blockK_n ?_
      refine thenK_n ?_
      refine KC.region ?_
      refine KT.step rfl rfl (K.add rfl rfl (wrap_id (by omega))) ?_
      refine KT.step rfl rfl (K.move rfl) ?_
      refine KT.nil ?_
      refine thenK_n ?_
      refine ⟨i + 1, by omega, by omega, ?_, by simp [Go.Vm.look, extK]⟩
      rw [← halfW_set (fireW (tk post[t]) (tk pre[t]) X) X (show i < 6 by omega)]
      have ef : fireW (tk post[t]) (tk pre[t]) X i = X i + (tk post[t] i - tk pre[t] i) := by unfold fireW; rw [if_pos hc14]
      rw [ef]
      rfl
    · skip
      replace hc14 := of_decide_eq_false hc14
      refine KC.skip ?_
      refine blockK_n ?_
      refine thenK_n ?_
      refine KC.region ?_
      refine KT.step rfl rfl (K.add rfl rfl (wrap_id (by omega))) ?_
      refine KT.step rfl rfl (K.move rfl) ?_
      refine KT.nil ?_
      refine thenK_n ?_
      refine ⟨i + 1, by omega, by omega, ?_, by simp [Go.Vm.look, extK]⟩
      rw [← halfW_same (fireW (tk post[t]) (tk pre[t]) X) X (show i < 6 by omega) (by unfold fireW; rw [if_neg hc14])]
  · skip
    replace hc9 : ¬ (i : Int) < 6 := of_decide_eq_false hc9
    obtain rfl : i = 6 := by omega
    refine KC.exit ?_
    refine thenK_x ?_
    refine thenK_x ?_
    refine blockK_e ?_
    refine thenK_n ?_
    refine KC.seq ?_
    refine KC.region ?_
    rw [halfW_full]
    refine KT.step rfl rfl (K.loadOAgg (m := 6) rfl rfl (by simp) Try.agg64 Try.size64 (by simp [w6])) ?_
    rw [w6_agg]
    refine KT.step rfl rfl (K.storeN rfl rfl rfl (by simp [cellsX, w6]) rfl Try.size64) ?_
    refine KT.nil ?_
    refine thenK_n ?_
    refine KC.ret ?_
    refine ⟨.inl rfl, _, resK_agg (m := 6) rfl rfl rfl (by simp) Try.agg64 Try.size64 (Nat.le_refl 6), ?_⟩
    rfl

theorem tok_splice {l : List Int} (h : l.length ≤ 6) : splice ((w6 fun _ => 0).map XV.d) 0 ((l.take (min l.length 6)).map fun n => .d (DI n)) = (w6 (tk l)).map XV.d := by
  rw [List.take_of_length_le (by omega)]
  refine List.ext_getElem? fun k => ?_
  rw [getElem?_splice _ _ _ (by simp [w6]; omega)]
  simp only [List.length_map]
  by_cases hk : k < 6
  · by_cases h2 : k < l.length
    · rw [if_pos (by omega)]
      simp [w6, tk, hk, h2]
    · rw [if_neg (by omega)]
      simp [w6, tk, hk, h2]
  · rw [if_neg (by omega), List.getElem?_eq_none (by simp [w6]; omega), List.getElem?_eq_none (by simp [w6]; omega)]
set_option maxRecDepth 10000 in
theorem tokensOf50 {d : DV} {l : List Int} (hd : Ints d l) (h0 : 0 < l.length) (h6 : l.length ≤ 6) : DeepCall Try.prog 50 [d] (.agg (w6 (tk l))) := by
  refine deepCall_K 5 Try.func50 rfl (Nat.le_of_ble_eq_true rfl) fun M W0 => ?_
  refine KC.seq ?_
  refine KC.region ?_
  refine KT.step rfl rfl (K.alloc Try.zero64) ?_
  refine KT.nil ?_
  refine thenK_n ?_
  refine KC.seq ?_
  refine KC.region ?_
  refine KT.step rfl rfl (K.alloc Try.zero64) ?_
  refine KT.nil ?_
  refine thenK_n ?_
  refine KC.seq ?_
  refine KC.region ?_
  refine KT.step rfl rfl (K.sliceA rfl Try.underlying64 Try.size3 rfl (by simp) (by omega) (by simp [Value.cells])) ?_
  refine KT.step rfl rfl (K.move rfl) ?_
  refine KT.step rfl rfl (K.copyI (l := l) rfl rfl hd rfl Try.underlying23 Try.size3 rfl rfl (by simp [Value.cells]; omega) h0) ?_
  refine KT.nil ?_
  refine thenK_n ?_
  refine KC.seq ?_
  refine KC.region ?_
  have e := tok_splice h6
  rw [show (splice (⟨List.map (fun v => XV.d (DV.lit v)) (Value.agg #[.int .i64 0, .int .i64 0, .int .i64 0, .int .i64 0, .int .i64 0, .int .i64 0]).cells.toList, 0⟩ : VObj).cells 0 ((l.take (min l.length 6)).map fun n => .d (DI n))) = (w6 (tk l)).map XV.d from e]
  refine KT.step rfl rfl (K.loadOAgg (m := 6) rfl rfl (by simp) Try.agg64 Try.size64 (by simp [w6])) ?_
  rw [w6_agg]
  refine KT.step rfl rfl (K.storeN rfl rfl rfl (by simp [cellsX, w6, Value.cells]) rfl Try.size64) ?_
  refine KT.nil ?_
  refine thenK_n ?_
  refine KC.ret ?_
  refine ⟨.inl rfl, _, resK_agg (m := 6) rfl rfl rfl (by simp) Try.agg64 Try.size64 (Nat.le_refl 6), ?_⟩
  rfl
end Go.Proofs.Ytocgjopmlhpjdaa

