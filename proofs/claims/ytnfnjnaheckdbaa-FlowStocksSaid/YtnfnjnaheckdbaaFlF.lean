import Derived.Test.YtnfnjnaheckdbaaFlE
/-
  Dataflow graphs: Repeat, the first schedule.
-/
namespace Go.Proofs.Ytnfnjnaheckdbaa
open Go.Vm Go.Fl
theorem plainTry_18 : plainFn Try.prog 18 = true := by kernel_rfl
theorem plainTry_78 : plainFn Try.prog 78 = true := by kernel_rfl
theorem plainTry_77 : plainFn Try.prog 77 = true := by kernel_rfl
theorem plainTry_48 : plainFn Try.prog 48 = true := by kernel_rfl
theorem plainTry_23 : plainFn Try.prog 23 = true := by kernel_rfl

abbrev agg6 (X : Nat → Nat) : Value := .agg #[.int .i64 (X 0 : Int), .int .i64 (X 1 : Int), .int .i64 (X 2 : Int), .int .i64 (X 3 : Int), .int .i64 (X 4 : Int), .int .i64 (X 5 : Int)]
theorem part6 (X : Nat → Nat) (i : Nat) (hi : i < 6) : pureRun Try.prog (Go.part 3 #[.int .i64 (X 0 : Int), .int .i64 (X 1 : Int), .int .i64 (X 2 : Int), .int .i64 (X 3 : Int), .int .i64 (X 4 : Int), .int .i64 (X 5 : Int)] (i * 1)) = some (.int .i64 (X i : Int)) := by
  unfold Go.part
  rw [pureRun_bind, show pureRun Try.prog (isAgg 3) = some false from by kernel_rfl]
  match i, hi with
  | 0, _ => rfl
  | 1, _ => rfl
  | 2, _ => rfl
  | 3, _ => rfl
  | 4, _ => rfl
  | 5, _ => rfl
theorem equal75 (d : Nat) (X Y : Nat → Nat) : pureRun Try.prog (Op.equalIn (d + 2) 75 (agg6 X) (agg6 Y)) = some (((X 0 : Int) == (Y 0 : Int)) && ((X 1 : Int) == (Y 1 : Int)) && ((X 2 : Int) == (Y 2 : Int)) && ((X 3 : Int) == (Y 3 : Int)) && ((X 4 : Int) == (Y 4 : Int)) && ((X 5 : Int) == (Y 5 : Int))) := by
  unfold Op.equalIn
  rw [pureRun_bind, show pureRun Try.prog (underlying 75) = some (.array 6 3) from by kernel_rfl]
  simp only [Option.bind_some]
  rw [pureRun_bind, show pureRun Try.prog (sizeOf 3) = some 1 from by kernel_rfl]
  simp only [Option.bind_some]
  simp only [Std.Legacy.Range.forIn_eq_forIn_range', Std.Legacy.Range.size]
  simp only [List.range', List.forIn_cons, Nat.reduceSub, Nat.reduceAdd, Nat.reduceDiv]
  have p0 := part6 X 0 (by omega)
  have q0 := part6 Y 0 (by omega)
  have p1 := part6 X 1 (by omega)
  have q1 := part6 Y 1 (by omega)
  have p2 := part6 X 2 (by omega)
  have q2 := part6 Y 2 (by omega)
  have p3 := part6 X 3 (by omega)
  have q3 := part6 Y 3 (by omega)
  have p4 := part6 X 4 (by omega)
  have q4 := part6 Y 4 (by omega)
  have p5 := part6 X 5 (by omega)
  have q5 := part6 Y 5 (by omega)
  cases h0 : ((X 0 : Int) == (Y 0 : Int))
  · simp only [pureRun_bind, p0, q0, Option.bind_some, eqIn_i64, h0, Bool.not_false, pureRun_pure, List.forIn_nil, Bool.false_and, ↓reduceIte]
  · skip
    cases h1 : ((X 1 : Int) == (Y 1 : Int))
    · simp only [pureRun_bind, p0, p1, q0, q1, Option.bind_some, eqIn_i64, h0, h1, Bool.not_true, Bool.not_false, Bool.false_eq_true, pureRun_pure, List.forIn_nil, Bool.and_false, Bool.false_and, ↓reduceIte]
    · skip
      cases h2 : ((X 2 : Int) == (Y 2 : Int))
      · simp only [pureRun_bind, p0, p1, p2, q0, q1, q2, Option.bind_some, eqIn_i64, h0, h1, h2, Bool.not_true, Bool.not_false, Bool.false_eq_true, pureRun_pure, List.forIn_nil, Bool.and_true, Bool.and_false, Bool.false_and, ↓reduceIte]
      · skip
        cases h3 : ((X 3 : Int) == (Y 3 : Int))
        · simp only [pureRun_bind, p0, p1, p2, p3, q0, q1, q2, q3, Option.bind_some, eqIn_i64, h0, h1, h2, h3, Bool.not_true, Bool.not_false, Bool.false_eq_true, pureRun_pure, List.forIn_nil, Bool.and_true, Bool.and_false, Bool.false_and, ↓reduceIte]
        · skip
          cases h4 : ((X 4 : Int) == (Y 4 : Int))
          · simp only [pureRun_bind, p0, p1, p2, p3, p4, q0, q1, q2, q3, q4, Option.bind_some, eqIn_i64, h0, h1, h2, h3, h4, Bool.not_true, Bool.not_false, Bool.false_eq_true, pureRun_pure, List.forIn_nil, Bool.and_true, Bool.and_false, Bool.false_and, ↓reduceIte]
          · skip
            cases h5 : ((X 5 : Int) == (Y 5 : Int))
            · simp only [pureRun_bind, p0, p1, p2, p3, p4, p5, q0, q1, q2, q3, q4, q5, Option.bind_some, eqIn_i64, h0, h1, h2, h3, h4, h5, Bool.not_true, Bool.not_false, Bool.false_eq_true, pureRun_pure, List.forIn_nil, Bool.and_true, Bool.and_false, ↓reduceIte]
            · simp only [pureRun_bind, p0, p1, p2, p3, p4, p5, q0, q1, q2, q3, q4, q5, Option.bind_some, eqIn_i64, h0, h1, h2, h3, h4, h5, Bool.not_true, Bool.false_eq_true, pureRun_pure, List.forIn_nil, Bool.and_true, ↓reduceIte]
theorem neq_cnt (x y : Operand) (X Y : Nat → Nat) : pureRun Try.prog (do eqGuard .neq 75 x y (agg6 X) (agg6 Y); binOp .neq 75 (agg6 X) (agg6 Y) : Sem Value) = some (.bool (!(((X 0 : Int) == (Y 0 : Int)) && ((X 1 : Int) == (Y 1 : Int)) && ((X 2 : Int) == (Y 2 : Int)) && ((X 3 : Int) == (Y 3 : Int)) && ((X 4 : Int) == (Y 4 : Int)) && ((X 5 : Int) == (Y 5 : Int))))) := by
  rw [pureRun_bind, show pureRun Try.prog (eqGuard .neq 75 x y (agg6 X) (agg6 Y)) = some () from by
    show pureRun Try.prog (do if !(← program).eqGuardType (← program).depth 75 then return
                              if ← Op.eqGuardIn Op.maxDepth 75 (agg6 X) (agg6 Y) then unsupported (.noEntry "binop/eql: two nil values of an interface type with methods, in a part of a struct or an array")) = some ()
    rw [pureRun_bind, show pureRun Try.prog program = some Try.prog from rfl]
    simp only [Option.bind_some]
    rw [pureRun_bind, show pureRun Try.prog program = some Try.prog from rfl]
    simp only [Option.bind_some]
    rw [show Try.prog.eqGuardType Try.prog.depth 75 = false from by kernel_rfl]
    rfl]
  simp only [Option.bind_some]
  show pureRun Try.prog (do pure (Value.bool (!(← Op.equal 75 (agg6 X) (agg6 Y))))) = _
  rw [pureRun_bind]
  show (pureRun Try.prog (Op.equalIn (9998 + 2) 75 (agg6 X) (agg6 Y))).bind _ = _
  rw [equal75]
  rfl
theorem six_eqB (X Y : Nat → Nat) : (((X 0 : Int) == (Y 0 : Int)) && ((X 1 : Int) == (Y 1 : Int)) && ((X 2 : Int) == (Y 2 : Int)) && ((X 3 : Int) == (Y 3 : Int)) && ((X 4 : Int) == (Y 4 : Int)) && ((X 5 : Int) == (Y 5 : Int))) = eqB X Y := by
  have h : ∀ i, ((X i : Int) == (Y i : Int)) = decide (X i = Y i) := fun i => by
    by_cases h : X i = Y i
    · simp [h]
    · simp [h]; omega
  simp only [h, eqB, List.range, List.range.loop, List.all_cons, List.all_nil, Bool.and_true, Bool.and_assoc]
section
variable {σ : List VObj} {kn : Kn} {dst : Option Tmp} {ty : TypeId} {pos : String} {af : Array Edge} {g : Option (Nat × Bool)} {x y : Operand} {u : TypeId} {X Y : Nat → Nat}
theorem K.cntNe (hx : evK kn x = some (.d (.agg (wN X)))) (hy : evK kn y = some (.d (.agg (wN Y)))) : KEv Try.prog ⟨dst, .binOp .neq 75 x y u, ty, pos, af, g⟩ σ kn (.d (DB (!eqB X Y))) σ 0 :=
  K.bin2 hx hy rfl (by unfold opEqNil; rw [show isSliceT Try.prog 75 = false from by kernel_rfl]; rfl) (a := agg6 X) (b := agg6 Y) rfl rfl (by rw [neq_cnt, six_eqB])
end

/-- A valid graph with a repetition vector. -/
structure RepG (N : Nat) (L : List LN) (q : Nat → Nat) : Prop where
  v : validB (N : Int) (L.map LN.z) = true
  r : repA (N : Int) (L.map LN.z) = (q, 0)
  n1 : 1 ≤ N
  n6 : N ≤ 6
  len : L.length ≤ 10
  ok : ∀ l ∈ L, OkL N l
  rep : RepOk L N N q
  sum : tot q ≤ 60
theorem repG_of {n : Int} {L : List LZ} (h : (repA n L).2 = 0) : ∃ (N : Nat) (Ln : List LN) (q : Nat → Nat), n = (N : Int) ∧ L = Ln.map LN.z ∧ RepG N Ln q := by
  cases hv : validB n L with
  | false => rw [repA_bad hv] at h; cases h
  | true =>
    obtain ⟨N, Ln, h1, h2, h3, h4, h5, h6⟩ := valid_nat hv
    subst h1 h4
    rw [repA_ok hv] at h
    have hr := repA_ok hv
    unfold repO at h hr
    cases hq : repFold Ln N N with
    | none => rw [hq] at h; cases h
    | some q =>
      rw [hq] at h hr
      simp only at h hr
      by_cases ht : 60 < tot q
      · rw [if_pos ht] at h; cases h
      · rw [if_neg ht] at hr
        exact ⟨N, Ln, q, rfl, rfl, hv, hr, h2, h3, h5, h6, repFold_ok h3 h6 N (Nat.le_refl _) q hq, by omega⟩
theorem RepG.le {N : Nat} {L : List LN} {q : Nat → Nat} (h : RepG N L q) (i : Nat) : q i ≤ 60 := by
  by_cases hi : i < 6
  · exact Nat.le_trans (le_tot hi) h.sum
  · rw [h.rep.out i (by have := h.n6; omega)]; omega
theorem RepG.inj {N : Nat} {L : List LN} {q q' : Nat → Nat} (h : RepG N L q) (h' : RepG N L q') : q = q' := by
  have := h.r.symm.trans h'.r
  exact (Prod.mk.inj this).1
set_option maxRecDepth 10000 in
theorem repeat18_err {d : DV} {n : Int} {L : List LZ} (hd : Lks d L) (hl : L.length ≤ 9223372036854775807) (he : (repA n L).2 ≠ 0) : DeepCall Try.prog 18 [.agg [DI n, d]] (.tup [Dnil, DI (repA n L).2]) := by
  refine deepCall_K 5 Try.func18 rfl (Nat.le_of_ble_eq_true rfl) fun M W0 => ?_
  refine KC.seq ?_
  refine KC.region ?_
  refine KT.step rfl rfl (K.box rfl) ?_
  refine KT.step rfl rfl (K.assign rfl) ?_
  refine KT.step rfl rfl (K.assign rfl) ?_
  refine KT.nil ?_
  refine thenK_n ?_
  refine KC.seq ?_
  refine KC.region ?_
  refine KT.step rfl rfl (K.loadOA ([DI n, d]) rfl rfl (by decide) Try.agg31 Try.size31 rfl) ?_
  refine KT.step rfl rfl (K.call1 rfl plainTry_46 (repetition46 hd hl)) ?_
  refine KT.step rfl rfl (K.move rfl) ?_
  refine KT.step rfl rfl (K.extract rfl rfl) ?_
  refine KT.step rfl rfl (K.extract rfl rfl) ?_
  refine KT.step rfl rfl (K.alloc Try.zero75) ?_
  refine KT.storeH (cs := wX (repA n L).1) rfl rfl rfl rfl rfl rfl (by rw [wX_len]; decide) (by simp [wN, oneX, Value.oneCell']) Try.size75 fun σ1 l1 u1 v1 => ?_
  replace u1 := u1.trans (congrArg (fun c => some (VObj.mk c 0)) (splice_all (by rw [wX_len]; rfl)))
  try simp only [List.length_append, List.length_cons, List.length_nil] at l1
  have y0 : σ1[0]? = _ := (v1 0 (by simp)).trans rfl
  refine KT.step rfl rfl (K.assign rfl) ?_
  refine KT.nil ?_
  refine thenK_n ?_
  refine KC.seq ?_
  refine KC.seq ?_
  refine KC.region ?_
  refine KT.step rfl rfl (K.move rfl) ?_
  refine KT.step rfl rfl (K.neq rfl rfl) ?_
  refine KT.nil ?_
  refine thenK_n ?_
  refine KC.cond rfl (fun hc12 => ?_) (fun hc12 => ?_)
  · skip
    replace hc12 := of_decide_eq_true hc12
    refine KC.seq ?_
    refine KC.region ?_
    refine KT.step rfl rfl (K.move rfl) ?_
    refine KT.step rfl rfl (K.assign rfl) ?_
    refine KT.step rfl rfl (K.assign rfl) ?_
    refine KT.nil ?_
    refine thenK_n ?_
    refine KC.ret ?_
    refine thenK_r ?_
    exact ⟨.inl rfl, _, rfl, rfl⟩
  · skip
    exact absurd (of_decide_eq_false hc12) (fun h => h he)
set_option maxRecDepth 10000 in
theorem repeat18_ok {d : DV} {N : Nat} {L : List LN} {q : Nat → Nat} (hd : Lks d (L.map LN.z)) (hr : RepG N L q) : DeepCall Try.prog 18 [.agg [DI (N : Nat), d]] (.tup [seqD q N, DI 0]) := by
  have hrep : DeepCall Try.prog 46 [.agg [DI (N : Nat), d]] (.tup [.agg (wN q), DI 0]) := by
    have h := repetition46 (n := (N : Int)) hd (by have := hr.len; rw [List.length_map]; omega)
    rw [hr.r] at h; exact h
  have h1 := hr.n1
  have h6 := hr.n6
  refine deepCall_K 5 Try.func18 rfl (Nat.le_of_ble_eq_true rfl) fun M W0 => ?_
  refine KC.seq ?_
  refine KC.region ?_
  refine KT.step rfl rfl (K.box rfl) ?_
  refine KT.step rfl rfl (K.assign rfl) ?_
  refine KT.step rfl rfl (K.assign rfl) ?_
  refine KT.nil ?_
  refine thenK_n ?_
  refine KC.seq ?_
  refine KC.region ?_
  refine KT.step rfl rfl (K.loadOA ([DI (N : Nat), d]) rfl rfl (by decide) Try.agg31 Try.size31 rfl) ?_
  refine KT.step rfl rfl (K.call1 rfl plainTry_46 (hrep)) ?_
  refine KT.step rfl rfl (K.move rfl) ?_
  refine KT.step rfl rfl (K.extract rfl rfl) ?_
  refine KT.step rfl rfl (K.extract rfl rfl) ?_
  refine KT.step rfl rfl (K.alloc Try.zero75) ?_
  refine KT.storeH (cs := wX q) rfl rfl rfl rfl rfl rfl (by rw [wX_len]; decide) (by simp [wN, oneX, Value.oneCell']) Try.size75 fun σ1 l1 u1 v1 => ?_
  replace u1 := u1.trans (congrArg (fun c => some (VObj.mk c 0)) (splice_all (by rw [wX_len]; rfl)))
  try simp only [List.length_append, List.length_cons, List.length_nil] at l1
  have y0 : σ1[0]? = _ := (v1 0 (by simp)).trans rfl
  refine KT.step rfl rfl (K.assign rfl) ?_
  refine KT.nil ?_
  refine thenK_n ?_
  refine KC.seq ?_
  refine KC.seq ?_
  refine KC.region ?_
  refine KT.step rfl rfl (K.move rfl) ?_
  refine KT.step rfl rfl (K.neq rfl rfl) ?_
  refine KT.nil ?_
  refine thenK_n ?_
  refine KC.cond rfl (fun hc12 => ?_) (fun hc12 => ?_)
  · skip
    exact absurd rfl (of_decide_eq_true hc12)
  · skip
    replace hc12 := of_decide_eq_false hc12
    refine KC.skip ?_
    refine thenK_n ?_
    refine KC.seq ?_
    refine KC.region ?_
    refine KT.step rfl rfl (K.fieldAddrO rfl Try.fld31_0 Try.size3) ?_
    refine KT.step rfl rfl (K.loadO rfl y0 (by simp) rfl Try.agg3) ?_
    refine KT.step rfl rfl (K.sliceAh rfl rfl Try.underlying75 Try.size3 u1 (by simp) (by decide) (by omega) (by rw [wX_len]; omega)) ?_
    have ew := wX_take q h6
    refine KT.step rfl rfl (K.appNil rfl rfl u1 (by simp) (by rw [wX_len]; omega) (by rw [ew]; simp [oneX, Value.oneCell']) (by omega) (by omega) Try.underlying25 Try.one3) ?_
    refine KT.step rfl rfl (K.assign rfl) ?_
    refine KT.step rfl rfl (K.assign rfl) ?_
    refine KT.nil ?_
    refine thenK_n ?_
    refine KC.ret ?_
    refine ⟨.inl rfl, _, rfl, ?_⟩
    rw [ew]
    exact deepen_tup2 (deepen_cells (id := σ1.length) (R := N) (ex := false) (k := 2) (ds := (List.range N).map fun i => DI (q i : Nat)) (by simp [freezeAll]) rfl (by simp))
end Go.Proofs.Ytnfnjnaheckdbaa

