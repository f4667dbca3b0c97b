import Derived.Test.YtnfnjnaheckdbaaFlX
import Derived.Test.YtnfnjnaheckdbaaProg
import Derived.KernelRfl
/-
  Dataflow graphs: numbers, fractions and loads.
-/
namespace Go.Proofs.Ytnfnjnaheckdbaa
open Go.Vm Go.Fl
theorem Try.mixed : Try.prog.follows .mixedOrders = true := by kernel_rfl
theorem Try.agg3 : isAggT Try.prog 3 = some false := by kernel_rfl
theorem Try.size3 : sizeT Try.prog 3 = some 1 := by kernel_rfl
theorem Try.one3 : OneT Try.prog 3 (.int .i64 0) := ⟨by kernel_rfl, by kernel_rfl, rfl, of_decide_eq_true (by kernel_rfl)⟩
theorem Try.agg22 : isAggT Try.prog 22 = some false := by kernel_rfl
theorem Try.size22 : sizeT Try.prog 22 = some 1 := by kernel_rfl
theorem Try.agg24 : isAggT Try.prog 24 = some true := by kernel_rfl
theorem Try.size24 : sizeT Try.prog 24 = some 2 := by kernel_rfl
theorem Try.zero24 : zeroT Try.prog 24 = some (.agg #[.int .i64 0, .slice none 0 0]) := by kernel_rfl
theorem Try.fld24_0 : fieldT Try.prog 24 0 = some { name := "N", type := 3, offset := 0, embedded := false, tag := "", pkgPath := "", byteOffset := 0 } := by kernel_rfl
theorem Try.fld24_1 : fieldT Try.prog 24 1 = some { name := "Links", type := 22, offset := 1, embedded := false, tag := "", pkgPath := "", byteOffset := 8 } := by kernel_rfl
theorem Try.agg25 : isAggT Try.prog 25 = some false := by kernel_rfl
theorem Try.size25 : sizeT Try.prog 25 = some 1 := by kernel_rfl
theorem Try.one25 : OneT Try.prog 25 (.slice none 0 0) := ⟨by kernel_rfl, by kernel_rfl, rfl, of_decide_eq_true (by kernel_rfl)⟩
theorem Try.agg29 : isAggT Try.prog 29 = some false := by kernel_rfl
theorem Try.size29 : sizeT Try.prog 29 = some 1 := by kernel_rfl
theorem Try.agg31 : isAggT Try.prog 31 = some true := by kernel_rfl
theorem Try.size31 : sizeT Try.prog 31 = some 2 := by kernel_rfl
theorem Try.zero31 : zeroT Try.prog 31 = some (.agg #[.int .i64 0, .slice none 0 0]) := by kernel_rfl
theorem Try.fld31_0 : fieldT Try.prog 31 0 = some { name := "N", type := 3, offset := 0, embedded := false, tag := "", pkgPath := "", byteOffset := 0 } := by kernel_rfl
theorem Try.fld31_1 : fieldT Try.prog 31 1 = some { name := "Links", type := 29, offset := 1, embedded := false, tag := "", pkgPath := "", byteOffset := 8 } := by kernel_rfl
theorem Try.places31 : (match Try.prog.underlying 31 with | some (.struct fs) => placesT Try.prog fs | _ => none) = some #[(0, 1), (1, 1)] := by kernel_rfl
theorem Try.agg57 : isAggT Try.prog 57 = some true := by kernel_rfl
theorem Try.size57 : sizeT Try.prog 57 = some 5 := by kernel_rfl
theorem Try.zero57 : zeroT Try.prog 57 = some (.agg #[.int .i64 0, .int .i64 0, .int .i64 0, .int .i64 0, .int .i64 0]) := by kernel_rfl
theorem Try.fld57_0 : fieldT Try.prog 57 0 = some { name := "From", type := 3, offset := 0, embedded := false, tag := "", pkgPath := "", byteOffset := 0 } := by kernel_rfl
theorem Try.fld57_1 : fieldT Try.prog 57 1 = some { name := "To", type := 3, offset := 1, embedded := false, tag := "", pkgPath := "", byteOffset := 8 } := by kernel_rfl
theorem Try.fld57_2 : fieldT Try.prog 57 2 = some { name := "Give", type := 3, offset := 2, embedded := false, tag := "", pkgPath := "", byteOffset := 16 } := by kernel_rfl
theorem Try.fld57_3 : fieldT Try.prog 57 3 = some { name := "Take", type := 3, offset := 3, embedded := false, tag := "", pkgPath := "", byteOffset := 24 } := by kernel_rfl
theorem Try.fld57_4 : fieldT Try.prog 57 4 = some { name := "Stock", type := 3, offset := 4, embedded := false, tag := "", pkgPath := "", byteOffset := 32 } := by kernel_rfl
theorem Try.agg62 : isAggT Try.prog 62 = some true := by kernel_rfl
theorem Try.size62 : sizeT Try.prog 62 = some 5 := by kernel_rfl
theorem Try.zero62 : zeroT Try.prog 62 = some (.agg #[.int .i64 0, .int .i64 0, .int .i64 0, .int .i64 0, .int .i64 0]) := by kernel_rfl
theorem Try.fld62_0 : fieldT Try.prog 62 0 = some { name := "From", type := 3, offset := 0, embedded := false, tag := "", pkgPath := "", byteOffset := 0 } := by kernel_rfl
theorem Try.fld62_1 : fieldT Try.prog 62 1 = some { name := "To", type := 3, offset := 1, embedded := false, tag := "", pkgPath := "", byteOffset := 8 } := by kernel_rfl
theorem Try.fld62_2 : fieldT Try.prog 62 2 = some { name := "Give", type := 3, offset := 2, embedded := false, tag := "", pkgPath := "", byteOffset := 16 } := by kernel_rfl
theorem Try.fld62_3 : fieldT Try.prog 62 3 = some { name := "Take", type := 3, offset := 3, embedded := false, tag := "", pkgPath := "", byteOffset := 24 } := by kernel_rfl
theorem Try.fld62_4 : fieldT Try.prog 62 4 = some { name := "Stock", type := 3, offset := 4, embedded := false, tag := "", pkgPath := "", byteOffset := 32 } := by kernel_rfl
theorem Try.agg75 : isAggT Try.prog 75 = some true := by kernel_rfl
theorem Try.size75 : sizeT Try.prog 75 = some 6 := by kernel_rfl
theorem Try.zero75 : zeroT Try.prog 75 = some (.agg #[.int .i64 0, .int .i64 0, .int .i64 0, .int .i64 0, .int .i64 0, .int .i64 0]) := by kernel_rfl
theorem Try.agg116 : isAggT Try.prog 116 = some true := by kernel_rfl
theorem Try.size116 : sizeT Try.prog 116 = some 2 := by kernel_rfl
theorem Try.zero116 : zeroT Try.prog 116 = some (.agg #[.int .i64 0, .int .i64 0]) := by kernel_rfl
theorem Try.fld116_0 : fieldT Try.prog 116 0 = some { name := "num", type := 3, offset := 0, embedded := false, tag := "", pkgPath := "massecuite/flow", byteOffset := 0 } := by kernel_rfl
theorem Try.fld116_1 : fieldT Try.prog 116 1 = some { name := "den", type := 3, offset := 1, embedded := false, tag := "", pkgPath := "massecuite/flow", byteOffset := 8 } := by kernel_rfl
theorem plainTry_87 : plainFn Try.prog 87 = true := by kernel_rfl
theorem plainTry_104 : plainFn Try.prog 104 = true := by kernel_rfl
theorem plainTry_103 : plainFn Try.prog 103 = true := by kernel_rfl
theorem plainTry_54 : plainFn Try.prog 54 = true := by kernel_rfl
theorem plainTry_79 : plainFn Try.prog 79 = true := by kernel_rfl
theorem all_take {α : Type} (p : α → Bool) {l : List α} {i : Nat} (hi : i < l.length) : (l.take (i + 1)).all p = ((l.take i).all p && p l[i]) := by
  rw [List.take_succ_eq_append_getElem hi, List.all_append]
  simp

theorem all_false {α : Type} {p : α → Bool} {l : List α} {i : Nat} (hi : i < l.length) (h : p l[i] = false) : l.all p = false := by
  cases hb : l.all p with
  | false => rfl
  | true =>
    have := List.all_eq_true.1 hb l[i] (List.getElem_mem hi)
    rw [h] at this; cases this

theorem all_end {α : Type} {p : α → Bool} {l : List α} {i : Nat} (hi : l.length ≤ i) (h : (l.take i).all p = true) : l.all p = true := by
  rwa [List.take_of_length_le hi] at h

theorem build116 (a b : Int) : pureRun Try.prog (Instr.build 116 #[(0, .int .i64 a), (1, .int .i64 b)]) = some (.agg #[.int .i64 a, .int .i64 b]) := by kernel_rfl
theorem build116z : pureRun Try.prog (Instr.build 116 #[]) = some (.agg #[.int .i64 0, .int .i64 0]) := by kernel_rfl
theorem build75z : pureRun Try.prog (Instr.build 75 #[]) = some (.agg #[.int .i64 0, .int .i64 0, .int .i64 0, .int .i64 0, .int .i64 0, .int .i64 0]) := by kernel_rfl
theorem eqIn_i64 (d : Nat) (a b : Int) : pureRun Try.prog (Op.equalIn (d + 1) 3 (.int .i64 a) (.int .i64 b)) = some (a == b) := by
  unfold Op.equalIn
  rw [pureRun_bind, show pureRun Try.prog (underlying 3) = some (.int .i64) from by kernel_rfl]
  rfl
theorem part2a (a b : Int) : pureRun Try.prog (Go.part 3 #[.int .i64 a, .int .i64 b] 0) = some (.int .i64 a) := by
  unfold Go.part
  rw [pureRun_bind, show pureRun Try.prog (isAgg 3) = some false from by kernel_rfl]; rfl
theorem part2b (a b : Int) : pureRun Try.prog (Go.part 3 #[.int .i64 a, .int .i64 b] 1) = some (.int .i64 b) := by
  unfold Go.part
  rw [pureRun_bind, show pureRun Try.prog (isAgg 3) = some false from by kernel_rfl]; rfl
theorem equal116 (d : Nat) (a b c e : Int) : pureRun Try.prog (Op.equalIn (d + 2) 116 (.agg #[.int .i64 a, .int .i64 b]) (.agg #[.int .i64 c, .int .i64 e])) = some (a == c && b == e) := by
  unfold Op.equalIn
  rw [pureRun_bind, show pureRun Try.prog (underlying 116) = some _ from Go.Vm.pureRun_underlying Try.underlying116]
  simp only [Option.bind_some]
  rw [pureRun_bind, show pureRun Try.prog program = some Try.prog from rfl]
  simp only [Option.bind_some]
  rw [show Try.prog.stoodInHeld 116 = false from by kernel_rfl]
  simp only [Bool.false_eq_true, if_false]
  cases h0 : (a == c) <;> cases h1 : (b == e) <;>
  simp [pureRun_bind, part2a, part2b, eqIn_i64, h0, h1, pureRun_pure]
theorem eq_fra (x y : Operand) (a b c e : Int) : pureRun Try.prog (do eqGuard .eql 116 x y (.agg #[.int .i64 a, .int .i64 b]) (.agg #[.int .i64 c, .int .i64 e]); binOp .eql 116 (.agg #[.int .i64 a, .int .i64 b]) (.agg #[.int .i64 c, .int .i64 e]) : Sem Value) = some (.bool (a == c && b == e)) := by
  rw [pureRun_bind, show pureRun Try.prog (eqGuard .eql 116 x y (.agg #[.int .i64 a, .int .i64 b]) (.agg #[.int .i64 c, .int .i64 e])) = some () from by
    show pureRun Try.prog (do if !(← program).eqGuardType (← program).depth 116 then return
                              if ← Op.eqGuardIn Op.maxDepth 116 (.agg #[.int .i64 a, .int .i64 b]) (.agg #[.int .i64 c, .int .i64 e]) then unsupported (.noEntry "binop/eql: two nil values of an interface type with methods, in a part of a struct or an array")) = some ()
    rw [pureRun_bind, show pureRun Try.prog program = some Try.prog from rfl]
    simp only [Option.bind_some]
    rw [pureRun_bind, show pureRun Try.prog program = some Try.prog from rfl]
    simp only [Option.bind_some]
    rw [show Try.prog.eqGuardType Try.prog.depth 116 = false from by kernel_rfl]
    rfl]
  simp only [Option.bind_some]
  show pureRun Try.prog (do pure (Value.bool (← Op.equal 116 (.agg #[.int .i64 a, .int .i64 b]) (.agg #[.int .i64 c, .int .i64 e])))) = _
  rw [pureRun_bind]
  show (pureRun Try.prog (Op.equalIn (9998 + 2) 116 (.agg #[.int .i64 a, .int .i64 b]) (.agg #[.int .i64 c, .int .i64 e]))).bind _ = _
  rw [equal116]
  rfl
theorem neq_fra (x y : Operand) (a b c e : Int) : pureRun Try.prog (do eqGuard .neq 116 x y (.agg #[.int .i64 a, .int .i64 b]) (.agg #[.int .i64 c, .int .i64 e]); binOp .neq 116 (.agg #[.int .i64 a, .int .i64 b]) (.agg #[.int .i64 c, .int .i64 e]) : Sem Value) = some (.bool (!(a == c && b == e))) := by
  rw [pureRun_bind, show pureRun Try.prog (eqGuard .neq 116 x y (.agg #[.int .i64 a, .int .i64 b]) (.agg #[.int .i64 c, .int .i64 e])) = some () from by
    show pureRun Try.prog (do if !(← program).eqGuardType (← program).depth 116 then return
                              if ← Op.eqGuardIn Op.maxDepth 116 (.agg #[.int .i64 a, .int .i64 b]) (.agg #[.int .i64 c, .int .i64 e]) then unsupported (.noEntry "binop/eql: two nil values of an interface type with methods, in a part of a struct or an array")) = some ()
    rw [pureRun_bind, show pureRun Try.prog program = some Try.prog from rfl]
    simp only [Option.bind_some]
    rw [pureRun_bind, show pureRun Try.prog program = some Try.prog from rfl]
    simp only [Option.bind_some]
    rw [show Try.prog.eqGuardType Try.prog.depth 116 = false from by kernel_rfl]
    rfl]
  simp only [Option.bind_some]
  show pureRun Try.prog (do pure (Value.bool (!(← Op.equal 116 (.agg #[.int .i64 a, .int .i64 b]) (.agg #[.int .i64 c, .int .i64 e]))))) = _
  rw [pureRun_bind]
  show (pureRun Try.prog (Op.equalIn (9998 + 2) 116 (.agg #[.int .i64 a, .int .i64 b]) (.agg #[.int .i64 c, .int .i64 e]))).bind _ = _
  rw [equal116]
  rfl
abbrev fD (x : Fra) : DV := .agg [DI (x.1 : Nat), DI (x.2 : Nat)]
abbrev fZ : DV := .lit (.agg #[.int .i64 0, .int .i64 0])
theorem beq_knB (x : Fra) : ((x.1 : Int) == 0 && (x.2 : Int) == 0) = !knB x := by
  unfold knB
  rw [Bool.not_not]
  by_cases h1 : x.1 = 0 <;> by_cases h2 : x.2 = 0 <;> simp [h1, h2]
theorem beq_fra (x y : Fra) : ((x.1 : Int) == (y.1 : Int) && (x.2 : Int) == (y.2 : Int)) = decide (x = y) := by
  obtain ⟨a, b⟩ := x
  obtain ⟨c, d⟩ := y
  by_cases h1 : a = c <;> by_cases h2 : b = d <;> simp [h1, h2] <;> omega
section
variable {σ : List VObj} {kn : Kn} {dst : Option Tmp} {ty : TypeId} {pos : String} {af : Array Edge} {g : Option (Nat × Bool)} {x y : Operand} {u : TypeId} {a b : Fra}
theorem K.fraZ (hx : evK kn x = some (.d (fD a))) (hy : evK kn y = some (.d fZ)) : KEv Try.prog ⟨dst, .binOp .eql 116 x y u, ty, pos, af, g⟩ σ kn (.d (DB (!knB a))) σ 0 :=
  K.bin2 hx hy rfl (by unfold opEqNil; rw [show isSliceT Try.prog 116 = false from by kernel_rfl]; rfl) (a := .agg #[.int .i64 (a.1 : Nat), .int .i64 (a.2 : Nat)]) (b := .agg #[.int .i64 0, .int .i64 0]) rfl rfl (by rw [eq_fra, beq_knB])
theorem K.fraN (hx : evK kn x = some (.d (fD a))) (hy : evK kn y = some (.d fZ)) : KEv Try.prog ⟨dst, .binOp .neq 116 x y u, ty, pos, af, g⟩ σ kn (.d (DB (knB a))) σ 0 :=
  K.bin2 hx hy rfl (by unfold opEqNil; rw [show isSliceT Try.prog 116 = false from by kernel_rfl]; rfl) (a := .agg #[.int .i64 (a.1 : Nat), .int .i64 (a.2 : Nat)]) (b := .agg #[.int .i64 0, .int .i64 0]) rfl rfl (by rw [neq_fra, beq_knB, Bool.not_not])
theorem K.fraNe (hx : evK kn x = some (.d (fD a))) (hy : evK kn y = some (.d (fD b))) : KEv Try.prog ⟨dst, .binOp .neq 116 x y u, ty, pos, af, g⟩ σ kn (.d (DB (decide (a ≠ b)))) σ 0 :=
  K.bin2 hx hy rfl (by unfold opEqNil; rw [show isSliceT Try.prog 116 = false from by kernel_rfl]; rfl) (a := .agg #[.int .i64 (a.1 : Nat), .int .i64 (a.2 : Nat)]) (b := .agg #[.int .i64 (b.1 : Nat), .int .i64 (b.2 : Nat)]) rfl rfl (by rw [neq_fra, beq_fra, decide_not])
end
set_option maxRecDepth 10000 in
theorem within87 (x lo hi : Int) : DeepCall Try.prog 87 [DI x, DI lo, DI hi] (DB (decide (lo ≤ x) && decide (x ≤ hi))) := by
  refine deepCall_K 5 Try.func87 rfl (Nat.le_of_ble_eq_true rfl) fun M W0 => ?_
  refine KC.seq ?_
  refine KC.region ?_
  refine KT.step rfl rfl (K.assign rfl) ?_
  refine KT.nil ?_
  refine thenK_n ?_
  refine KC.seq ?_
  refine KC.region ?_
  refine KT.step rfl rfl (K.move rfl) ?_
  refine KT.step rfl rfl (K.move rfl) ?_
  refine KT.step rfl rfl (K.leq rfl rfl) ?_
  refine KT.step rfl rfl (K.move rfl) ?_
  refine KT.bcase (fun hb10 => ?_) (fun hb10 => ?_)
  · skip
    replace hb10 := of_decide_eq_true hb10
    refine KT.step rfl rfl (K.move rfl) ?_
    refine KT.step rfl rfl (K.move rfl) ?_
    refine KT.step rfl rfl (K.leq rfl rfl) ?_
    refine KT.step rfl rfl (K.pick rfl (fun _ => rfl) (fun h => by cases h)) ?_
    refine KT.step rfl rfl (K.assign rfl) ?_
    refine KT.nil ?_
    refine thenK_n ?_
    refine KC.ret ?_
    exact ⟨.inl rfl, _, rfl, fin_b (by rw [decide_eq_true hb10]; rfl)⟩
  · skip
    replace hb10 := of_decide_eq_false hb10
    refine KT.skip rfl rfl ?_
    refine KT.skip rfl rfl ?_
    refine KT.skip rfl rfl ?_
    refine KT.step rfl rfl (K.pick rfl (fun h => by cases h) (fun _ => rfl)) ?_
    refine KT.step rfl rfl (K.assign rfl) ?_
    refine KT.nil ?_
    refine thenK_n ?_
    refine KC.ret ?_
    exact ⟨.inl rfl, _, rfl, fin_b (by rw [decide_eq_false hb10]; rfl)⟩
set_option maxRecDepth 10000 in
theorem divisor104 (a b : Nat) : DeepCall Try.prog 104 [DI (a : Nat), DI (b : Nat)] (DI (Nat.gcd a b : Nat)) := by
  refine deepCall_K 5 Try.func104 rfl (Nat.le_of_ble_eq_true rfl) fun M W0 => ?_
  refine KC.seq ?_
  refine KC.region ?_
  refine KT.step rfl rfl (K.assign rfl) ?_
  refine KT.nil ?_
  refine thenK_n ?_
  refine KC.seq ?_
  refine KC.block ?_
  refine KC.loop (fun _ : Nat × Nat => []) (fun p => [(0, .d (DI (p.1 : Nat))), (1, .d (DI (p.2 : Nat)))]) (fun p => Nat.gcd p.1 p.2 = Nat.gcd a b) (fun p => p.2) (a, b) rfl rfl (by simp [Go.Vm.look, extK, enterK]) ?_
  intro p hp
  obtain ⟨c, d⟩ := p
  simp only at hp ⊢
  refine KC.seq ?_
  refine KC.seq ?_
  refine KC.region ?_
  refine KT.step rfl rfl (K.move rfl) ?_
  refine KT.step rfl rfl (K.neq rfl rfl) ?_
  refine KT.nil ?_
  refine thenK_n ?_
  refine KC.cond rfl (fun hc6 => ?_) (fun hc6 => ?_)
  · skip
    replace hc6 := of_decide_eq_true hc6
    refine KC.skip ?_
    refine thenK_n ?_
    refine KC.block ?_
    refine KC.draw Try.mixed ?_
    refine KT.step rfl rfl (K.move rfl) ?_
    refine KT.step rfl rfl (K.move rfl) ?_
    refine KT.step rfl rfl (K.move rfl) ?_
    refine KT.step rfl rfl (K.rem rfl rfl (by omega) (tmodN c d)) ?_
    refine KT.step rfl rfl (K.assign rfl) ?_
    refine KT.step rfl rfl (K.assign rfl) ?_
    refine KT.nil ?_
    refine ⟨by kernel_rfl, ?_⟩
    refine blockK_n ?_
    refine thenK_n ?_
    refine ⟨(d, c % d), ?_, Nat.mod_lt _ (by omega), rfl, by simp [Go.Vm.look, extK]⟩
    show Nat.gcd d (c % d) = _
    rw [← hp, Nat.gcd_comm d, ← Nat.gcd_rec, Nat.gcd_comm]
  · skip
    replace hc6 := of_decide_eq_false hc6
    refine KC.exit ?_
    refine thenK_x ?_
    refine thenK_x ?_
    refine blockK_e ?_
    refine thenK_n ?_
    refine KC.seq ?_
    refine KC.region ?_
    refine KT.step rfl rfl (K.move rfl) ?_
    refine KT.step rfl rfl (K.assign rfl) ?_
    refine KT.nil ?_
    refine thenK_n ?_
    refine KC.ret ?_
    obtain rfl : d = 0 := by omega
    rw [Nat.gcd_zero_right] at hp
    subst hp
    exact ⟨.inl rfl, _, rfl, fin_d rfl⟩
set_option maxRecDepth 10000 in
theorem times103 {x : Fra} {n d : Nat} (hn : x.1 * n ≤ 9223372036854775807) (hd : x.2 * d ≤ 9223372036854775807) (h0 : 0 < x.1 * n) : DeepCall Try.prog 103 [fD x, DI (n : Nat), DI (d : Nat)] (fD (timesF x n d)) := by
  have hg : 0 < Nat.gcd (x.1 * n) (x.2 * d) := Nat.gcd_pos_of_pos_left _ h0
  refine deepCall_K 5 Try.func103 rfl (Nat.le_of_ble_eq_true rfl) fun M W0 => ?_
  refine KC.seq ?_
  refine KC.region ?_
  refine KT.step rfl rfl (K.box rfl) ?_
  refine KT.step rfl rfl (K.alloc Try.zero116) ?_
  refine KT.nil ?_
  refine thenK_n ?_
  refine KC.seq ?_
  refine KC.draw Try.mixed ?_
  refine KT.step rfl rfl (K.fieldAddrO rfl Try.fld116_0 Try.size3) ?_
  refine KT.step rfl rfl (K.loadO rfl rfl (by simp) rfl Try.agg3) ?_
  refine KT.step rfl rfl (K.move rfl) ?_
  refine KT.step rfl rfl (K.mul rfl rfl (mulN hn)) ?_
  refine KT.step rfl rfl (K.fieldAddrO rfl Try.fld116_1 Try.size3) ?_
  refine KT.step rfl rfl (K.loadO rfl rfl (by simp) rfl Try.agg3) ?_
  refine KT.step rfl rfl (K.move rfl) ?_
  refine KT.step rfl rfl (K.mul rfl rfl (mulN hd)) ?_
  refine KT.step rfl rfl (K.assign rfl) ?_
  refine KT.step rfl rfl (K.assign rfl) ?_
  refine KT.nil ?_
  refine ⟨by kernel_rfl, ?_⟩
  refine thenK_n ?_
  refine KC.seq ?_
  refine KC.region ?_
  refine KT.step rfl rfl (K.move rfl) ?_
  refine KT.step rfl rfl (K.move rfl) ?_
  refine KT.step rfl rfl (K.call2 rfl rfl plainTry_104 (divisor104 (x.1 * n) (x.2 * d))) ?_
  refine KT.step rfl rfl (K.assign rfl) ?_
  refine KT.nil ?_
  refine thenK_n ?_
  refine KC.seq ?_
  refine KC.draw Try.mixed ?_
  refine KT.step rfl rfl (K.move rfl) ?_
  refine KT.step rfl rfl (K.move rfl) ?_
  refine KT.step rfl rfl (K.quo rfl rfl (by omega) (divN hn)) ?_
  refine KT.step rfl rfl (K.move rfl) ?_
  refine KT.step rfl rfl (K.move rfl) ?_
  refine KT.step rfl rfl (K.quo rfl rfl (by omega) (divN hd)) ?_
  refine KT.step rfl rfl (K.buildL rfl (build116 _ _)) ?_
  refine KT.step rfl rfl (K.storeN rfl rfl rfl (Nat.le_refl 2) rfl Try.size116) ?_
  refine KT.nil ?_
  refine ⟨by kernel_rfl, ?_⟩
  refine thenK_n ?_
  refine KC.ret ?_
  exact ⟨.inl rfl, _, resK_agg (m := 2) rfl rfl rfl (by simp) Try.agg116 Try.size116 (Nat.le_refl 2), rfl⟩

def psum (X : Nat → Nat) : Nat → Nat
  | 0 => 0
  | i + 1 => psum X i + X i
theorem psum_le {X : Nat → Nat} {b : Nat} (h : ∀ i, X i ≤ b) : ∀ i, psum X i ≤ i * b
  | 0 => by simp [psum]
  | i + 1 => by have := psum_le h i; have := h i; simp only [psum, Nat.add_mul, Nat.one_mul]; omega
theorem psum_tot (X : Nat → Nat) : psum X 6 = tot X := by simp [psum, tot]
set_option maxRecDepth 10000 in
theorem sum54 {X : Nat → Nat} (hX : ∀ i, X i ≤ 604661760000000000) : DeepCall Try.prog 54 [.agg (wN X)] (DI (tot X : Nat)) := by
  refine deepCall_K 5 Try.func54 rfl (Nat.le_of_ble_eq_true rfl) fun M W0 => ?_
  refine KC.seq ?_
  refine KC.region ?_
  refine KT.step rfl rfl (K.box rfl) ?_
  refine KT.step rfl rfl (K.assign rfl) ?_
  refine KT.nil ?_
  refine thenK_n ?_
  refine KC.seq ?_
  refine KC.region ?_
  refine KT.step rfl rfl (K.assign rfl) ?_
  refine KT.nil ?_
  refine thenK_n ?_
  refine KC.seq ?_
  refine KC.seq ?_
  refine KC.region ?_
  refine KT.step rfl rfl (K.loadOA (wN X) rfl rfl (by decide) Try.agg75 Try.size75 rfl) ?_
  refine KT.step rfl rfl (K.move rfl) ?_
  refine KT.nil ?_
  refine thenK_n ?_
  refine KC.block ?_
  refine KC.loop (fun _ : Nat => [⟨wX X, 0⟩]) (fun i => [(3, .d (DI (psum X i : Nat))), (6, .d (.agg (wN X))), (7, .d (DI (i : Nat)))]) (fun i => i ≤ 6) (fun i => 6 - i) 0 (Nat.zero_le _) rfl (by simp [Go.Vm.look, extK, enterK, psum]) ?_
  intro i hi
  have hp := psum_le hX i
  refine KC.seq ?_
  refine KC.region ?_
  refine KT.step rfl rfl (K.lss rfl rfl) ?_
  refine KT.nil ?_
  refine thenK_n ?_
  refine KC.seq ?_
  refine KC.cond rfl (fun hc8 => ?_) (fun hc8 => ?_)
  · skip
    replace hc8 := of_decide_eq_true hc8
    have hi6 : i < 6 := by omega
    refine KC.skip ?_
    refine thenK_n ?_
    refine KC.seq ?_
    refine KC.block ?_
    refine KC.seq ?_
    refine KC.region ?_
    refine KT.step rfl rfl (K.indexA rfl rfl (by omega) Try.underlying75 Try.size3 Try.agg3 (by rw [Nat.mul_one]; exact wN_get X hi6)) ?_
    refine KT.step rfl rfl (K.assign rfl) ?_
    refine KT.nil ?_
    refine thenK_n ?_
    refine KC.region ?_
    refine KT.step rfl rfl (K.move rfl) ?_
    refine KT.step rfl rfl (K.move rfl) ?_
    refine KT.step rfl rfl (K.add rfl rfl (addN (by have := hX i; omega))) ?_
    refine KT.step rfl rfl (K.assign rfl) ?_
    refine KT.nil ?_
    refine blockK_n ?_
    refine thenK_n ?_
    refine KC.region ?_
    refine KT.step rfl rfl (K.add rfl rfl (oneN (by omega))) ?_
    refine KT.step rfl rfl (K.move rfl) ?_
    refine KT.nil ?_
    refine thenK_n ?_
    exact ⟨i + 1, by omega, by omega, rfl, by simp [Go.Vm.look, extK, psum]⟩
  · skip
    replace hc8 := of_decide_eq_false hc8
    obtain rfl : i = 6 := by omega
    refine KC.exit ?_
    refine thenK_x ?_
    refine thenK_x ?_
    refine blockK_e ?_
    refine thenK_n ?_
    refine KC.seq ?_
    refine KC.region ?_
    refine KT.step rfl rfl (K.move rfl) ?_
    refine KT.step rfl rfl (K.assign rfl) ?_
    refine KT.nil ?_
    refine thenK_n ?_
    refine KC.ret ?_
    exact ⟨.inl rfl, _, rfl, fin_d (by rw [psum_tot])⟩
set_option maxRecDepth 10000 in
theorem loads79 {l : LN} {N : Nat} {X : Nat → Nat} (hN : N ≤ 6) (hl : OkL N l) (hX : ∀ i, X i ≤ 60) : DeepCall Try.prog 79 [.agg (lk5 l.z), .agg (wN X)] (DI (loadZ l X)) := by
  have f6 : l.f < 6 := Nat.lt_of_lt_of_le hl.f hN
  have t6 : l.t < 6 := Nat.lt_of_lt_of_le hl.t hN
  have a1 : l.g * X l.f ≤ 6 * 60 := Nat.mul_le_mul hl.g6 (hX _)
  have a2 : l.k * X l.t ≤ 6 * 60 := Nat.mul_le_mul hl.k6 (hX _)
  have a3 := hl.s
  refine deepCall_K 5 Try.func79 rfl (Nat.le_of_ble_eq_true rfl) fun M W0 => ?_
  refine KC.seq ?_
  refine KC.region ?_
  refine KT.step rfl rfl (K.box rfl) ?_
  refine KT.step rfl rfl (K.box rfl) ?_
  refine KT.step rfl rfl (K.assign rfl) ?_
  refine KT.nil ?_
  refine thenK_n ?_
  refine KC.seq ?_
  refine KC.draw Try.mixed ?_
  refine KT.step rfl rfl (K.fieldAddrO rfl Try.fld62_4 Try.size3) ?_
  refine KT.step rfl rfl (K.loadO rfl rfl (by simp) rfl Try.agg3) ?_
  refine KT.step rfl rfl (K.fieldAddrO rfl Try.fld62_2 Try.size3) ?_
  refine KT.step rfl rfl (K.loadO rfl rfl (by simp) rfl Try.agg3) ?_
  refine KT.step rfl rfl (K.fieldAddrO rfl Try.fld62_0 Try.size3) ?_
  refine KT.step rfl rfl (K.loadO rfl rfl (by simp) rfl Try.agg3) ?_
  refine KT.step rfl rfl (K.idxA rfl rfl f6 Try.underlying75 Try.size3) ?_
  refine KT.step rfl rfl (K.loadO rfl rfl (by simp) (wX_get X f6) Try.agg3) ?_
  refine KT.step rfl rfl (K.mul rfl rfl (mulN (by omega))) ?_
  refine KT.step rfl rfl (K.add rfl rfl (addN (by omega))) ?_
  refine KT.step rfl rfl (K.fieldAddrO rfl Try.fld62_3 Try.size3) ?_
  refine KT.step rfl rfl (K.loadO rfl rfl (by simp) rfl Try.agg3) ?_
  refine KT.step rfl rfl (K.fieldAddrO rfl Try.fld62_1 Try.size3) ?_
  refine KT.step rfl rfl (K.loadO rfl rfl (by simp) rfl Try.agg3) ?_
  refine KT.step rfl rfl (K.idxA rfl rfl t6 Try.underlying75 Try.size3) ?_
  refine KT.step rfl rfl (K.loadO rfl rfl (by simp) (wX_get X t6) Try.agg3) ?_
  refine KT.step rfl rfl (K.mul rfl rfl (mulN (by omega))) ?_
  refine KT.step rfl rfl (K.sub rfl rfl (wrap_id (by omega))) ?_
  refine KT.step rfl rfl (K.assign rfl) ?_
  refine KT.nil ?_
  refine ⟨by kernel_rfl, ?_⟩
  refine thenK_n ?_
  refine KC.ret ?_
  refine ⟨.inl rfl, _, rfl, fin_d ?_⟩
  unfold loadZ
  rw [Int.natCast_add, Int.natCast_mul, Int.natCast_mul]
end Go.Proofs.Ytnfnjnaheckdbaa

