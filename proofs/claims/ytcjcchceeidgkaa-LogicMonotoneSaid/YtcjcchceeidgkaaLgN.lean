import Derived.Test.YtcjcchceeidgkaaLgL
import Derived.Test.YtcjcchceeidgkaaLgT
/-
  The law LogicMonotone.
-/
namespace Go.Proofs.Ytcjcchceeidgkaa
open Go.Vm Go.Lg
theorem plainTry_8 : plainFn Try.prog 8 = true := by kernel_rfl
def lettersV : Value := .agg #[.string ⟨#[88]⟩, .string ⟨#[70]⟩, .string ⟨#[71]⟩]
theorem idxL0 : pureRun Try.prog (Instr.index 64 lettersV (.int .i64 (0 : Nat))) = some (.string ⟨#[88]⟩) := by kernel_rfl
theorem addE0 : pureRun Try.prog (do eqGuard .add 9 (.const (.string ⟨#[69]⟩)) (.const (.string ⟨#[88]⟩)) (.string ⟨#[69]⟩) (.string ⟨#[88]⟩); binOp .add 9 (.string ⟨#[69]⟩) (.string ⟨#[88]⟩) : Sem Value) = some (.string ⟨#[69, 88]⟩) := by kernel_rfl
theorem addA0 : pureRun Try.prog (do eqGuard .add 9 (.const (.string ⟨#[65]⟩)) (.const (.string ⟨#[88]⟩)) (.string ⟨#[65]⟩) (.string ⟨#[88]⟩); binOp .add 9 (.string ⟨#[65]⟩) (.string ⟨#[88]⟩) : Sem Value) = some (.string ⟨#[65, 88]⟩) := by kernel_rfl
theorem idxL1 : pureRun Try.prog (Instr.index 64 lettersV (.int .i64 (1 : Nat))) = some (.string ⟨#[70]⟩) := by kernel_rfl
theorem addE1 : pureRun Try.prog (do eqGuard .add 9 (.const (.string ⟨#[69]⟩)) (.const (.string ⟨#[70]⟩)) (.string ⟨#[69]⟩) (.string ⟨#[70]⟩); binOp .add 9 (.string ⟨#[69]⟩) (.string ⟨#[70]⟩) : Sem Value) = some (.string ⟨#[69, 70]⟩) := by kernel_rfl
theorem addA1 : pureRun Try.prog (do eqGuard .add 9 (.const (.string ⟨#[65]⟩)) (.const (.string ⟨#[70]⟩)) (.string ⟨#[65]⟩) (.string ⟨#[70]⟩); binOp .add 9 (.string ⟨#[65]⟩) (.string ⟨#[70]⟩) : Sem Value) = some (.string ⟨#[65, 70]⟩) := by kernel_rfl
theorem idxL2 : pureRun Try.prog (Instr.index 64 lettersV (.int .i64 (2 : Nat))) = some (.string ⟨#[71]⟩) := by kernel_rfl
theorem addE2 : pureRun Try.prog (do eqGuard .add 9 (.const (.string ⟨#[69]⟩)) (.const (.string ⟨#[71]⟩)) (.string ⟨#[69]⟩) (.string ⟨#[71]⟩); binOp .add 9 (.string ⟨#[69]⟩) (.string ⟨#[71]⟩) : Sem Value) = some (.string ⟨#[69, 71]⟩) := by kernel_rfl
theorem addA2 : pureRun Try.prog (do eqGuard .add 9 (.const (.string ⟨#[65]⟩)) (.const (.string ⟨#[71]⟩)) (.string ⟨#[65]⟩) (.string ⟨#[71]⟩); binOp .add 9 (.string ⟨#[65]⟩) (.string ⟨#[71]⟩) : Sem Value) = some (.string ⟨#[65, 71]⟩) := by kernel_rfl
theorem eqGuard_add {P : Program} (t : TypeId) (x y u v : Operand) (a b : Value) : pureRun P (eqGuard .add t x y a b) = pureRun P (eqGuard .add t u v a b) := rfl
section
variable {σ : List VObj} {kn : Kn} {dst : Option Tmp} {ty : TypeId} {pos : String} {af : Array Edge} {g : Option (Nat × Bool)}
theorem K.idxL {x i : Operand} {k : Nat} (hk : k < 3) (hx : evK kn x = some (.d (.lit lettersV))) (hi : evK kn i = some (.d (DI (k : Nat)))) :
    KEv Try.prog ⟨dst, .index 64 x i, ty, pos, af, g⟩ σ kn (.d (.lit (.string (pL k)))) σ 0 := by
  refine K.semP fun env he F ι w ev h => ?_
  have h1 := h x (by simp [Op.operands])
  have h2 := h i (by simp [Op.operands])
  rw [evK_evalX he hx] at h1
  rw [evK_evalX he hi] at h2
  have hex : ∀ ev : Operand → Value, execOp ev ⟨dst, .index 64 x i, ty, pos, af, g⟩ = (do pure (.value (← Instr.index 64 (ev x) (ev i)))) := fun _ => rfl
  rw [hex]
  generalize ev x = vx at *
  generalize ev i = vi at *
  cases h1 with | d h1 => cases h1 with | lit =>
  cases h2 with | d h2 => cases h2 with | lit =>
  refine ⟨_, ?_, .d (.lit _)⟩
  have key : pureRun Try.prog (Instr.index 64 lettersV (.int .i64 (k : Nat))) = some (.string (pL k)) := by
    match k, hk with
    | 0, _ => exact idxL0
    | 1, _ => exact idxL1
    | 2, _ => exact idxL2
    | k + 3, h => omega
  exact pureRun_ok (pureRun_v key) w
theorem K.addE {x y : Operand} {u : TypeId} {k : Nat} (hk : k < 3) (hx : evK kn x = some (.d (.lit (.string ⟨#[69]⟩)))) (hy : evK kn y = some (.d (.lit (.string (pL k))))) : KEv Try.prog ⟨dst, .binOp .add 9 x y u, ty, pos, af, g⟩ σ kn (.d (.lit (.string (pE k)))) σ 0 :=
  K.bin hx hy (by
    match k, hk with
    | 0, _ => exact addE0
    | 1, _ => exact addE1
    | 2, _ => exact addE2
    | k + 3, h => omega)
theorem K.addA {x y : Operand} {u : TypeId} {k : Nat} (hk : k < 3) (hx : evK kn x = some (.d (.lit (.string ⟨#[65]⟩)))) (hy : evK kn y = some (.d (.lit (.string (pL k))))) : KEv Try.prog ⟨dst, .binOp .add 9 x y u, ty, pos, af, g⟩ σ kn (.d (.lit (.string (pU k)))) σ 0 :=
  K.bin hx hy (by
    match k, hk with
    | 0, _ => exact addA0
    | 1, _ => exact addA1
    | 2, _ => exact addA2
    | k + 3, h => omega)
end
theorem satV_small {N L : List Int} (f : Fo) : satV N L f < 65536 := by
  unfold satV
  split
  · rename_i h
    have hv : validS N L = true := by
      unfold satB at h
      simp only [Bool.and_eq_true] at h
      exact h.1
    have hl : (toN L).length = (toN N).length := by simp [(validS_all hv).2.2.1]
    exact pow16 (by simpa using (validS_all hv).2.1) (satF_lt hl f)
  · decide
theorem ok_of {N L : List Int} {f : Fo} (h : ¬ satE N L f = 2) : satB N L f = true := by
  unfold satE at h
  split at h
  · assumption
  · exact absurd rfl h
theorem tot_of {N L : List Int} (h : validS N L = true) : Tot (toN N) := fun i hi => by
  obtain ⟨h1, h2, h3, h4⟩ := validS_all h
  have hi' : i < N.length := by simpa using hi
  have := h4 i hi'
  rw [toN_get]
  have e : (toN N).length = N.length := by simp
  rw [e]
  have := Nat.two_pow_pos N.length
  omega
theorem mono_sat {N L : List Int} {f g : Fo} (hf : satB N L f = true) (hg : satB N L g = true) (h : ∀ nx lb : List Nat, lb.length = nx.length → Tot nx → Sub (satF nx lb f) (satF nx lb g)) : ((diffN (satV N L f) (satV N L g) : Nat) : Int) = 0 := by
  have hv : validS N L = true := by
    unfold satB at hf
    simp only [Bool.and_eq_true] at hf
    exact hf.1
  unfold satV
  rw [hf, hg]
  have := diff_zero (h (toN N) (toN L) (by simp [(validS_all hv).2.2.1]) (tot_of hv))
  simp only [if_true]
  rw [this]; rfl
set_option maxRecDepth 10000 in
theorem law_monotone {dN dL kd kd2 : DV} {N L : List Int} {op op2 : ByteArray} {ks ks2 : List Fo} (hN : Ints dN N) (hL : Ints dL L) (hk : KidsD kd ks) (hk2 : KidsD kd2 ks2) : DeepCall Try.prog 8 [.agg [dN, dL], .agg [.lit (.string op), kd], .agg [.lit (.string op2), kd2]] (DB true) := by
  refine deepCall_K 5 Try.func8 rfl (Nat.le_of_ble_eq_true rfl) fun M W0 => ?_
  refine KC.seq ?_
  refine KC.region ?_
  refine KT.step rfl rfl (K.box rfl) ?_
  refine KT.step rfl rfl (K.box rfl) ?_
  refine KT.step rfl rfl (K.box rfl) ?_
  refine KT.step rfl rfl (K.assign rfl) ?_
  refine KT.nil ?_
  refine thenK_n ?_
  refine KC.seq ?_
  refine KC.region ?_
  refine KT.step rfl rfl (K.loadOA ([.lit (.string op), kd]) rfl rfl (by decide) Try.agg27 Try.size27 rfl) ?_
  refine KT.step rfl rfl (K.call2 rfl rfl plainTry_11 (formula11 (left := 40) hk (by decide))) ?_
  refine KT.step rfl rfl (K.alloc Try.zero35) ?_
  refine KT.storeL (A := [_, _, _]) (cs := [.d (.lit (.string (cvF (.mk op ks) 40 210).1.op)), .d (kidsV (cvF (.mk op ks) 40 210).1.ks)]) rfl rfl rfl rfl rfl rfl (two_one rfl (kidsV_ok _)) Try.size35 ?_
  refine KT.nil ?_
  refine thenK_n ?_
  refine KC.seq ?_
  have y3 : ([⟨[.d dN, .d dL], 0⟩, ⟨[.d (.lit (.string op)), .d kd], 0⟩, ⟨[.d (.lit (.string op2)), .d kd2], 0⟩, ⟨[.d (.lit (.string (cvF (.mk op ks) 40 210).1.op)), .d (kidsV (cvF (.mk op ks) 40 210).1.ks)], 0⟩] : List VObj)[3]? = some ⟨[.d (.lit (.string (cvF (.mk op ks) 40 210).1.op)), .d (kidsV (cvF (.mk op ks) 40 210).1.ks)], 0⟩ := rfl
  refine KC.draw Try.mixed ?_
  refine KT.step rfl rfl (K.loadOA ([.lit (.string (cvF (.mk op ks) 40 210).1.op), kidsV (cvF (.mk op ks) 40 210).1.ks]) rfl y3 (by decide) Try.agg35 Try.size35 rfl) ?_
  refine KT.step rfl rfl (K.loadOA ([.lit (.string op2), kd2]) rfl rfl (by decide) Try.agg27 Try.size27 rfl) ?_
  refine KT.step rfl rfl (K.call2 rfl rfl plainTry_11 (formula11 (left := 40) hk2 (by decide))) ?_
  refine KT.step rfl rfl (K.lit2 rfl rfl Try.underlying33 Try.size35 Try.zero35) ?_
  refine KT.step rfl rfl (K.call2 rfl rfl plainTry_26 (node26 (op := ⟨#[124]⟩) (two_kids (f := (cvF (.mk op ks) 40 210).1) (g := (cvF (.mk op2 ks2) 40 210).1) (kidsV_ok _) (kidsV_ok _)))) ?_
  refine KT.step rfl rfl (K.alloc Try.zero35) ?_
  refine KT.storeL (A := [_, _, _, _]) (cs := [.d (.lit (.string ⟨#[124]⟩)), .d (.sl [.lit (.string (cvF (.mk op ks) 40 210).1.op), kidsV (cvF (.mk op ks) 40 210).1.ks, .lit (.string (cvF (.mk op2 ks2) 40 210).1.op), kidsV (cvF (.mk op2 ks2) 40 210).1.ks] 2 (some 2))]) rfl rfl rfl rfl rfl rfl (two_one rfl (two_kids (f := (cvF (.mk op ks) 40 210).1) (g := (cvF (.mk op2 ks2) 40 210).1) (kidsV_ok _) (kidsV_ok _))) Try.size35 ?_
  refine KT.nil ?_
  refine ⟨by kernel_rfl, ?_⟩
  refine thenK_n ?_
  refine KC.seq ?_
  refine KC.seq ?_
  have y0 : ([⟨[.d dN, .d dL], 0⟩, ⟨[.d (.lit (.string op)), .d kd], 0⟩, ⟨[.d (.lit (.string op2)), .d kd2], 0⟩, ⟨[.d (.lit (.string (cvF (.mk op ks) 40 210).1.op)), .d (kidsV (cvF (.mk op ks) 40 210).1.ks)], 0⟩, ⟨[.d (.lit (.string ⟨#[124]⟩)), .d (.sl [.lit (.string (cvF (.mk op ks) 40 210).1.op), kidsV (cvF (.mk op ks) 40 210).1.ks, .lit (.string (cvF (.mk op2 ks2) 40 210).1.op), kidsV (cvF (.mk op2 ks2) 40 210).1.ks] 2 (some 2))], 0⟩] : List VObj)[0]? = some ⟨[.d dN, .d dL], 0⟩ := rfl
  have y3 : ([⟨[.d dN, .d dL], 0⟩, ⟨[.d (.lit (.string op)), .d kd], 0⟩, ⟨[.d (.lit (.string op2)), .d kd2], 0⟩, ⟨[.d (.lit (.string (cvF (.mk op ks) 40 210).1.op)), .d (kidsV (cvF (.mk op ks) 40 210).1.ks)], 0⟩, ⟨[.d (.lit (.string ⟨#[124]⟩)), .d (.sl [.lit (.string (cvF (.mk op ks) 40 210).1.op), kidsV (cvF (.mk op ks) 40 210).1.ks, .lit (.string (cvF (.mk op2 ks2) 40 210).1.op), kidsV (cvF (.mk op2 ks2) 40 210).1.ks] 2 (some 2))], 0⟩] : List VObj)[3]? = some ⟨[.d (.lit (.string (cvF (.mk op ks) 40 210).1.op)), .d (kidsV (cvF (.mk op ks) 40 210).1.ks)], 0⟩ := rfl
  have y4 : ([⟨[.d dN, .d dL], 0⟩, ⟨[.d (.lit (.string op)), .d kd], 0⟩, ⟨[.d (.lit (.string op2)), .d kd2], 0⟩, ⟨[.d (.lit (.string (cvF (.mk op ks) 40 210).1.op)), .d (kidsV (cvF (.mk op ks) 40 210).1.ks)], 0⟩, ⟨[.d (.lit (.string ⟨#[124]⟩)), .d (.sl [.lit (.string (cvF (.mk op ks) 40 210).1.op), kidsV (cvF (.mk op ks) 40 210).1.ks, .lit (.string (cvF (.mk op2 ks2) 40 210).1.op), kidsV (cvF (.mk op2 ks2) 40 210).1.ks] 2 (some 2))], 0⟩] : List VObj)[4]? = some ⟨[.d (.lit (.string ⟨#[124]⟩)), .d (.sl [.lit (.string (cvF (.mk op ks) 40 210).1.op), kidsV (cvF (.mk op ks) 40 210).1.ks, .lit (.string (cvF (.mk op2 ks2) 40 210).1.op), kidsV (cvF (.mk op2 ks2) 40 210).1.ks] 2 (some 2))], 0⟩ := rfl
  refine KC.draw Try.mixed ?_
  refine KT.step rfl rfl (K.loadOA ([dN, dL]) rfl y0 (by decide) Try.agg24 Try.size24 rfl) ?_
  refine KT.step rfl rfl (K.call1 rfl plainTry_10 (of10 hN hL)) ?_
  refine KT.step rfl rfl (K.loadOA ([.lit (.string ⟨#[124]⟩), .sl [.lit (.string (cvF (.mk op ks) 40 210).1.op), kidsV (cvF (.mk op ks) 40 210).1.ks, .lit (.string (cvF (.mk op2 ks2) 40 210).1.op), kidsV (cvF (.mk op2 ks2) 40 210).1.ks] 2 (some 2)]) rfl y4 (by decide) Try.agg35 Try.size35 rfl) ?_
  refine KT.step rfl rfl (K.call2 rfl rfl plainTry_9 (Sat9 (op := ⟨#[124]⟩) (ks := (o2 ⟨#[124]⟩ (cvF (.mk op ks) 40 210).1 (cvF (.mk op2 ks2) 40 210).1).ks) (l18_ints hN) (l18_ints hL) ⟨by simp; omega, by simp; omega⟩ (two_kids (f := (cvF (.mk op ks) 40 210).1) (g := (cvF (.mk op2 ks2) 40 210).1) (kidsV_ok _) (kidsV_ok _)))) ?_
  refine KT.step rfl rfl (K.move rfl) ?_
  refine KT.step rfl rfl (K.extract rfl rfl) ?_
  refine KT.step rfl rfl (K.extract rfl rfl) ?_
  refine KT.step rfl rfl (K.assign rfl) ?_
  refine KT.step rfl rfl (K.assign rfl) ?_
  refine KT.nil ?_
  refine ⟨by kernel_rfl, ?_⟩
  refine thenK_n ?_
  refine KC.seq ?_
  refine KC.region ?_
  refine KT.step rfl rfl (K.move rfl) ?_
  refine KT.step rfl rfl (K.neq rfl rfl) ?_
  refine KT.nil ?_
  refine thenK_n ?_
  refine KC.cond rfl (fun hc36 => ?_) (fun hc36 => ?_)
  · skip
    replace hc36 := of_decide_eq_true hc36
    refine KC.seq ?_
    refine KC.region ?_
    refine KT.step rfl rfl (K.move rfl) ?_
    refine KT.step rfl rfl (K.eql rfl rfl) ?_
    refine KT.step rfl rfl (K.move rfl) ?_
    refine KT.bcase (fun hb39 => ?_) (fun hb39 => ?_)
    · skip
      replace hb39 := of_decide_eq_true hb39
      refine KT.step rfl rfl (K.call0 plainTry_14 (awake14)) ?_
      refine KT.step rfl rfl (K.pick rfl (fun _ => rfl) (fun h => by cases h)) ?_
      refine KT.step rfl rfl (K.assign rfl) ?_
      refine KT.nil ?_
      refine thenK_n ?_
      refine KC.ret ?_
      refine thenK_r ?_
      exact ⟨.inl rfl, _, rfl, fin_b rfl⟩
    · skip
      exact absurd (satE_two hc36) (of_decide_eq_false hb39)
  · skip
    replace hc36 := of_decide_eq_false hc36
    refine KC.skip ?_
    refine thenK_n ?_
    refine KC.seq ?_
    refine KC.seq ?_
    refine KC.region ?_
    refine KT.step rfl rfl (K.buildL (us := [(0, .string ⟨#[88]⟩), (1, .string ⟨#[70]⟩), (2, .string ⟨#[71]⟩)]) (v := lettersV) rfl (by kernel_rfl)) ?_
    refine KT.step rfl rfl (K.move rfl) ?_
    refine KT.nil ?_
    refine thenK_n ?_
    refine KC.block ?_
    refine KC.loop (fun p : List VObj × Nat => p.1) (fun p => [(3, .optr 0 0), (7, .optr 3 0), (8, .optr 4 0), (42, .d (.lit lettersV)), (43, .d (DI (p.2 : Nat)))]) (fun p => p.1[0]? = some ⟨[.d dN, .d dL], 0⟩ ∧ p.1[3]? = some ⟨[.d (.lit (.string (cvF (.mk op ks) 40 210).1.op)), .d (kidsV (cvF (.mk op ks) 40 210).1.ks)], 0⟩ ∧ p.1[4]? = some ⟨[.d (.lit (.string ⟨#[124]⟩)), .d (.sl [.lit (.string (cvF (.mk op ks) 40 210).1.op), kidsV (cvF (.mk op ks) 40 210).1.ks, .lit (.string (cvF (.mk op2 ks2) 40 210).1.op), kidsV (cvF (.mk op2 ks2) 40 210).1.ks] 2 (some 2))], 0⟩ ∧ p.2 ≤ 3) (fun p => 3 - p.2) (_, 0) ⟨y0, y3, y4, by simp⟩ rfl (by simp [Go.Vm.look, extK, enterK]) ?_
    intro p hp
    obtain ⟨y0, y3, y4, hp3⟩ := hp
    refine KC.seq ?_
    refine KC.region ?_
    refine KT.step rfl rfl (K.lss rfl rfl) ?_
    refine KT.nil ?_
    refine thenK_n ?_
    refine KC.seq ?_
    refine KC.cond rfl (fun hc44 => ?_) (fun hc44 => ?_)
    · skip
      replace hc44 := of_decide_eq_true hc44
      have hi3 : p.2 < 3 := by omega
      refine KC.skip ?_
      refine thenK_n ?_
      refine KC.seq ?_
      refine KC.block ?_
      refine KC.seq ?_
      refine KC.region ?_
      refine KT.step rfl rfl (K.idxL hi3 rfl rfl) ?_
      refine KT.step rfl rfl (K.assign rfl) ?_
      refine KT.nil ?_
      refine thenK_n ?_
      refine KC.seq ?_
      refine KC.draw Try.mixed ?_
      refine KT.step rfl rfl (K.loadOA ([dN, dL]) rfl y0 (by decide) Try.agg24 Try.size24 rfl) ?_
      refine KT.step rfl rfl (K.call1 rfl plainTry_10 (of10 hN hL)) ?_
      refine KT.step rfl rfl (K.move rfl) ?_
      refine KT.step rfl rfl (K.addE hi3 rfl rfl) ?_
      refine KT.step rfl rfl (K.loadOA ([.lit (.string (cvF (.mk op ks) 40 210).1.op), kidsV (cvF (.mk op ks) 40 210).1.ks]) rfl y3 (by decide) Try.agg35 Try.size35 rfl) ?_
      refine KT.step rfl rfl (K.lit1 rfl Try.underlying33 Try.size35 Try.zero35) ?_
      refine KT.step rfl rfl (K.call2 rfl rfl plainTry_26 (node26 (op := (pE p.2)) (one_kid (f := (cvF (.mk op ks) 40 210).1) (kidsV_ok _)))) ?_
      refine KT.step rfl rfl (K.call2 rfl rfl plainTry_9 (Sat9 (op := (pE p.2)) (ks := (o1 (pE p.2) (cvF (.mk op ks) 40 210).1).ks) (l18_ints hN) (l18_ints hL) ⟨by simp; omega, by simp; omega⟩ (one_kid (f := (cvF (.mk op ks) 40 210).1) (kidsV_ok _)))) ?_
      refine KT.step rfl rfl (K.move rfl) ?_
      refine KT.step rfl rfl (K.extract rfl rfl) ?_
      refine KT.step rfl rfl (K.extract rfl rfl) ?_
      refine KT.step rfl rfl (K.assign rfl) ?_
      refine KT.step rfl rfl (K.assign rfl) ?_
      refine KT.nil ?_
      refine ⟨by kernel_rfl, ?_⟩
      refine thenK_n ?_
      refine KC.seq ?_
      refine KC.draw Try.mixed ?_
      refine KT.step rfl rfl (K.loadOA ([dN, dL]) rfl y0 (by decide) Try.agg24 Try.size24 rfl) ?_
      refine KT.step rfl rfl (K.call1 rfl plainTry_10 (of10 hN hL)) ?_
      refine KT.step rfl rfl (K.move rfl) ?_
      refine KT.step rfl rfl (K.addE hi3 rfl rfl) ?_
      refine KT.step rfl rfl (K.loadOA ([.lit (.string ⟨#[124]⟩), .sl [.lit (.string (cvF (.mk op ks) 40 210).1.op), kidsV (cvF (.mk op ks) 40 210).1.ks, .lit (.string (cvF (.mk op2 ks2) 40 210).1.op), kidsV (cvF (.mk op2 ks2) 40 210).1.ks] 2 (some 2)]) rfl y4 (by decide) Try.agg35 Try.size35 rfl) ?_
      refine KT.step rfl rfl (K.lit1 rfl Try.underlying33 Try.size35 Try.zero35) ?_
      refine KT.step rfl rfl (K.call2 rfl rfl plainTry_26 (node26 (op := (pE p.2)) (one_kid (f := (o2 ⟨#[124]⟩ (cvF (.mk op ks) 40 210).1 (cvF (.mk op2 ks2) 40 210).1)) (two_kids (f := (cvF (.mk op ks) 40 210).1) (g := (cvF (.mk op2 ks2) 40 210).1) (kidsV_ok _) (kidsV_ok _))))) ?_
      refine KT.step rfl rfl (K.call2 rfl rfl plainTry_9 (Sat9 (op := (pE p.2)) (ks := (o1 (pE p.2) (o2 ⟨#[124]⟩ (cvF (.mk op ks) 40 210).1 (cvF (.mk op2 ks2) 40 210).1)).ks) (l18_ints hN) (l18_ints hL) ⟨by simp; omega, by simp; omega⟩ (one_kid (f := (o2 ⟨#[124]⟩ (cvF (.mk op ks) 40 210).1 (cvF (.mk op2 ks2) 40 210).1)) (two_kids (f := (cvF (.mk op ks) 40 210).1) (g := (cvF (.mk op2 ks2) 40 210).1) (kidsV_ok _) (kidsV_ok _))))) ?_
      refine KT.step rfl rfl (K.move rfl) ?_
      refine KT.step rfl rfl (K.extract rfl rfl) ?_
      refine KT.step rfl rfl (K.extract rfl rfl) ?_
      refine KT.step rfl rfl (K.assign rfl) ?_
      refine KT.step rfl rfl (K.assign rfl) ?_
      refine KT.nil ?_
      refine ⟨by kernel_rfl, ?_⟩
      refine thenK_n ?_
      refine KC.seq ?_
      refine KC.draw Try.mixed ?_
      refine KT.step rfl rfl (K.loadOA ([dN, dL]) rfl y0 (by decide) Try.agg24 Try.size24 rfl) ?_
      refine KT.step rfl rfl (K.call1 rfl plainTry_10 (of10 hN hL)) ?_
      refine KT.step rfl rfl (K.move rfl) ?_
      refine KT.step rfl rfl (K.addA hi3 rfl rfl) ?_
      refine KT.step rfl rfl (K.loadOA ([.lit (.string (cvF (.mk op ks) 40 210).1.op), kidsV (cvF (.mk op ks) 40 210).1.ks]) rfl y3 (by decide) Try.agg35 Try.size35 rfl) ?_
      refine KT.step rfl rfl (K.lit1 rfl Try.underlying33 Try.size35 Try.zero35) ?_
      refine KT.step rfl rfl (K.call2 rfl rfl plainTry_26 (node26 (op := (pU p.2)) (one_kid (f := (cvF (.mk op ks) 40 210).1) (kidsV_ok _)))) ?_
      refine KT.step rfl rfl (K.call2 rfl rfl plainTry_9 (Sat9 (op := (pU p.2)) (ks := (o1 (pU p.2) (cvF (.mk op ks) 40 210).1).ks) (l18_ints hN) (l18_ints hL) ⟨by simp; omega, by simp; omega⟩ (one_kid (f := (cvF (.mk op ks) 40 210).1) (kidsV_ok _)))) ?_
      refine KT.step rfl rfl (K.move rfl) ?_
      refine KT.step rfl rfl (K.extract rfl rfl) ?_
      refine KT.step rfl rfl (K.extract rfl rfl) ?_
      refine KT.step rfl rfl (K.assign rfl) ?_
      refine KT.step rfl rfl (K.assign rfl) ?_
      refine KT.nil ?_
      refine ⟨by kernel_rfl, ?_⟩
      refine thenK_n ?_
      refine KC.seq ?_
      refine KC.draw Try.mixed ?_
      refine KT.step rfl rfl (K.loadOA ([dN, dL]) rfl y0 (by decide) Try.agg24 Try.size24 rfl) ?_
      refine KT.step rfl rfl (K.call1 rfl plainTry_10 (of10 hN hL)) ?_
      refine KT.step rfl rfl (K.move rfl) ?_
      refine KT.step rfl rfl (K.addA hi3 rfl rfl) ?_
      refine KT.step rfl rfl (K.loadOA ([.lit (.string ⟨#[124]⟩), .sl [.lit (.string (cvF (.mk op ks) 40 210).1.op), kidsV (cvF (.mk op ks) 40 210).1.ks, .lit (.string (cvF (.mk op2 ks2) 40 210).1.op), kidsV (cvF (.mk op2 ks2) 40 210).1.ks] 2 (some 2)]) rfl y4 (by decide) Try.agg35 Try.size35 rfl) ?_
      refine KT.step rfl rfl (K.lit1 rfl Try.underlying33 Try.size35 Try.zero35) ?_
      refine KT.step rfl rfl (K.call2 rfl rfl plainTry_26 (node26 (op := (pU p.2)) (one_kid (f := (o2 ⟨#[124]⟩ (cvF (.mk op ks) 40 210).1 (cvF (.mk op2 ks2) 40 210).1)) (two_kids (f := (cvF (.mk op ks) 40 210).1) (g := (cvF (.mk op2 ks2) 40 210).1) (kidsV_ok _) (kidsV_ok _))))) ?_
      refine KT.step rfl rfl (K.call2 rfl rfl plainTry_9 (Sat9 (op := (pU p.2)) (ks := (o1 (pU p.2) (o2 ⟨#[124]⟩ (cvF (.mk op ks) 40 210).1 (cvF (.mk op2 ks2) 40 210).1)).ks) (l18_ints hN) (l18_ints hL) ⟨by simp; omega, by simp; omega⟩ (one_kid (f := (o2 ⟨#[124]⟩ (cvF (.mk op ks) 40 210).1 (cvF (.mk op2 ks2) 40 210).1)) (two_kids (f := (cvF (.mk op ks) 40 210).1) (g := (cvF (.mk op2 ks2) 40 210).1) (kidsV_ok _) (kidsV_ok _))))) ?_
      refine KT.step rfl rfl (K.move rfl) ?_
      refine KT.step rfl rfl (K.extract rfl rfl) ?_
      refine KT.step rfl rfl (K.extract rfl rfl) ?_
      refine KT.step rfl rfl (K.assign rfl) ?_
      refine KT.step rfl rfl (K.assign rfl) ?_
      refine KT.nil ?_
      refine ⟨by kernel_rfl, ?_⟩
      refine thenK_n ?_
      refine KC.seq ?_
      refine KC.seq ?_
      refine KC.region ?_
      refine KT.step rfl rfl (K.move rfl) ?_
      refine KT.step rfl rfl (K.eql rfl rfl) ?_
      refine KT.step rfl rfl (K.move rfl) ?_
      refine KT.bcase (fun hb92 => ?_) (fun hb92 => ?_)
      · skip
        replace hb92 := of_decide_eq_true hb92
        refine KT.skip rfl rfl ?_
        refine KT.skip rfl rfl ?_
        refine KT.step rfl rfl (K.pick rfl (fun _ => rfl) (fun h => by cases h)) ?_
        refine KT.step rfl rfl (K.move rfl) ?_
        refine KT.skip rfl rfl ?_
        refine KT.skip rfl rfl ?_
        refine KT.step rfl rfl (K.pick rfl (fun _ => rfl) (fun h => by cases h)) ?_
        refine KT.step rfl rfl (K.move rfl) ?_
        refine KT.skip rfl rfl ?_
        refine KT.skip rfl rfl ?_
        refine KT.step rfl rfl (K.pick rfl (fun _ => rfl) (fun h => by cases h)) ?_
        refine KT.nil ?_
        refine thenK_n ?_
        refine KC.cond rfl (fun hc103 => ?_) (fun hc103 => ?_)
        · skip
          refine KC.exit ?_
          refine thenK_x ?_
          refine blockK_e ?_
          refine thenK_n ?_
          refine KC.region ?_
          refine KT.step rfl rfl (K.add rfl rfl (wrap_id (by omega))) ?_
          refine KT.step rfl rfl (K.move rfl) ?_
          refine KT.nil ?_
          refine thenK_n ?_
          refine ⟨(_, p.2 + 1), ⟨y0, y3, y4, by simp only; omega⟩, by simp only; omega, rfl, by simp [Go.Vm.look, extK]⟩
        · cases hc103
      · skip
        replace hb92 := of_decide_eq_false hb92
        refine KT.step rfl rfl (K.move rfl) ?_
        refine KT.step rfl rfl (K.eql rfl rfl) ?_
        refine KT.step rfl rfl (K.pick rfl (fun h => by cases h) (fun _ => rfl)) ?_
        refine KT.step rfl rfl (K.move rfl) ?_
        refine KT.bcase (fun hb96 => ?_) (fun hb96 => ?_)
        · skip
          replace hb96 := of_decide_eq_true hb96
          refine KT.skip rfl rfl ?_
          refine KT.skip rfl rfl ?_
          refine KT.step rfl rfl (K.pick rfl (fun _ => rfl) (fun h => by cases h)) ?_
          refine KT.step rfl rfl (K.move rfl) ?_
          refine KT.skip rfl rfl ?_
          refine KT.skip rfl rfl ?_
          refine KT.step rfl rfl (K.pick rfl (fun _ => rfl) (fun h => by cases h)) ?_
          refine KT.nil ?_
          refine thenK_n ?_
          refine KC.cond rfl (fun hc103 => ?_) (fun hc103 => ?_)
          · skip
            refine KC.exit ?_
            refine thenK_x ?_
            refine blockK_e ?_
            refine thenK_n ?_
            refine KC.region ?_
            refine KT.step rfl rfl (K.add rfl rfl (wrap_id (by omega))) ?_
            refine KT.step rfl rfl (K.move rfl) ?_
            refine KT.nil ?_
            refine thenK_n ?_
            refine ⟨(_, p.2 + 1), ⟨y0, y3, y4, by simp only; omega⟩, by simp only; omega, rfl, by simp [Go.Vm.look, extK]⟩
          · cases hc103
        · skip
          replace hb96 := of_decide_eq_false hb96
          refine KT.step rfl rfl (K.move rfl) ?_
          refine KT.step rfl rfl (K.eql rfl rfl) ?_
          refine KT.step rfl rfl (K.pick rfl (fun h => by cases h) (fun _ => rfl)) ?_
          refine KT.step rfl rfl (K.move rfl) ?_
          refine KT.bcase (fun hb100 => ?_) (fun hb100 => ?_)
          · skip
            replace hb100 := of_decide_eq_true hb100
            refine KT.skip rfl rfl ?_
            refine KT.skip rfl rfl ?_
            refine KT.step rfl rfl (K.pick rfl (fun _ => rfl) (fun h => by cases h)) ?_
            refine KT.nil ?_
            refine thenK_n ?_
            refine KC.cond rfl (fun hc103 => ?_) (fun hc103 => ?_)
            · skip
              refine KC.exit ?_
              refine thenK_x ?_
              refine blockK_e ?_
              refine thenK_n ?_
              refine KC.region ?_
              refine KT.step rfl rfl (K.add rfl rfl (wrap_id (by omega))) ?_
              refine KT.step rfl rfl (K.move rfl) ?_
              refine KT.nil ?_
              refine thenK_n ?_
              refine ⟨(_, p.2 + 1), ⟨y0, y3, y4, by simp only; omega⟩, by simp only; omega, rfl, by simp [Go.Vm.look, extK]⟩
            · cases hc103
          · skip
            replace hb100 := of_decide_eq_false hb100
            refine KT.step rfl rfl (K.move rfl) ?_
            refine KT.step rfl rfl (K.eql rfl rfl) ?_
            refine KT.step rfl rfl (K.pick rfl (fun h => by cases h) (fun _ => rfl)) ?_
            refine KT.nil ?_
            refine thenK_n ?_
            refine KC.cond rfl (fun hc103 => ?_) (fun hc103 => ?_)
            · skip
              replace hc103 := of_decide_eq_true hc103
              refine KC.exit ?_
              refine thenK_x ?_
              refine blockK_e ?_
              refine thenK_n ?_
              refine KC.region ?_
              refine KT.step rfl rfl (K.add rfl rfl (wrap_id (by omega))) ?_
              refine KT.step rfl rfl (K.move rfl) ?_
              refine KT.nil ?_
              refine thenK_n ?_
              refine ⟨(_, p.2 + 1), ⟨y0, y3, y4, by simp only; omega⟩, by simp only; omega, rfl, by simp [Go.Vm.look, extK]⟩
            · skip
              replace hc103 := of_decide_eq_false hc103
              have b1 := ok_of hb92
              have b2 := ok_of hb96
              have b3 := ok_of hb100
              have b4 := ok_of hc103
              have m1 := mono_sat (f := (o1 (pE p.2) (cvF (.mk op ks) 40 210).1)) (g := (o1 (pE p.2) (o2 ⟨#[124]⟩ (cvF (.mk op ks) 40 210).1 (cvF (.mk op2 ks2) 40 210).1))) b1 b2 fun nx lb hl _ => mono_E hl p.2 (cvF (.mk op ks) 40 210).1 (cvF (.mk op2 ks2) 40 210).1
              have m2 := mono_sat (f := (o1 (pU p.2) (cvF (.mk op ks) 40 210).1)) (g := (o1 (pU p.2) (o2 ⟨#[124]⟩ (cvF (.mk op ks) 40 210).1 (cvF (.mk op2 ks2) 40 210).1))) b3 b4 fun nx lb hl _ => mono_A hl p.2 (cvF (.mk op ks) 40 210).1 (cvF (.mk op2 ks2) 40 210).1
              have m3 := mono_sat (f := (o1 (pU p.2) (cvF (.mk op ks) 40 210).1)) (g := (o1 (pE p.2) (cvF (.mk op ks) 40 210).1)) b3 b1 fun nx lb hl ht => all_one hl ht p.2 (cvF (.mk op ks) 40 210).1
              have m4 := mono_sat (f := (o1 (pU p.2) (o2 ⟨#[124]⟩ (cvF (.mk op ks) 40 210).1 (cvF (.mk op2 ks2) 40 210).1))) (g := (o1 (pE p.2) (o2 ⟨#[124]⟩ (cvF (.mk op ks) 40 210).1 (cvF (.mk op2 ks2) 40 210).1))) b4 b2 fun nx lb hl ht => all_one hl ht p.2 (o2 ⟨#[124]⟩ (cvF (.mk op ks) 40 210).1 (cvF (.mk op2 ks2) 40 210).1)
              refine KC.skip ?_
              refine thenK_n ?_
              refine KC.seq ?_
              refine KC.region ?_
              refine KT.step rfl rfl (K.move rfl) ?_
              refine KT.step rfl rfl (K.move rfl) ?_
              refine KT.step rfl rfl (K.bandNot rfl rfl (show IntKind.i64.wrap (BitVec.ofInt IntKind.i64.bits ((satV (N.take 18) (L.take 18) (o1 (pE p.2) (cvF (.mk op ks) 40 210).1) : Nat) : Int) &&& ~~~ BitVec.ofInt IntKind.i64.bits ((satV (N.take 18) (L.take 18) (o1 (pE p.2) (o2 ⟨#[124]⟩ (cvF (.mk op ks) 40 210).1 (cvF (.mk op2 ks2) 40 210).1)) : Nat) : Int)).toNat = ((diffN (satV (N.take 18) (L.take 18) (o1 (pE p.2) (cvF (.mk op ks) 40 210).1)) (satV (N.take 18) (L.take 18) (o1 (pE p.2) (o2 ⟨#[124]⟩ (cvF (.mk op ks) 40 210).1 (cvF (.mk op2 ks2) 40 210).1))) : Nat) : Int) from diffI (lt63 (satV_small _)) (lt63 (satV_small _)))) ?_
              refine KT.step rfl rfl (K.neq rfl rfl) ?_
              refine KT.step rfl rfl (K.move rfl) ?_
              refine KT.bcase (fun hb108 => ?_) (fun hb108 => ?_)
              · skip
                exact absurd m1 (of_decide_eq_true hb108)
              · skip
                replace hb108 := of_decide_eq_false hb108
                refine KT.step rfl rfl (K.move rfl) ?_
                refine KT.step rfl rfl (K.move rfl) ?_
                refine KT.step rfl rfl (K.bandNot rfl rfl (show IntKind.i64.wrap (BitVec.ofInt IntKind.i64.bits ((satV (N.take 18) (L.take 18) (o1 (pU p.2) (cvF (.mk op ks) 40 210).1) : Nat) : Int) &&& ~~~ BitVec.ofInt IntKind.i64.bits ((satV (N.take 18) (L.take 18) (o1 (pU p.2) (o2 ⟨#[124]⟩ (cvF (.mk op ks) 40 210).1 (cvF (.mk op2 ks2) 40 210).1)) : Nat) : Int)).toNat = ((diffN (satV (N.take 18) (L.take 18) (o1 (pU p.2) (cvF (.mk op ks) 40 210).1)) (satV (N.take 18) (L.take 18) (o1 (pU p.2) (o2 ⟨#[124]⟩ (cvF (.mk op ks) 40 210).1 (cvF (.mk op2 ks2) 40 210).1))) : Nat) : Int) from diffI (lt63 (satV_small _)) (lt63 (satV_small _)))) ?_
                refine KT.step rfl rfl (K.neq rfl rfl) ?_
                refine KT.step rfl rfl (K.pick rfl (fun h => by cases h) (fun _ => rfl)) ?_
                refine KT.step rfl rfl (K.move rfl) ?_
                refine KT.bcase (fun hb114 => ?_) (fun hb114 => ?_)
                · skip
                  exact absurd m2 (of_decide_eq_true hb114)
                · skip
                  replace hb114 := of_decide_eq_false hb114
                  refine KT.step rfl rfl (K.move rfl) ?_
                  refine KT.step rfl rfl (K.move rfl) ?_
                  refine KT.step rfl rfl (K.bandNot rfl rfl (show IntKind.i64.wrap (BitVec.ofInt IntKind.i64.bits ((satV (N.take 18) (L.take 18) (o1 (pU p.2) (cvF (.mk op ks) 40 210).1) : Nat) : Int) &&& ~~~ BitVec.ofInt IntKind.i64.bits ((satV (N.take 18) (L.take 18) (o1 (pE p.2) (cvF (.mk op ks) 40 210).1) : Nat) : Int)).toNat = ((diffN (satV (N.take 18) (L.take 18) (o1 (pU p.2) (cvF (.mk op ks) 40 210).1)) (satV (N.take 18) (L.take 18) (o1 (pE p.2) (cvF (.mk op ks) 40 210).1)) : Nat) : Int) from diffI (lt63 (satV_small _)) (lt63 (satV_small _)))) ?_
                  refine KT.step rfl rfl (K.neq rfl rfl) ?_
                  refine KT.step rfl rfl (K.pick rfl (fun h => by cases h) (fun _ => rfl)) ?_
                  refine KT.step rfl rfl (K.move rfl) ?_
                  refine KT.bcase (fun hb120 => ?_) (fun hb120 => ?_)
                  · skip
                    exact absurd m3 (of_decide_eq_true hb120)
                  · skip
                    replace hb120 := of_decide_eq_false hb120
                    refine KT.step rfl rfl (K.move rfl) ?_
                    refine KT.step rfl rfl (K.move rfl) ?_
                    refine KT.step rfl rfl (K.bandNot rfl rfl (show IntKind.i64.wrap (BitVec.ofInt IntKind.i64.bits ((satV (N.take 18) (L.take 18) (o1 (pU p.2) (o2 ⟨#[124]⟩ (cvF (.mk op ks) 40 210).1 (cvF (.mk op2 ks2) 40 210).1)) : Nat) : Int) &&& ~~~ BitVec.ofInt IntKind.i64.bits ((satV (N.take 18) (L.take 18) (o1 (pE p.2) (o2 ⟨#[124]⟩ (cvF (.mk op ks) 40 210).1 (cvF (.mk op2 ks2) 40 210).1)) : Nat) : Int)).toNat = ((diffN (satV (N.take 18) (L.take 18) (o1 (pU p.2) (o2 ⟨#[124]⟩ (cvF (.mk op ks) 40 210).1 (cvF (.mk op2 ks2) 40 210).1))) (satV (N.take 18) (L.take 18) (o1 (pE p.2) (o2 ⟨#[124]⟩ (cvF (.mk op ks) 40 210).1 (cvF (.mk op2 ks2) 40 210).1))) : Nat) : Int) from diffI (lt63 (satV_small _)) (lt63 (satV_small _)))) ?_
                    refine KT.step rfl rfl (K.neq rfl rfl) ?_
                    refine KT.step rfl rfl (K.pick rfl (fun h => by cases h) (fun _ => rfl)) ?_
                    refine KT.nil ?_
                    refine thenK_n ?_
                    refine KC.cond rfl (fun hc125 => ?_) (fun hc125 => ?_)
                    · skip
                      exact absurd m4 (of_decide_eq_true hc125)
                    · skip
                      replace hc125 := of_decide_eq_false hc125
                      refine KC.skip ?_
                      refine blockK_n ?_
                      refine thenK_n ?_
                      refine KC.region ?_
                      refine KT.step rfl rfl (K.add rfl rfl (wrap_id (by omega))) ?_
                      refine KT.step rfl rfl (K.move rfl) ?_
                      refine KT.nil ?_
                      refine thenK_n ?_
                      refine ⟨(_, p.2 + 1), ⟨y0, y3, y4, by simp only; omega⟩, by simp only; omega, rfl, by simp [Go.Vm.look, extK]⟩
    · skip
      replace hc44 := of_decide_eq_false hc44
      refine KC.exit ?_
      refine thenK_x ?_
      refine thenK_x ?_
      refine blockK_e ?_
      refine thenK_n ?_
      refine KC.seq ?_
      refine KC.region ?_
      refine KT.step rfl rfl (K.call0 plainTry_14 (awake14)) ?_
      refine KT.step rfl rfl (K.assign rfl) ?_
      refine KT.nil ?_
      refine thenK_n ?_
      refine KC.ret ?_
      exact ⟨.inl rfl, _, rfl, fin_b rfl⟩
end Go.Proofs.Ytcjcchceeidgkaa

