import Derived.Test.YtcjcchceeidgkaaLgK
/-
  The law LogicDuals.
-/
namespace Go.Proofs.Ytcjcchceeidgkaa
open Go.Vm Go.Lg
theorem plainTry_6 : plainFn Try.prog 6 = true := by kernel_rfl

def pA : Nat → ByteArray | 0 => ⟨#[65, 88]⟩ | 1 => ⟨#[65, 70]⟩ | _ => ⟨#[65, 71]⟩
def pB : Nat → ByteArray | 0 => ⟨#[69, 88]⟩ | 1 => ⟨#[69, 71]⟩ | _ => ⟨#[69, 70]⟩
def pairsV : Value := .agg #[.string ⟨#[65, 88]⟩, .string ⟨#[69, 88]⟩, .string ⟨#[65, 70]⟩, .string ⟨#[69, 71]⟩, .string ⟨#[65, 71]⟩, .string ⟨#[69, 70]⟩]
theorem dualP (i : Nat) (f : Fo) (nx lb : List Nat) : satF nx lb (o1 (pA i) f) = satF nx lb (o1 ⟨#[33]⟩ (o1 (pB i) (o1 ⟨#[33]⟩ f))) := by
  match i with
  | 0 => exact dual_AX nx lb f
  | 1 => exact dual_AF nx lb f
  | k + 2 => exact dual_AG nx lb f
theorem idxP0 : pureRun Try.prog (Instr.index 60 pairsV (.int .i64 (0 : Nat))) = some (.agg #[.string ⟨#[65, 88]⟩, .string ⟨#[69, 88]⟩]) := by kernel_rfl
theorem idxP1 : pureRun Try.prog (Instr.index 60 pairsV (.int .i64 (1 : Nat))) = some (.agg #[.string ⟨#[65, 70]⟩, .string ⟨#[69, 71]⟩]) := by kernel_rfl
theorem idxP2 : pureRun Try.prog (Instr.index 60 pairsV (.int .i64 (2 : Nat))) = some (.agg #[.string ⟨#[65, 71]⟩, .string ⟨#[69, 70]⟩]) := by kernel_rfl
theorem K.idxP {σ : List VObj} {kn : Kn} {dst : Option Tmp} {ty : TypeId} {pos : String} {af : Array Edge} {g : Option (Nat × Bool)} {x i : Operand} {k : Nat} (hk : k < 3) (hx : evK kn x = some (.d (.lit pairsV))) (hi : evK kn i = some (.d (DI (k : Nat)))) :
    KEv Try.prog ⟨dst, .index 60 x i, ty, pos, af, g⟩ σ kn (.d (.lit (.agg #[.string (pA k), .string (pB k)]))) σ 0 := by
  refine K.semP fun env he F ι w ev h => ?_
  have h1 := h x (by simp [Op.operands])
  have h2 := h i (by simp [Op.operands])
  rw [evK_evalX he hx] at h1
  rw [evK_evalX he hi] at h2
  have hex : ∀ ev : Operand → Value, execOp ev ⟨dst, .index 60 x i, ty, pos, af, g⟩ = (do pure (.value (← Instr.index 60 (ev x) (ev i)))) := fun _ => rfl
  rw [hex]
  generalize ev x = vx at *
  generalize ev i = vi at *
  cases h1 with | d h1 => cases h1 with | lit =>
  cases h2 with | d h2 => cases h2 with | lit =>
  refine ⟨_, ?_, .d (.lit _)⟩
  have key : pureRun Try.prog (Instr.index 60 pairsV (.int .i64 (k : Nat))) = some (.agg #[.string (pA k), .string (pB k)]) := by
    match k, hk with
    | 0, _ => exact idxP0
    | 1, _ => exact idxP1
    | 2, _ => exact idxP2
    | k + 3, h => omega
  exact pureRun_ok (pureRun_v key) w
theorem satE_two {N L : List Int} {f : Fo} (h : satE N L f ≠ 0) : satE N L f = 2 := by
  unfold satE at *
  split at h
  · exact absurd rfl h
  · rename_i hs; rw [if_neg hs]
set_option maxRecDepth 10000 in
theorem law_duals {dN dL kd : DV} {N L : List Int} {op : ByteArray} {ks : List Fo} (hN : Ints dN N) (hL : Ints dL L) (hk : KidsD kd ks) : DeepCall Try.prog 6 [.agg [dN, dL], .agg [.lit (.string op), kd]] (DB true) := by
  refine deepCall_K 5 Try.func6 rfl (Nat.le_of_ble_eq_true rfl) fun M W0 => ?_
  refine KC.seq ?_
  refine KC.region ?_
  refine KT.step rfl rfl (K.box rfl) ?_
  refine KT.step rfl rfl (K.box rfl) ?_
  refine KT.step rfl rfl (K.assign rfl) ?_
  refine KT.nil ?_
  refine thenK_n ?_
  refine KC.seq ?_
  refine KC.region ?_
  refine KT.step rfl rfl (K.loadOA ([.lit (.string op), kd]) rfl rfl (by decide) Try.agg27 Try.size27 rfl) ?_
  refine KT.step rfl rfl (K.call2 rfl rfl plainTry_11 (formula11 (left := 40) hk (by decide))) ?_
  refine KT.step rfl rfl (K.alloc Try.zero35) ?_
  refine KT.storeL (A := [_, _]) (cs := [.d (.lit (.string (cvF (.mk op ks) 40 210).1.op)), .d (kidsV (cvF (.mk op ks) 40 210).1.ks)]) rfl rfl rfl rfl rfl rfl (two_one rfl (kidsV_ok _)) Try.size35 ?_
  refine KT.nil ?_
  refine thenK_n ?_
  refine KC.seq ?_
  refine KC.seq ?_
  refine KC.draw Try.mixed ?_
  have y0 : ([⟨[.d dN, .d dL], 0⟩, ⟨[.d (.lit (.string op)), .d kd], 0⟩, ⟨[.d (.lit (.string (cvF (.mk op ks) 40 210).1.op)), .d (kidsV (cvF (.mk op ks) 40 210).1.ks)], 0⟩] : List VObj)[0]? = some ⟨[.d dN, .d dL], 0⟩ := rfl
  have y2 : ([⟨[.d dN, .d dL], 0⟩, ⟨[.d (.lit (.string op)), .d kd], 0⟩, ⟨[.d (.lit (.string (cvF (.mk op ks) 40 210).1.op)), .d (kidsV (cvF (.mk op ks) 40 210).1.ks)], 0⟩] : List VObj)[2]? = some ⟨[.d (.lit (.string (cvF (.mk op ks) 40 210).1.op)), .d (kidsV (cvF (.mk op ks) 40 210).1.ks)], 0⟩ := rfl
  refine KT.step rfl rfl (K.loadOA ([dN, dL]) rfl (by repeat (first | exact y0 | apply get_left)) (by decide) Try.agg24 Try.size24 rfl) ?_
  refine KT.step rfl rfl (K.call1 rfl plainTry_10 (of10 hN hL)) ?_
  refine KT.step rfl rfl (K.loadOA ([.lit (.string (cvF (.mk op ks) 40 210).1.op), kidsV (cvF (.mk op ks) 40 210).1.ks]) rfl (by repeat (first | exact y2 | apply get_left)) (by decide) Try.agg35 Try.size35 rfl) ?_
  refine KT.step rfl rfl (K.call2 rfl rfl plainTry_9 (Sat9 (op := (cvF (.mk op ks) 40 210).1.op) (ks := (cvF (.mk op ks) 40 210).1.ks) (l18_ints hN) (l18_ints hL) ⟨by simp; omega, by simp; omega⟩ (kidsV_ok _))) ?_
  refine KT.step rfl rfl (K.move rfl) ?_
  refine KT.step rfl rfl (K.extract rfl rfl) ?_
  refine KT.step rfl rfl (K.extract rfl rfl) ?_
  refine KT.step rfl rfl (K.assign rfl) ?_
  refine KT.step rfl rfl (K.assign rfl) ?_
  refine KT.nil ?_
  refine ⟨by kernel_rfl, ?_⟩
  refine thenK_n ?_
  refine KC.seq ?_
  refine KC.region ?_
  refine KT.step rfl rfl (K.move rfl) ?_
  refine KT.step rfl rfl (K.neq rfl rfl) ?_
  refine KT.nil ?_
  refine thenK_n ?_
  refine KC.cond rfl (fun hc20 => ?_) (fun hc20 => ?_)
  · skip
    replace hc20 := of_decide_eq_true hc20
    refine KC.seq ?_
    refine KC.region ?_
    refine KT.step rfl rfl (K.move rfl) ?_
    refine KT.step rfl rfl (K.eql rfl rfl) ?_
    refine KT.step rfl rfl (K.move rfl) ?_
    refine KT.bcase (fun hb23 => ?_) (fun hb23 => ?_)
    · skip
      replace hb23 := of_decide_eq_true hb23
      refine KT.step rfl rfl (K.call0 plainTry_14 (awake14)) ?_
      refine KT.step rfl rfl (K.pick rfl (fun _ => rfl) (fun h => by cases h)) ?_
      refine KT.step rfl rfl (K.assign rfl) ?_
      refine KT.nil ?_
      refine thenK_n ?_
      refine KC.ret ?_
      refine thenK_r ?_
      exact ⟨.inl rfl, _, rfl, fin_b rfl⟩
    · skip
      exact absurd (satE_two hc20) (of_decide_eq_false hb23)
  · skip
    replace hc20 := of_decide_eq_false hc20
    refine KC.skip ?_
    refine thenK_n ?_
    refine KC.seq ?_
    refine KC.seq ?_
    refine KC.region ?_
    refine KT.step rfl rfl (K.buildL (us := [(0, .string ⟨#[65, 88]⟩), (1, .string ⟨#[69, 88]⟩)]) (v := .agg #[.string ⟨#[65, 88]⟩, .string ⟨#[69, 88]⟩]) rfl (by kernel_rfl)) ?_
    refine KT.step rfl rfl (K.buildL (us := [(0, .string ⟨#[65, 70]⟩), (1, .string ⟨#[69, 71]⟩)]) (v := .agg #[.string ⟨#[65, 70]⟩, .string ⟨#[69, 71]⟩]) rfl (by kernel_rfl)) ?_
    refine KT.step rfl rfl (K.buildL (us := [(0, .string ⟨#[65, 71]⟩), (1, .string ⟨#[69, 70]⟩)]) (v := .agg #[.string ⟨#[65, 71]⟩, .string ⟨#[69, 70]⟩]) rfl (by kernel_rfl)) ?_
    refine KT.step rfl rfl (K.buildL (us := [(0, .agg #[.string ⟨#[65, 88]⟩, .string ⟨#[69, 88]⟩]), (1, .agg #[.string ⟨#[65, 70]⟩, .string ⟨#[69, 71]⟩]), (2, .agg #[.string ⟨#[65, 71]⟩, .string ⟨#[69, 70]⟩])]) (v := pairsV) rfl (by kernel_rfl)) ?_
    refine KT.step rfl rfl (K.move rfl) ?_
    refine KT.nil ?_
    refine thenK_n ?_
    refine KC.block ?_
    refine KC.loop (fun p : List VObj × Nat => p.1) (fun p => [(2, .optr 0 0), (5, .optr 2 0), (29, .d (.lit pairsV)), (30, .d (DI (p.2 : Nat)))]) (fun p => p.1[0]? = some ⟨[.d dN, .d dL], 0⟩ ∧ p.1[2]? = some ⟨[.d (.lit (.string (cvF (.mk op ks) 40 210).1.op)), .d (kidsV (cvF (.mk op ks) 40 210).1.ks)], 0⟩ ∧ p.2 ≤ 3) (fun p => 3 - p.2) (_, 0) ⟨y0, y2, by simp⟩ rfl (by simp [Go.Vm.look, extK, enterK]) ?_
    intro p hp
    obtain ⟨y0, y2, hp3⟩ := hp
    refine KC.seq ?_
    refine KC.region ?_
    refine KT.step rfl rfl (K.lss rfl rfl) ?_
    refine KT.nil ?_
    refine thenK_n ?_
    refine KC.seq ?_
    refine KC.cond rfl (fun hc31 => ?_) (fun hc31 => ?_)
    · skip
      replace hc31 := of_decide_eq_true hc31
      have hi3 : p.2 < 3 := by omega
      refine KC.skip ?_
      refine thenK_n ?_
      refine KC.seq ?_
      refine KC.block ?_
      refine KC.seq ?_
      refine KC.region ?_
      refine KT.step rfl rfl (K.idxP hi3 rfl rfl) ?_
      refine KT.step rfl rfl (K.alloc Try.zero59) ?_
      refine KT.storeL (cs := [.d (.lit (.string (pA p.2))), .d (.lit (.string (pB p.2)))]) rfl rfl rfl rfl rfl rfl rfl Try.size59 ?_
      refine KT.nil ?_
      refine thenK_n ?_
      refine KC.seq ?_
      refine KC.draw Try.mixed ?_
      refine KT.step rfl rfl (K.loadOA ([dN, dL]) rfl (by repeat (first | exact y0 | apply get_left)) (by decide) Try.agg24 Try.size24 rfl) ?_
      refine KT.step rfl rfl (K.idxA (m := 0) rfl rfl (by decide) Try.underlying59 Try.size9) ?_
      refine KT.step rfl rfl (K.loadO rfl (by repeat (first | exact List.getElem?_concat_length .. | apply get_left)) (by simp) rfl Try.agg9) ?_
      refine KT.step rfl rfl (K.loadOA ([.lit (.string (cvF (.mk op ks) 40 210).1.op), kidsV (cvF (.mk op ks) 40 210).1.ks]) rfl (by repeat (first | exact y2 | apply get_left)) (by decide) Try.agg35 Try.size35 rfl) ?_
      refine KT.step rfl rfl (K.lit1 rfl Try.underlying33 Try.size35 Try.zero35) ?_
      refine KT.step rfl rfl (K.call2 rfl rfl plainTry_26 (node26 (op := (pA p.2)) ((one_kid (f := (cvF (.mk op ks) 40 210).1) (kidsV_ok _))))) ?_
      refine KT.step rfl rfl (K.idxA (m := 1) rfl rfl (by decide) Try.underlying59 Try.size9) ?_
      refine KT.step rfl rfl (K.loadO rfl (by repeat (first | exact List.getElem?_concat_length .. | apply get_left)) (by simp) rfl Try.agg9) ?_
      refine KT.step rfl rfl (K.loadOA ([.lit (.string (cvF (.mk op ks) 40 210).1.op), kidsV (cvF (.mk op ks) 40 210).1.ks]) rfl (by repeat (first | exact y2 | apply get_left)) (by decide) Try.agg35 Try.size35 rfl) ?_
      refine KT.step rfl rfl (K.lit1 rfl Try.underlying33 Try.size35 Try.zero35) ?_
      refine KT.step rfl rfl (K.call2 rfl rfl plainTry_26 (node26 (op := ⟨#[33]⟩) ((one_kid (f := (cvF (.mk op ks) 40 210).1) (kidsV_ok _))))) ?_
      refine KT.step rfl rfl (K.lit1 rfl Try.underlying33 Try.size35 Try.zero35) ?_
      refine KT.step rfl rfl (K.call2 rfl rfl plainTry_26 (node26 (op := (pB p.2)) ((one_kid (f := o1 ⟨#[33]⟩ (cvF (.mk op ks) 40 210).1) (one_kid (f := (cvF (.mk op ks) 40 210).1) (kidsV_ok _)))))) ?_
      refine KT.step rfl rfl (K.lit1 rfl Try.underlying33 Try.size35 Try.zero35) ?_
      refine KT.step rfl rfl (K.call2 rfl rfl plainTry_26 (node26 (op := ⟨#[33]⟩) ((one_kid (f := o1 (pB p.2) (o1 ⟨#[33]⟩ (cvF (.mk op ks) 40 210).1)) (one_kid (f := o1 ⟨#[33]⟩ (cvF (.mk op ks) 40 210).1) (one_kid (f := (cvF (.mk op ks) 40 210).1) (kidsV_ok _))))))) ?_
      refine KT.step rfl rfl (K.call3 rfl rfl rfl plainTry_25 ((alike_of (N := (N.take 18)) (L := (L.take 18)) (f := o1 (pA p.2) (cvF (.mk op ks) 40 210).1) (g := o1 ⟨#[33]⟩ (o1 (pB p.2) (o1 ⟨#[33]⟩ (cvF (.mk op ks) 40 210).1))) (fun nx lb _ => dualP p.2 (cvF (.mk op ks) 40 210).1 nx lb)) ▸ alike25 (f := o1 (pA p.2) (cvF (.mk op ks) 40 210).1) (g := o1 ⟨#[33]⟩ (o1 (pB p.2) (o1 ⟨#[33]⟩ (cvF (.mk op ks) 40 210).1))) hN hL (one_kid (f := (cvF (.mk op ks) 40 210).1) (kidsV_ok _)) (one_kid (f := o1 (pB p.2) (o1 ⟨#[33]⟩ (cvF (.mk op ks) 40 210).1)) (one_kid (f := o1 ⟨#[33]⟩ (cvF (.mk op ks) 40 210).1) (one_kid (f := (cvF (.mk op ks) 40 210).1) (kidsV_ok _)))))) ?_
      refine KT.step rfl rfl (K.not rfl) ?_
      refine KT.nil ?_
      refine ⟨by kernel_rfl, ?_⟩
      refine thenK_n ?_
      refine KC.cond rfl (fun hc49 => ?_) (fun hc49 => ?_)
      · cases hc49
      · skip
        refine KC.skip ?_
        refine blockK_n ?_
        refine thenK_n ?_
        refine KC.region ?_
        refine KT.step rfl rfl (K.add rfl rfl (wrap_id (by omega))) ?_
        refine KT.step rfl rfl (K.move rfl) ?_
        refine KT.nil ?_
        refine thenK_n ?_
        refine ⟨(_, p.2 + 1), ⟨(by repeat (first | exact y0 | apply get_left)), (by repeat (first | exact y2 | apply get_left)), by simp only; omega⟩, by simp only; omega, rfl, by simp [Go.Vm.look, extK]⟩
    · skip
      replace hc31 := of_decide_eq_false hc31
      refine KC.exit ?_
      refine thenK_x ?_
      refine thenK_x ?_
      refine blockK_e ?_
      refine thenK_n ?_
      refine KC.seq ?_
      refine KC.draw Try.mixed ?_
      refine KT.step rfl rfl (K.loadOA ([dN, dL]) rfl (by repeat (first | exact y0 | apply get_left)) (by decide) Try.agg24 Try.size24 rfl) ?_
      refine KT.step rfl rfl (K.loadOA ([.lit (.string (cvF (.mk op ks) 40 210).1.op), kidsV (cvF (.mk op ks) 40 210).1.ks]) rfl (by repeat (first | exact y2 | apply get_left)) (by decide) Try.agg35 Try.size35 rfl) ?_
      refine KT.step rfl rfl (K.lit1 rfl Try.underlying33 Try.size35 Try.zero35) ?_
      refine KT.step rfl rfl (K.call2 rfl rfl plainTry_26 (node26 (op := ⟨#[69, 70]⟩) ((one_kid (f := (cvF (.mk op ks) 40 210).1) (kidsV_ok _))))) ?_
      refine KT.step rfl rfl (K.call2 rfl rfl plainTry_26 (node26 (op := ⟨#[116, 114, 117, 101]⟩) (ks := []) .nil)) ?_
      refine KT.step rfl rfl (K.loadOA ([.lit (.string (cvF (.mk op ks) 40 210).1.op), kidsV (cvF (.mk op ks) 40 210).1.ks]) rfl (by repeat (first | exact y2 | apply get_left)) (by decide) Try.agg35 Try.size35 rfl) ?_
      refine KT.step rfl rfl (K.lit2 rfl rfl Try.underlying33 Try.size35 Try.zero35) ?_
      refine KT.step rfl rfl (K.call2 rfl rfl plainTry_26 (node26 (op := ⟨#[69, 85]⟩) (two_kids (f := .mk ⟨#[116, 114, 117, 101]⟩ []) (g := (cvF (.mk op ks) 40 210).1) .nil (kidsV_ok _)))) ?_
      refine KT.step rfl rfl (K.call3 rfl rfl rfl plainTry_25 ((alike_of (N := (N.take 18)) (L := (L.take 18)) (f := o1 ⟨#[69, 70]⟩ (cvF (.mk op ks) 40 210).1) (g := o2 ⟨#[69, 85]⟩ (.mk ⟨#[116, 114, 117, 101]⟩ []) (cvF (.mk op ks) 40 210).1) (fun nx lb _ => dual_EF nx lb (cvF (.mk op ks) 40 210).1)) ▸ alike25 (f := o1 ⟨#[69, 70]⟩ (cvF (.mk op ks) 40 210).1) (g := o2 ⟨#[69, 85]⟩ (.mk ⟨#[116, 114, 117, 101]⟩ []) (cvF (.mk op ks) 40 210).1) hN hL (one_kid (f := (cvF (.mk op ks) 40 210).1) (kidsV_ok _)) (two_kids (f := .mk ⟨#[116, 114, 117, 101]⟩ []) (g := (cvF (.mk op ks) 40 210).1) .nil (kidsV_ok _)))) ?_
      refine KT.step rfl rfl (K.move rfl) ?_
      refine KT.step rfl rfl (K.call0 plainTry_14 (awake14)) ?_
      refine KT.step rfl rfl (K.pick rfl (fun _ => rfl) (fun h => by cases h)) ?_
      refine KT.step rfl rfl (K.assign rfl) ?_
      refine KT.nil ?_
      refine ⟨by kernel_rfl, ?_⟩
      refine thenK_n ?_
      refine KC.ret ?_
      exact ⟨.inl rfl, _, rfl, fin_b rfl⟩
end Go.Proofs.Ytcjcchceeidgkaa

