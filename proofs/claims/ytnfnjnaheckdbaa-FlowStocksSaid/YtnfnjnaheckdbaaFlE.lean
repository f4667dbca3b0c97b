import Derived.Test.YtnfnjnaheckdbaaFlD
/-
  Dataflow graphs: the repetition vector of the program.
-/
namespace Go.Proofs.Ytnfnjnaheckdbaa
open Go.Vm Go.Fl
theorem plainTry_46 : plainFn Try.prog 46 = true := by kernel_rfl

def toN (l : LZ) : LN := ⟨l.f.toNat, l.t.toNat, l.g.toNat, l.k.toNat, l.s.toNat⟩
theorem toN_z (L : List LN) : (L.map LN.z).map toN = L := by
  rw [List.map_map]
  have : toN ∘ LN.z = id := by funext l; cases l; simp [toN, LN.z]
  rw [this, List.map_id]
def repO (N : Nat) (L : List LN) : (Nat → Nat) × Int :=
  match repFold L N N with
  | none => (fun _ => 0, 5)
  | some q => if 60 < tot q then (fun _ => 0, 3) else (q, 0)
/-- The repetition vector, and the error. -/
def repA (n : Int) (L : List LZ) : (Nat → Nat) × Int := if validB n L = true then repO n.toNat (L.map toN) else (fun _ => 0, 2)
theorem repA_bad {n : Int} {L : List LZ} (h : validB n L = false) : repA n L = (fun _ => 0, 2) := by unfold repA; rw [if_neg (by rw [h]; simp)]
theorem repA_ok {N : Nat} {L : List LN} (h : validB (N : Int) (L.map LN.z) = true) : repA (N : Int) (L.map LN.z) = repO N L := by
  unfold repA; rw [if_pos h, toN_z]; rfl
theorem repFold_none {L : List LN} {N i : Nat} (h : repFold L N i = none) : ∀ m, repFold L N (i + m) = none
  | 0 => h
  | m + 1 => by
    have := repFold_none h m
    show (repFold L N (i + m)).bind _ = none
    rw [this]; rfl
def addTo (R : Rat6) (c : Nat) (q : Nat → Nat) (j : Nat) : Nat → Nat := fun a => if a < j then addR R c q a else q a
theorem addTo_zero (R : Rat6) (c : Nat) (q : Nat → Nat) : addTo R c q 0 = q := by funext a; simp [addTo]
theorem addTo_new {R : Rat6} {c : Nat} {q : Nat → Nat} {j : Nat} (h : knB (R j) = true) : (fun a => if a = j then (R j).1 * (c / (R j).2) else addTo R c q j a) = addTo R c q (j + 1) := by
  funext a
  unfold addTo
  by_cases e : a = j
  · subst e; rw [if_pos rfl, if_pos (by omega)]; unfold addR; rw [if_pos h]
  · rw [if_neg e]
    by_cases h2 : a < j
    · rw [if_pos h2, if_pos (by omega)]
    · rw [if_neg h2, if_neg (by omega)]
theorem addTo_same {R : Rat6} {c : Nat} {q : Nat → Nat} {j : Nat} (h : knB (R j) = false) : addTo R c q j = addTo R c q (j + 1) := by
  funext a
  unfold addTo
  by_cases e : a = j
  · subst e; rw [if_neg (by omega), if_pos (by omega)]; unfold addR; rw [if_neg (by rw [h]; simp)]
  · by_cases h2 : a < j
    · rw [if_pos h2, if_pos (by omega)]
    · rw [if_neg h2, if_neg (by omega)]
theorem addTo_full {N : Nat} {R : Rat6} (hG : GoodR N R) (c : Nat) (q : Nat → Nat) : addTo R c q N = addR R c q := by
  funext a
  unfold addTo
  by_cases h2 : a < N
  · rw [if_pos h2]
  · rw [if_neg h2]; unfold addR; rw [hG.out a (by omega)]; rfl
set_option maxRecDepth 10000 in
theorem repetition46 {d : DV} {n : Int} {L : List LZ} (hd : Lks d L) (hl : L.length ≤ 9223372036854775807) : DeepCall Try.prog 46 [.agg [DI n, d]] (.tup [.agg (wN (repA n L).1), DI (repA n L).2]) := by
  refine deepCall_K 5 Try.func46 rfl (Nat.le_of_ble_eq_true rfl) fun M W0 => ?_
  refine KC.seq ?_
  refine KC.region ?_
  refine KT.step rfl rfl (K.box rfl) ?_
  refine KT.step rfl rfl (K.alloc Try.zero75) ?_
  refine KT.step rfl rfl (K.assign rfl) ?_
  refine KT.nil ?_
  refine thenK_n ?_
  refine KC.seq ?_
  refine KC.seq ?_
  refine KC.region ?_
  refine KT.step rfl rfl (K.loadOA [DI n, d] rfl rfl (by decide) Try.agg31 Try.size31 rfl) ?_
  refine KT.step rfl rfl (K.call1 rfl plainTry_73 (valid73 hd hl)) ?_
  refine KT.step rfl rfl (K.not rfl) ?_
  refine KT.nil ?_
  refine thenK_n ?_
  refine KC.cond rfl (fun hc12 => ?_) (fun hc12 => ?_)
  · skip
    refine KC.seq ?_
    refine KC.region ?_
    refine KT.step rfl rfl (K.buildL rfl build75z) ?_
    refine KT.step rfl rfl (K.storeN rfl rfl rfl (by decide) rfl Try.size75) ?_
    refine KT.step rfl rfl (K.assign rfl) ?_
    refine KT.nil ?_
    refine thenK_n ?_
    refine KC.ret ?_
    refine thenK_r ?_
    refine ⟨.inl rfl, _, resK_ct (wN fun _ => 0) rfl rfl rfl (by decide) Try.agg75 Try.size75 (wN_len _) rfl, ?_⟩
    rw [repA_bad (by simpa using hc12)]; rfl
  · skip
    have hv : validB n L = true := by simpa using hc12
    obtain ⟨N, Ln, hnN, hN1, hN6, hLn, hl2, hL⟩ := valid_nat hv
    subst hnN hLn
    have hd2 := hd
    clear hd hl
    rename List LN => L
    refine KC.skip ?_
    refine thenK_n ?_
    refine KC.seq ?_
    refine KC.region ?_
    refine KT.step rfl rfl (K.alloc Try.zero75) ?_
    refine KT.nil ?_
    refine thenK_n ?_
    refine KC.seq ?_
    refine KC.seq ?_
    refine KC.region ?_
    refine KT.step rfl rfl (K.fieldAddrO rfl Try.fld31_0 Try.size3) ?_
    refine KT.step rfl rfl (K.loadO rfl rfl (by simp) rfl Try.agg3) ?_
    refine KT.step rfl rfl (K.move rfl) ?_
    refine KT.nil ?_
    refine thenK_n ?_
    refine KC.block ?_
    have y0 : ([⟨[.d (DI (N : Nat)), .d d], 0⟩, ⟨wX fun _ => 0, 0⟩, ⟨wX fun _ => 0, 0⟩] : List VObj)[0]? = some ⟨[.d (DI (N : Nat)), .d d], 0⟩ := rfl
    refine KC.loop (fun p : List VObj × (Nat → Nat) × Nat => p.1) (fun p => [(1, .optr 0 0), (2, .optr 1 0), (4, .optr 2 0), (15, .d (DI (N : Nat))), (16, .d (DI (p.2.2 : Nat)))]) (fun p => p.2.2 ≤ N ∧ p.1[0]? = some ⟨[.d (DI (N : Nat)), .d d], 0⟩ ∧ p.1[1]? = some ⟨wX fun _ => 0, 0⟩ ∧ p.1[2]? = some ⟨wX p.2.1, 0⟩ ∧ repFold L N p.2.2 = some p.2.1) (fun p => N - p.2.2) (_, (fun _ => 0), 0) ⟨Nat.zero_le _, rfl, rfl, rfl, rfl⟩ rfl (by simp [Go.Vm.look, extK, enterK]) ?_
    clear y0
    intro p hp
    obtain ⟨σ0, q, i⟩ := p
    obtain ⟨hi, y0, y1, y2, hq⟩ := hp
    simp only at hi y0 y1 y2 hq ⊢
    have g2 := (List.getElem?_eq_some_iff.1 y2).1
    refine KC.seq ?_
    refine KC.region ?_
    refine KT.step rfl rfl (K.lss rfl rfl) ?_
    refine KT.nil ?_
    refine thenK_n ?_
    refine KC.seq ?_
    refine KC.cond rfl (fun hc17 => ?_) (fun hc17 => ?_)
    · skip
      replace hc17 := of_decide_eq_true hc17
      have hiN : i < N := by omega
      obtain ⟨hs1, hs2⟩ := start_good hN6 hiN
      have hG := (rates_good hN6 hL 6 hs1 (by omega)).1
      refine KC.skip ?_
      refine thenK_n ?_
      refine KC.seq ?_
      refine KC.block ?_
      refine KC.seq ?_
      refine KC.region ?_
      refine KT.step rfl rfl (K.move rfl) ?_
      refine KT.step rfl rfl (K.assign rfl) ?_
      refine KT.nil ?_
      refine thenK_n ?_
      refine KC.seq ?_
      refine KC.seq ?_
      refine KC.region ?_
      refine KT.step rfl rfl (K.move rfl) ?_
      refine KT.step rfl rfl (K.idxA rfl rfl (by omega) Try.underlying75 Try.size3) ?_
      refine KT.step rfl rfl (K.loadO rfl y2 (by simp) (wX_get q (by omega)) Try.agg3) ?_
      refine KT.step rfl rfl (K.gtr rfl rfl) ?_
      refine KT.nil ?_
      refine thenK_n ?_
      refine KC.cond rfl (fun hc22 => ?_) (fun hc22 => ?_)
      · skip
        replace hc22 := of_decide_eq_true hc22
        refine KC.exit ?_
        refine thenK_x ?_
        refine blockK_e ?_
        refine thenK_n ?_
        refine KC.region ?_
        refine KT.step rfl rfl (K.add rfl rfl (wrap_id (by omega))) ?_
        refine KT.step rfl rfl (K.move rfl) ?_
        refine KT.nil ?_
        refine thenK_n ?_
        have hstep : repFold L N (i + 1) = repStep L N i q := by show (repFold L N i).bind _ = _; rw [hq]; rfl
        refine ⟨(σ0, q, i + 1), ⟨by simp only; omega, y0, y1, y2, ?_⟩, by simp only; omega, rfl, by simp [Go.Vm.look, extK]⟩
        rw [hstep]; unfold repStep; rw [if_pos (by omega)]
      · skip
        replace hc22 := of_decide_eq_false hc22
        refine KC.skip ?_
        refine thenK_n ?_
        refine KC.seq ?_
        refine KC.region ?_
        refine KT.step rfl rfl (K.loadOA ([DI (N : Nat), d]) rfl y0 (by decide) Try.agg31 Try.size31 rfl) ?_
        refine KT.step rfl rfl (K.move rfl) ?_
        refine KT.step rfl rfl (K.call2 rfl rfl plainTry_74 (rates74 hd2 hl2 hN6 hL (by omega))) ?_
        refine KT.step rfl rfl (K.assign rfl) ?_
        refine KT.nil ?_
        refine thenK_n ?_
        refine KC.seq ?_
        refine KC.seq ?_
        refine KC.region ?_
        refine KT.step rfl rfl (K.loadOA ([DI (N : Nat), d]) rfl y0 (by decide) Try.agg31 Try.size31 rfl) ?_
        refine KT.step rfl rfl (K.move rfl) ?_
        refine KT.step rfl rfl (K.call2 rfl rfl plainTry_75 (balanced75 hd2 hl2 hN6 hL hG)) ?_
        refine KT.step rfl rfl (K.not rfl) ?_
        refine KT.nil ?_
        refine thenK_n ?_
        refine KC.cond rfl (fun hc29 => ?_) (fun hc29 => ?_)
        · skip
          refine KC.seq ?_
          refine KC.region ?_
          refine KT.step rfl rfl (K.buildL rfl build75z) ?_
          refine KT.storeH (cs := wX fun _ => 0) rfl rfl rfl rfl y1 rfl (by decide) rfl Try.size75 fun σ1 l1 u1 v1 => ?_
          replace u1 := u1.trans (congrArg (fun c => some (VObj.mk c 0)) (splice_all (by rfl)))
          refine KT.step rfl rfl (K.assign rfl) ?_
          refine KT.nil ?_
          refine thenK_n ?_
          refine KC.ret ?_
          refine thenK_r ?_
          refine blockK_r ?_
          refine thenK_r ?_
          refine thenK_r ?_
          refine blockK_r ?_
          refine thenK_r ?_
          refine ⟨.inl rfl, _, resK_ct (wN fun _ => 0) rfl rfl u1 (by decide) Try.agg75 Try.size75 (wN_len _) rfl, ?_⟩
          have hno : repFold L N (i + 1) = none := by
            show (repFold L N i).bind _ = none
            rw [hq]
            show repStep L N i q = none
            unfold repStep
            rw [if_neg (by omega), if_neg (by simpa using hc29)]
          have hno2 := repFold_none hno (N - (i + 1))
          rw [show i + 1 + (N - (i + 1)) = N by omega] at hno2
          have eo : repO N L = (fun _ => 0, 5) := by unfold repO; rw [hno2]
          rw [repA_ok hv, eo]; rfl
        · skip
          refine KC.skip ?_
          refine thenK_n ?_
          refine KC.seq ?_
          refine KC.region ?_
          refine KT.step rfl rfl (K.move rfl) ?_
          refine KT.step rfl rfl (K.call1 rfl plainTry_76 (denominator76 hN6 hG)) ?_
          refine KT.step rfl rfl (K.assign rfl) ?_
          refine KT.nil ?_
          refine thenK_n ?_
          refine KC.seq ?_
          refine KC.region ?_
          refine KT.step rfl rfl (K.move rfl) ?_
          refine KT.step rfl rfl (K.lenD rfl Try.underlying111) ?_
          refine KT.step rfl rfl (K.move rfl) ?_
          refine KT.nil ?_
          refine thenK_n ?_
          refine KC.block ?_
          refine KC.loop (fun p : List VObj × Nat => p.1) (fun p => [(1, .optr 0 0), (2, .optr 1 0), (4, .optr 2 0), (15, .d (DI (N : Nat))), (16, .d (DI (i : Nat))), (7, .d (DI ((commF (ratesF L 6 (startR i)) N) : Nat))), (33, .d (ratD L N i)), (34, .d (DI (N : Nat))), (35, .d (DI (p.2 : Nat)))]) (fun p => p.2 ≤ N ∧ p.1[0]? = some ⟨[.d (DI (N : Nat)), .d d], 0⟩ ∧ p.1[1]? = some ⟨wX fun _ => 0, 0⟩ ∧ p.1[2]? = some ⟨wX (addTo (ratesF L 6 (startR i)) (commF (ratesF L 6 (startR i)) N) q p.2), 0⟩) (fun p => N - p.2) (σ0, 0) ⟨Nat.zero_le _, y0, y1, by rw [addTo_zero]; exact y2⟩ rfl (by simp [Go.Vm.look, extK]) ?_
          clear y0 y1 y2 g2
          intro p hp
          obtain ⟨σ0, j⟩ := p
          obtain ⟨hj, y0, y1, y2⟩ := hp
          simp only at hj y0 y1 y2 ⊢
          have g2 := (List.getElem?_eq_some_iff.1 y2).1
          refine KC.seq ?_
          refine KC.region ?_
          refine KT.step rfl rfl (K.lss rfl rfl) ?_
          refine KT.nil ?_
          refine thenK_n ?_
          refine KC.seq ?_
          refine KC.cond rfl (fun hc36 => ?_) (fun hc36 => ?_)
          · skip
            replace hc36 := of_decide_eq_true hc36
            have hjl : j < N := by omega
            refine KC.skip ?_
            refine thenK_n ?_
            refine KC.seq ?_
            refine KC.block ?_
            refine KC.seq ?_
            refine KC.region ?_
            refine KT.step rfl rfl (K.move rfl) ?_
            refine KT.step rfl rfl (K.idxDK rfl rfl hjl Try.underlying111 Try.size116) ?_
            refine KT.step rfl rfl (K.loadF hjl rfl Try.agg116 Try.size116) ?_
            refine KT.step rfl rfl (K.alloc Try.zero116) ?_
            refine KT.step rfl rfl (K.assign rfl) ?_
            refine KT.storeH (cs := [.d (DI (((ratesF L 6 (startR i)) j).1 : Nat)), .d (DI (((ratesF L 6 (startR i)) j).2 : Nat))]) rfl rfl rfl rfl (List.getElem?_concat_length ..) rfl (Nat.le_refl _) rfl Try.size116 fun σ1 l1 u1 v1 => ?_
            try simp only [List.length_append, List.length_cons, List.length_nil] at l1
            replace u1 := u1.trans (congrArg (fun c => some (VObj.mk c 0)) (splice_all (by rfl)))
            have y0 := (v1 (0) (by omega)).trans ((List.getElem?_append_left (by omega)).trans y0)
            have y1 := (v1 (1) (by omega)).trans ((List.getElem?_append_left (by omega)).trans y1)
            have y2 := (v1 (2) (by omega)).trans ((List.getElem?_append_left (by omega)).trans y2)
            have x1 := u1
            refine KT.nil ?_
            refine thenK_n ?_
            refine KC.seq ?_
            refine KC.region ?_
            refine KT.step rfl rfl (K.loadOA ([DI (((ratesF L 6 (startR i)) j).1 : Nat), DI (((ratesF L 6 (startR i)) j).2 : Nat)]) rfl x1 (by decide) Try.agg116 Try.size116 rfl) ?_
            refine KT.step rfl rfl (K.buildL rfl build116z) ?_
            refine KT.step rfl rfl (K.fraN rfl rfl) ?_
            refine KT.nil ?_
            refine thenK_n ?_
            refine KC.cond rfl (fun hc42 => ?_) (fun hc42 => ?_)
            · skip
              obtain ⟨b1, b2, b3⟩ := addR_le hG j hc42
              have b4 := (hG.val j hc42).d0
              have b5 : commF (ratesF L 6 (startR i)) N ≤ 777600000 := Nat.le_of_dvd (by decide) (show _ ∣ 777600000 from (comm_good hG N).2.1)
              refine KC.draw Try.mixed ?_
              refine KT.step rfl rfl (K.move rfl) ?_
              refine KT.step rfl rfl (K.fieldAddrO rfl Try.fld116_0 Try.size3) ?_
              refine KT.step rfl rfl (K.loadO rfl x1 (by simp) rfl Try.agg3) ?_
              refine KT.step rfl rfl (K.move rfl) ?_
              refine KT.step rfl rfl (K.fieldAddrO rfl Try.fld116_1 Try.size3) ?_
              refine KT.step rfl rfl (K.loadO rfl x1 (by simp) rfl Try.agg3) ?_
              refine KT.step rfl rfl (K.quo rfl rfl (by omega) (divN (by omega))) ?_
              refine KT.step rfl rfl (K.mul rfl rfl (mulN (by omega))) ?_
              refine KT.step rfl rfl (K.idxA rfl rfl (by omega) Try.underlying75 Try.size3) ?_
              refine KT.storeG rfl rfl rfl rfl y2 (by rw [wX_len]; omega) rfl rfl Try.size3 fun σ2 l2 u2 v2 => ?_
              replace y0 := (v2 0 (by omega)).trans y0
              replace y1 := (v2 1 (by omega)).trans y1
              replace y2 := u2.trans (congrArg (fun c => some (VObj.mk c 0)) (wX_set _ (by omega) _))
              refine KT.nil ?_
              refine ⟨by kernel_rfl, ?_⟩
              refine blockK_n ?_
              refine thenK_n ?_
              refine KC.region ?_
              refine KT.step rfl rfl (K.add rfl rfl (wrap_id (by omega))) ?_
              refine KT.step rfl rfl (K.move rfl) ?_
              refine KT.nil ?_
              refine thenK_n ?_
              refine ⟨(σ2, j + 1), ⟨by simp only; omega, y0, y1, ?_⟩, by simp only; omega, rfl, by simp [Go.Vm.look, extK]⟩
              rw [← addTo_new hc42]; exact y2
            · skip
              refine KC.skip ?_
              refine blockK_n ?_
              refine thenK_n ?_
              refine KC.region ?_
              refine KT.step rfl rfl (K.add rfl rfl (wrap_id (by omega))) ?_
              refine KT.step rfl rfl (K.move rfl) ?_
              refine KT.nil ?_
              refine thenK_n ?_
              refine ⟨(σ1, j + 1), ⟨by simp only; omega, y0, y1, ?_⟩, by simp only; omega, rfl, by simp [Go.Vm.look, extK]⟩
              rw [← addTo_same hc42]; exact y2
          · skip
            replace hc36 := of_decide_eq_false hc36
            refine KC.exit ?_
            refine thenK_x ?_
            refine thenK_x ?_
            refine blockK_e ?_
            refine blockK_n ?_
            refine thenK_n ?_
            refine KC.region ?_
            refine KT.step rfl rfl (K.add rfl rfl (wrap_id (by omega))) ?_
            refine KT.step rfl rfl (K.move rfl) ?_
            refine KT.nil ?_
            refine thenK_n ?_
            have hstep : repFold L N (i + 1) = repStep L N i q := by show (repFold L N i).bind _ = _; rw [hq]; rfl
            obtain rfl : j = N := by omega
            rw [addTo_full hG] at y2
            refine ⟨(σ0, addR (ratesF L 6 (startR i)) (commF (ratesF L 6 (startR i)) j) q, i + 1), ⟨by simp only; omega, y0, y1, y2, ?_⟩, by simp only; omega, rfl, by simp [Go.Vm.look, extK]⟩
            rw [hstep]; unfold repStep; rw [if_neg (by omega), if_pos (by simpa using hc29)]
    · skip
      replace hc17 := of_decide_eq_false hc17
      obtain rfl : N = i := by omega
      refine KC.exit ?_
      refine thenK_x ?_
      refine thenK_x ?_
      refine blockK_e ?_
      refine thenK_n ?_
      refine KC.seq ?_
      refine KC.seq ?_
      refine KC.region ?_
      refine KT.step rfl rfl (K.loadOA (wN q) rfl y2 (by decide) Try.agg75 Try.size75 rfl) ?_
      refine KT.step rfl rfl (K.call1 rfl plainTry_54 (sum54 (repFold_ok hN6 hL N (Nat.le_refl _) q hq).le)) ?_
      refine KT.step rfl rfl (K.gtr rfl rfl) ?_
      refine KT.nil ?_
      refine thenK_n ?_
      refine KC.cond rfl (fun hc56 => ?_) (fun hc56 => ?_)
      · skip
        replace hc56 := of_decide_eq_true hc56
        refine KC.seq ?_
        refine KC.region ?_
        refine KT.step rfl rfl (K.buildL rfl build75z) ?_
        refine KT.storeH (cs := wX fun _ => 0) rfl rfl rfl rfl y1 rfl (by decide) rfl Try.size75 fun σ1 l1 u1 v1 => ?_
        replace u1 := u1.trans (congrArg (fun c => some (VObj.mk c 0)) (splice_all (by rfl)))
        refine KT.step rfl rfl (K.assign rfl) ?_
        refine KT.nil ?_
        refine thenK_n ?_
        refine KC.ret ?_
        refine thenK_r ?_
        refine ⟨.inl rfl, _, resK_ct (wN fun _ => 0) rfl rfl u1 (by decide) Try.agg75 Try.size75 (wN_len _) rfl, ?_⟩
        have eo : repO N L = (fun _ => 0, 3) := by unfold repO; rw [hq]; exact if_pos (by omega)
        rw [repA_ok hv, eo]; rfl
      · skip
        replace hc56 := of_decide_eq_false hc56
        refine KC.skip ?_
        refine thenK_n ?_
        refine KC.seq ?_
        refine KC.region ?_
        refine KT.step rfl rfl (K.loadOA (wN q) rfl y2 (by decide) Try.agg75 Try.size75 rfl) ?_
        refine KT.storeH (cs := wX q) rfl rfl rfl rfl y1 rfl (by rw [wX_len, wX_len]; omega) (by simp [wN, oneX, Value.oneCell']) Try.size75 fun σ1 l1 u1 v1 => ?_
        replace u1 := u1.trans (congrArg (fun c => some (VObj.mk c 0)) (splice_all (by rw [wX_len, wX_len])))
        refine KT.step rfl rfl (K.assign rfl) ?_
        refine KT.nil ?_
        refine thenK_n ?_
        refine KC.ret ?_
        refine ⟨.inl rfl, _, resK_ct (wN q) rfl rfl u1 (by decide) Try.agg75 Try.size75 (wN_len _) rfl, ?_⟩
        have eo : repO N L = (q, 0) := by unfold repO; rw [hq]; exact if_neg (by omega)
        rw [repA_ok hv, eo]; rfl
end Go.Proofs.Ytnfnjnaheckdbaa

