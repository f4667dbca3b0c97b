import Derived.Test.YtjfpeiioddfjcaaZnTc
/-
  Zones: the reference: Reset.
-/
namespace Go.Proofs.Ytjfpeiioddfjcaa
open Go.Vm Go.Zn

theorem rho_bit {s n c : Nat} (he : s.testBit 0 = false) (hc : c < n) : rho s (n - 1) c = if s.testBit c then 0 else c := by
  unfold rho
  by_cases h0 : c = 0
  · subst h0; simp
  · cases ht : s.testBit c with
    | true => rw [if_pos ⟨by omega, by omega, rfl⟩]; rfl
    | false => rw [if_neg (fun h => by cases h.2.2)]; rfl
def rsP (n s : Nat) (T : Nat → Nat → Int) (i j : Nat) : Nat → Nat → Int := fun x y => if x < i ∨ (x = i ∧ y < j) then T (rho s (n - 1) x) (rho s (n - 1) y) else T x y
theorem rsP_step {n s i j : Nat} {T : Nat → Nat → Int} : set2 (rsP n s T i j) i j (T (rho s (n - 1) i) (rho s (n - 1) j)) = rsP n s T i (j + 1) := by
  funext x y
  unfold set2 rsP
  by_cases h1 : x = i ∧ y = j
  · rw [if_pos h1, if_pos (by omega), h1.1, h1.2]
  · rw [if_neg h1]
    by_cases h2 : x < i ∨ (x = i ∧ y < j)
    · rw [if_pos h2, if_pos (by omega)]
    · rw [if_neg h2, if_neg (by omega)]
theorem rsP_zero {n s : Nat} {T : Nat → Nat → Int} : rsP n s T 0 0 = T := by
  funext x y
  unfold rsP
  rw [if_neg (by omega)]
theorem CpM.eq {S : List VObj} {L n o : Nat} {M M' : Nat → Nat → Int} (h : CpM S L n M o) (e : ∀ x y, x < n → y < n → M x y = M' x y) : CpM S L n M' o where
  out := h.out
  rows k hk := by
    rw [h.rows k hk]
    congr 3
    exact List.map_congr_left fun y hy => e k y hk (List.mem_range.1 hy)
  ne := h.ne
theorem rsP_next {S : List VObj} {L n s i o : Nat} {T : Nat → Nat → Int} (h : CpM S L n (rsP n s T i n) o) : CpM S L n (rsP n s T (i + 1) 0) o := h.eq fun x y hx hy => by
  unfold rsP
  by_cases h1 : x < i ∨ (x = i ∧ y < n)
  · rw [if_pos h1, if_pos (by omega)]
  · rw [if_neg h1, if_neg (by omega)]
theorem zf_get {z : List (List Int)} {a b : Nat} (ha : a < z.length) (hb : b < z[a].length) : z[a][b] = zf z a b := by
  unfold zf
  rw [List.getD_eq_getElem?_getD (l := z), List.getElem?_eq_getElem ha, Option.getD_some, List.getD_eq_getElem?_getD, List.getElem?_eq_getElem hb, Option.getD_some]
def rrZ (z : List (List Int)) (s : Nat) : List (List Int) := genM z.length z.length (resM z.length s (tightM z.length (zf z)))
theorem rTE_ok {z : List (List Int)} (h : rTE z = 0) : tgE z = 0 ∧ rtZ z = genM z.length z.length (tightM z.length (zf z)) := by
  have h0 : tgE z = 0 := rT_tg.1.symm.trans h
  have e : rtZ z = rTZ z := by unfold rTZ; rw [if_pos (rTE_zero h).1]
  refine ⟨h0, ?_⟩
  rw [e, rT_tg.2]
  unfold tgZ resZ
  rw [if_pos h0]
theorem rtE_rTE {z : List (List Int)} (hv : validZ z = true) : rtE z = rTE z := by unfold rTE; rw [if_pos hv]
theorem rTZ_sq {z : List (List Int)} (h : rTE z = 0) : Sq (rtZ z) ∧ (rtZ z).length = z.length := by
  obtain ⟨hv, _⟩ := rTE_zero h
  obtain ⟨h0, e⟩ := rTE_ok h
  rw [e]
  exact ⟨sq_gen (by have := (validZ_rows hv).1; omega) (validZ_rows hv).2.1 (zf_genM_good fun i j _ _ => (tg_ok h0).good i j), genM_length ..⟩
theorem rrZ_sq {z : List (List Int)} {s : Nat} (h : rTE z = 0) : Sq (rrZ z s) := by
  obtain ⟨hv, _⟩ := rTE_zero h
  obtain ⟨h0, _⟩ := rTE_ok h
  exact sq_gen (by have := (validZ_rows hv).1; omega) (validZ_rows hv).2.1 (zf_genM_good fun i j _ _ => (res_ok (tg_ok h0)).good i j)
theorem rrZ_eq {z : List (List Int)} {s : Nat} (h : rTE z = 0) : genM z.length z.length (rsP z.length s (zf (rtZ z)) z.length 0) = rrZ z s := genM_eq' fun i hi j hj => by
  obtain ⟨h0, e⟩ := rTE_ok h
  rw [resM_eq hi hj]
  unfold rsP
  rw [if_pos (.inl hi), e, zf_genM (rho_lt hi) (rho_lt hj)]
set_option maxHeartbeats 2000000 in
set_option maxRecDepth 10000 in
theorem rReset28_ok {d : DV} {z : List (List Int)} (hd : Mat d z) (hl : z.length ≤ 9223372036854775807) (hr : ∀ r ∈ z, r.length ≤ 9223372036854775807) {s : Nat} (h : rTE z = 0) (hsb : setB z.length (s : Nat) = true) : DeepCall Try.prog 28 [d, DI (s : Nat)] (.tup [rtD (rrZ z s), DI (rtE (rrZ z s))]) := by
  obtain ⟨hv, hno⟩ := rTE_zero h
  have hn := (validZ_rows hv).2.1
  have hb2 := hsb
  unfold setB at hb2
  simp only [Bool.and_eq_true, decide_eq_true_eq] at hb2
  have hp : 2 ^ z.length ≤ 2 ^ 4 := Nat.pow_le_pow_right (by decide) hn
  have hs16 : s < 16 ∧ s % 2 = 0 := by
    obtain ⟨⟨g1, g2⟩, g3⟩ := hb2
    refine ⟨?_, by omega⟩
    generalize 2 ^ z.length = q at *
    omega
  have hs63 : s < 2 ^ 63 := by omega
  have he : s.testBit 0 = false := by rw [← bitOne s 0]; exact decide_eq_false (by rw [Nat.pow_zero, Nat.div_one, Nat.and_one_is_mod]; omega)
  have hD := rtD_mat z
  obtain ⟨hsZ, hZl⟩ := rTZ_sq h
  have hrow : ∀ k (h : k < (rtZ z).length), (rtZ z)[k].length = z.length := fun k h => (hsZ.rows _ (List.getElem_mem h)).trans hZl
  obtain ⟨A0, o, hA, hcp, _⟩ := copied_ex (σ := []) 0 rfl hD hsZ
  rw [hZl] at hA hcp
  refine deepCall_K 6 Try.func28 rfl (Nat.le_of_ble_eq_true rfl) fun M W0 => ?_
  refine KC.seq ?_
  refine KC.region ?_
  refine KT.step rfl rfl (K.assign rfl) ?_
  refine KT.step rfl rfl (K.assign rfl) ?_
  refine KT.nil ?_
  refine thenK_n ?_
  refine KC.seq ?_
  refine KC.seq ?_
  refine KC.region ?_
  refine KT.step rfl rfl (K.move rfl) ?_
  refine KT.step rfl rfl (K.call1 rfl plainTry_36 (Valid36 hd hl hr)) ?_
  refine KT.step rfl rfl (K.not rfl) ?_
  refine KT.step rfl rfl (K.move rfl) ?_
  refine KT.bcase (fun hb16 => ?_) (fun hb16 => ?_)
  · skip
    refine KT.skip rfl rfl ?_
    refine KT.skip rfl rfl ?_
    refine KT.step rfl rfl (K.pick rfl (fun _ => rfl) (fun h => by cases h)) ?_
    refine KT.step rfl rfl (K.move rfl) ?_
    refine KT.skip rfl rfl ?_
    refine KT.skip rfl rfl ?_
    refine KT.skip rfl rfl ?_
    refine KT.skip rfl rfl ?_
    refine KT.skip rfl rfl ?_
    refine KT.step rfl rfl (K.pick rfl (fun _ => rfl) (fun h => by cases h)) ?_
    refine KT.step rfl rfl (K.move rfl) ?_
    refine KT.skip rfl rfl ?_
    refine KT.skip rfl rfl ?_
    refine KT.skip rfl rfl ?_
    refine KT.step rfl rfl (K.pick rfl (fun _ => rfl) (fun h => by cases h)) ?_
    refine KT.nil ?_
    refine thenK_n ?_
    refine KC.cond rfl (fun hc31 => ?_) (fun hc31 => ?_)
    · skip
      refine KC.seq ?_
      refine KC.region ?_
      refine KT.step rfl rfl (K.assign rfl) ?_
      refine KT.step rfl rfl (K.assign rfl) ?_
      refine KT.nil ?_
      refine thenK_n ?_
      refine KC.ret ?_
      refine thenK_r ?_
      rw [hv] at hb16; cases hb16
    · cases hc31
  · skip
    refine KT.step rfl rfl (K.move rfl) ?_
    refine KT.step rfl rfl (K.lss rfl rfl) ?_
    refine KT.step rfl rfl (K.pick rfl (fun h => by cases h) (fun _ => rfl)) ?_
    refine KT.step rfl rfl (K.move rfl) ?_
    refine KT.bcase (fun hb20 => ?_) (fun hb20 => ?_)
    · skip
      replace hb20 := of_decide_eq_true hb20
      refine KT.skip rfl rfl ?_
      refine KT.skip rfl rfl ?_
      refine KT.skip rfl rfl ?_
      refine KT.skip rfl rfl ?_
      refine KT.skip rfl rfl ?_
      refine KT.step rfl rfl (K.pick rfl (fun _ => rfl) (fun h => by cases h)) ?_
      refine KT.step rfl rfl (K.move rfl) ?_
      refine KT.skip rfl rfl ?_
      refine KT.skip rfl rfl ?_
      refine KT.skip rfl rfl ?_
      refine KT.step rfl rfl (K.pick rfl (fun _ => rfl) (fun h => by cases h)) ?_
      refine KT.nil ?_
      refine thenK_n ?_
      refine KC.cond rfl (fun hc31 => ?_) (fun hc31 => ?_)
      · skip
        refine KC.seq ?_
        refine KC.region ?_
        refine KT.step rfl rfl (K.assign rfl) ?_
        refine KT.step rfl rfl (K.assign rfl) ?_
        refine KT.nil ?_
        refine thenK_n ?_
        refine KC.ret ?_
        refine thenK_r ?_
        omega
      · cases hc31
    · skip
      replace hb20 := of_decide_eq_false hb20
      refine KT.step rfl rfl (K.move rfl) ?_
      refine KT.step rfl rfl (K.move rfl) ?_
      refine KT.step rfl rfl (K.len rfl hd Try.underlying22) ?_
      refine KT.step rfl rfl (K.shl rfl rfl (by omega) (shlI (by omega))) ?_
      refine KT.step rfl rfl (K.geq rfl rfl) ?_
      refine KT.step rfl rfl (K.pick rfl (fun h => by cases h) (fun _ => rfl)) ?_
      refine KT.step rfl rfl (K.move rfl) ?_
      refine KT.bcase (fun hb27 => ?_) (fun hb27 => ?_)
      · skip
        replace hb27 := of_decide_eq_true hb27
        refine KT.skip rfl rfl ?_
        refine KT.skip rfl rfl ?_
        refine KT.skip rfl rfl ?_
        refine KT.step rfl rfl (K.pick rfl (fun _ => rfl) (fun h => by cases h)) ?_
        refine KT.nil ?_
        refine thenK_n ?_
        refine KC.cond rfl (fun hc31 => ?_) (fun hc31 => ?_)
        · skip
          refine KC.seq ?_
          refine KC.region ?_
          refine KT.step rfl rfl (K.assign rfl) ?_
          refine KT.step rfl rfl (K.assign rfl) ?_
          refine KT.nil ?_
          refine thenK_n ?_
          refine KC.ret ?_
          refine thenK_r ?_
          generalize 2 ^ z.length = q at *
          omega
        · cases hc31
      · skip
        replace hb27 := of_decide_eq_false hb27
        refine KT.step rfl rfl (K.move rfl) ?_
        refine KT.step rfl rfl (K.band rfl rfl (andOne _)) ?_
        refine KT.step rfl rfl (K.eql rfl rfl) ?_
        refine KT.step rfl rfl (K.pick rfl (fun h => by cases h) (fun _ => rfl)) ?_
        refine KT.nil ?_
        refine thenK_n ?_
        refine KC.cond rfl (fun hc31 => ?_) (fun hc31 => ?_)
        · skip
          have h31 := of_decide_eq_true hc31
          omega
        · skip
          replace hc31 := of_decide_eq_false hc31
          refine KC.skip ?_
          refine thenK_n ?_
          refine KC.seq ?_
          refine KC.region ?_
          refine KT.step rfl rfl (K.move rfl) ?_
          refine KT.step rfl rfl (K.call1 rfl plainTry_52 (rtight52 hd (sq_of hv))) ?_
          refine KT.step rfl rfl (K.move rfl) ?_
          refine KT.step rfl rfl (K.extract rfl rfl) ?_
          refine KT.step rfl rfl (K.extract rfl rfl) ?_
          refine KT.step rfl rfl (K.assign rfl) ?_
          refine KT.step rfl rfl (K.assign rfl) ?_
          refine KT.nil ?_
          refine thenK_n ?_
          refine KC.seq ?_
          refine KC.seq ?_
          refine KC.region ?_
          refine KT.step rfl rfl (K.move rfl) ?_
          refine KT.step rfl rfl (K.neq rfl rfl) ?_
          refine KT.nil ?_
          refine thenK_n ?_
          refine KC.cond rfl (fun hc38 => ?_) (fun hc38 => ?_)
          · skip
            exact absurd ((rtE_rTE hv).trans h) (of_decide_eq_true hc38)
          · skip
            replace hc38 := of_decide_eq_false hc38
            refine KC.skip ?_
            refine thenK_n ?_
            refine KC.seq ?_
            refine KC.region ?_
            refine KT.step rfl rfl (K.move rfl) ?_
            refine KT.step rfl rfl (K.callO rfl plainTry_64 hA) ?_
            refine KT.step rfl rfl (K.assign rfl) ?_
            refine KT.nil ?_
            refine thenK_n ?_
            refine KC.seq ?_
            refine KC.seq ?_
            refine KC.region ?_
            refine KT.step rfl rfl (K.move rfl) ?_
            refine KT.step rfl rfl (K.len rfl hD Try.underlying22) ?_
            rw [hZl]
            refine KT.step rfl rfl (K.move rfl) ?_
            refine KT.nil ?_
            refine thenK_n ?_
            refine KC.block ?_
            refine KC.loop (fun p : List VObj × Nat => p.1) (fun p => [(1, .d (DI (s : Nat))), (6, .d (rtD z)), (8, .osl o 0 z.length 1 z.length false), (43, .d (DI (z.length : Nat))), (44, .d (DI (p.2 : Nat)))]) (fun p => p.2 ≤ z.length ∧ CpM p.1 0 z.length (rsP z.length s (zf (rtZ z)) p.2 0) o) (fun p => z.length - p.2) (A0, 0) ⟨Nat.zero_le _, by rw [rsP_zero]; exact hcp⟩ rfl (by simp [Go.Vm.look, extK, enterK]) ?_
            intro p hp0
            obtain ⟨hpn, hp2⟩ := hp0
            refine KC.seq ?_
            refine KC.region ?_
            refine KT.step rfl rfl (K.lss rfl rfl) ?_
            refine KT.nil ?_
            refine thenK_n ?_
            refine KC.seq ?_
            refine KC.cond rfl (fun hc45 => ?_) (fun hc45 => ?_)
            · skip
              replace hc45 := of_decide_eq_true hc45
              have hil : p.2 < z.length := by omega
              refine KC.skip ?_
              refine thenK_n ?_
              refine KC.seq ?_
              refine KC.block ?_
              refine KC.seq ?_
              refine KC.region ?_
              refine KT.step rfl rfl (K.move rfl) ?_
              refine KT.step rfl rfl (K.assign rfl) ?_
              refine KT.nil ?_
              refine thenK_n ?_
              refine KC.seq ?_
              refine KC.region ?_
              refine KT.step rfl rfl (K.move rfl) ?_
              refine KT.step rfl rfl (K.len rfl hD Try.underlying22) ?_
              rw [hZl]
              refine KT.step rfl rfl (K.move rfl) ?_
              refine KT.nil ?_
              refine thenK_n ?_
              refine KC.block ?_
              refine KC.loop (fun q : List VObj × Nat => q.1) (fun q => [(1, .d (DI (s : Nat))), (6, .d (rtD z)), (8, .osl o 0 z.length 1 z.length false), (43, .d (DI (z.length : Nat))), (44, .d (DI (p.2 : Nat))), (9, .d (DI (p.2 : Nat))), (48, .d (DI (z.length : Nat))), (49, .d (DI (q.2 : Nat)))]) (fun q => q.2 ≤ z.length ∧ CpM q.1 0 z.length (rsP z.length s (zf (rtZ z)) p.2 q.2) o) (fun q => z.length - q.2) (p.1, 0) ⟨Nat.zero_le _, hp2⟩ rfl (by simp [Go.Vm.look, extK, enterK]) ?_
              intro q hq0
              obtain ⟨hqn, hq2⟩ := hq0
              refine KC.seq ?_
              refine KC.region ?_
              refine KT.step rfl rfl (K.lss rfl rfl) ?_
              refine KT.nil ?_
              refine thenK_n ?_
              refine KC.seq ?_
              refine KC.cond rfl (fun hc50 => ?_) (fun hc50 => ?_)
              · skip
                replace hc50 := of_decide_eq_true hc50
                have hjl : q.2 < z.length := by omega
                refine KC.skip ?_
                refine thenK_n ?_
                refine KC.seq ?_
                refine KC.block ?_
                refine KC.seq ?_
                refine KC.region ?_
                refine KT.step rfl rfl (K.move rfl) ?_
                refine KT.step rfl rfl (K.assign rfl) ?_
                refine KT.nil ?_
                refine thenK_n ?_
                refine KC.seq ?_
                refine KC.region ?_
                refine KT.step rfl rfl (K.move rfl) ?_
                refine KT.step rfl rfl (K.move rfl) ?_
                refine KT.step rfl rfl (K.assign rfl) ?_
                refine KT.step rfl rfl (K.assign rfl) ?_
                refine KT.nil ?_
                refine thenK_n ?_
                refine KC.seq ?_
                refine KC.seq ?_
                refine KC.region ?_
                refine KT.step rfl rfl (K.move rfl) ?_
                refine KT.step rfl rfl (K.move rfl) ?_
                refine KT.step rfl rfl (K.shr rfl rfl (by omega) (shrI (a := s) (i := p.2) (by omega))) ?_
                refine KT.step rfl rfl (K.band rfl rfl (show IntKind.i64.wrap (BitVec.ofInt IntKind.i64.bits ((s / 2 ^ p.2 : Nat) : Int) &&& BitVec.ofInt IntKind.i64.bits (1 : Int)).toNat = ((s / 2 ^ p.2 &&& 1 : Nat) : Int) from andI (b := 1) (Nat.lt_of_le_of_lt (Nat.div_le_self _ _) hs63) (by decide))) ?_
                refine KT.step rfl rfl (K.eql rfl rfl) ?_
                refine KT.nil ?_
                refine thenK_n ?_
                refine KC.cond rfl (fun hc58 => ?_) (fun hc58 => ?_)
                · skip
                  replace hc58 := of_decide_eq_true hc58
                  have ha : rho s (z.length - 1) p.2 = 0 := by rw [rho_bit he hil, ← bitOne s p.2, decide_eq_true hc58]; rfl
                  refine KC.region ?_
                  refine KT.step rfl rfl (K.assign rfl) ?_
                  refine KT.nil ?_
                  refine thenK_n ?_
                  refine KC.seq ?_
                  refine KC.seq ?_
                  refine KC.region ?_
                  refine KT.step rfl rfl (K.move rfl) ?_
                  refine KT.step rfl rfl (K.move rfl) ?_
                  refine KT.step rfl rfl (K.shr rfl rfl (by omega) (shrI (a := s) (i := q.2) (by omega))) ?_
                  refine KT.step rfl rfl (K.band rfl rfl (show IntKind.i64.wrap (BitVec.ofInt IntKind.i64.bits ((s / 2 ^ q.2 : Nat) : Int) &&& BitVec.ofInt IntKind.i64.bits (1 : Int)).toNat = ((s / 2 ^ q.2 &&& 1 : Nat) : Int) from andI (b := 1) (Nat.lt_of_le_of_lt (Nat.div_le_self _ _) hs63) (by decide))) ?_
                  refine KT.step rfl rfl (K.eql rfl rfl) ?_
                  refine KT.nil ?_
                  refine thenK_n ?_
                  refine KC.cond rfl (fun hc63 => ?_) (fun hc63 => ?_)
                  · skip
                    replace hc63 := of_decide_eq_true hc63
                    have hb : rho s (z.length - 1) q.2 = 0 := by rw [rho_bit he hjl, ← bitOne s q.2, decide_eq_true hc63]; rfl
                    refine KC.region ?_
                    refine KT.step rfl rfl (K.assign rfl) ?_
                    refine KT.nil ?_
                    refine thenK_n ?_
                    refine KC.draw Try.mixed ?_
                    refine KT.step rfl rfl (K.move rfl) ?_
                    refine KT.step rfl rfl (K.move rfl) ?_
                    refine KT.step rfl rfl (K.idxO (m := p.2) rfl rfl hil Try.underlying22 Try.size23) ?_
                    refine KT.step rfl rfl (K.loadO rfl hq2.out (by simp) (CpM.get hil) Try.agg23) ?_
                    refine KT.step rfl rfl (K.move rfl) ?_
                    refine KT.step rfl rfl (K.move rfl) ?_
                    refine KT.step rfl rfl (K.move rfl) ?_
                    refine KT.idx (m := 0) rfl rfl rfl hD rfl (by omega) Try.underlying22 Try.size23 fun c71 cs71 hq71 => ?_
                    refine KT.step rfl rfl (K.load rfl Try.agg23) ?_
                    refine KT.step rfl rfl (K.move rfl) ?_
                    refine KT.idxI (m := 0) rfl rfl rfl hq71 rfl (by rw [hrow]; omega) Try.underlying23 Try.size3 fun cs74 => ?_
                    rw [zf_get]
                    refine KT.step rfl rfl (K.load rfl Try.agg3) ?_
                    refine KT.step rfl rfl (K.idxO (m := q.2) rfl rfl hjl Try.underlying23 Try.size3) ?_
                    refine KT.step rfl rfl (K.storeO rfl rfl (hq2.rows p.2 hil) (by rw [row_clen]; omega) rfl rfl Try.size3) ?_
                    refine KT.nil ?_
                    refine ⟨by kernel_rfl, ?_⟩
                    refine blockK_n ?_
                    refine thenK_n ?_
                    refine KC.region ?_
                    refine KT.step rfl rfl (K.add rfl rfl (oneN (by omega))) ?_
                    refine KT.step rfl rfl (K.move rfl) ?_
                    refine KT.nil ?_
                    refine thenK_n ?_
                    have hput := hq2.put hil hjl (v := zf (rtZ z) 0 0)
                    have est := rsP_step (n := z.length) (s := s) (i := p.2) (j := q.2) (T := zf (rtZ z))
                    rw [ha, hb] at est
                    rw [est] at hput
                    exact ⟨(_, q.2 + 1), ⟨by simp only; omega, hput⟩, by simp only; omega, rfl, by simp [Go.Vm.look, extK]⟩
                  · skip
                    replace hc63 := of_decide_eq_false hc63
                    have hb : rho s (z.length - 1) q.2 = q.2 := by rw [rho_bit he hjl, ← bitOne s q.2, decide_eq_false hc63]; rfl
                    refine KC.skip ?_
                    refine thenK_n ?_
                    refine KC.draw Try.mixed ?_
                    refine KT.step rfl rfl (K.move rfl) ?_
                    refine KT.step rfl rfl (K.move rfl) ?_
                    refine KT.step rfl rfl (K.idxO (m := p.2) rfl rfl hil Try.underlying22 Try.size23) ?_
                    refine KT.step rfl rfl (K.loadO rfl hq2.out (by simp) (CpM.get hil) Try.agg23) ?_
                    refine KT.step rfl rfl (K.move rfl) ?_
                    refine KT.step rfl rfl (K.move rfl) ?_
                    refine KT.step rfl rfl (K.move rfl) ?_
                    refine KT.idx (m := 0) rfl rfl rfl hD rfl (by omega) Try.underlying22 Try.size23 fun c71 cs71 hq71 => ?_
                    refine KT.step rfl rfl (K.load rfl Try.agg23) ?_
                    refine KT.step rfl rfl (K.move rfl) ?_
                    refine KT.idxI (m := q.2) rfl rfl rfl hq71 rfl (by rw [hrow]; omega) Try.underlying23 Try.size3 fun cs74 => ?_
                    rw [zf_get]
                    refine KT.step rfl rfl (K.load rfl Try.agg3) ?_
                    refine KT.step rfl rfl (K.idxO (m := q.2) rfl rfl hjl Try.underlying23 Try.size3) ?_
                    refine KT.step rfl rfl (K.storeO rfl rfl (hq2.rows p.2 hil) (by rw [row_clen]; omega) rfl rfl Try.size3) ?_
                    refine KT.nil ?_
                    refine ⟨by kernel_rfl, ?_⟩
                    refine blockK_n ?_
                    refine thenK_n ?_
                    refine KC.region ?_
                    refine KT.step rfl rfl (K.add rfl rfl (oneN (by omega))) ?_
                    refine KT.step rfl rfl (K.move rfl) ?_
                    refine KT.nil ?_
                    refine thenK_n ?_
                    have hput := hq2.put hil hjl (v := zf (rtZ z) 0 q.2)
                    have est := rsP_step (n := z.length) (s := s) (i := p.2) (j := q.2) (T := zf (rtZ z))
                    rw [ha, hb] at est
                    rw [est] at hput
                    exact ⟨(_, q.2 + 1), ⟨by simp only; omega, hput⟩, by simp only; omega, rfl, by simp [Go.Vm.look, extK]⟩
                · skip
                  replace hc58 := of_decide_eq_false hc58
                  have ha : rho s (z.length - 1) p.2 = p.2 := by rw [rho_bit he hil, ← bitOne s p.2, decide_eq_false hc58]; rfl
                  refine KC.skip ?_
                  refine thenK_n ?_
                  refine KC.seq ?_
                  refine KC.seq ?_
                  refine KC.region ?_
                  refine KT.step rfl rfl (K.move rfl) ?_
                  refine KT.step rfl rfl (K.move rfl) ?_
                  refine KT.step rfl rfl (K.shr rfl rfl (by omega) (shrI (a := s) (i := q.2) (by omega))) ?_
                  refine KT.step rfl rfl (K.band rfl rfl (show IntKind.i64.wrap (BitVec.ofInt IntKind.i64.bits ((s / 2 ^ q.2 : Nat) : Int) &&& BitVec.ofInt IntKind.i64.bits (1 : Int)).toNat = ((s / 2 ^ q.2 &&& 1 : Nat) : Int) from andI (b := 1) (Nat.lt_of_le_of_lt (Nat.div_le_self _ _) hs63) (by decide))) ?_
                  refine KT.step rfl rfl (K.eql rfl rfl) ?_
                  refine KT.nil ?_
                  refine thenK_n ?_
                  refine KC.cond rfl (fun hc63 => ?_) (fun hc63 => ?_)
                  · skip
                    replace hc63 := of_decide_eq_true hc63
                    have hb : rho s (z.length - 1) q.2 = 0 := by rw [rho_bit he hjl, ← bitOne s q.2, decide_eq_true hc63]; rfl
                    refine KC.region ?_
                    refine KT.step rfl rfl (K.assign rfl) ?_
                    refine KT.nil ?_
                    refine thenK_n ?_
                    refine KC.draw Try.mixed ?_
                    refine KT.step rfl rfl (K.move rfl) ?_
                    refine KT.step rfl rfl (K.move rfl) ?_
                    refine KT.step rfl rfl (K.idxO (m := p.2) rfl rfl hil Try.underlying22 Try.size23) ?_
                    refine KT.step rfl rfl (K.loadO rfl hq2.out (by simp) (CpM.get hil) Try.agg23) ?_
                    refine KT.step rfl rfl (K.move rfl) ?_
                    refine KT.step rfl rfl (K.move rfl) ?_
                    refine KT.step rfl rfl (K.move rfl) ?_
                    refine KT.idx (m := p.2) rfl rfl rfl hD rfl (by omega) Try.underlying22 Try.size23 fun c71 cs71 hq71 => ?_
                    refine KT.step rfl rfl (K.load rfl Try.agg23) ?_
                    refine KT.step rfl rfl (K.move rfl) ?_
                    refine KT.idxI (m := 0) rfl rfl rfl hq71 rfl (by rw [hrow]; omega) Try.underlying23 Try.size3 fun cs74 => ?_
                    rw [zf_get]
                    refine KT.step rfl rfl (K.load rfl Try.agg3) ?_
                    refine KT.step rfl rfl (K.idxO (m := q.2) rfl rfl hjl Try.underlying23 Try.size3) ?_
                    refine KT.step rfl rfl (K.storeO rfl rfl (hq2.rows p.2 hil) (by rw [row_clen]; omega) rfl rfl Try.size3) ?_
                    refine KT.nil ?_
                    refine ⟨by kernel_rfl, ?_⟩
                    refine blockK_n ?_
                    refine thenK_n ?_
                    refine KC.region ?_
                    refine KT.step rfl rfl (K.add rfl rfl (oneN (by omega))) ?_
                    refine KT.step rfl rfl (K.move rfl) ?_
                    refine KT.nil ?_
                    refine thenK_n ?_
                    have hput := hq2.put hil hjl (v := zf (rtZ z) p.2 0)
                    have est := rsP_step (n := z.length) (s := s) (i := p.2) (j := q.2) (T := zf (rtZ z))
                    rw [ha, hb] at est
                    rw [est] at hput
                    exact ⟨(_, q.2 + 1), ⟨by simp only; omega, hput⟩, by simp only; omega, rfl, by simp [Go.Vm.look, extK]⟩
                  · skip
                    replace hc63 := of_decide_eq_false hc63
                    have hb : rho s (z.length - 1) q.2 = q.2 := by rw [rho_bit he hjl, ← bitOne s q.2, decide_eq_false hc63]; rfl
                    refine KC.skip ?_
                    refine thenK_n ?_
                    refine KC.draw Try.mixed ?_
                    refine KT.step rfl rfl (K.move rfl) ?_
                    refine KT.step rfl rfl (K.move rfl) ?_
                    refine KT.step rfl rfl (K.idxO (m := p.2) rfl rfl hil Try.underlying22 Try.size23) ?_
                    refine KT.step rfl rfl (K.loadO rfl hq2.out (by simp) (CpM.get hil) Try.agg23) ?_
                    refine KT.step rfl rfl (K.move rfl) ?_
                    refine KT.step rfl rfl (K.move rfl) ?_
                    refine KT.step rfl rfl (K.move rfl) ?_
                    refine KT.idx (m := p.2) rfl rfl rfl hD rfl (by omega) Try.underlying22 Try.size23 fun c71 cs71 hq71 => ?_
                    refine KT.step rfl rfl (K.load rfl Try.agg23) ?_
                    refine KT.step rfl rfl (K.move rfl) ?_
                    refine KT.idxI (m := q.2) rfl rfl rfl hq71 rfl (by rw [hrow]; omega) Try.underlying23 Try.size3 fun cs74 => ?_
                    rw [zf_get]
                    refine KT.step rfl rfl (K.load rfl Try.agg3) ?_
                    refine KT.step rfl rfl (K.idxO (m := q.2) rfl rfl hjl Try.underlying23 Try.size3) ?_
                    refine KT.step rfl rfl (K.storeO rfl rfl (hq2.rows p.2 hil) (by rw [row_clen]; omega) rfl rfl Try.size3) ?_
                    refine KT.nil ?_
                    refine ⟨by kernel_rfl, ?_⟩
                    refine blockK_n ?_
                    refine thenK_n ?_
                    refine KC.region ?_
                    refine KT.step rfl rfl (K.add rfl rfl (oneN (by omega))) ?_
                    refine KT.step rfl rfl (K.move rfl) ?_
                    refine KT.nil ?_
                    refine thenK_n ?_
                    have hput := hq2.put hil hjl (v := zf (rtZ z) p.2 q.2)
                    have est := rsP_step (n := z.length) (s := s) (i := p.2) (j := q.2) (T := zf (rtZ z))
                    rw [ha, hb] at est
                    rw [est] at hput
                    exact ⟨(_, q.2 + 1), ⟨by simp only; omega, hput⟩, by simp only; omega, rfl, by simp [Go.Vm.look, extK]⟩
              · skip
                replace hc50 := of_decide_eq_false hc50
                refine KC.exit ?_
                refine thenK_x ?_
                refine thenK_x ?_
                refine blockK_e ?_
                refine blockK_n ?_
                refine thenK_n ?_
                refine KC.region ?_
                refine KT.step rfl rfl (K.add rfl rfl (oneN (by omega))) ?_
                refine KT.step rfl rfl (K.move rfl) ?_
                refine KT.nil ?_
                refine thenK_n ?_
                have hjn : q.2 = z.length := by omega
                rw [hjn] at hq2
                exact ⟨(q.1, p.2 + 1), ⟨by simp only; omega, rsP_next hq2⟩, by simp only; omega, rfl, by simp [Go.Vm.look, extK]⟩
            · skip
              replace hc45 := of_decide_eq_false hc45
              refine KC.exit ?_
              refine thenK_x ?_
              refine thenK_x ?_
              refine blockK_e ?_
              refine thenK_n ?_
              refine KC.seq ?_
              refine KC.region ?_
              refine KT.step rfl rfl (K.move rfl) ?_
              have hie : p.2 = z.length := by omega
              refine KT.step rfl rfl (K.callZ (ds := [cpD z.length (rsP z.length s (zf (rtZ z)) p.2 0)]) (List.range p.1.length) 5 rfl plainTry_52 (by rw [freeze_range]; exact map1_deep hp2.deep) (rtight52 cpD_mat (by rw [hie, rrZ_eq h]; exact rrZ_sq h))) ?_
              refine KT.step rfl rfl (K.extract rfl rfl) ?_
              refine KT.step rfl rfl (K.extract rfl rfl) ?_
              refine KT.step rfl rfl (K.assign rfl) ?_
              refine KT.step rfl rfl (K.assign rfl) ?_
              refine KT.nil ?_
              refine thenK_n ?_
              refine KC.ret ?_
              refine ⟨.inl rfl, _, rfl, ?_⟩
              rw [hie, rrZ_eq h]
              rfl
set_option maxRecDepth 10000 in
theorem rReset28_bad {d : DV} {z : List (List Int)} (hd : Mat d z) (hl : z.length ≤ 9223372036854775807) (hr : ∀ r ∈ z, r.length ≤ 9223372036854775807) {s : Int} (h : (validZ z && setB z.length s) = false) : DeepCall Try.prog 28 [d, DI s] (.tup [Dnil, DI 2]) := by
  refine deepCall_K 5 Try.func28 rfl (Nat.le_of_ble_eq_true rfl) fun M W0 => ?_
  refine KC.seq ?_
  refine KC.region ?_
  refine KT.step rfl rfl (K.assign rfl) ?_
  refine KT.step rfl rfl (K.assign rfl) ?_
  refine KT.nil ?_
  refine thenK_n ?_
  refine KC.seq ?_
  refine KC.seq ?_
  refine KC.region ?_
  refine KT.step rfl rfl (K.move rfl) ?_
  refine KT.step rfl rfl (K.call1 rfl plainTry_36 (Valid36 hd hl hr)) ?_
  refine KT.step rfl rfl (K.not rfl) ?_
  refine KT.step rfl rfl (K.move rfl) ?_
  refine KT.bcase (fun hb16 => ?_) (fun hb16 => ?_)
  · skip
    refine KT.skip rfl rfl ?_
    refine KT.skip rfl rfl ?_
    refine KT.step rfl rfl (K.pick rfl (fun _ => rfl) (fun h => by cases h)) ?_
    refine KT.step rfl rfl (K.move rfl) ?_
    refine KT.skip rfl rfl ?_
    refine KT.skip rfl rfl ?_
    refine KT.skip rfl rfl ?_
    refine KT.skip rfl rfl ?_
    refine KT.skip rfl rfl ?_
    refine KT.step rfl rfl (K.pick rfl (fun _ => rfl) (fun h => by cases h)) ?_
    refine KT.step rfl rfl (K.move rfl) ?_
    refine KT.skip rfl rfl ?_
    refine KT.skip rfl rfl ?_
    refine KT.skip rfl rfl ?_
    refine KT.step rfl rfl (K.pick rfl (fun _ => rfl) (fun h => by cases h)) ?_
    refine KT.nil ?_
    refine thenK_n ?_
    refine KC.cond rfl (fun hc31 => ?_) (fun hc31 => ?_)
    · skip
      refine KC.seq ?_
      refine KC.region ?_
      refine KT.step rfl rfl (K.assign rfl) ?_
      refine KT.step rfl rfl (K.assign rfl) ?_
      refine KT.nil ?_
      refine thenK_n ?_
      refine KC.ret ?_
      refine thenK_r ?_
      exact ⟨.inl rfl, _, rfl, rfl⟩
    · cases hc31
  · skip
    have hv : validZ z = true := by simpa using hb16
    have hn := (validZ_rows hv).2.1
    refine KT.step rfl rfl (K.move rfl) ?_
    refine KT.step rfl rfl (K.lss rfl rfl) ?_
    refine KT.step rfl rfl (K.pick rfl (fun h => by cases h) (fun _ => rfl)) ?_
    refine KT.step rfl rfl (K.move rfl) ?_
    refine KT.bcase (fun hb20 => ?_) (fun hb20 => ?_)
    · skip
      replace hb20 := of_decide_eq_true hb20
      refine KT.skip rfl rfl ?_
      refine KT.skip rfl rfl ?_
      refine KT.skip rfl rfl ?_
      refine KT.skip rfl rfl ?_
      refine KT.skip rfl rfl ?_
      refine KT.step rfl rfl (K.pick rfl (fun _ => rfl) (fun h => by cases h)) ?_
      refine KT.step rfl rfl (K.move rfl) ?_
      refine KT.skip rfl rfl ?_
      refine KT.skip rfl rfl ?_
      refine KT.skip rfl rfl ?_
      refine KT.step rfl rfl (K.pick rfl (fun _ => rfl) (fun h => by cases h)) ?_
      refine KT.nil ?_
      refine thenK_n ?_
      refine KC.cond rfl (fun hc31 => ?_) (fun hc31 => ?_)
      · skip
        refine KC.seq ?_
        refine KC.region ?_
        refine KT.step rfl rfl (K.assign rfl) ?_
        refine KT.step rfl rfl (K.assign rfl) ?_
        refine KT.nil ?_
        refine thenK_n ?_
        refine KC.ret ?_
        refine thenK_r ?_
        exact ⟨.inl rfl, _, rfl, rfl⟩
      · cases hc31
    · skip
      replace hb20 := of_decide_eq_false hb20
      refine KT.step rfl rfl (K.move rfl) ?_
      refine KT.step rfl rfl (K.move rfl) ?_
      refine KT.step rfl rfl (K.len rfl hd Try.underlying22) ?_
      refine KT.step rfl rfl (K.shl rfl rfl (by omega) (shlI (by omega))) ?_
      refine KT.step rfl rfl (K.geq rfl rfl) ?_
      refine KT.step rfl rfl (K.pick rfl (fun h => by cases h) (fun _ => rfl)) ?_
      refine KT.step rfl rfl (K.move rfl) ?_
      refine KT.bcase (fun hb27 => ?_) (fun hb27 => ?_)
      · skip
        replace hb27 := of_decide_eq_true hb27
        refine KT.skip rfl rfl ?_
        refine KT.skip rfl rfl ?_
        refine KT.skip rfl rfl ?_
        refine KT.step rfl rfl (K.pick rfl (fun _ => rfl) (fun h => by cases h)) ?_
        refine KT.nil ?_
        refine thenK_n ?_
        refine KC.cond rfl (fun hc31 => ?_) (fun hc31 => ?_)
        · skip
          refine KC.seq ?_
          refine KC.region ?_
          refine KT.step rfl rfl (K.assign rfl) ?_
          refine KT.step rfl rfl (K.assign rfl) ?_
          refine KT.nil ?_
          refine thenK_n ?_
          refine KC.ret ?_
          refine thenK_r ?_
          exact ⟨.inl rfl, _, rfl, rfl⟩
        · cases hc31
      · skip
        replace hb27 := of_decide_eq_false hb27
        refine KT.step rfl rfl (K.move rfl) ?_
        refine KT.step rfl rfl (K.band rfl rfl (andOne _)) ?_
        refine KT.step rfl rfl (K.eql rfl rfl) ?_
        refine KT.step rfl rfl (K.pick rfl (fun h => by cases h) (fun _ => rfl)) ?_
        refine KT.nil ?_
        refine thenK_n ?_
        refine KC.cond rfl (fun hc31 => ?_) (fun hc31 => ?_)
        · skip
          replace hc31 := of_decide_eq_true hc31
          refine KC.seq ?_
          refine KC.region ?_
          refine KT.step rfl rfl (K.assign rfl) ?_
          refine KT.step rfl rfl (K.assign rfl) ?_
          refine KT.nil ?_
          refine thenK_n ?_
          refine KC.ret ?_
          refine thenK_r ?_
          exact ⟨.inl rfl, _, rfl, rfl⟩
        · skip
          have h31 := of_decide_eq_false hc31
          have : setB z.length s = true := by
            unfold setB
            simp only [Bool.and_eq_true, decide_eq_true_eq]
            generalize 2 ^ z.length = q at *
            omega
          rw [hv, this] at h; cases h
set_option maxRecDepth 10000 in
theorem rReset28_err {d : DV} {z : List (List Int)} (hd : Mat d z) (hl : z.length ≤ 9223372036854775807) (hr : ∀ r ∈ z, r.length ≤ 9223372036854775807) {s : Int} (hv : validZ z = true) (hsb : setB z.length s = true) (h : rTE z ≠ 0) : DeepCall Try.prog 28 [d, DI s] (.tup [Dnil, DI (rTE z)]) := by
  have hn := (validZ_rows hv).2.1
  have hb2 := hsb
  unfold setB at hb2
  simp only [Bool.and_eq_true, decide_eq_true_eq] at hb2
  refine deepCall_K 5 Try.func28 rfl (Nat.le_of_ble_eq_true rfl) fun M W0 => ?_
  refine KC.seq ?_
  refine KC.region ?_
  refine KT.step rfl rfl (K.assign rfl) ?_
  refine KT.step rfl rfl (K.assign rfl) ?_
  refine KT.nil ?_
  refine thenK_n ?_
  refine KC.seq ?_
  refine KC.seq ?_
  refine KC.region ?_
  refine KT.step rfl rfl (K.move rfl) ?_
  refine KT.step rfl rfl (K.call1 rfl plainTry_36 (Valid36 hd hl hr)) ?_
  refine KT.step rfl rfl (K.not rfl) ?_
  refine KT.step rfl rfl (K.move rfl) ?_
  refine KT.bcase (fun hb16 => ?_) (fun hb16 => ?_)
  · skip
    refine KT.skip rfl rfl ?_
    refine KT.skip rfl rfl ?_
    refine KT.step rfl rfl (K.pick rfl (fun _ => rfl) (fun h => by cases h)) ?_
    refine KT.step rfl rfl (K.move rfl) ?_
    refine KT.skip rfl rfl ?_
    refine KT.skip rfl rfl ?_
    refine KT.skip rfl rfl ?_
    refine KT.skip rfl rfl ?_
    refine KT.skip rfl rfl ?_
    refine KT.step rfl rfl (K.pick rfl (fun _ => rfl) (fun h => by cases h)) ?_
    refine KT.step rfl rfl (K.move rfl) ?_
    refine KT.skip rfl rfl ?_
    refine KT.skip rfl rfl ?_
    refine KT.skip rfl rfl ?_
    refine KT.step rfl rfl (K.pick rfl (fun _ => rfl) (fun h => by cases h)) ?_
    refine KT.nil ?_
    refine thenK_n ?_
    refine KC.cond rfl (fun hc31 => ?_) (fun hc31 => ?_)
    · skip
      refine KC.seq ?_
      refine KC.region ?_
      refine KT.step rfl rfl (K.assign rfl) ?_
      refine KT.step rfl rfl (K.assign rfl) ?_
      refine KT.nil ?_
      refine thenK_n ?_
      refine KC.ret ?_
      refine thenK_r ?_
      rw [hv] at hb16; cases hb16
    · cases hc31
  · skip
    refine KT.step rfl rfl (K.move rfl) ?_
    refine KT.step rfl rfl (K.lss rfl rfl) ?_
    refine KT.step rfl rfl (K.pick rfl (fun h => by cases h) (fun _ => rfl)) ?_
    refine KT.step rfl rfl (K.move rfl) ?_
    refine KT.bcase (fun hb20 => ?_) (fun hb20 => ?_)
    · skip
      replace hb20 := of_decide_eq_true hb20
      refine KT.skip rfl rfl ?_
      refine KT.skip rfl rfl ?_
      refine KT.skip rfl rfl ?_
      refine KT.skip rfl rfl ?_
      refine KT.skip rfl rfl ?_
      refine KT.step rfl rfl (K.pick rfl (fun _ => rfl) (fun h => by cases h)) ?_
      refine KT.step rfl rfl (K.move rfl) ?_
      refine KT.skip rfl rfl ?_
      refine KT.skip rfl rfl ?_
      refine KT.skip rfl rfl ?_
      refine KT.step rfl rfl (K.pick rfl (fun _ => rfl) (fun h => by cases h)) ?_
      refine KT.nil ?_
      refine thenK_n ?_
      refine KC.cond rfl (fun hc31 => ?_) (fun hc31 => ?_)
      · skip
        refine KC.seq ?_
        refine KC.region ?_
        refine KT.step rfl rfl (K.assign rfl) ?_
        refine KT.step rfl rfl (K.assign rfl) ?_
        refine KT.nil ?_
        refine thenK_n ?_
        refine KC.ret ?_
        refine thenK_r ?_
        omega
      · cases hc31
    · skip
      replace hb20 := of_decide_eq_false hb20
      refine KT.step rfl rfl (K.move rfl) ?_
      refine KT.step rfl rfl (K.move rfl) ?_
      refine KT.step rfl rfl (K.len rfl hd Try.underlying22) ?_
      refine KT.step rfl rfl (K.shl rfl rfl (by omega) (shlI (by omega))) ?_
      refine KT.step rfl rfl (K.geq rfl rfl) ?_
      refine KT.step rfl rfl (K.pick rfl (fun h => by cases h) (fun _ => rfl)) ?_
      refine KT.step rfl rfl (K.move rfl) ?_
      refine KT.bcase (fun hb27 => ?_) (fun hb27 => ?_)
      · skip
        replace hb27 := of_decide_eq_true hb27
        refine KT.skip rfl rfl ?_
        refine KT.skip rfl rfl ?_
        refine KT.skip rfl rfl ?_
        refine KT.step rfl rfl (K.pick rfl (fun _ => rfl) (fun h => by cases h)) ?_
        refine KT.nil ?_
        refine thenK_n ?_
        refine KC.cond rfl (fun hc31 => ?_) (fun hc31 => ?_)
        · skip
          refine KC.seq ?_
          refine KC.region ?_
          refine KT.step rfl rfl (K.assign rfl) ?_
          refine KT.step rfl rfl (K.assign rfl) ?_
          refine KT.nil ?_
          refine thenK_n ?_
          refine KC.ret ?_
          refine thenK_r ?_
          generalize 2 ^ z.length = q at *
          omega
        · cases hc31
      · skip
        replace hb27 := of_decide_eq_false hb27
        refine KT.step rfl rfl (K.move rfl) ?_
        refine KT.step rfl rfl (K.band rfl rfl (andOne _)) ?_
        refine KT.step rfl rfl (K.eql rfl rfl) ?_
        refine KT.step rfl rfl (K.pick rfl (fun h => by cases h) (fun _ => rfl)) ?_
        refine KT.nil ?_
        refine thenK_n ?_
        refine KC.cond rfl (fun hc31 => ?_) (fun hc31 => ?_)
        · skip
          have h31 := of_decide_eq_true hc31
          omega
        · skip
          replace hc31 := of_decide_eq_false hc31
          refine KC.skip ?_
          refine thenK_n ?_
          refine KC.seq ?_
          refine KC.region ?_
          refine KT.step rfl rfl (K.move rfl) ?_
          refine KT.step rfl rfl (K.call1 rfl plainTry_52 (rtight52 hd (sq_of hv))) ?_
          refine KT.step rfl rfl (K.move rfl) ?_
          refine KT.step rfl rfl (K.extract rfl rfl) ?_
          refine KT.step rfl rfl (K.extract rfl rfl) ?_
          refine KT.step rfl rfl (K.assign rfl) ?_
          refine KT.step rfl rfl (K.assign rfl) ?_
          refine KT.nil ?_
          refine thenK_n ?_
          refine KC.seq ?_
          refine KC.seq ?_
          refine KC.region ?_
          refine KT.step rfl rfl (K.move rfl) ?_
          refine KT.step rfl rfl (K.neq rfl rfl) ?_
          refine KT.nil ?_
          refine thenK_n ?_
          refine KC.cond rfl (fun hc38 => ?_) (fun hc38 => ?_)
          · skip
            replace hc38 := of_decide_eq_true hc38
            refine KC.seq ?_
            refine KC.region ?_
            refine KT.step rfl rfl (K.move rfl) ?_
            refine KT.step rfl rfl (K.assign rfl) ?_
            refine KT.step rfl rfl (K.assign rfl) ?_
            refine KT.nil ?_
            refine thenK_n ?_
            refine KC.ret ?_
            refine thenK_r ?_
            exact ⟨.inl rfl, _, rfl, by rw [← rtE_rTE hv]; rfl⟩
          · skip
            exact absurd ((rtE_rTE hv).symm.trans (Classical.not_not.1 (of_decide_eq_false hc38))) h
end Go.Proofs.Ytjfpeiioddfjcaa

