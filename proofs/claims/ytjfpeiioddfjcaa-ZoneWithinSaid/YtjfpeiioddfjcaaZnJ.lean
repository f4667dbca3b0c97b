import Derived.Test.YtjfpeiioddfjcaaZnI
/-
  Zones: the law ZoneWithin.
-/
namespace Go.Proofs.Ytjfpeiioddfjcaa
open Go.Vm Go.Zn
theorem plainTry_14 : plainFn Try.prog 14 = true := by kernel_rfl

theorem DeepCall.conv {P : Program} {f : FuncId} {args args' : List DV} {res : DV} (h : DeepCall P f args res) (hl : args'.length = args.length)
    (hc : ∀ (w : World) (M : Nat → Prop) (v : Value) (i : Nat) (x x' : DV), args'[i]? = some x' → args[i]? = some x → DRep w M v x' → DRep w M v x) : DeepCall P f args' res := fun M w vs hM hn hr =>
  h M w vs hM (hn.trans hl) fun i v x hv hx => by
    have hi : i < args'.length := by rw [hl]; exact (List.getElem?_eq_some_iff.1 hx).1
    exact hc w M v i x _ (List.getElem?_eq_getElem hi) hx (hr i v _ hv (List.getElem?_eq_getElem hi))
theorem rep_guard {w : World} {M : Nat → Prop} {v : Value} {a b c : Int} (h : DRep w M v (.lit (.agg #[.int .i64 a, .int .i64 b, .int .i64 c]))) : DRep w M v (.agg [DI a, DI b, DI c]) := by
  cases h
  refine .agg rfl fun i v x hv hx => ?_
  match i with
  | 0 => simp at hv hx; subst hv hx; exact .lit _
  | 1 => simp at hv hx; subst hv hx; exact .lit _
  | 2 => simp at hv hx; subst hv hx; exact .lit _
  | i + 3 => simp at hv
theorem And23_lit {d : DV} {z : List (List Int)} {i j b : Int} (hd : Mat d z) (hl : z.length ≤ 9223372036854775807) (hr : ∀ r ∈ z, r.length ≤ 9223372036854775807) : DeepCall Try.prog 23 [d, .lit (.agg #[.int .i64 i, .int .i64 j, .int .i64 b])] (.tup [resD (anE z i j b) z.length (tightM z.length (andM z i.toNat j.toNat b)), DI (anE z i j b)]) :=
  DeepCall.conv (And23 hd hl hr) rfl fun w M v k x x' h' h hx => by
    match k with
    | 0 => simp at h' h; subst h' h; exact hx
    | 1 => simp at h' h; subst h' h; exact rep_guard hx
    | k + 2 => simp at h'
theorem wi_del {z : List (List Int)} (h : dlE z = 0) : (inE (dlZ z) z = 0 → inB (dlZ z) z = true) ∧ (inE (dlZ z) z ≠ 0 → validZ (dlZ z) = false) := by
  have h0 : tgE z = 0 := (dlE_eq z).symm.trans h
  have hv := (tgE_zero h0).1
  have hn := (validZ_rows hv).2.1
  have e : dlZ z = genM z.length z.length (delM z.length (tightM z.length (zf z))) := by unfold dlZ resZ; rw [if_pos h]
  have hl : (dlZ z).length = z.length := by rw [e, genM_length]
  constructor
  · intro h1
    obtain ⟨v1, _, _⟩ := inOk_of h1
    obtain ⟨_, k2, _, _⟩ := again hn (del_ok (tg_ok h0)) (dl_out hv) e v1
    unfold inB
    rw [(inE_ok v1 hv hl).2, k2, inclB_true (del_ge (tg_ok h0).good), Bool.or_true]; rfl
  · intro h1
    exact Bool.eq_false_iff.2 fun v1 => h1 (inE_ok v1 hv hl).1
theorem wi_and {z : List (List Int)} {i j b : Int} (h : anE z i j b = 0) (hv' : validZ (anZ z i j b) = true) : inE z (anZ z i j b) = 0 ∧ inB z (anZ z i j b) = true := by
  obtain ⟨g1, v1, _⟩ := anE_zero h
  have hn := (validZ_rows v1).2.1
  obtain ⟨a1, _, a3, _⟩ := again hn (an_ok h) (an_out h) (an_gen h) hv'
  have l1 := guard_lt g1
  refine ⟨(inE_ok v1 hv' a1.symm).1, ?_⟩
  unfold inB
  rw [(inE_ok v1 hv' a1.symm).2, a3, a1, inclB_true fun p q hp hq => ((le_and l1.1 l1.2.1).1 (tight_le_a hn (and_lim5 g1 v1))).1 p q hp hq, Bool.or_true]; rfl
theorem rho_all : ∀ n, n < 5 → ∀ c, c < n → rho (2 ^ n - 2) (n - 1) c = 0 := by decide
theorem set_all : ∀ n, n < 5 → 2 ≤ n → setB n (((2 ^ n : Nat) : Int) - 2) = true ∧ (((2 ^ n : Nat) : Int) - 2).toNat = 2 ^ n - 2 := by decide
theorem wi_res {z : List (List Int)} (h0 : tgE z = 0) : rsE z (((2 ^ z.length : Nat) : Int) - 2) = 0 ∧ (rsZ z (((2 ^ z.length : Nat) : Int) - 2)).length = z.length ∧ ∀ r ∈ rsZ z (((2 ^ z.length : Nat) : Int) - 2), ∀ b ∈ r, b = 1 := by
  have hv := (tgE_zero h0).1
  have hn := (validZ_rows hv).2.1
  have h2 := (validZ_rows hv).1
  obtain ⟨s1, s2⟩ := set_all z.length (by omega) h2
  have e0 : rsE z (((2 ^ z.length : Nat) : Int) - 2) = 0 := by rw [rsE_eq, if_pos s1, h0]
  have e : rsZ z (((2 ^ z.length : Nat) : Int) - 2) = genM z.length z.length (resM z.length (2 ^ z.length - 2) (tightM z.length (zf z))) := by unfold rsZ resZ; rw [if_pos e0, s2]
  refine ⟨e0, by rw [e, genM_length], fun r hr b hb => ?_⟩
  rw [e] at hr
  unfold genM at hr
  obtain ⟨i, hi, rfl⟩ := List.mem_map.1 hr
  obtain ⟨j, hj, rfl⟩ := List.mem_map.1 hb
  rw [resM_eq (List.mem_range.1 hi) (List.mem_range.1 hj), rho_all _ (by omega) _ (List.mem_range.1 hi), rho_all _ (by omega) _ (List.mem_range.1 hj)]
  exact (tg_ok h0).one 0 (by omega)
set_option maxRecDepth 10000 in
theorem law14 {d : DV} {z : List (List Int)} {gi gj gb : Int} (hd : Mat d z) (hl : z.length ≤ 9223372036854775807) (hr : ∀ r ∈ z, r.length ≤ 9223372036854775807) : DeepCall Try.prog 14 [d, .agg [DI gi, DI gj, DI gb]] (DB true) := by
  have fz := few_len z
  have kz := fewZ_len z
  have hmz := few_mat hd
  have hfv := few_valid (z := z)
  have hfi := few_id (z := z)
  generalize hZ : fewZ z = Z at *
  refine deepCall_K 5 Try.func14 rfl (Nat.le_of_ble_eq_true rfl) fun M W0 => ?_
  refine KC.seq ?_
  refine KC.region ?_
  refine KT.step rfl rfl (K.box rfl) ?_
  refine KT.step rfl rfl (K.assign rfl) ?_
  refine KT.nil ?_
  refine thenK_n ?_
  refine KC.seq ?_
  refine KC.region ?_
  refine KT.step rfl rfl (K.move rfl) ?_
  refine KT.step rfl rfl (K.call1 rfl plainTry_16 (few16 hd hl hr)) ?_
  refine KT.step rfl rfl (K.call1 rfl plainTry_25 (Delay25 hmz fz.1 fz.2)) ?_
  refine KT.step rfl rfl (K.move rfl) ?_
  refine KT.step rfl rfl (K.extract rfl rfl) ?_
  refine KT.step rfl rfl (K.extract rfl rfl) ?_
  refine KT.step rfl rfl (K.assign rfl) ?_
  refine KT.step rfl rfl (K.assign rfl) ?_
  refine KT.nil ?_
  refine thenK_n ?_
  refine KC.seq ?_
  refine KC.seq ?_
  refine KC.region ?_
  refine KT.step rfl rfl (K.move rfl) ?_
  refine KT.step rfl rfl (K.neq rfl rfl) ?_
  refine KT.step rfl rfl (K.move rfl) ?_
  refine KT.bcase (fun hb26 => ?_) (fun hb26 => ?_)
  · skip
    replace hb26 := of_decide_eq_true hb26
    refine KT.skip rfl rfl ?_
    refine KT.skip rfl rfl ?_
    refine KT.skip rfl rfl ?_
    refine KT.step rfl rfl (K.pick rfl (fun _ => rfl) (fun h => by cases h)) ?_
    refine KT.nil ?_
    refine thenK_n ?_
    refine KC.cond rfl (fun hc30 => ?_) (fun hc30 => ?_)
    · skip
      refine KC.seq ?_
      refine KC.region ?_
      refine KT.step rfl rfl (K.move rfl) ?_
      refine KT.step rfl rfl (K.eql rfl rfl) ?_
      refine KT.step rfl rfl (K.move rfl) ?_
      refine KT.bcase (fun hb33 => ?_) (fun hb33 => ?_)
      · skip
        replace hb33 := of_decide_eq_true hb33
        refine KT.skip rfl rfl ?_
        refine KT.skip rfl rfl ?_
        refine KT.step rfl rfl (K.pick rfl (fun _ => rfl) (fun h => by cases h)) ?_
        refine KT.step rfl rfl (K.move rfl) ?_
        refine KT.step rfl rfl (K.call0 plainTry_21 (awake21)) ?_
        refine KT.step rfl rfl (K.pick rfl (fun _ => rfl) (fun h => by cases h)) ?_
        refine KT.step rfl rfl (K.assign rfl) ?_
        refine KT.nil ?_
        refine thenK_n ?_
        refine KC.ret ?_
        refine thenK_r ?_
        exact ⟨.inl rfl, _, rfl, rfl⟩
      · skip
        replace hb33 := of_decide_eq_false hb33
        refine KT.step rfl rfl (K.move rfl) ?_
        refine KT.step rfl rfl (K.eql rfl rfl) ?_
        refine KT.step rfl rfl (K.pick rfl (fun h => by cases h) (fun _ => rfl)) ?_
        refine KT.step rfl rfl (K.move rfl) ?_
        refine KT.bcase (fun hb37 => ?_) (fun hb37 => ?_)
        · skip
          replace hb37 := of_decide_eq_true hb37
          refine KT.step rfl rfl (K.call0 plainTry_21 (awake21)) ?_
          refine KT.step rfl rfl (K.pick rfl (fun _ => rfl) (fun h => by cases h)) ?_
          refine KT.step rfl rfl (K.assign rfl) ?_
          refine KT.nil ?_
          refine thenK_n ?_
          refine KC.ret ?_
          refine thenK_r ?_
          exact ⟨.inl rfl, _, rfl, rfl⟩
        · skip
          replace hb37 := of_decide_eq_false hb37
          have := dlE_cases Z
          omega
    · cases hc30
  · skip
    replace hb26 := of_decide_eq_false hb26
    refine KT.step rfl rfl (K.move rfl) ?_
    refine KT.step rfl rfl (K.call1 rfl plainTry_36 (Valid36 hd hl hr)) ?_
    refine KT.step rfl rfl (K.not rfl) ?_
    refine KT.step rfl rfl (K.pick rfl (fun h => by cases h) (fun _ => rfl)) ?_
    refine KT.nil ?_
    refine thenK_n ?_
    refine KC.cond rfl (fun hc30 => ?_) (fun hc30 => ?_)
    · skip
      rw [Bool.not_eq_true'] at hc30
      have h0 := Classical.not_not.1 hb26
      have hv : validZ Z = true := (tgE_zero ((dlE_eq Z).symm.trans h0)).1
      exact Bool.noConfusion (hc30.symm.trans (hfv ▸ hv))
    · skip
      have h0 := Classical.not_not.1 hb26
      rw [Bool.not_eq_false'] at hc30
      have h0' : tgE Z = 0 := (dlE_eq Z).symm.trans h0
      have hv : validZ Z = true := (tgE_zero h0').1
      have hzZ : Z = z := hfi hc30
      have ht := wi_del h0
      have hz4 : z.length ≤ 4 := (validZ_rows hc30).2.1
      have hr1 := wi_res h0'
      rw [show Z.length = z.length by rw [hzZ]] at hr1
      have hp : -9223372036854775808 ≤ ((2 ^ z.length : Nat) : Int) - 2 ∧ ((2 ^ z.length : Nat) : Int) - 2 ≤ 9223372036854775807 := by
        have : 2 ^ z.length ≤ 2 ^ 4 := Nat.pow_le_pow_right (by decide) hz4
        generalize 2 ^ z.length = q at *; omega
      refine KC.skip ?_
      refine thenK_n ?_
      refine KC.seq ?_
      refine KC.seq ?_
      refine KC.region ?_
      refine KT.step rfl rfl (K.move rfl) ?_
      refine KT.step rfl rfl (K.move rfl) ?_
      refine KT.step rfl rfl (K.call1 rfl plainTry_16 (few16 hd hl hr)) ?_
      refine KT.step rfl rfl (K.call2 rfl rfl plainTry_29 (Includes29 (z := dlZ Z) (resD_mat (e := dlE Z) (n := Z.length) (a := delM Z.length (tightM Z.length (zf Z)))) (resZ_len (kz.1) _).1 (resZ_len (kz.1) _).2 hmz fz.1 fz.2)) ?_
      refine KT.step rfl rfl (K.move rfl) ?_
      refine KT.step rfl rfl (K.extract rfl rfl) ?_
      refine KT.step rfl rfl (K.extract rfl rfl) ?_
      refine KT.step rfl rfl (K.assign rfl) ?_
      refine KT.step rfl rfl (K.assign rfl) ?_
      refine KT.nil ?_
      refine thenK_n ?_
      refine KC.seq ?_
      refine KC.region ?_
      refine KT.step rfl rfl (K.move rfl) ?_
      refine KT.step rfl rfl (K.eql rfl rfl) ?_
      refine KT.step rfl rfl (K.move rfl) ?_
      refine KT.bcase (fun hb49 => ?_) (fun hb49 => ?_)
      · skip
        replace hb49 := of_decide_eq_true hb49
        refine KT.step rfl rfl (K.move rfl) ?_
        refine KT.step rfl rfl (K.not rfl) ?_
        refine KT.step rfl rfl (K.pick rfl (fun _ => rfl) (fun h => by cases h)) ?_
        refine KT.step rfl rfl (K.move rfl) ?_
        refine KT.bcase (fun hb53 => ?_) (fun hb53 => ?_)
        · skip
          rw [Bool.not_eq_true'] at hb53
          exact Bool.noConfusion (hb53.symm.trans (ht.1 hb49))
        · skip
          refine KT.step rfl rfl (K.move rfl) ?_
          refine KT.step rfl rfl (K.neq rfl rfl) ?_
          refine KT.step rfl rfl (K.move rfl) ?_
          refine KT.bcase (fun hb56 => ?_) (fun hb56 => ?_)
          · skip
            exact absurd hb49 (of_decide_eq_true hb56)
          · skip
            replace hb56 := of_decide_eq_false hb56
            refine KT.skip rfl rfl ?_
            refine KT.skip rfl rfl ?_
            refine KT.step rfl rfl (K.pick rfl (fun h => by cases h) (fun _ => rfl)) ?_
            refine KT.step rfl rfl (K.pick rfl (fun h => by cases h) (fun _ => rfl)) ?_
            refine KT.nil ?_
            refine thenK_n ?_
            refine KC.cond rfl (fun hc60 => ?_) (fun hc60 => ?_)
            · cases hc60
            · skip
              refine KC.skip ?_
              refine thenK_n ?_
              refine KC.seq ?_
              refine KC.seq ?_
              refine KC.draw Try.mixed ?_
              refine KT.step rfl rfl (K.move rfl) ?_
              refine KT.step rfl rfl (K.call1 rfl plainTry_16 (few16 hd hl hr)) ?_
              refine KT.step rfl rfl (K.fieldAddrO rfl Try.fld36_0 Try.size3) ?_
              refine KT.step rfl rfl (K.loadO rfl rfl (by simp) rfl Try.agg3) ?_
              refine KT.step rfl rfl (K.fieldAddrO rfl Try.fld36_1 Try.size3) ?_
              refine KT.step rfl rfl (K.loadO rfl rfl (by simp) rfl Try.agg3) ?_
              refine KT.step rfl rfl (K.fieldAddrO rfl Try.fld36_2 Try.size3) ?_
              refine KT.step rfl rfl (K.loadO rfl rfl (by simp) rfl Try.agg3) ?_
              refine KT.step rfl rfl (K.buildL rfl (build38 _ _ _)) ?_
              refine KT.step rfl rfl (K.call2 rfl rfl plainTry_23 (And23_lit hmz fz.1 fz.2)) ?_
              refine KT.step rfl rfl (K.move rfl) ?_
              refine KT.step rfl rfl (K.extract rfl rfl) ?_
              refine KT.step rfl rfl (K.extract rfl rfl) ?_
              refine KT.step rfl rfl (K.assign rfl) ?_
              refine KT.step rfl rfl (K.assign rfl) ?_
              refine KT.nil ?_
              refine ⟨by kernel_rfl, ?_⟩
              refine thenK_n ?_
              refine KC.seq ?_
              refine KC.region ?_
              refine KT.step rfl rfl (K.move rfl) ?_
              refine KT.step rfl rfl (K.eql rfl rfl) ?_
              refine KT.step rfl rfl (K.move rfl) ?_
              refine KT.bcase (fun hb76 => ?_) (fun hb76 => ?_)
              · skip
                replace hb76 := of_decide_eq_true hb76
                refine KT.step rfl rfl (K.move rfl) ?_
                refine KT.step rfl rfl (K.call1 rfl plainTry_36 (Valid36 (z := anZ Z gi gj gb) (resD_mat (e := anE Z gi gj gb) (n := Z.length) (a := tightM Z.length (andM Z gi.toNat gj.toNat gb))) (resZ_len (kz.1) _).1 (resZ_len (kz.1) _).2)) ?_
                refine KT.step rfl rfl (K.pick rfl (fun _ => rfl) (fun h => by cases h)) ?_
                refine KT.nil ?_
                refine thenK_n ?_
                refine KC.cond rfl (fun hc79 => ?_) (fun hc79 => ?_)
                · skip
                  have ha := wi_and hb76 hc79
                  refine KC.seq ?_
                  refine KC.region ?_
                  refine KT.step rfl rfl (K.move rfl) ?_
                  refine KT.step rfl rfl (K.call1 rfl plainTry_16 (few16 hd hl hr)) ?_
                  refine KT.step rfl rfl (K.move rfl) ?_
                  refine KT.step rfl rfl (K.call2 rfl rfl plainTry_29 (Includes29 (w := anZ Z gi gj gb) hmz fz.1 fz.2 (resD_mat (e := anE Z gi gj gb) (n := Z.length) (a := tightM Z.length (andM Z gi.toNat gj.toNat gb))) (resZ_len (kz.1) _).1 (resZ_len (kz.1) _).2)) ?_
                  refine KT.step rfl rfl (K.move rfl) ?_
                  refine KT.step rfl rfl (K.extract rfl rfl) ?_
                  refine KT.step rfl rfl (K.extract rfl rfl) ?_
                  refine KT.step rfl rfl (K.assign rfl) ?_
                  refine KT.step rfl rfl (K.assign rfl) ?_
                  refine KT.nil ?_
                  refine thenK_n ?_
                  refine KC.seq ?_
                  refine KC.region ?_
                  refine KT.step rfl rfl (K.move rfl) ?_
                  refine KT.step rfl rfl (K.neq rfl rfl) ?_
                  refine KT.step rfl rfl (K.move rfl) ?_
                  refine KT.bcase (fun hb89 => ?_) (fun hb89 => ?_)
                  · skip
                    exact absurd ha.1 (of_decide_eq_true hb89)
                  · skip
                    replace hb89 := of_decide_eq_false hb89
                    refine KT.step rfl rfl (K.move rfl) ?_
                    refine KT.step rfl rfl (K.not rfl) ?_
                    refine KT.step rfl rfl (K.pick rfl (fun h => by cases h) (fun _ => rfl)) ?_
                    refine KT.nil ?_
                    refine thenK_n ?_
                    refine KC.cond rfl (fun hc92 => ?_) (fun hc92 => ?_)
                    · skip
                      rw [Bool.not_eq_true'] at hc92
                      exact Bool.noConfusion (hc92.symm.trans ha.2)
                    · skip
                      refine KC.skip ?_
                      refine thenK_n ?_
                      refine KC.seq ?_
                      refine KC.draw Try.mixed ?_
                      refine KT.step rfl rfl (K.move rfl) ?_
                      refine KT.step rfl rfl (K.call1 rfl plainTry_16 (few16 hd hl hr)) ?_
                      refine KT.step rfl rfl (K.move rfl) ?_
                      refine KT.step rfl rfl (K.len rfl hd Try.underlying22) ?_
                      refine KT.step rfl rfl (K.shl rfl rfl (by omega) (shlI (by omega))) ?_
                      refine KT.step rfl rfl (K.sub rfl rfl (wrap_id hp)) ?_
                      refine KT.step rfl rfl (K.call2 rfl rfl plainTry_27 (Reset27 hmz fz.1 fz.2 kz.1)) ?_
                      refine KT.step rfl rfl (K.move rfl) ?_
                      refine KT.step rfl rfl (K.extract rfl rfl) ?_
                      refine KT.step rfl rfl (K.extract rfl rfl) ?_
                      refine KT.step rfl rfl (K.assign rfl) ?_
                      refine KT.step rfl rfl (K.assign rfl) ?_
                      refine KT.nil ?_
                      refine ⟨by kernel_rfl, ?_⟩
                      refine thenK_n ?_
                      refine KC.seq ?_
                      refine KC.seq ?_
                      refine KC.region ?_
                      refine KT.step rfl rfl (K.move rfl) ?_
                      refine KT.step rfl rfl (K.len (l := rsZ Z (((2 ^ z.length : Nat) : Int) - 2)) rfl (resD_mat (e := rsE Z (((2 ^ z.length : Nat) : Int) - 2)) (n := Z.length) (a := resM Z.length ((((2 ^ z.length : Nat) : Int) - 2)).toNat (tightM Z.length (zf Z)))) Try.underlying22) ?_
                      refine KT.step rfl rfl (K.move rfl) ?_
                      refine KT.nil ?_
                      refine thenK_n ?_
                      refine KC.block ?_
                      have hR6 : (rsZ Z (((2 ^ z.length : Nat) : Int) - 2)).length ≤ 6 := rsZ_le kz.1
                      refine KC.loop (fun _ : Nat => [⟨[.d (DI gi), .d (DI gj), .d (DI gb)], 0⟩]) (fun i => [(0, .d d), (6, .d (DI (rsE Z (((2 ^ z.length : Nat) : Int) - 2)))), (13, .d (resD (rsE Z (((2 ^ z.length : Nat) : Int) - 2)) Z.length (resM Z.length ((((2 ^ z.length : Nat) : Int) - 2)).toNat (tightM Z.length (zf Z))))), (103, .d (resD (rsE Z (((2 ^ z.length : Nat) : Int) - 2)) Z.length (resM Z.length ((((2 ^ z.length : Nat) : Int) - 2)).toNat (tightM Z.length (zf Z))))), (104, .d (DI ((rsZ Z (((2 ^ z.length : Nat) : Int) - 2)).length : Nat))), (105, .d (DI (i : Nat)))]) (fun i => i ≤ (rsZ Z (((2 ^ z.length : Nat) : Int) - 2)).length) (fun i => (rsZ Z (((2 ^ z.length : Nat) : Int) - 2)).length - i) 0 (Nat.zero_le _) rfl (by simp [Go.Vm.look, extK, enterK]) ?_
                      intro i hi
                      refine KC.seq ?_
                      refine KC.region ?_
                      refine KT.step rfl rfl (K.lss rfl rfl) ?_
                      refine KT.nil ?_
                      refine thenK_n ?_
                      refine KC.seq ?_
                      refine KC.cond rfl (fun hc106 => ?_) (fun hc106 => ?_)
                      · skip
                        replace hc106 := of_decide_eq_true hc106
                        have hil : i < (rsZ Z (((2 ^ z.length : Nat) : Int) - 2)).length := by omega
                        refine KC.skip ?_
                        refine thenK_n ?_
                        refine KC.seq ?_
                        refine KC.block ?_
                        refine KC.seq ?_
                        refine KC.region ?_
                        have hmr : Mat (resD (rsE Z (((2 ^ z.length : Nat) : Int) - 2)) Z.length (resM Z.length ((((2 ^ z.length : Nat) : Int) - 2)).toNat (tightM Z.length (zf Z)))) (rsZ Z (((2 ^ z.length : Nat) : Int) - 2)) := (resD_mat (e := rsE Z (((2 ^ z.length : Nat) : Int) - 2)) (n := Z.length) (a := resM Z.length ((((2 ^ z.length : Nat) : Int) - 2)).toNat (tightM Z.length (zf Z))))
                        refine KT.idx rfl rfl rfl hmr rfl hil Try.underlying22 Try.size23 fun c107 cs107 hq107 => ?_
                        refine KT.step rfl rfl (K.load rfl Try.agg23) ?_
                        refine KT.step rfl rfl (K.assign rfl) ?_
                        refine KT.nil ?_
                        refine thenK_n ?_
                        refine KC.seq ?_
                        refine KC.region ?_
                        refine KT.step rfl rfl (K.move rfl) ?_
                        refine KT.step rfl rfl (K.len rfl hq107 Try.underlying23) ?_
                        refine KT.step rfl rfl (K.move rfl) ?_
                        refine KT.nil ?_
                        refine thenK_n ?_
                        refine KC.block ?_
                        have hrl : ((rsZ Z (((2 ^ z.length : Nat) : Int) - 2))[i]).length ≤ 9223372036854775807 := (resZ_len (e := rsE Z (((2 ^ z.length : Nat) : Int) - 2)) (kz.1) (resM Z.length ((((2 ^ z.length : Nat) : Int) - 2)).toNat (tightM Z.length (zf Z)))).2 _ (List.getElem_mem hil)
                        refine KC.loop (fun _ : Nat => [⟨[.d (DI gi), .d (DI gj), .d (DI gb)], 0⟩]) (fun j => [(0, .d d), (6, .d (DI (rsE Z (((2 ^ z.length : Nat) : Int) - 2)))), (13, .d (resD (rsE Z (((2 ^ z.length : Nat) : Int) - 2)) Z.length (resM Z.length ((((2 ^ z.length : Nat) : Int) - 2)).toNat (tightM Z.length (zf Z))))), (103, .d (resD (rsE Z (((2 ^ z.length : Nat) : Int) - 2)) Z.length (resM Z.length ((((2 ^ z.length : Nat) : Int) - 2)).toNat (tightM Z.length (zf Z))))), (104, .d (DI ((rsZ Z (((2 ^ z.length : Nat) : Int) - 2)).length : Nat))), (105, .d (DI (i : Nat))), (109, .d c107), (110, .d (DI (((rsZ Z (((2 ^ z.length : Nat) : Int) - 2))[i]).length : Nat))), (111, .d (DI (j : Nat)))]) (fun j => j ≤ ((rsZ Z (((2 ^ z.length : Nat) : Int) - 2))[i]).length) (fun j => ((rsZ Z (((2 ^ z.length : Nat) : Int) - 2))[i]).length - j) 0 (Nat.zero_le _) rfl (by simp [Go.Vm.look, extK, enterK]) ?_
                        intro j hj
                        refine KC.seq ?_
                        refine KC.region ?_
                        refine KT.step rfl rfl (K.lss rfl rfl) ?_
                        refine KT.nil ?_
                        refine thenK_n ?_
                        refine KC.seq ?_
                        refine KC.cond rfl (fun hc112 => ?_) (fun hc112 => ?_)
                        · skip
                          replace hc112 := of_decide_eq_true hc112
                          refine KC.skip ?_
                          refine thenK_n ?_
                          refine KC.seq ?_
                          refine KC.block ?_
                          refine KC.seq ?_
                          refine KC.region ?_
                          refine KT.idxI rfl rfl rfl (by assumption) rfl (by omega) Try.underlying23 Try.size3 fun cs113 => ?_
                          refine KT.step rfl rfl (K.load rfl Try.agg3) ?_
                          refine KT.step rfl rfl (K.assign rfl) ?_
                          refine KT.nil ?_
                          refine thenK_n ?_
                          refine KC.seq ?_
                          refine KC.region ?_
                          refine KT.step rfl rfl (K.move rfl) ?_
                          refine KT.step rfl rfl (K.neq rfl rfl) ?_
                          refine KT.nil ?_
                          refine thenK_n ?_
                          refine KC.cond rfl (fun hc116 => ?_) (fun hc116 => ?_)
                          · skip
                            exact absurd (hr1.2.2 _ (List.getElem_mem hil) _ (List.getElem_mem (by omega))) (of_decide_eq_true hc116)
                          · skip
                            replace hc116 := of_decide_eq_false hc116
                            refine KC.skip ?_
                            refine blockK_n ?_
                            refine thenK_n ?_
                            refine KC.region ?_
                            refine KT.step rfl rfl (K.add rfl rfl (wrap_id (by omega))) ?_
                            refine KT.step rfl rfl (K.move rfl) ?_
                            refine KT.nil ?_
                            refine thenK_n ?_
                            refine ⟨j + 1, by omega, by omega, rfl, by simp [Go.Vm.look, extK]⟩
                        · skip
                          replace hc112 := of_decide_eq_false hc112
                          refine KC.exit ?_
                          refine thenK_x ?_
                          refine thenK_x ?_
                          refine blockK_e ?_
                          refine blockK_n ?_
                          refine thenK_n ?_
                          refine KC.region ?_
                          refine KT.step rfl rfl (K.add rfl rfl (wrap_id (by omega))) ?_
                          refine KT.step rfl rfl (K.move rfl) ?_
                          refine KT.nil ?_
                          refine thenK_n ?_
                          refine ⟨i + 1, by omega, by omega, rfl, by simp [Go.Vm.look, extK]⟩
                      · skip
                        replace hc106 := of_decide_eq_false hc106
                        refine KC.exit ?_
                        refine thenK_x ?_
                        refine thenK_x ?_
                        refine blockK_e ?_
                        refine thenK_n ?_
                        refine KC.seq ?_
                        refine KC.region ?_
                        refine KT.step rfl rfl (K.move rfl) ?_
                        refine KT.step rfl rfl (K.eql rfl rfl) ?_
                        refine KT.step rfl rfl (K.move rfl) ?_
                        refine KT.bcase (fun hb121 => ?_) (fun hb121 => ?_)
                        · skip
                          replace hb121 := of_decide_eq_true hb121
                          refine KT.step rfl rfl (K.move rfl) ?_
                          refine KT.step rfl rfl (K.len (l := rsZ Z (((2 ^ z.length : Nat) : Int) - 2)) rfl (resD_mat (e := rsE Z (((2 ^ z.length : Nat) : Int) - 2)) (n := Z.length) (a := resM Z.length ((((2 ^ z.length : Nat) : Int) - 2)).toNat (tightM Z.length (zf Z)))) Try.underlying22) ?_
                          refine KT.step rfl rfl (K.move rfl) ?_
                          refine KT.step rfl rfl (K.len rfl hd Try.underlying22) ?_
                          refine KT.step rfl rfl (K.eql rfl rfl) ?_
                          refine KT.step rfl rfl (K.pick rfl (fun _ => rfl) (fun h => by cases h)) ?_
                          refine KT.step rfl rfl (K.move rfl) ?_
                          refine KT.bcase (fun hb128 => ?_) (fun hb128 => ?_)
                          · skip
                            replace hb128 := of_decide_eq_true hb128
                            refine KT.step rfl rfl (K.call0 plainTry_21 (awake21)) ?_
                            refine KT.step rfl rfl (K.pick rfl (fun _ => rfl) (fun h => by cases h)) ?_
                            refine KT.step rfl rfl (K.assign rfl) ?_
                            refine KT.nil ?_
                            refine thenK_n ?_
                            refine KC.ret ?_
                            exact ⟨.inl rfl, _, rfl, rfl⟩
                          · skip
                            replace hb128 := of_decide_eq_false hb128
                            have := hr1.2.1
                            omega
                        · skip
                          exact absurd hr1.1 (of_decide_eq_false hb121)
                · skip
                  refine KC.skip ?_
                  refine thenK_n ?_
                  refine KC.seq ?_
                  refine KC.draw Try.mixed ?_
                  refine KT.step rfl rfl (K.move rfl) ?_
                  refine KT.step rfl rfl (K.call1 rfl plainTry_16 (few16 hd hl hr)) ?_
                  refine KT.step rfl rfl (K.move rfl) ?_
                  refine KT.step rfl rfl (K.len rfl hd Try.underlying22) ?_
                  refine KT.step rfl rfl (K.shl rfl rfl (by omega) (shlI (by omega))) ?_
                  refine KT.step rfl rfl (K.sub rfl rfl (wrap_id hp)) ?_
                  refine KT.step rfl rfl (K.call2 rfl rfl plainTry_27 (Reset27 hmz fz.1 fz.2 kz.1)) ?_
                  refine KT.step rfl rfl (K.move rfl) ?_
                  refine KT.step rfl rfl (K.extract rfl rfl) ?_
                  refine KT.step rfl rfl (K.extract rfl rfl) ?_
                  refine KT.step rfl rfl (K.assign rfl) ?_
                  refine KT.step rfl rfl (K.assign rfl) ?_
                  refine KT.nil ?_
                  refine ⟨by kernel_rfl, ?_⟩
                  refine thenK_n ?_
                  refine KC.seq ?_
                  refine KC.seq ?_
                  refine KC.region ?_
                  refine KT.step rfl rfl (K.move rfl) ?_
                  refine KT.step rfl rfl (K.len (l := rsZ Z (((2 ^ z.length : Nat) : Int) - 2)) rfl (resD_mat (e := rsE Z (((2 ^ z.length : Nat) : Int) - 2)) (n := Z.length) (a := resM Z.length ((((2 ^ z.length : Nat) : Int) - 2)).toNat (tightM Z.length (zf Z)))) Try.underlying22) ?_
                  refine KT.step rfl rfl (K.move rfl) ?_
                  refine KT.nil ?_
                  refine thenK_n ?_
                  refine KC.block ?_
                  have hR6 : (rsZ Z (((2 ^ z.length : Nat) : Int) - 2)).length ≤ 6 := rsZ_le kz.1
                  refine KC.loop (fun _ : Nat => [⟨[.d (DI gi), .d (DI gj), .d (DI gb)], 0⟩]) (fun i => [(0, .d d), (6, .d (DI (rsE Z (((2 ^ z.length : Nat) : Int) - 2)))), (13, .d (resD (rsE Z (((2 ^ z.length : Nat) : Int) - 2)) Z.length (resM Z.length ((((2 ^ z.length : Nat) : Int) - 2)).toNat (tightM Z.length (zf Z))))), (103, .d (resD (rsE Z (((2 ^ z.length : Nat) : Int) - 2)) Z.length (resM Z.length ((((2 ^ z.length : Nat) : Int) - 2)).toNat (tightM Z.length (zf Z))))), (104, .d (DI ((rsZ Z (((2 ^ z.length : Nat) : Int) - 2)).length : Nat))), (105, .d (DI (i : Nat)))]) (fun i => i ≤ (rsZ Z (((2 ^ z.length : Nat) : Int) - 2)).length) (fun i => (rsZ Z (((2 ^ z.length : Nat) : Int) - 2)).length - i) 0 (Nat.zero_le _) rfl (by simp [Go.Vm.look, extK, enterK]) ?_
                  intro i hi
                  refine KC.seq ?_
                  refine KC.region ?_
                  refine KT.step rfl rfl (K.lss rfl rfl) ?_
                  refine KT.nil ?_
                  refine thenK_n ?_
                  refine KC.seq ?_
                  refine KC.cond rfl (fun hc106 => ?_) (fun hc106 => ?_)
                  · skip
                    replace hc106 := of_decide_eq_true hc106
                    have hil : i < (rsZ Z (((2 ^ z.length : Nat) : Int) - 2)).length := by omega
                    refine KC.skip ?_
                    refine thenK_n ?_
                    refine KC.seq ?_
                    refine KC.block ?_
                    refine KC.seq ?_
                    refine KC.region ?_
                    have hmr : Mat (resD (rsE Z (((2 ^ z.length : Nat) : Int) - 2)) Z.length (resM Z.length ((((2 ^ z.length : Nat) : Int) - 2)).toNat (tightM Z.length (zf Z)))) (rsZ Z (((2 ^ z.length : Nat) : Int) - 2)) := (resD_mat (e := rsE Z (((2 ^ z.length : Nat) : Int) - 2)) (n := Z.length) (a := resM Z.length ((((2 ^ z.length : Nat) : Int) - 2)).toNat (tightM Z.length (zf Z))))
                    refine KT.idx rfl rfl rfl hmr rfl hil Try.underlying22 Try.size23 fun c107 cs107 hq107 => ?_
                    refine KT.step rfl rfl (K.load rfl Try.agg23) ?_
                    refine KT.step rfl rfl (K.assign rfl) ?_
                    refine KT.nil ?_
                    refine thenK_n ?_
                    refine KC.seq ?_
                    refine KC.region ?_
                    refine KT.step rfl rfl (K.move rfl) ?_
                    refine KT.step rfl rfl (K.len rfl hq107 Try.underlying23) ?_
                    refine KT.step rfl rfl (K.move rfl) ?_
                    refine KT.nil ?_
                    refine thenK_n ?_
                    refine KC.block ?_
                    have hrl : ((rsZ Z (((2 ^ z.length : Nat) : Int) - 2))[i]).length ≤ 9223372036854775807 := (resZ_len (e := rsE Z (((2 ^ z.length : Nat) : Int) - 2)) (kz.1) (resM Z.length ((((2 ^ z.length : Nat) : Int) - 2)).toNat (tightM Z.length (zf Z)))).2 _ (List.getElem_mem hil)
                    refine KC.loop (fun _ : Nat => [⟨[.d (DI gi), .d (DI gj), .d (DI gb)], 0⟩]) (fun j => [(0, .d d), (6, .d (DI (rsE Z (((2 ^ z.length : Nat) : Int) - 2)))), (13, .d (resD (rsE Z (((2 ^ z.length : Nat) : Int) - 2)) Z.length (resM Z.length ((((2 ^ z.length : Nat) : Int) - 2)).toNat (tightM Z.length (zf Z))))), (103, .d (resD (rsE Z (((2 ^ z.length : Nat) : Int) - 2)) Z.length (resM Z.length ((((2 ^ z.length : Nat) : Int) - 2)).toNat (tightM Z.length (zf Z))))), (104, .d (DI ((rsZ Z (((2 ^ z.length : Nat) : Int) - 2)).length : Nat))), (105, .d (DI (i : Nat))), (109, .d c107), (110, .d (DI (((rsZ Z (((2 ^ z.length : Nat) : Int) - 2))[i]).length : Nat))), (111, .d (DI (j : Nat)))]) (fun j => j ≤ ((rsZ Z (((2 ^ z.length : Nat) : Int) - 2))[i]).length) (fun j => ((rsZ Z (((2 ^ z.length : Nat) : Int) - 2))[i]).length - j) 0 (Nat.zero_le _) rfl (by simp [Go.Vm.look, extK, enterK]) ?_
                    intro j hj
                    refine KC.seq ?_
                    refine KC.region ?_
                    refine KT.step rfl rfl (K.lss rfl rfl) ?_
                    refine KT.nil ?_
                    refine thenK_n ?_
                    refine KC.seq ?_
                    refine KC.cond rfl (fun hc112 => ?_) (fun hc112 => ?_)
                    · skip
                      replace hc112 := of_decide_eq_true hc112
                      refine KC.skip ?_
                      refine thenK_n ?_
                      refine KC.seq ?_
                      refine KC.block ?_
                      refine KC.seq ?_
                      refine KC.region ?_
                      refine KT.idxI rfl rfl rfl (by assumption) rfl (by omega) Try.underlying23 Try.size3 fun cs113 => ?_
                      refine KT.step rfl rfl (K.load rfl Try.agg3) ?_
                      refine KT.step rfl rfl (K.assign rfl) ?_
                      refine KT.nil ?_
                      refine thenK_n ?_
                      refine KC.seq ?_
                      refine KC.region ?_
                      refine KT.step rfl rfl (K.move rfl) ?_
                      refine KT.step rfl rfl (K.neq rfl rfl) ?_
                      refine KT.nil ?_
                      refine thenK_n ?_
                      refine KC.cond rfl (fun hc116 => ?_) (fun hc116 => ?_)
                      · skip
                        exact absurd (hr1.2.2 _ (List.getElem_mem hil) _ (List.getElem_mem (by omega))) (of_decide_eq_true hc116)
                      · skip
                        replace hc116 := of_decide_eq_false hc116
                        refine KC.skip ?_
                        refine blockK_n ?_
                        refine thenK_n ?_
                        refine KC.region ?_
                        refine KT.step rfl rfl (K.add rfl rfl (wrap_id (by omega))) ?_
                        refine KT.step rfl rfl (K.move rfl) ?_
                        refine KT.nil ?_
                        refine thenK_n ?_
                        refine ⟨j + 1, by omega, by omega, rfl, by simp [Go.Vm.look, extK]⟩
                    · skip
                      replace hc112 := of_decide_eq_false hc112
                      refine KC.exit ?_
                      refine thenK_x ?_
                      refine thenK_x ?_
                      refine blockK_e ?_
                      refine blockK_n ?_
                      refine thenK_n ?_
                      refine KC.region ?_
                      refine KT.step rfl rfl (K.add rfl rfl (wrap_id (by omega))) ?_
                      refine KT.step rfl rfl (K.move rfl) ?_
                      refine KT.nil ?_
                      refine thenK_n ?_
                      refine ⟨i + 1, by omega, by omega, rfl, by simp [Go.Vm.look, extK]⟩
                  · skip
                    replace hc106 := of_decide_eq_false hc106
                    refine KC.exit ?_
                    refine thenK_x ?_
                    refine thenK_x ?_
                    refine blockK_e ?_
                    refine thenK_n ?_
                    refine KC.seq ?_
                    refine KC.region ?_
                    refine KT.step rfl rfl (K.move rfl) ?_
                    refine KT.step rfl rfl (K.eql rfl rfl) ?_
                    refine KT.step rfl rfl (K.move rfl) ?_
                    refine KT.bcase (fun hb121 => ?_) (fun hb121 => ?_)
                    · skip
                      replace hb121 := of_decide_eq_true hb121
                      refine KT.step rfl rfl (K.move rfl) ?_
                      refine KT.step rfl rfl (K.len (l := rsZ Z (((2 ^ z.length : Nat) : Int) - 2)) rfl (resD_mat (e := rsE Z (((2 ^ z.length : Nat) : Int) - 2)) (n := Z.length) (a := resM Z.length ((((2 ^ z.length : Nat) : Int) - 2)).toNat (tightM Z.length (zf Z)))) Try.underlying22) ?_
                      refine KT.step rfl rfl (K.move rfl) ?_
                      refine KT.step rfl rfl (K.len rfl hd Try.underlying22) ?_
                      refine KT.step rfl rfl (K.eql rfl rfl) ?_
                      refine KT.step rfl rfl (K.pick rfl (fun _ => rfl) (fun h => by cases h)) ?_
                      refine KT.step rfl rfl (K.move rfl) ?_
                      refine KT.bcase (fun hb128 => ?_) (fun hb128 => ?_)
                      · skip
                        replace hb128 := of_decide_eq_true hb128
                        refine KT.step rfl rfl (K.call0 plainTry_21 (awake21)) ?_
                        refine KT.step rfl rfl (K.pick rfl (fun _ => rfl) (fun h => by cases h)) ?_
                        refine KT.step rfl rfl (K.assign rfl) ?_
                        refine KT.nil ?_
                        refine thenK_n ?_
                        refine KC.ret ?_
                        exact ⟨.inl rfl, _, rfl, rfl⟩
                      · skip
                        replace hb128 := of_decide_eq_false hb128
                        have := hr1.2.1
                        omega
                    · skip
                      exact absurd hr1.1 (of_decide_eq_false hb121)
              · skip
                replace hb76 := of_decide_eq_false hb76
                refine KT.skip rfl rfl ?_
                refine KT.skip rfl rfl ?_
                refine KT.step rfl rfl (K.pick rfl (fun h => by cases h) (fun _ => rfl)) ?_
                refine KT.nil ?_
                refine thenK_n ?_
                refine KC.cond rfl (fun hc79 => ?_) (fun hc79 => ?_)
                · cases hc79
                · skip
                  refine KC.skip ?_
                  refine thenK_n ?_
                  refine KC.seq ?_
                  refine KC.draw Try.mixed ?_
                  refine KT.step rfl rfl (K.move rfl) ?_
                  refine KT.step rfl rfl (K.call1 rfl plainTry_16 (few16 hd hl hr)) ?_
                  refine KT.step rfl rfl (K.move rfl) ?_
                  refine KT.step rfl rfl (K.len rfl hd Try.underlying22) ?_
                  refine KT.step rfl rfl (K.shl rfl rfl (by omega) (shlI (by omega))) ?_
                  refine KT.step rfl rfl (K.sub rfl rfl (wrap_id hp)) ?_
                  refine KT.step rfl rfl (K.call2 rfl rfl plainTry_27 (Reset27 hmz fz.1 fz.2 kz.1)) ?_
                  refine KT.step rfl rfl (K.move rfl) ?_
                  refine KT.step rfl rfl (K.extract rfl rfl) ?_
                  refine KT.step rfl rfl (K.extract rfl rfl) ?_
                  refine KT.step rfl rfl (K.assign rfl) ?_
                  refine KT.step rfl rfl (K.assign rfl) ?_
                  refine KT.nil ?_
                  refine ⟨by kernel_rfl, ?_⟩
                  refine thenK_n ?_
                  refine KC.seq ?_
                  refine KC.seq ?_
                  refine KC.region ?_
                  refine KT.step rfl rfl (K.move rfl) ?_
                  refine KT.step rfl rfl (K.len (l := rsZ Z (((2 ^ z.length : Nat) : Int) - 2)) rfl (resD_mat (e := rsE Z (((2 ^ z.length : Nat) : Int) - 2)) (n := Z.length) (a := resM Z.length ((((2 ^ z.length : Nat) : Int) - 2)).toNat (tightM Z.length (zf Z)))) Try.underlying22) ?_
                  refine KT.step rfl rfl (K.move rfl) ?_
                  refine KT.nil ?_
                  refine thenK_n ?_
                  refine KC.block ?_
                  have hR6 : (rsZ Z (((2 ^ z.length : Nat) : Int) - 2)).length ≤ 6 := rsZ_le kz.1
                  refine KC.loop (fun _ : Nat => [⟨[.d (DI gi), .d (DI gj), .d (DI gb)], 0⟩]) (fun i => [(0, .d d), (6, .d (DI (rsE Z (((2 ^ z.length : Nat) : Int) - 2)))), (13, .d (resD (rsE Z (((2 ^ z.length : Nat) : Int) - 2)) Z.length (resM Z.length ((((2 ^ z.length : Nat) : Int) - 2)).toNat (tightM Z.length (zf Z))))), (103, .d (resD (rsE Z (((2 ^ z.length : Nat) : Int) - 2)) Z.length (resM Z.length ((((2 ^ z.length : Nat) : Int) - 2)).toNat (tightM Z.length (zf Z))))), (104, .d (DI ((rsZ Z (((2 ^ z.length : Nat) : Int) - 2)).length : Nat))), (105, .d (DI (i : Nat)))]) (fun i => i ≤ (rsZ Z (((2 ^ z.length : Nat) : Int) - 2)).length) (fun i => (rsZ Z (((2 ^ z.length : Nat) : Int) - 2)).length - i) 0 (Nat.zero_le _) rfl (by simp [Go.Vm.look, extK, enterK]) ?_
                  intro i hi
                  refine KC.seq ?_
                  refine KC.region ?_
                  refine KT.step rfl rfl (K.lss rfl rfl) ?_
                  refine KT.nil ?_
                  refine thenK_n ?_
                  refine KC.seq ?_
                  refine KC.cond rfl (fun hc106 => ?_) (fun hc106 => ?_)
                  · skip
                    replace hc106 := of_decide_eq_true hc106
                    have hil : i < (rsZ Z (((2 ^ z.length : Nat) : Int) - 2)).length := by omega
                    refine KC.skip ?_
                    refine thenK_n ?_
                    refine KC.seq ?_
                    refine KC.block ?_
                    refine KC.seq ?_
                    refine KC.region ?_
                    have hmr : Mat (resD (rsE Z (((2 ^ z.length : Nat) : Int) - 2)) Z.length (resM Z.length ((((2 ^ z.length : Nat) : Int) - 2)).toNat (tightM Z.length (zf Z)))) (rsZ Z (((2 ^ z.length : Nat) : Int) - 2)) := (resD_mat (e := rsE Z (((2 ^ z.length : Nat) : Int) - 2)) (n := Z.length) (a := resM Z.length ((((2 ^ z.length : Nat) : Int) - 2)).toNat (tightM Z.length (zf Z))))
                    refine KT.idx rfl rfl rfl hmr rfl hil Try.underlying22 Try.size23 fun c107 cs107 hq107 => ?_
                    refine KT.step rfl rfl (K.load rfl Try.agg23) ?_
                    refine KT.step rfl rfl (K.assign rfl) ?_
                    refine KT.nil ?_
                    refine thenK_n ?_
                    refine KC.seq ?_
                    refine KC.region ?_
                    refine KT.step rfl rfl (K.move rfl) ?_
                    refine KT.step rfl rfl (K.len rfl hq107 Try.underlying23) ?_
                    refine KT.step rfl rfl (K.move rfl) ?_
                    refine KT.nil ?_
                    refine thenK_n ?_
                    refine KC.block ?_
                    have hrl : ((rsZ Z (((2 ^ z.length : Nat) : Int) - 2))[i]).length ≤ 9223372036854775807 := (resZ_len (e := rsE Z (((2 ^ z.length : Nat) : Int) - 2)) (kz.1) (resM Z.length ((((2 ^ z.length : Nat) : Int) - 2)).toNat (tightM Z.length (zf Z)))).2 _ (List.getElem_mem hil)
                    refine KC.loop (fun _ : Nat => [⟨[.d (DI gi), .d (DI gj), .d (DI gb)], 0⟩]) (fun j => [(0, .d d), (6, .d (DI (rsE Z (((2 ^ z.length : Nat) : Int) - 2)))), (13, .d (resD (rsE Z (((2 ^ z.length : Nat) : Int) - 2)) Z.length (resM Z.length ((((2 ^ z.length : Nat) : Int) - 2)).toNat (tightM Z.length (zf Z))))), (103, .d (resD (rsE Z (((2 ^ z.length : Nat) : Int) - 2)) Z.length (resM Z.length ((((2 ^ z.length : Nat) : Int) - 2)).toNat (tightM Z.length (zf Z))))), (104, .d (DI ((rsZ Z (((2 ^ z.length : Nat) : Int) - 2)).length : Nat))), (105, .d (DI (i : Nat))), (109, .d c107), (110, .d (DI (((rsZ Z (((2 ^ z.length : Nat) : Int) - 2))[i]).length : Nat))), (111, .d (DI (j : Nat)))]) (fun j => j ≤ ((rsZ Z (((2 ^ z.length : Nat) : Int) - 2))[i]).length) (fun j => ((rsZ Z (((2 ^ z.length : Nat) : Int) - 2))[i]).length - j) 0 (Nat.zero_le _) rfl (by simp [Go.Vm.look, extK, enterK]) ?_
                    intro j hj
                    refine KC.seq ?_
                    refine KC.region ?_
                    refine KT.step rfl rfl (K.lss rfl rfl) ?_
                    refine KT.nil ?_
                    refine thenK_n ?_
                    refine KC.seq ?_
                    refine KC.cond rfl (fun hc112 => ?_) (fun hc112 => ?_)
                    · skip
                      replace hc112 := of_decide_eq_true hc112
                      refine KC.skip ?_
                      refine thenK_n ?_
                      refine KC.seq ?_
                      refine KC.block ?_
                      refine KC.seq ?_
                      refine KC.region ?_
                      refine KT.idxI rfl rfl rfl (by assumption) rfl (by omega) Try.underlying23 Try.size3 fun cs113 => ?_
                      refine KT.step rfl rfl (K.load rfl Try.agg3) ?_
                      refine KT.step rfl rfl (K.assign rfl) ?_
                      refine KT.nil ?_
                      refine thenK_n ?_
                      refine KC.seq ?_
                      refine KC.region ?_
                      refine KT.step rfl rfl (K.move rfl) ?_
                      refine KT.step rfl rfl (K.neq rfl rfl) ?_
                      refine KT.nil ?_
                      refine thenK_n ?_
                      refine KC.cond rfl (fun hc116 => ?_) (fun hc116 => ?_)
                      · skip
                        exact absurd (hr1.2.2 _ (List.getElem_mem hil) _ (List.getElem_mem (by omega))) (of_decide_eq_true hc116)
                      · skip
                        replace hc116 := of_decide_eq_false hc116
                        refine KC.skip ?_
                        refine blockK_n ?_
                        refine thenK_n ?_
                        refine KC.region ?_
                        refine KT.step rfl rfl (K.add rfl rfl (wrap_id (by omega))) ?_
                        refine KT.step rfl rfl (K.move rfl) ?_
                        refine KT.nil ?_
                        refine thenK_n ?_
                        refine ⟨j + 1, by omega, by omega, rfl, by simp [Go.Vm.look, extK]⟩
                    · skip
                      replace hc112 := of_decide_eq_false hc112
                      refine KC.exit ?_
                      refine thenK_x ?_
                      refine thenK_x ?_
                      refine blockK_e ?_
                      refine blockK_n ?_
                      refine thenK_n ?_
                      refine KC.region ?_
                      refine KT.step rfl rfl (K.add rfl rfl (wrap_id (by omega))) ?_
                      refine KT.step rfl rfl (K.move rfl) ?_
                      refine KT.nil ?_
                      refine thenK_n ?_
                      refine ⟨i + 1, by omega, by omega, rfl, by simp [Go.Vm.look, extK]⟩
                  · skip
                    replace hc106 := of_decide_eq_false hc106
                    refine KC.exit ?_
                    refine thenK_x ?_
                    refine thenK_x ?_
                    refine blockK_e ?_
                    refine thenK_n ?_
                    refine KC.seq ?_
                    refine KC.region ?_
                    refine KT.step rfl rfl (K.move rfl) ?_
                    refine KT.step rfl rfl (K.eql rfl rfl) ?_
                    refine KT.step rfl rfl (K.move rfl) ?_
                    refine KT.bcase (fun hb121 => ?_) (fun hb121 => ?_)
                    · skip
                      replace hb121 := of_decide_eq_true hb121
                      refine KT.step rfl rfl (K.move rfl) ?_
                      refine KT.step rfl rfl (K.len (l := rsZ Z (((2 ^ z.length : Nat) : Int) - 2)) rfl (resD_mat (e := rsE Z (((2 ^ z.length : Nat) : Int) - 2)) (n := Z.length) (a := resM Z.length ((((2 ^ z.length : Nat) : Int) - 2)).toNat (tightM Z.length (zf Z)))) Try.underlying22) ?_
                      refine KT.step rfl rfl (K.move rfl) ?_
                      refine KT.step rfl rfl (K.len rfl hd Try.underlying22) ?_
                      refine KT.step rfl rfl (K.eql rfl rfl) ?_
                      refine KT.step rfl rfl (K.pick rfl (fun _ => rfl) (fun h => by cases h)) ?_
                      refine KT.step rfl rfl (K.move rfl) ?_
                      refine KT.bcase (fun hb128 => ?_) (fun hb128 => ?_)
                      · skip
                        replace hb128 := of_decide_eq_true hb128
                        refine KT.step rfl rfl (K.call0 plainTry_21 (awake21)) ?_
                        refine KT.step rfl rfl (K.pick rfl (fun _ => rfl) (fun h => by cases h)) ?_
                        refine KT.step rfl rfl (K.assign rfl) ?_
                        refine KT.nil ?_
                        refine thenK_n ?_
                        refine KC.ret ?_
                        exact ⟨.inl rfl, _, rfl, rfl⟩
                      · skip
                        replace hb128 := of_decide_eq_false hb128
                        have := hr1.2.1
                        omega
                    · skip
                      exact absurd hr1.1 (of_decide_eq_false hb121)
      · skip
        replace hb49 := of_decide_eq_false hb49
        refine KT.skip rfl rfl ?_
        refine KT.skip rfl rfl ?_
        refine KT.step rfl rfl (K.pick rfl (fun h => by cases h) (fun _ => rfl)) ?_
        refine KT.step rfl rfl (K.move rfl) ?_
        refine KT.step rfl rfl (K.move rfl) ?_
        refine KT.step rfl rfl (K.neq rfl rfl) ?_
        refine KT.step rfl rfl (K.move rfl) ?_
        refine KT.bcase (fun hb56 => ?_) (fun hb56 => ?_)
        · skip
          replace hb56 := of_decide_eq_true hb56
          refine KT.step rfl rfl (K.move rfl) ?_
          refine KT.step rfl rfl (K.call1 rfl plainTry_36 (Valid36 (z := dlZ Z) (resD_mat (e := dlE Z) (n := Z.length) (a := delM Z.length (tightM Z.length (zf Z)))) (resZ_len (kz.1) _).1 (resZ_len (kz.1) _).2)) ?_
          refine KT.step rfl rfl (K.pick rfl (fun _ => rfl) (fun h => by cases h)) ?_
          refine KT.step rfl rfl (K.pick rfl (fun h => by cases h) (fun _ => rfl)) ?_
          refine KT.nil ?_
          refine thenK_n ?_
          refine KC.cond rfl (fun hc60 => ?_) (fun hc60 => ?_)
          · skip
            exact Bool.noConfusion ((ht.2 hb49).symm.trans hc60)
          · skip
            refine KC.skip ?_
            refine thenK_n ?_
            refine KC.seq ?_
            refine KC.seq ?_
            refine KC.draw Try.mixed ?_
            refine KT.step rfl rfl (K.move rfl) ?_
            refine KT.step rfl rfl (K.call1 rfl plainTry_16 (few16 hd hl hr)) ?_
            refine KT.step rfl rfl (K.fieldAddrO rfl Try.fld36_0 Try.size3) ?_
            refine KT.step rfl rfl (K.loadO rfl rfl (by simp) rfl Try.agg3) ?_
            refine KT.step rfl rfl (K.fieldAddrO rfl Try.fld36_1 Try.size3) ?_
            refine KT.step rfl rfl (K.loadO rfl rfl (by simp) rfl Try.agg3) ?_
            refine KT.step rfl rfl (K.fieldAddrO rfl Try.fld36_2 Try.size3) ?_
            refine KT.step rfl rfl (K.loadO rfl rfl (by simp) rfl Try.agg3) ?_
            refine KT.step rfl rfl (K.buildL rfl (build38 _ _ _)) ?_
            refine KT.step rfl rfl (K.call2 rfl rfl plainTry_23 (And23_lit hmz fz.1 fz.2)) ?_
            refine KT.step rfl rfl (K.move rfl) ?_
            refine KT.step rfl rfl (K.extract rfl rfl) ?_
            refine KT.step rfl rfl (K.extract rfl rfl) ?_
            refine KT.step rfl rfl (K.assign rfl) ?_
            refine KT.step rfl rfl (K.assign rfl) ?_
            refine KT.nil ?_
            refine ⟨by kernel_rfl, ?_⟩
            refine thenK_n ?_
            refine KC.seq ?_
            refine KC.region ?_
            refine KT.step rfl rfl (K.move rfl) ?_
            refine KT.step rfl rfl (K.eql rfl rfl) ?_
            refine KT.step rfl rfl (K.move rfl) ?_
            refine KT.bcase (fun hb76 => ?_) (fun hb76 => ?_)
            · skip
              replace hb76 := of_decide_eq_true hb76
              refine KT.step rfl rfl (K.move rfl) ?_
              refine KT.step rfl rfl (K.call1 rfl plainTry_36 (Valid36 (z := anZ Z gi gj gb) (resD_mat (e := anE Z gi gj gb) (n := Z.length) (a := tightM Z.length (andM Z gi.toNat gj.toNat gb))) (resZ_len (kz.1) _).1 (resZ_len (kz.1) _).2)) ?_
              refine KT.step rfl rfl (K.pick rfl (fun _ => rfl) (fun h => by cases h)) ?_
              refine KT.nil ?_
              refine thenK_n ?_
              refine KC.cond rfl (fun hc79 => ?_) (fun hc79 => ?_)
              · skip
                have ha := wi_and hb76 hc79
                refine KC.seq ?_
                refine KC.region ?_
                refine KT.step rfl rfl (K.move rfl) ?_
                refine KT.step rfl rfl (K.call1 rfl plainTry_16 (few16 hd hl hr)) ?_
                refine KT.step rfl rfl (K.move rfl) ?_
                refine KT.step rfl rfl (K.call2 rfl rfl plainTry_29 (Includes29 (w := anZ Z gi gj gb) hmz fz.1 fz.2 (resD_mat (e := anE Z gi gj gb) (n := Z.length) (a := tightM Z.length (andM Z gi.toNat gj.toNat gb))) (resZ_len (kz.1) _).1 (resZ_len (kz.1) _).2)) ?_
                refine KT.step rfl rfl (K.move rfl) ?_
                refine KT.step rfl rfl (K.extract rfl rfl) ?_
                refine KT.step rfl rfl (K.extract rfl rfl) ?_
                refine KT.step rfl rfl (K.assign rfl) ?_
                refine KT.step rfl rfl (K.assign rfl) ?_
                refine KT.nil ?_
                refine thenK_n ?_
                refine KC.seq ?_
                refine KC.region ?_
                refine KT.step rfl rfl (K.move rfl) ?_
                refine KT.step rfl rfl (K.neq rfl rfl) ?_
                refine KT.step rfl rfl (K.move rfl) ?_
                refine KT.bcase (fun hb89 => ?_) (fun hb89 => ?_)
                · skip
                  exact absurd ha.1 (of_decide_eq_true hb89)
                · skip
                  replace hb89 := of_decide_eq_false hb89
                  refine KT.step rfl rfl (K.move rfl) ?_
                  refine KT.step rfl rfl (K.not rfl) ?_
                  refine KT.step rfl rfl (K.pick rfl (fun h => by cases h) (fun _ => rfl)) ?_
                  refine KT.nil ?_
                  refine thenK_n ?_
                  refine KC.cond rfl (fun hc92 => ?_) (fun hc92 => ?_)
                  · skip
                    rw [Bool.not_eq_true'] at hc92
                    exact Bool.noConfusion (hc92.symm.trans ha.2)
                  · skip
                    refine KC.skip ?_
                    refine thenK_n ?_
                    refine KC.seq ?_
                    refine KC.draw Try.mixed ?_
                    refine KT.step rfl rfl (K.move rfl) ?_
                    refine KT.step rfl rfl (K.call1 rfl plainTry_16 (few16 hd hl hr)) ?_
                    refine KT.step rfl rfl (K.move rfl) ?_
                    refine KT.step rfl rfl (K.len rfl hd Try.underlying22) ?_
                    refine KT.step rfl rfl (K.shl rfl rfl (by omega) (shlI (by omega))) ?_
                    refine KT.step rfl rfl (K.sub rfl rfl (wrap_id hp)) ?_
                    refine KT.step rfl rfl (K.call2 rfl rfl plainTry_27 (Reset27 hmz fz.1 fz.2 kz.1)) ?_
                    refine KT.step rfl rfl (K.move rfl) ?_
                    refine KT.step rfl rfl (K.extract rfl rfl) ?_
                    refine KT.step rfl rfl (K.extract rfl rfl) ?_
                    refine KT.step rfl rfl (K.assign rfl) ?_
                    refine KT.step rfl rfl (K.assign rfl) ?_
                    refine KT.nil ?_
                    refine ⟨by kernel_rfl, ?_⟩
                    refine thenK_n ?_
                    refine KC.seq ?_
                    refine KC.seq ?_
                    refine KC.region ?_
                    refine KT.step rfl rfl (K.move rfl) ?_
                    refine KT.step rfl rfl (K.len (l := rsZ Z (((2 ^ z.length : Nat) : Int) - 2)) rfl (resD_mat (e := rsE Z (((2 ^ z.length : Nat) : Int) - 2)) (n := Z.length) (a := resM Z.length ((((2 ^ z.length : Nat) : Int) - 2)).toNat (tightM Z.length (zf Z)))) Try.underlying22) ?_
                    refine KT.step rfl rfl (K.move rfl) ?_
                    refine KT.nil ?_
                    refine thenK_n ?_
                    refine KC.block ?_
                    have hR6 : (rsZ Z (((2 ^ z.length : Nat) : Int) - 2)).length ≤ 6 := rsZ_le kz.1
                    refine KC.loop (fun _ : Nat => [⟨[.d (DI gi), .d (DI gj), .d (DI gb)], 0⟩]) (fun i => [(0, .d d), (6, .d (DI (rsE Z (((2 ^ z.length : Nat) : Int) - 2)))), (13, .d (resD (rsE Z (((2 ^ z.length : Nat) : Int) - 2)) Z.length (resM Z.length ((((2 ^ z.length : Nat) : Int) - 2)).toNat (tightM Z.length (zf Z))))), (103, .d (resD (rsE Z (((2 ^ z.length : Nat) : Int) - 2)) Z.length (resM Z.length ((((2 ^ z.length : Nat) : Int) - 2)).toNat (tightM Z.length (zf Z))))), (104, .d (DI ((rsZ Z (((2 ^ z.length : Nat) : Int) - 2)).length : Nat))), (105, .d (DI (i : Nat)))]) (fun i => i ≤ (rsZ Z (((2 ^ z.length : Nat) : Int) - 2)).length) (fun i => (rsZ Z (((2 ^ z.length : Nat) : Int) - 2)).length - i) 0 (Nat.zero_le _) rfl (by simp [Go.Vm.look, extK, enterK]) ?_
                    intro i hi
                    refine KC.seq ?_
                    refine KC.region ?_
                    refine KT.step rfl rfl (K.lss rfl rfl) ?_
                    refine KT.nil ?_
                    refine thenK_n ?_
                    refine KC.seq ?_
                    refine KC.cond rfl (fun hc106 => ?_) (fun hc106 => ?_)
                    · skip
                      replace hc106 := of_decide_eq_true hc106
                      have hil : i < (rsZ Z (((2 ^ z.length : Nat) : Int) - 2)).length := by omega
                      refine KC.skip ?_
                      refine thenK_n ?_
                      refine KC.seq ?_
                      refine KC.block ?_
                      refine KC.seq ?_
                      refine KC.region ?_
                      have hmr : Mat (resD (rsE Z (((2 ^ z.length : Nat) : Int) - 2)) Z.length (resM Z.length ((((2 ^ z.length : Nat) : Int) - 2)).toNat (tightM Z.length (zf Z)))) (rsZ Z (((2 ^ z.length : Nat) : Int) - 2)) := (resD_mat (e := rsE Z (((2 ^ z.length : Nat) : Int) - 2)) (n := Z.length) (a := resM Z.length ((((2 ^ z.length : Nat) : Int) - 2)).toNat (tightM Z.length (zf Z))))
                      refine KT.idx rfl rfl rfl hmr rfl hil Try.underlying22 Try.size23 fun c107 cs107 hq107 => ?_
                      refine KT.step rfl rfl (K.load rfl Try.agg23) ?_
                      refine KT.step rfl rfl (K.assign rfl) ?_
                      refine KT.nil ?_
                      refine thenK_n ?_
                      refine KC.seq ?_
                      refine KC.region ?_
                      refine KT.step rfl rfl (K.move rfl) ?_
                      refine KT.step rfl rfl (K.len rfl hq107 Try.underlying23) ?_
                      refine KT.step rfl rfl (K.move rfl) ?_
                      refine KT.nil ?_
                      refine thenK_n ?_
                      refine KC.block ?_
                      have hrl : ((rsZ Z (((2 ^ z.length : Nat) : Int) - 2))[i]).length ≤ 9223372036854775807 := (resZ_len (e := rsE Z (((2 ^ z.length : Nat) : Int) - 2)) (kz.1) (resM Z.length ((((2 ^ z.length : Nat) : Int) - 2)).toNat (tightM Z.length (zf Z)))).2 _ (List.getElem_mem hil)
                      refine KC.loop (fun _ : Nat => [⟨[.d (DI gi), .d (DI gj), .d (DI gb)], 0⟩]) (fun j => [(0, .d d), (6, .d (DI (rsE Z (((2 ^ z.length : Nat) : Int) - 2)))), (13, .d (resD (rsE Z (((2 ^ z.length : Nat) : Int) - 2)) Z.length (resM Z.length ((((2 ^ z.length : Nat) : Int) - 2)).toNat (tightM Z.length (zf Z))))), (103, .d (resD (rsE Z (((2 ^ z.length : Nat) : Int) - 2)) Z.length (resM Z.length ((((2 ^ z.length : Nat) : Int) - 2)).toNat (tightM Z.length (zf Z))))), (104, .d (DI ((rsZ Z (((2 ^ z.length : Nat) : Int) - 2)).length : Nat))), (105, .d (DI (i : Nat))), (109, .d c107), (110, .d (DI (((rsZ Z (((2 ^ z.length : Nat) : Int) - 2))[i]).length : Nat))), (111, .d (DI (j : Nat)))]) (fun j => j ≤ ((rsZ Z (((2 ^ z.length : Nat) : Int) - 2))[i]).length) (fun j => ((rsZ Z (((2 ^ z.length : Nat) : Int) - 2))[i]).length - j) 0 (Nat.zero_le _) rfl (by simp [Go.Vm.look, extK, enterK]) ?_
                      intro j hj
                      refine KC.seq ?_
                      refine KC.region ?_
                      refine KT.step rfl rfl (K.lss rfl rfl) ?_
                      refine KT.nil ?_
                      refine thenK_n ?_
                      refine KC.seq ?_
                      refine KC.cond rfl (fun hc112 => ?_) (fun hc112 => ?_)
                      · skip
                        replace hc112 := of_decide_eq_true hc112
                        refine KC.skip ?_
                        refine thenK_n ?_
                        refine KC.seq ?_
                        refine KC.block ?_
                        refine KC.seq ?_
                        refine KC.region ?_
                        refine KT.idxI rfl rfl rfl (by assumption) rfl (by omega) Try.underlying23 Try.size3 fun cs113 => ?_
                        refine KT.step rfl rfl (K.load rfl Try.agg3) ?_
                        refine KT.step rfl rfl (K.assign rfl) ?_
                        refine KT.nil ?_
                        refine thenK_n ?_
                        refine KC.seq ?_
                        refine KC.region ?_
                        refine KT.step rfl rfl (K.move rfl) ?_
                        refine KT.step rfl rfl (K.neq rfl rfl) ?_
                        refine KT.nil ?_
                        refine thenK_n ?_
                        refine KC.cond rfl (fun hc116 => ?_) (fun hc116 => ?_)
                        · skip
                          exact absurd (hr1.2.2 _ (List.getElem_mem hil) _ (List.getElem_mem (by omega))) (of_decide_eq_true hc116)
                        · skip
                          replace hc116 := of_decide_eq_false hc116
                          refine KC.skip ?_
                          refine blockK_n ?_
                          refine thenK_n ?_
                          refine KC.region ?_
                          refine KT.step rfl rfl (K.add rfl rfl (wrap_id (by omega))) ?_
                          refine KT.step rfl rfl (K.move rfl) ?_
                          refine KT.nil ?_
                          refine thenK_n ?_
                          refine ⟨j + 1, by omega, by omega, rfl, by simp [Go.Vm.look, extK]⟩
                      · skip
                        replace hc112 := of_decide_eq_false hc112
                        refine KC.exit ?_
                        refine thenK_x ?_
                        refine thenK_x ?_
                        refine blockK_e ?_
                        refine blockK_n ?_
                        refine thenK_n ?_
                        refine KC.region ?_
                        refine KT.step rfl rfl (K.add rfl rfl (wrap_id (by omega))) ?_
                        refine KT.step rfl rfl (K.move rfl) ?_
                        refine KT.nil ?_
                        refine thenK_n ?_
                        refine ⟨i + 1, by omega, by omega, rfl, by simp [Go.Vm.look, extK]⟩
                    · skip
                      replace hc106 := of_decide_eq_false hc106
                      refine KC.exit ?_
                      refine thenK_x ?_
                      refine thenK_x ?_
                      refine blockK_e ?_
                      refine thenK_n ?_
                      refine KC.seq ?_
                      refine KC.region ?_
                      refine KT.step rfl rfl (K.move rfl) ?_
                      refine KT.step rfl rfl (K.eql rfl rfl) ?_
                      refine KT.step rfl rfl (K.move rfl) ?_
                      refine KT.bcase (fun hb121 => ?_) (fun hb121 => ?_)
                      · skip
                        replace hb121 := of_decide_eq_true hb121
                        refine KT.step rfl rfl (K.move rfl) ?_
                        refine KT.step rfl rfl (K.len (l := rsZ Z (((2 ^ z.length : Nat) : Int) - 2)) rfl (resD_mat (e := rsE Z (((2 ^ z.length : Nat) : Int) - 2)) (n := Z.length) (a := resM Z.length ((((2 ^ z.length : Nat) : Int) - 2)).toNat (tightM Z.length (zf Z)))) Try.underlying22) ?_
                        refine KT.step rfl rfl (K.move rfl) ?_
                        refine KT.step rfl rfl (K.len rfl hd Try.underlying22) ?_
                        refine KT.step rfl rfl (K.eql rfl rfl) ?_
                        refine KT.step rfl rfl (K.pick rfl (fun _ => rfl) (fun h => by cases h)) ?_
                        refine KT.step rfl rfl (K.move rfl) ?_
                        refine KT.bcase (fun hb128 => ?_) (fun hb128 => ?_)
                        · skip
                          replace hb128 := of_decide_eq_true hb128
                          refine KT.step rfl rfl (K.call0 plainTry_21 (awake21)) ?_
                          refine KT.step rfl rfl (K.pick rfl (fun _ => rfl) (fun h => by cases h)) ?_
                          refine KT.step rfl rfl (K.assign rfl) ?_
                          refine KT.nil ?_
                          refine thenK_n ?_
                          refine KC.ret ?_
                          exact ⟨.inl rfl, _, rfl, rfl⟩
                        · skip
                          replace hb128 := of_decide_eq_false hb128
                          have := hr1.2.1
                          omega
                      · skip
                        exact absurd hr1.1 (of_decide_eq_false hb121)
              · skip
                refine KC.skip ?_
                refine thenK_n ?_
                refine KC.seq ?_
                refine KC.draw Try.mixed ?_
                refine KT.step rfl rfl (K.move rfl) ?_
                refine KT.step rfl rfl (K.call1 rfl plainTry_16 (few16 hd hl hr)) ?_
                refine KT.step rfl rfl (K.move rfl) ?_
                refine KT.step rfl rfl (K.len rfl hd Try.underlying22) ?_
                refine KT.step rfl rfl (K.shl rfl rfl (by omega) (shlI (by omega))) ?_
                refine KT.step rfl rfl (K.sub rfl rfl (wrap_id hp)) ?_
                refine KT.step rfl rfl (K.call2 rfl rfl plainTry_27 (Reset27 hmz fz.1 fz.2 kz.1)) ?_
                refine KT.step rfl rfl (K.move rfl) ?_
                refine KT.step rfl rfl (K.extract rfl rfl) ?_
                refine KT.step rfl rfl (K.extract rfl rfl) ?_
                refine KT.step rfl rfl (K.assign rfl) ?_
                refine KT.step rfl rfl (K.assign rfl) ?_
                refine KT.nil ?_
                refine ⟨by kernel_rfl, ?_⟩
                refine thenK_n ?_
                refine KC.seq ?_
                refine KC.seq ?_
                refine KC.region ?_
                refine KT.step rfl rfl (K.move rfl) ?_
                refine KT.step rfl rfl (K.len (l := rsZ Z (((2 ^ z.length : Nat) : Int) - 2)) rfl (resD_mat (e := rsE Z (((2 ^ z.length : Nat) : Int) - 2)) (n := Z.length) (a := resM Z.length ((((2 ^ z.length : Nat) : Int) - 2)).toNat (tightM Z.length (zf Z)))) Try.underlying22) ?_
                refine KT.step rfl rfl (K.move rfl) ?_
                refine KT.nil ?_
                refine thenK_n ?_
                refine KC.block ?_
                have hR6 : (rsZ Z (((2 ^ z.length : Nat) : Int) - 2)).length ≤ 6 := rsZ_le kz.1
                refine KC.loop (fun _ : Nat => [⟨[.d (DI gi), .d (DI gj), .d (DI gb)], 0⟩]) (fun i => [(0, .d d), (6, .d (DI (rsE Z (((2 ^ z.length : Nat) : Int) - 2)))), (13, .d (resD (rsE Z (((2 ^ z.length : Nat) : Int) - 2)) Z.length (resM Z.length ((((2 ^ z.length : Nat) : Int) - 2)).toNat (tightM Z.length (zf Z))))), (103, .d (resD (rsE Z (((2 ^ z.length : Nat) : Int) - 2)) Z.length (resM Z.length ((((2 ^ z.length : Nat) : Int) - 2)).toNat (tightM Z.length (zf Z))))), (104, .d (DI ((rsZ Z (((2 ^ z.length : Nat) : Int) - 2)).length : Nat))), (105, .d (DI (i : Nat)))]) (fun i => i ≤ (rsZ Z (((2 ^ z.length : Nat) : Int) - 2)).length) (fun i => (rsZ Z (((2 ^ z.length : Nat) : Int) - 2)).length - i) 0 (Nat.zero_le _) rfl (by simp [Go.Vm.look, extK, enterK]) ?_
                intro i hi
                refine KC.seq ?_
                refine KC.region ?_
                refine KT.step rfl rfl (K.lss rfl rfl) ?_
                refine KT.nil ?_
                refine thenK_n ?_
                refine KC.seq ?_
                refine KC.cond rfl (fun hc106 => ?_) (fun hc106 => ?_)
                · skip
                  replace hc106 := of_decide_eq_true hc106
                  have hil : i < (rsZ Z (((2 ^ z.length : Nat) : Int) - 2)).length := by omega
                  refine KC.skip ?_
                  refine thenK_n ?_
                  refine KC.seq ?_
                  refine KC.block ?_
                  refine KC.seq ?_
                  refine KC.region ?_
                  have hmr : Mat (resD (rsE Z (((2 ^ z.length : Nat) : Int) - 2)) Z.length (resM Z.length ((((2 ^ z.length : Nat) : Int) - 2)).toNat (tightM Z.length (zf Z)))) (rsZ Z (((2 ^ z.length : Nat) : Int) - 2)) := (resD_mat (e := rsE Z (((2 ^ z.length : Nat) : Int) - 2)) (n := Z.length) (a := resM Z.length ((((2 ^ z.length : Nat) : Int) - 2)).toNat (tightM Z.length (zf Z))))
                  refine KT.idx rfl rfl rfl hmr rfl hil Try.underlying22 Try.size23 fun c107 cs107 hq107 => ?_
                  refine KT.step rfl rfl (K.load rfl Try.agg23) ?_
                  refine KT.step rfl rfl (K.assign rfl) ?_
                  refine KT.nil ?_
                  refine thenK_n ?_
                  refine KC.seq ?_
                  refine KC.region ?_
                  refine KT.step rfl rfl (K.move rfl) ?_
                  refine KT.step rfl rfl (K.len rfl hq107 Try.underlying23) ?_
                  refine KT.step rfl rfl (K.move rfl) ?_
                  refine KT.nil ?_
                  refine thenK_n ?_
                  refine KC.block ?_
                  have hrl : ((rsZ Z (((2 ^ z.length : Nat) : Int) - 2))[i]).length ≤ 9223372036854775807 := (resZ_len (e := rsE Z (((2 ^ z.length : Nat) : Int) - 2)) (kz.1) (resM Z.length ((((2 ^ z.length : Nat) : Int) - 2)).toNat (tightM Z.length (zf Z)))).2 _ (List.getElem_mem hil)
                  refine KC.loop (fun _ : Nat => [⟨[.d (DI gi), .d (DI gj), .d (DI gb)], 0⟩]) (fun j => [(0, .d d), (6, .d (DI (rsE Z (((2 ^ z.length : Nat) : Int) - 2)))), (13, .d (resD (rsE Z (((2 ^ z.length : Nat) : Int) - 2)) Z.length (resM Z.length ((((2 ^ z.length : Nat) : Int) - 2)).toNat (tightM Z.length (zf Z))))), (103, .d (resD (rsE Z (((2 ^ z.length : Nat) : Int) - 2)) Z.length (resM Z.length ((((2 ^ z.length : Nat) : Int) - 2)).toNat (tightM Z.length (zf Z))))), (104, .d (DI ((rsZ Z (((2 ^ z.length : Nat) : Int) - 2)).length : Nat))), (105, .d (DI (i : Nat))), (109, .d c107), (110, .d (DI (((rsZ Z (((2 ^ z.length : Nat) : Int) - 2))[i]).length : Nat))), (111, .d (DI (j : Nat)))]) (fun j => j ≤ ((rsZ Z (((2 ^ z.length : Nat) : Int) - 2))[i]).length) (fun j => ((rsZ Z (((2 ^ z.length : Nat) : Int) - 2))[i]).length - j) 0 (Nat.zero_le _) rfl (by simp [Go.Vm.look, extK, enterK]) ?_
                  intro j hj
                  refine KC.seq ?_
                  refine KC.region ?_
                  refine KT.step rfl rfl (K.lss rfl rfl) ?_
                  refine KT.nil ?_
                  refine thenK_n ?_
                  refine KC.seq ?_
                  refine KC.cond rfl (fun hc112 => ?_) (fun hc112 => ?_)
                  · skip
                    replace hc112 := of_decide_eq_true hc112
                    refine KC.skip ?_
                    refine thenK_n ?_
                    refine KC.seq ?_
                    refine KC.block ?_
                    refine KC.seq ?_
                    refine KC.region ?_
                    refine KT.idxI rfl rfl rfl (by assumption) rfl (by omega) Try.underlying23 Try.size3 fun cs113 => ?_
                    refine KT.step rfl rfl (K.load rfl Try.agg3) ?_
                    refine KT.step rfl rfl (K.assign rfl) ?_
                    refine KT.nil ?_
                    refine thenK_n ?_
                    refine KC.seq ?_
                    refine KC.region ?_
                    refine KT.step rfl rfl (K.move rfl) ?_
                    refine KT.step rfl rfl (K.neq rfl rfl) ?_
                    refine KT.nil ?_
                    refine thenK_n ?_
                    refine KC.cond rfl (fun hc116 => ?_) (fun hc116 => ?_)
                    · skip
                      exact absurd (hr1.2.2 _ (List.getElem_mem hil) _ (List.getElem_mem (by omega))) (of_decide_eq_true hc116)
                    · skip
                      replace hc116 := of_decide_eq_false hc116
                      refine KC.skip ?_
                      refine blockK_n ?_
                      refine thenK_n ?_
                      refine KC.region ?_
                      refine KT.step rfl rfl (K.add rfl rfl (wrap_id (by omega))) ?_
                      refine KT.step rfl rfl (K.move rfl) ?_
                      refine KT.nil ?_
                      refine thenK_n ?_
                      refine ⟨j + 1, by omega, by omega, rfl, by simp [Go.Vm.look, extK]⟩
                  · skip
                    replace hc112 := of_decide_eq_false hc112
                    refine KC.exit ?_
                    refine thenK_x ?_
                    refine thenK_x ?_
                    refine blockK_e ?_
                    refine blockK_n ?_
                    refine thenK_n ?_
                    refine KC.region ?_
                    refine KT.step rfl rfl (K.add rfl rfl (wrap_id (by omega))) ?_
                    refine KT.step rfl rfl (K.move rfl) ?_
                    refine KT.nil ?_
                    refine thenK_n ?_
                    refine ⟨i + 1, by omega, by omega, rfl, by simp [Go.Vm.look, extK]⟩
                · skip
                  replace hc106 := of_decide_eq_false hc106
                  refine KC.exit ?_
                  refine thenK_x ?_
                  refine thenK_x ?_
                  refine blockK_e ?_
                  refine thenK_n ?_
                  refine KC.seq ?_
                  refine KC.region ?_
                  refine KT.step rfl rfl (K.move rfl) ?_
                  refine KT.step rfl rfl (K.eql rfl rfl) ?_
                  refine KT.step rfl rfl (K.move rfl) ?_
                  refine KT.bcase (fun hb121 => ?_) (fun hb121 => ?_)
                  · skip
                    replace hb121 := of_decide_eq_true hb121
                    refine KT.step rfl rfl (K.move rfl) ?_
                    refine KT.step rfl rfl (K.len (l := rsZ Z (((2 ^ z.length : Nat) : Int) - 2)) rfl (resD_mat (e := rsE Z (((2 ^ z.length : Nat) : Int) - 2)) (n := Z.length) (a := resM Z.length ((((2 ^ z.length : Nat) : Int) - 2)).toNat (tightM Z.length (zf Z)))) Try.underlying22) ?_
                    refine KT.step rfl rfl (K.move rfl) ?_
                    refine KT.step rfl rfl (K.len rfl hd Try.underlying22) ?_
                    refine KT.step rfl rfl (K.eql rfl rfl) ?_
                    refine KT.step rfl rfl (K.pick rfl (fun _ => rfl) (fun h => by cases h)) ?_
                    refine KT.step rfl rfl (K.move rfl) ?_
                    refine KT.bcase (fun hb128 => ?_) (fun hb128 => ?_)
                    · skip
                      replace hb128 := of_decide_eq_true hb128
                      refine KT.step rfl rfl (K.call0 plainTry_21 (awake21)) ?_
                      refine KT.step rfl rfl (K.pick rfl (fun _ => rfl) (fun h => by cases h)) ?_
                      refine KT.step rfl rfl (K.assign rfl) ?_
                      refine KT.nil ?_
                      refine thenK_n ?_
                      refine KC.ret ?_
                      exact ⟨.inl rfl, _, rfl, rfl⟩
                    · skip
                      replace hb128 := of_decide_eq_false hb128
                      have := hr1.2.1
                      omega
                  · skip
                    exact absurd hr1.1 (of_decide_eq_false hb121)
            · skip
              replace hb76 := of_decide_eq_false hb76
              refine KT.skip rfl rfl ?_
              refine KT.skip rfl rfl ?_
              refine KT.step rfl rfl (K.pick rfl (fun h => by cases h) (fun _ => rfl)) ?_
              refine KT.nil ?_
              refine thenK_n ?_
              refine KC.cond rfl (fun hc79 => ?_) (fun hc79 => ?_)
              · cases hc79
              · skip
                refine KC.skip ?_
                refine thenK_n ?_
                refine KC.seq ?_
                refine KC.draw Try.mixed ?_
                refine KT.step rfl rfl (K.move rfl) ?_
                refine KT.step rfl rfl (K.call1 rfl plainTry_16 (few16 hd hl hr)) ?_
                refine KT.step rfl rfl (K.move rfl) ?_
                refine KT.step rfl rfl (K.len rfl hd Try.underlying22) ?_
                refine KT.step rfl rfl (K.shl rfl rfl (by omega) (shlI (by omega))) ?_
                refine KT.step rfl rfl (K.sub rfl rfl (wrap_id hp)) ?_
                refine KT.step rfl rfl (K.call2 rfl rfl plainTry_27 (Reset27 hmz fz.1 fz.2 kz.1)) ?_
                refine KT.step rfl rfl (K.move rfl) ?_
                refine KT.step rfl rfl (K.extract rfl rfl) ?_
                refine KT.step rfl rfl (K.extract rfl rfl) ?_
                refine KT.step rfl rfl (K.assign rfl) ?_
                refine KT.step rfl rfl (K.assign rfl) ?_
                refine KT.nil ?_
                refine ⟨by kernel_rfl, ?_⟩
                refine thenK_n ?_
                refine KC.seq ?_
                refine KC.seq ?_
                refine KC.region ?_
                refine KT.step rfl rfl (K.move rfl) ?_
                refine KT.step rfl rfl (K.len (l := rsZ Z (((2 ^ z.length : Nat) : Int) - 2)) rfl (resD_mat (e := rsE Z (((2 ^ z.length : Nat) : Int) - 2)) (n := Z.length) (a := resM Z.length ((((2 ^ z.length : Nat) : Int) - 2)).toNat (tightM Z.length (zf Z)))) Try.underlying22) ?_
                refine KT.step rfl rfl (K.move rfl) ?_
                refine KT.nil ?_
                refine thenK_n ?_
                refine KC.block ?_
                have hR6 : (rsZ Z (((2 ^ z.length : Nat) : Int) - 2)).length ≤ 6 := rsZ_le kz.1
                refine KC.loop (fun _ : Nat => [⟨[.d (DI gi), .d (DI gj), .d (DI gb)], 0⟩]) (fun i => [(0, .d d), (6, .d (DI (rsE Z (((2 ^ z.length : Nat) : Int) - 2)))), (13, .d (resD (rsE Z (((2 ^ z.length : Nat) : Int) - 2)) Z.length (resM Z.length ((((2 ^ z.length : Nat) : Int) - 2)).toNat (tightM Z.length (zf Z))))), (103, .d (resD (rsE Z (((2 ^ z.length : Nat) : Int) - 2)) Z.length (resM Z.length ((((2 ^ z.length : Nat) : Int) - 2)).toNat (tightM Z.length (zf Z))))), (104, .d (DI ((rsZ Z (((2 ^ z.length : Nat) : Int) - 2)).length : Nat))), (105, .d (DI (i : Nat)))]) (fun i => i ≤ (rsZ Z (((2 ^ z.length : Nat) : Int) - 2)).length) (fun i => (rsZ Z (((2 ^ z.length : Nat) : Int) - 2)).length - i) 0 (Nat.zero_le _) rfl (by simp [Go.Vm.look, extK, enterK]) ?_
                intro i hi
                refine KC.seq ?_
                refine KC.region ?_
                refine KT.step rfl rfl (K.lss rfl rfl) ?_
                refine KT.nil ?_
                refine thenK_n ?_
                refine KC.seq ?_
                refine KC.cond rfl (fun hc106 => ?_) (fun hc106 => ?_)
                · skip
                  replace hc106 := of_decide_eq_true hc106
                  have hil : i < (rsZ Z (((2 ^ z.length : Nat) : Int) - 2)).length := by omega
                  refine KC.skip ?_
                  refine thenK_n ?_
                  refine KC.seq ?_
                  refine KC.block ?_
                  refine KC.seq ?_
                  refine KC.region ?_
                  have hmr : Mat (resD (rsE Z (((2 ^ z.length : Nat) : Int) - 2)) Z.length (resM Z.length ((((2 ^ z.length : Nat) : Int) - 2)).toNat (tightM Z.length (zf Z)))) (rsZ Z (((2 ^ z.length : Nat) : Int) - 2)) := (resD_mat (e := rsE Z (((2 ^ z.length : Nat) : Int) - 2)) (n := Z.length) (a := resM Z.length ((((2 ^ z.length : Nat) : Int) - 2)).toNat (tightM Z.length (zf Z))))
                  refine KT.idx rfl rfl rfl hmr rfl hil Try.underlying22 Try.size23 fun c107 cs107 hq107 => ?_
                  refine KT.step rfl rfl (K.load rfl Try.agg23) ?_
                  refine KT.step rfl rfl (K.assign rfl) ?_
                  refine KT.nil ?_
                  refine thenK_n ?_
                  refine KC.seq ?_
                  refine KC.region ?_
                  refine KT.step rfl rfl (K.move rfl) ?_
                  refine KT.step rfl rfl (K.len rfl hq107 Try.underlying23) ?_
                  refine KT.step rfl rfl (K.move rfl) ?_
                  refine KT.nil ?_
                  refine thenK_n ?_
                  refine KC.block ?_
                  have hrl : ((rsZ Z (((2 ^ z.length : Nat) : Int) - 2))[i]).length ≤ 9223372036854775807 := (resZ_len (e := rsE Z (((2 ^ z.length : Nat) : Int) - 2)) (kz.1) (resM Z.length ((((2 ^ z.length : Nat) : Int) - 2)).toNat (tightM Z.length (zf Z)))).2 _ (List.getElem_mem hil)
                  refine KC.loop (fun _ : Nat => [⟨[.d (DI gi), .d (DI gj), .d (DI gb)], 0⟩]) (fun j => [(0, .d d), (6, .d (DI (rsE Z (((2 ^ z.length : Nat) : Int) - 2)))), (13, .d (resD (rsE Z (((2 ^ z.length : Nat) : Int) - 2)) Z.length (resM Z.length ((((2 ^ z.length : Nat) : Int) - 2)).toNat (tightM Z.length (zf Z))))), (103, .d (resD (rsE Z (((2 ^ z.length : Nat) : Int) - 2)) Z.length (resM Z.length ((((2 ^ z.length : Nat) : Int) - 2)).toNat (tightM Z.length (zf Z))))), (104, .d (DI ((rsZ Z (((2 ^ z.length : Nat) : Int) - 2)).length : Nat))), (105, .d (DI (i : Nat))), (109, .d c107), (110, .d (DI (((rsZ Z (((2 ^ z.length : Nat) : Int) - 2))[i]).length : Nat))), (111, .d (DI (j : Nat)))]) (fun j => j ≤ ((rsZ Z (((2 ^ z.length : Nat) : Int) - 2))[i]).length) (fun j => ((rsZ Z (((2 ^ z.length : Nat) : Int) - 2))[i]).length - j) 0 (Nat.zero_le _) rfl (by simp [Go.Vm.look, extK, enterK]) ?_
                  intro j hj
                  refine KC.seq ?_
                  refine KC.region ?_
                  refine KT.step rfl rfl (K.lss rfl rfl) ?_
                  refine KT.nil ?_
                  refine thenK_n ?_
                  refine KC.seq ?_
                  refine KC.cond rfl (fun hc112 => ?_) (fun hc112 => ?_)
                  · skip
                    replace hc112 := of_decide_eq_true hc112
                    refine KC.skip ?_
                    refine thenK_n ?_
                    refine KC.seq ?_
                    refine KC.block ?_
                    refine KC.seq ?_
                    refine KC.region ?_
                    refine KT.idxI rfl rfl rfl (by assumption) rfl (by omega) Try.underlying23 Try.size3 fun cs113 => ?_
                    refine KT.step rfl rfl (K.load rfl Try.agg3) ?_
                    refine KT.step rfl rfl (K.assign rfl) ?_
                    refine KT.nil ?_
                    refine thenK_n ?_
                    refine KC.seq ?_
                    refine KC.region ?_
                    refine KT.step rfl rfl (K.move rfl) ?_
                    refine KT.step rfl rfl (K.neq rfl rfl) ?_
                    refine KT.nil ?_
                    refine thenK_n ?_
                    refine KC.cond rfl (fun hc116 => ?_) (fun hc116 => ?_)
                    · skip
                      exact absurd (hr1.2.2 _ (List.getElem_mem hil) _ (List.getElem_mem (by omega))) (of_decide_eq_true hc116)
                    · skip
                      replace hc116 := of_decide_eq_false hc116
                      refine KC.skip ?_
                      refine blockK_n ?_
                      refine thenK_n ?_
                      refine KC.region ?_
                      refine KT.step rfl rfl (K.add rfl rfl (wrap_id (by omega))) ?_
                      refine KT.step rfl rfl (K.move rfl) ?_
                      refine KT.nil ?_
                      refine thenK_n ?_
                      refine ⟨j + 1, by omega, by omega, rfl, by simp [Go.Vm.look, extK]⟩
                  · skip
                    replace hc112 := of_decide_eq_false hc112
                    refine KC.exit ?_
                    refine thenK_x ?_
                    refine thenK_x ?_
                    refine blockK_e ?_
                    refine blockK_n ?_
                    refine thenK_n ?_
                    refine KC.region ?_
                    refine KT.step rfl rfl (K.add rfl rfl (wrap_id (by omega))) ?_
                    refine KT.step rfl rfl (K.move rfl) ?_
                    refine KT.nil ?_
                    refine thenK_n ?_
                    refine ⟨i + 1, by omega, by omega, rfl, by simp [Go.Vm.look, extK]⟩
                · skip
                  replace hc106 := of_decide_eq_false hc106
                  refine KC.exit ?_
                  refine thenK_x ?_
                  refine thenK_x ?_
                  refine blockK_e ?_
                  refine thenK_n ?_
                  refine KC.seq ?_
                  refine KC.region ?_
                  refine KT.step rfl rfl (K.move rfl) ?_
                  refine KT.step rfl rfl (K.eql rfl rfl) ?_
                  refine KT.step rfl rfl (K.move rfl) ?_
                  refine KT.bcase (fun hb121 => ?_) (fun hb121 => ?_)
                  · skip
                    replace hb121 := of_decide_eq_true hb121
                    refine KT.step rfl rfl (K.move rfl) ?_
                    refine KT.step rfl rfl (K.len (l := rsZ Z (((2 ^ z.length : Nat) : Int) - 2)) rfl (resD_mat (e := rsE Z (((2 ^ z.length : Nat) : Int) - 2)) (n := Z.length) (a := resM Z.length ((((2 ^ z.length : Nat) : Int) - 2)).toNat (tightM Z.length (zf Z)))) Try.underlying22) ?_
                    refine KT.step rfl rfl (K.move rfl) ?_
                    refine KT.step rfl rfl (K.len rfl hd Try.underlying22) ?_
                    refine KT.step rfl rfl (K.eql rfl rfl) ?_
                    refine KT.step rfl rfl (K.pick rfl (fun _ => rfl) (fun h => by cases h)) ?_
                    refine KT.step rfl rfl (K.move rfl) ?_
                    refine KT.bcase (fun hb128 => ?_) (fun hb128 => ?_)
                    · skip
                      replace hb128 := of_decide_eq_true hb128
                      refine KT.step rfl rfl (K.call0 plainTry_21 (awake21)) ?_
                      refine KT.step rfl rfl (K.pick rfl (fun _ => rfl) (fun h => by cases h)) ?_
                      refine KT.step rfl rfl (K.assign rfl) ?_
                      refine KT.nil ?_
                      refine thenK_n ?_
                      refine KC.ret ?_
                      exact ⟨.inl rfl, _, rfl, rfl⟩
                    · skip
                      replace hb128 := of_decide_eq_false hb128
                      have := hr1.2.1
                      omega
                  · skip
                    exact absurd hr1.1 (of_decide_eq_false hb121)
        · skip
          exact absurd hb49 (of_decide_eq_false hb56)
end Go.Proofs.Ytjfpeiioddfjcaa

