import Derived.Test.YtmfbakipfobaeaaHtEb
import Derived.Test.YtmfbakipfobaeaaHtSh
/-
  Heat: the reference says which plans serve.
-/
namespace Go.Proofs.Ytmfbakipfobaeaa
open Go.Vm Go.Ht
theorem plainTry_33 : plainFn Try.prog 33 = true := by kernel_rfl
set_option maxHeartbeats 4000000 in
set_option maxRecDepth 10000 in
theorem rserves33 {d e : DV} {l : List Sm} {p : List Ld} {gap : Int} (hd : StD d l) (he : FlD 4 c4 e p) (hok : okH l gap = true) (hpl : p.length ≤ 9223372036854775807) {b : Bool} (hb : b = true ↔ p.length ≤ 200 ∧ SrvOK gap l p) : DeepCall Try.prog 33 [d, DI gap, e] (.tup [DI (if b = true then utl p else 0), DB b]) := by
  have n2 := lvls_two hok
  have n8 := (okH_iff.1 hok).2.1
  have g0 := (okH_iff.1 hok).2.2.1
  have g20 := (okH_iff.1 hok).2.2.2.1
  have hall := (okH_iff.1 hok).2.2.2.2
  have nl := lvls_length gap l
  have htl := tops_len gap l
  have hpr := prs_length (lvls gap l)
  refine deepCall_K 5 Try.func33 rfl (Nat.le_of_ble_eq_true rfl) fun M W0 => ?_
  refine KC.seq ?_
  refine KC.region ?_
  refine KT.step rfl rfl (K.assign rfl) ?_
  refine KT.step rfl rfl (K.assign rfl) ?_
  refine KT.nil ?_
  refine thenK_n ?_
  refine KC.seq ?_
  refine KC.region ?_
  refine KT.step rfl rfl (K.move rfl) ?_
  refine KT.step rfl rfl (K.move rfl) ?_
  refine KT.step rfl rfl (K.call2 rfl rfl plainTry_22 (rlevels22 hd hok)) ?_
  refine KT.step rfl rfl (K.assign rfl) ?_
  refine KT.nil ?_
  refine thenK_n ?_
  refine KC.seq ?_
  refine KC.seq ?_
  refine KC.region ?_
  refine KT.step rfl rfl (K.move rfl) ?_
  refine KT.step rfl rfl (K.lenF rfl he Try.underlying49) ?_
  refine KT.step rfl rfl (K.gtr rfl rfl) ?_
  refine KT.nil ?_
  refine thenK_n ?_
  refine KC.cond rfl (fun hc28 => ?_) (fun hc28 => ?_)
  · skip
    replace hc28 := of_decide_eq_true hc28
    refine KC.seq ?_
    refine KC.region ?_
    refine KT.step rfl rfl (K.assign rfl) ?_
    refine KT.step rfl rfl (K.assign rfl) ?_
    refine KT.nil ?_
    refine thenK_n ?_
    refine KC.ret ?_
    refine thenK_r ?_
    obtain rfl : b = false := Bool.eq_false_iff.2 fun h => by
      have q := hb.1 h
      omega
    exact ⟨.inl rfl, _, rfl, rfl⟩
  · skip
    replace hc28 := of_decide_eq_false hc28
    refine KC.skip ?_
    refine thenK_n ?_
    refine KC.seq ?_
    refine KC.region ?_
    refine KT.step rfl rfl (K.assign rfl) ?_
    refine KT.nil ?_
    refine thenK_n ?_
    refine KC.seq ?_
    refine KC.seq ?_
    refine KC.region ?_
    refine KT.step rfl rfl (K.move rfl) ?_
    refine KT.step rfl rfl (K.lenF rfl he Try.underlying49) ?_
    refine KT.step rfl rfl (K.move rfl) ?_
    refine KT.nil ?_
    refine thenK_n ?_
    refine KC.block ?_
    refine KC.loop (fun z : List VObj × Nat => z.1) (fun z => [(0, .d d), (1, .d (DI gap)), (2, .d e), (8, .d (.sl (ints (lvls gap l)) (lvls gap l).length none)), (29, .d e), (30, .d (DI (p.length : Nat))), (9, .d (DI (utl (p.take z.2)))), (31, .d (DI (z.2 : Nat)))]) (fun z => z.2 ≤ p.length ∧ ∀ x ∈ p.take z.2, VLd gap l x) (fun z => p.length - z.2) (_, 0) ⟨Nat.zero_le _, fun x hx => by simp at hx⟩ rfl (by simp [Go.Vm.look, extK, enterK, utl]) ?_
    intro z hz
    obtain ⟨σ0, i⟩ := z
    obtain ⟨hi, hv⟩ := hz
    simp only at hi hv ⊢
    refine KC.seq ?_
    refine KC.region ?_
    refine KT.step rfl rfl (K.lss rfl rfl) ?_
    refine KT.nil ?_
    refine thenK_n ?_
    refine KC.seq ?_
    refine KC.cond rfl (fun hc32 => ?_) (fun hc32 => ?_)
    · skip
      replace hc32 := of_decide_eq_true hc32
      have hil : i < p.length := by omega
      have hub := utl_take (p := p) (i := i) (by decide) hi (B := 4000) fun x hx => ⟨by have := (hv x hx).q1; omega, (hv x hx).q2⟩
      have hsn := utl_snoc hil
      refine KC.skip ?_
      refine thenK_n ?_
      refine KC.seq ?_
      refine KC.block ?_
      refine KC.seq ?_
      refine KC.region ?_
      refine KT.step rfl rfl (K.idxF c4_len (m := i) rfl he rfl hil Try.underlying49 Try.size88) ?_
      refine KT.step rfl rfl (K.loadFl (cs := c4 p[i]) rfl rfl Try.agg88 Try.size88) ?_
      refine KT.step rfl rfl (K.alloc Try.zero88) ?_
      refine KT.storeL (cs := (c4 p[i]).map .d) rfl rfl rfl rfl rfl rfl rfl Try.size88 ?_
      refine KT.nil ?_
      refine thenK_n ?_
      refine KC.seq ?_
      refine KC.region ?_
      refine KT.step rfl rfl (K.assign rfl) ?_
      refine KT.nil ?_
      refine thenK_n ?_
      refine KC.seq ?_
      refine KC.seq ?_
      refine KC.region ?_
      refine KT.step rfl rfl (K.move rfl) ?_
      refine KT.step rfl rfl (K.move rfl) ?_
      refine KT.step rfl rfl (K.len rfl (ints_ok (l := lvls gap l)) Try.underlying23) ?_
      refine KT.step rfl rfl (K.sub rfl rfl (show IntKind.i64.wrap (((lvls gap l).length : Int) - 1) = (((lvls gap l).length - 1 : Nat) : Int) from by rw [wrap_id (by omega)]; omega)) ?_
      refine KT.sliceTo (m := (lvls gap l).length - 1) rfl rfl rfl (ints_ok (l := lvls gap l)) rfl (by omega) Try.underlying23 Try.size3 fun r39 hq39 => ?_
      change Ints r39 (tops gap l) at hq39
      refine KT.step rfl rfl (K.len rfl hq39 Try.underlying23) ?_
      refine KT.step rfl rfl (K.move rfl) ?_
      refine KT.nil ?_
      refine thenK_n ?_
      refine KC.block ?_
      refine KC.loop (fun _ : Nat => σ0 ++ [(⟨(c4 p[i]).map .d, 0⟩ : VObj)]) (fun j => [(0, .d d), (1, .d (DI gap)), (2, .d e), (8, .d (.sl (ints (lvls gap l)) (lvls gap l).length none)), (29, .d e), (30, .d (DI (p.length : Nat))), (9, .d (DI (utl (p.take i)))), (31, .d (DI (i : Nat))), (11, .optr σ0.length 0), (12, .d (DB (fnd (tops gap l) p[i].t j))), (39, .d r39), (40, .d (DI ((tops gap l).length : Nat))), (41, .d (DI (j : Nat)))]) (fun j => j ≤ (tops gap l).length) (fun j => (tops gap l).length - j) 0 (Nat.zero_le _) rfl (by simp [Go.Vm.look, extK, fnd_zero]) ?_
      intro j hj
      refine KC.seq ?_
      refine KC.region ?_
      refine KT.step rfl rfl (K.lss rfl rfl) ?_
      refine KT.nil ?_
      refine thenK_n ?_
      refine KC.seq ?_
      refine KC.cond rfl (fun hc42 => ?_) (fun hc42 => ?_)
      · skip
        replace hc42 := of_decide_eq_true hc42
        have hjl : j < (tops gap l).length := by omega
        refine KC.skip ?_
        refine thenK_n ?_
        refine KC.seq ?_
        refine KC.block ?_
        refine KC.seq ?_
        refine KC.region ?_
        refine KT.idxI (m := j) rfl rfl rfl hq39 rfl hjl Try.underlying23 Try.size3 fun cs43 => ?_
        refine KT.step rfl rfl (K.load rfl Try.agg3) ?_
        refine KT.step rfl rfl (K.assign rfl) ?_
        refine KT.nil ?_
        refine thenK_n ?_
        refine KC.region ?_
        refine KT.step rfl rfl (K.move rfl) ?_
        refine KT.step rfl rfl (K.move rfl) ?_
        refine KT.bcase (fun hb46 => ?_) (fun hb46 => ?_)
        · skip
          refine KT.skip rfl rfl ?_
          refine KT.skip rfl rfl ?_
          refine KT.skip rfl rfl ?_
          refine KT.skip rfl rfl ?_
          refine KT.step rfl rfl (K.pick rfl (fun _ => rfl) (fun h => by cases h)) ?_
          refine KT.step rfl rfl (K.assign rfl) ?_
          refine KT.nil ?_
          refine blockK_n ?_
          refine thenK_n ?_
          refine KC.region ?_
          refine KT.step rfl rfl (K.add rfl rfl (wrap_id (by omega))) ?_
          refine KT.step rfl rfl (K.move rfl) ?_
          refine KT.nil ?_
          refine thenK_n ?_
          have ef := fnd_yes hjl hb46
          exact ⟨j + 1, by omega, by omega, rfl, by simp [Go.Vm.look, extK, ef]⟩
        · skip
          refine KT.step rfl rfl (K.move rfl) ?_
          refine KT.step rfl rfl (K.fieldAddrO rfl Try.fld88_2 Try.size3) ?_
          refine KT.step rfl rfl (K.loadO (y := .d (DI p[i].t)) rfl (List.getElem?_concat_length ..) (by simp) rfl Try.agg3) ?_
          refine KT.step rfl rfl (K.eql rfl rfl) ?_
          refine KT.step rfl rfl (K.pick rfl (fun h => by cases h) (fun _ => rfl)) ?_
          refine KT.step rfl rfl (K.assign rfl) ?_
          refine KT.nil ?_
          refine blockK_n ?_
          refine thenK_n ?_
          refine KC.region ?_
          refine KT.step rfl rfl (K.add rfl rfl (wrap_id (by omega))) ?_
          refine KT.step rfl rfl (K.move rfl) ?_
          refine KT.nil ?_
          refine thenK_n ?_
          have ef := fnd_no hjl hb46
          exact ⟨j + 1, by omega, by omega, rfl, by simp [Go.Vm.look, extK, ef]⟩
      · skip
        replace hc42 := of_decide_eq_false hc42
        obtain rfl : j = (tops gap l).length := by omega
        refine KC.exit ?_
        refine thenK_x ?_
        refine thenK_x ?_
        refine blockK_e ?_
        refine thenK_n ?_
        refine KC.seq ?_
        refine KC.seq ?_
        refine KC.region ?_
        refine KT.step rfl rfl (K.move rfl) ?_
        refine KT.step rfl rfl (K.not rfl) ?_
        refine KT.step rfl rfl (K.move rfl) ?_
        refine KT.bcase (fun hb55 => ?_) (fun hb55 => ?_)
        · skip
          refine KT.skip rfl rfl ?_
          refine KT.skip rfl rfl ?_
          refine KT.skip rfl rfl ?_
          refine KT.step rfl rfl (K.pick rfl (fun _ => rfl) (fun h => by cases h)) ?_
          refine KT.step rfl rfl (K.move rfl) ?_
          refine KT.skip rfl rfl ?_
          refine KT.skip rfl rfl ?_
          refine KT.skip rfl rfl ?_
          refine KT.skip rfl rfl ?_
          refine KT.skip rfl rfl ?_
          refine KT.step rfl rfl (K.pick rfl (fun _ => rfl) (fun h => by cases h)) ?_
          refine KT.step rfl rfl (K.move rfl) ?_
          refine KT.skip rfl rfl ?_
          refine KT.skip rfl rfl ?_
          refine KT.skip rfl rfl ?_
          refine KT.step rfl rfl (K.pick rfl (fun _ => rfl) (fun h => by cases h)) ?_
          refine KT.step rfl rfl (K.move rfl) ?_
          refine KT.skip rfl rfl ?_
          refine KT.skip rfl rfl ?_
          refine KT.skip rfl rfl ?_
          refine KT.skip rfl rfl ?_
          refine KT.skip rfl rfl ?_
          refine KT.step rfl rfl (K.pick rfl (fun _ => rfl) (fun h => by cases h)) ?_
          refine KT.step rfl rfl (K.move rfl) ?_
          refine KT.skip rfl rfl ?_
          refine KT.skip rfl rfl ?_
          refine KT.skip rfl rfl ?_
          refine KT.skip rfl rfl ?_
          refine KT.skip rfl rfl ?_
          refine KT.skip rfl rfl ?_
          refine KT.skip rfl rfl ?_
          refine KT.skip rfl rfl ?_
          refine KT.step rfl rfl (K.pick rfl (fun _ => rfl) (fun h => by cases h)) ?_
          refine KT.step rfl rfl (K.move rfl) ?_
          refine KT.skip rfl rfl ?_
          refine KT.skip rfl rfl ?_
          refine KT.skip rfl rfl ?_
          refine KT.step rfl rfl (K.pick rfl (fun _ => rfl) (fun h => by cases h)) ?_
          refine KT.step rfl rfl (K.move rfl) ?_
          refine KT.skip rfl rfl ?_
          refine KT.skip rfl rfl ?_
          refine KT.skip rfl rfl ?_
          refine KT.step rfl rfl (K.pick rfl (fun _ => rfl) (fun h => by cases h)) ?_
          refine KT.nil ?_
          refine thenK_n ?_
          refine KC.cond rfl (fun hc98 => ?_) (fun hc98 => ?_)
          · skip
            refine KC.seq ?_
            refine KC.region ?_
            refine KT.step rfl rfl (K.assign rfl) ?_
            refine KT.step rfl rfl (K.assign rfl) ?_
            refine KT.nil ?_
            refine thenK_n ?_
            refine KC.ret ?_
            refine thenK_r ?_
            refine blockK_r ?_
            refine thenK_r ?_
            refine thenK_r ?_
            refine blockK_r ?_
            refine thenK_r ?_
            obtain rfl : b = false := Bool.eq_false_iff.2 fun h => by
              have q := hb.1 h
              have v := q.2.1 p[i] (List.getElem_mem hil)
              rw [(fnd_iff (by omega)).2 v.t] at hb55; cases hb55
            exact ⟨.inl rfl, _, rfl, rfl⟩
          · cases hc98
        · skip
          refine KT.step rfl rfl (K.fieldAddrO rfl Try.fld88_0 Try.size3) ?_
          refine KT.step rfl rfl (K.loadO (y := .d (DI p[i].h)) rfl (List.getElem?_concat_length ..) (by simp) rfl Try.agg3) ?_
          refine KT.step rfl rfl (K.lss rfl rfl) ?_
          refine KT.step rfl rfl (K.pick rfl (fun h => by cases h) (fun _ => rfl)) ?_
          refine KT.step rfl rfl (K.move rfl) ?_
          refine KT.bcase (fun hb60 => ?_) (fun hb60 => ?_)
          · skip
            replace hb60 := of_decide_eq_true hb60
            refine KT.skip rfl rfl ?_
            refine KT.skip rfl rfl ?_
            refine KT.skip rfl rfl ?_
            refine KT.skip rfl rfl ?_
            refine KT.skip rfl rfl ?_
            refine KT.step rfl rfl (K.pick rfl (fun _ => rfl) (fun h => by cases h)) ?_
            refine KT.step rfl rfl (K.move rfl) ?_
            refine KT.skip rfl rfl ?_
            refine KT.skip rfl rfl ?_
            refine KT.skip rfl rfl ?_
            refine KT.step rfl rfl (K.pick rfl (fun _ => rfl) (fun h => by cases h)) ?_
            refine KT.step rfl rfl (K.move rfl) ?_
            refine KT.skip rfl rfl ?_
            refine KT.skip rfl rfl ?_
            refine KT.skip rfl rfl ?_
            refine KT.skip rfl rfl ?_
            refine KT.skip rfl rfl ?_
            refine KT.step rfl rfl (K.pick rfl (fun _ => rfl) (fun h => by cases h)) ?_
            refine KT.step rfl rfl (K.move rfl) ?_
            refine KT.skip rfl rfl ?_
            refine KT.skip rfl rfl ?_
            refine KT.skip rfl rfl ?_
            refine KT.skip rfl rfl ?_
            refine KT.skip rfl rfl ?_
            refine KT.skip rfl rfl ?_
            refine KT.skip rfl rfl ?_
            refine KT.skip rfl rfl ?_
            refine KT.step rfl rfl (K.pick rfl (fun _ => rfl) (fun h => by cases h)) ?_
            refine KT.step rfl rfl (K.move rfl) ?_
            refine KT.skip rfl rfl ?_
            refine KT.skip rfl rfl ?_
            refine KT.skip rfl rfl ?_
            refine KT.step rfl rfl (K.pick rfl (fun _ => rfl) (fun h => by cases h)) ?_
            refine KT.step rfl rfl (K.move rfl) ?_
            refine KT.skip rfl rfl ?_
            refine KT.skip rfl rfl ?_
            refine KT.skip rfl rfl ?_
            refine KT.step rfl rfl (K.pick rfl (fun _ => rfl) (fun h => by cases h)) ?_
            refine KT.nil ?_
            refine thenK_n ?_
            refine KC.cond rfl (fun hc98 => ?_) (fun hc98 => ?_)
            · skip
              refine KC.seq ?_
              refine KC.region ?_
              refine KT.step rfl rfl (K.assign rfl) ?_
              refine KT.step rfl rfl (K.assign rfl) ?_
              refine KT.nil ?_
              refine thenK_n ?_
              refine KC.ret ?_
              refine thenK_r ?_
              refine blockK_r ?_
              refine thenK_r ?_
              refine thenK_r ?_
              refine blockK_r ?_
              refine thenK_r ?_
              obtain rfl : b = false := Bool.eq_false_iff.2 fun h => by
                have q := hb.1 h
                have v := q.2.1 p[i] (List.getElem_mem hil)
                have := v.h1
                omega
              exact ⟨.inl rfl, _, rfl, rfl⟩
            · cases hc98
          · skip
            replace hb60 := of_decide_eq_false hb60
            refine KT.step rfl rfl (K.fieldAddrO rfl Try.fld88_0 Try.size3) ?_
            refine KT.step rfl rfl (K.loadO (y := .d (DI p[i].h)) rfl (List.getElem?_concat_length ..) (by simp) rfl Try.agg3) ?_
            refine KT.step rfl rfl (K.move rfl) ?_
            refine KT.step rfl rfl (K.lenF rfl hd Try.underlying22) ?_
            refine KT.step rfl rfl (K.geq rfl rfl) ?_
            refine KT.step rfl rfl (K.pick rfl (fun h => by cases h) (fun _ => rfl)) ?_
            refine KT.step rfl rfl (K.move rfl) ?_
            refine KT.bcase (fun hb67 => ?_) (fun hb67 => ?_)
            · skip
              replace hb67 := of_decide_eq_true hb67
              refine KT.skip rfl rfl ?_
              refine KT.skip rfl rfl ?_
              refine KT.skip rfl rfl ?_
              refine KT.step rfl rfl (K.pick rfl (fun _ => rfl) (fun h => by cases h)) ?_
              refine KT.step rfl rfl (K.move rfl) ?_
              refine KT.skip rfl rfl ?_
              refine KT.skip rfl rfl ?_
              refine KT.skip rfl rfl ?_
              refine KT.skip rfl rfl ?_
              refine KT.skip rfl rfl ?_
              refine KT.step rfl rfl (K.pick rfl (fun _ => rfl) (fun h => by cases h)) ?_
              refine KT.step rfl rfl (K.move rfl) ?_
              refine KT.skip rfl rfl ?_
              refine KT.skip rfl rfl ?_
              refine KT.skip rfl rfl ?_
              refine KT.skip rfl rfl ?_
              refine KT.skip rfl rfl ?_
              refine KT.skip rfl rfl ?_
              refine KT.skip rfl rfl ?_
              refine KT.skip rfl rfl ?_
              refine KT.step rfl rfl (K.pick rfl (fun _ => rfl) (fun h => by cases h)) ?_
              refine KT.step rfl rfl (K.move rfl) ?_
              refine KT.skip rfl rfl ?_
              refine KT.skip rfl rfl ?_
              refine KT.skip rfl rfl ?_
              refine KT.step rfl rfl (K.pick rfl (fun _ => rfl) (fun h => by cases h)) ?_
              refine KT.step rfl rfl (K.move rfl) ?_
              refine KT.skip rfl rfl ?_
              refine KT.skip rfl rfl ?_
              refine KT.skip rfl rfl ?_
              refine KT.step rfl rfl (K.pick rfl (fun _ => rfl) (fun h => by cases h)) ?_
              refine KT.nil ?_
              refine thenK_n ?_
              refine KC.cond rfl (fun hc98 => ?_) (fun hc98 => ?_)
              · skip
                refine KC.seq ?_
                refine KC.region ?_
                refine KT.step rfl rfl (K.assign rfl) ?_
                refine KT.step rfl rfl (K.assign rfl) ?_
                refine KT.nil ?_
                refine thenK_n ?_
                refine KC.ret ?_
                refine thenK_r ?_
                refine blockK_r ?_
                refine thenK_r ?_
                refine thenK_r ?_
                refine blockK_r ?_
                refine thenK_r ?_
                obtain rfl : b = false := Bool.eq_false_iff.2 fun h => by
                  have q := hb.1 h
                  have v := q.2.1 p[i] (List.getElem_mem hil)
                  have := v.h2
                  omega
                exact ⟨.inl rfl, _, rfl, rfl⟩
              · cases hc98
            · skip
              replace hb67 := of_decide_eq_false hb67
              refine KT.step rfl rfl (K.fieldAddrO rfl Try.fld88_1 Try.size3) ?_
              refine KT.step rfl rfl (K.loadO (y := .d (DI p[i].c)) rfl (List.getElem?_concat_length ..) (by simp) rfl Try.agg3) ?_
              refine KT.step rfl rfl (K.lss rfl rfl) ?_
              refine KT.step rfl rfl (K.pick rfl (fun h => by cases h) (fun _ => rfl)) ?_
              refine KT.step rfl rfl (K.move rfl) ?_
              refine KT.bcase (fun hb72 => ?_) (fun hb72 => ?_)
              · skip
                replace hb72 := of_decide_eq_true hb72
                refine KT.skip rfl rfl ?_
                refine KT.skip rfl rfl ?_
                refine KT.skip rfl rfl ?_
                refine KT.skip rfl rfl ?_
                refine KT.skip rfl rfl ?_
                refine KT.step rfl rfl (K.pick rfl (fun _ => rfl) (fun h => by cases h)) ?_
                refine KT.step rfl rfl (K.move rfl) ?_
                refine KT.skip rfl rfl ?_
                refine KT.skip rfl rfl ?_
                refine KT.skip rfl rfl ?_
                refine KT.skip rfl rfl ?_
                refine KT.skip rfl rfl ?_
                refine KT.skip rfl rfl ?_
                refine KT.skip rfl rfl ?_
                refine KT.skip rfl rfl ?_
                refine KT.step rfl rfl (K.pick rfl (fun _ => rfl) (fun h => by cases h)) ?_
                refine KT.step rfl rfl (K.move rfl) ?_
                refine KT.skip rfl rfl ?_
                refine KT.skip rfl rfl ?_
                refine KT.skip rfl rfl ?_
                refine KT.step rfl rfl (K.pick rfl (fun _ => rfl) (fun h => by cases h)) ?_
                refine KT.step rfl rfl (K.move rfl) ?_
                refine KT.skip rfl rfl ?_
                refine KT.skip rfl rfl ?_
                refine KT.skip rfl rfl ?_
                refine KT.step rfl rfl (K.pick rfl (fun _ => rfl) (fun h => by cases h)) ?_
                refine KT.nil ?_
                refine thenK_n ?_
                refine KC.cond rfl (fun hc98 => ?_) (fun hc98 => ?_)
                · skip
                  refine KC.seq ?_
                  refine KC.region ?_
                  refine KT.step rfl rfl (K.assign rfl) ?_
                  refine KT.step rfl rfl (K.assign rfl) ?_
                  refine KT.nil ?_
                  refine thenK_n ?_
                  refine KC.ret ?_
                  refine thenK_r ?_
                  refine blockK_r ?_
                  refine thenK_r ?_
                  refine thenK_r ?_
                  refine blockK_r ?_
                  refine thenK_r ?_
                  obtain rfl : b = false := Bool.eq_false_iff.2 fun h => by
                    have q := hb.1 h
                    have v := q.2.1 p[i] (List.getElem_mem hil)
                    have := v.c1
                    omega
                  exact ⟨.inl rfl, _, rfl, rfl⟩
                · cases hc98
              · skip
                replace hb72 := of_decide_eq_false hb72
                refine KT.step rfl rfl (K.fieldAddrO rfl Try.fld88_1 Try.size3) ?_
                refine KT.step rfl rfl (K.loadO (y := .d (DI p[i].c)) rfl (List.getElem?_concat_length ..) (by simp) rfl Try.agg3) ?_
                refine KT.step rfl rfl (K.move rfl) ?_
                refine KT.step rfl rfl (K.lenF rfl hd Try.underlying22) ?_
                refine KT.step rfl rfl (K.geq rfl rfl) ?_
                refine KT.step rfl rfl (K.pick rfl (fun h => by cases h) (fun _ => rfl)) ?_
                refine KT.step rfl rfl (K.move rfl) ?_
                refine KT.bcase (fun hb79 => ?_) (fun hb79 => ?_)
                · skip
                  replace hb79 := of_decide_eq_true hb79
                  refine KT.skip rfl rfl ?_
                  refine KT.skip rfl rfl ?_
                  refine KT.skip rfl rfl ?_
                  refine KT.skip rfl rfl ?_
                  refine KT.skip rfl rfl ?_
                  refine KT.skip rfl rfl ?_
                  refine KT.skip rfl rfl ?_
                  refine KT.skip rfl rfl ?_
                  refine KT.step rfl rfl (K.pick rfl (fun _ => rfl) (fun h => by cases h)) ?_
                  refine KT.step rfl rfl (K.move rfl) ?_
                  refine KT.skip rfl rfl ?_
                  refine KT.skip rfl rfl ?_
                  refine KT.skip rfl rfl ?_
                  refine KT.step rfl rfl (K.pick rfl (fun _ => rfl) (fun h => by cases h)) ?_
                  refine KT.step rfl rfl (K.move rfl) ?_
                  refine KT.skip rfl rfl ?_
                  refine KT.skip rfl rfl ?_
                  refine KT.skip rfl rfl ?_
                  refine KT.step rfl rfl (K.pick rfl (fun _ => rfl) (fun h => by cases h)) ?_
                  refine KT.nil ?_
                  refine thenK_n ?_
                  refine KC.cond rfl (fun hc98 => ?_) (fun hc98 => ?_)
                  · skip
                    refine KC.seq ?_
                    refine KC.region ?_
                    refine KT.step rfl rfl (K.assign rfl) ?_
                    refine KT.step rfl rfl (K.assign rfl) ?_
                    refine KT.nil ?_
                    refine thenK_n ?_
                    refine KC.ret ?_
                    refine thenK_r ?_
                    refine blockK_r ?_
                    refine thenK_r ?_
                    refine thenK_r ?_
                    refine blockK_r ?_
                    refine thenK_r ?_
                    obtain rfl : b = false := Bool.eq_false_iff.2 fun h => by
                      have q := hb.1 h
                      have v := q.2.1 p[i] (List.getElem_mem hil)
                      have := v.c2
                      omega
                    exact ⟨.inl rfl, _, rfl, rfl⟩
                  · cases hc98
                · skip
                  replace hb79 := of_decide_eq_false hb79
                  refine KT.step rfl rfl (K.fieldAddrO rfl Try.fld88_0 Try.size3) ?_
                  refine KT.step rfl rfl (K.loadO (y := .d (DI p[i].h)) rfl (List.getElem?_concat_length ..) (by simp) rfl Try.agg3) ?_
                  refine KT.step rfl rfl (K.eql rfl rfl) ?_
                  refine KT.step rfl rfl (K.move rfl) ?_
                  refine KT.bcase (fun hb83 => ?_) (fun hb83 => ?_)
                  · skip
                    replace hb83 := of_decide_eq_true hb83
                    refine KT.step rfl rfl (K.fieldAddrO rfl Try.fld88_1 Try.size3) ?_
                    refine KT.step rfl rfl (K.loadO (y := .d (DI p[i].c)) rfl (List.getElem?_concat_length ..) (by simp) rfl Try.agg3) ?_
                    refine KT.step rfl rfl (K.eql rfl rfl) ?_
                    refine KT.step rfl rfl (K.pick rfl (fun _ => rfl) (fun h => by cases h)) ?_
                    refine KT.step rfl rfl (K.pick rfl (fun h => by cases h) (fun _ => rfl)) ?_
                    refine KT.step rfl rfl (K.move rfl) ?_
                    refine KT.bcase (fun hb89 => ?_) (fun hb89 => ?_)
                    · skip
                      replace hb89 := of_decide_eq_true hb89
                      refine KT.skip rfl rfl ?_
                      refine KT.skip rfl rfl ?_
                      refine KT.skip rfl rfl ?_
                      refine KT.step rfl rfl (K.pick rfl (fun _ => rfl) (fun h => by cases h)) ?_
                      refine KT.step rfl rfl (K.move rfl) ?_
                      refine KT.skip rfl rfl ?_
                      refine KT.skip rfl rfl ?_
                      refine KT.skip rfl rfl ?_
                      refine KT.step rfl rfl (K.pick rfl (fun _ => rfl) (fun h => by cases h)) ?_
                      refine KT.nil ?_
                      refine thenK_n ?_
                      refine KC.cond rfl (fun hc98 => ?_) (fun hc98 => ?_)
                      · skip
                        refine KC.seq ?_
                        refine KC.region ?_
                        refine KT.step rfl rfl (K.assign rfl) ?_
                        refine KT.step rfl rfl (K.assign rfl) ?_
                        refine KT.nil ?_
                        refine thenK_n ?_
                        refine KC.ret ?_
                        refine thenK_r ?_
                        refine blockK_r ?_
                        refine thenK_r ?_
                        refine thenK_r ?_
                        refine blockK_r ?_
                        refine thenK_r ?_
                        obtain rfl : b = false := Bool.eq_false_iff.2 fun h => by
                          have q := hb.1 h
                          have v := q.2.1 p[i] (List.getElem_mem hil)
                          exact v.nb ⟨hb83, hb89⟩
                        exact ⟨.inl rfl, _, rfl, rfl⟩
                      · cases hc98
                    · skip
                      replace hb89 := of_decide_eq_false hb89
                      refine KT.step rfl rfl (K.fieldAddrO rfl Try.fld88_3 Try.size3) ?_
                      refine KT.step rfl rfl (K.loadO (y := .d (DI p[i].q)) rfl (List.getElem?_concat_length ..) (by simp) rfl Try.agg3) ?_
                      refine KT.step rfl rfl (K.lss rfl rfl) ?_
                      refine KT.step rfl rfl (K.pick rfl (fun h => by cases h) (fun _ => rfl)) ?_
                      refine KT.step rfl rfl (K.move rfl) ?_
                      refine KT.bcase (fun hb94 => ?_) (fun hb94 => ?_)
                      · skip
                        replace hb94 := of_decide_eq_true hb94
                        refine KT.skip rfl rfl ?_
                        refine KT.skip rfl rfl ?_
                        refine KT.skip rfl rfl ?_
                        refine KT.step rfl rfl (K.pick rfl (fun _ => rfl) (fun h => by cases h)) ?_
                        refine KT.nil ?_
                        refine thenK_n ?_
                        refine KC.cond rfl (fun hc98 => ?_) (fun hc98 => ?_)
                        · skip
                          refine KC.seq ?_
                          refine KC.region ?_
                          refine KT.step rfl rfl (K.assign rfl) ?_
                          refine KT.step rfl rfl (K.assign rfl) ?_
                          refine KT.nil ?_
                          refine thenK_n ?_
                          refine KC.ret ?_
                          refine thenK_r ?_
                          refine blockK_r ?_
                          refine thenK_r ?_
                          refine thenK_r ?_
                          refine blockK_r ?_
                          refine thenK_r ?_
                          obtain rfl : b = false := Bool.eq_false_iff.2 fun h => by
                            have q := hb.1 h
                            have v := q.2.1 p[i] (List.getElem_mem hil)
                            have := v.q1
                            omega
                          exact ⟨.inl rfl, _, rfl, rfl⟩
                        · cases hc98
                      · skip
                        replace hb94 := of_decide_eq_false hb94
                        refine KT.step rfl rfl (K.fieldAddrO rfl Try.fld88_3 Try.size3) ?_
                        refine KT.step rfl rfl (K.loadO (y := .d (DI p[i].q)) rfl (List.getElem?_concat_length ..) (by simp) rfl Try.agg3) ?_
                        refine KT.step rfl rfl (K.gtr rfl rfl) ?_
                        refine KT.step rfl rfl (K.pick rfl (fun h => by cases h) (fun _ => rfl)) ?_
                        refine KT.nil ?_
                        refine thenK_n ?_
                        refine KC.cond rfl (fun hc98 => ?_) (fun hc98 => ?_)
                        · skip
                          replace hc98 := of_decide_eq_true hc98
                          refine KC.seq ?_
                          refine KC.region ?_
                          refine KT.step rfl rfl (K.assign rfl) ?_
                          refine KT.step rfl rfl (K.assign rfl) ?_
                          refine KT.nil ?_
                          refine thenK_n ?_
                          refine KC.ret ?_
                          refine thenK_r ?_
                          refine blockK_r ?_
                          refine thenK_r ?_
                          refine thenK_r ?_
                          refine blockK_r ?_
                          refine thenK_r ?_
                          obtain rfl : b = false := Bool.eq_false_iff.2 fun h => by
                            have q := hb.1 h
                            have v := q.2.1 p[i] (List.getElem_mem hil)
                            have := v.q2
                            omega
                          exact ⟨.inl rfl, _, rfl, rfl⟩
                        · skip
                          replace hc98 := of_decide_eq_false hc98
                          refine KC.skip ?_
                          refine thenK_n ?_
                          refine KC.seq ?_
                          refine KC.seq ?_
                          refine KC.region ?_
                          refine KT.step rfl rfl (K.fieldAddrO rfl Try.fld88_0 Try.size3) ?_
                          refine KT.step rfl rfl (K.loadO (y := .d (DI p[i].h)) rfl (List.getElem?_concat_length ..) (by simp) rfl Try.agg3) ?_
                          refine KT.step rfl rfl (K.geq rfl rfl) ?_
                          refine KT.step rfl rfl (K.move rfl) ?_
                          refine KT.bcase (fun hb102 => ?_) (fun hb102 => ?_)
                          · skip
                            replace hb102 := of_decide_eq_true hb102
                            refine KT.step rfl rfl (K.move rfl) ?_
                            refine KT.step rfl rfl (K.fieldAddrO rfl Try.fld88_0 Try.size3) ?_
                            refine KT.step rfl rfl (K.loadO (y := .d (DI p[i].h)) rfl (List.getElem?_concat_length ..) (by simp) rfl Try.agg3) ?_
                            refine KT.step rfl rfl (K.idxF c3_len (m := p[i].h.toNat) rfl hd (by rw [← show p[i].h = ((p[i].h.toNat : Nat) : Int) by omega]; rfl) (by omega) Try.underlying22 Try.size63) ?_
                            refine KT.step rfl rfl (K.loadFl (cs := c3 (l[p[i].h.toNat]'(by omega))) rfl rfl Try.agg63 Try.size63) ?_
                            refine KT.step rfl rfl (K.call1 rfl plainTry_50 (rhot50 (l[p[i].h.toNat]'(by omega)))) ?_
                            refine KT.step rfl rfl (K.not rfl) ?_
                            refine KT.step rfl rfl (K.pick rfl (fun _ => rfl) (fun h => by cases h)) ?_
                            refine KT.step rfl rfl (K.move rfl) ?_
                            refine KT.bcase (fun hb111 => ?_) (fun hb111 => ?_)
                            · skip
                              refine KT.skip rfl rfl ?_
                              refine KT.skip rfl rfl ?_
                              refine KT.skip rfl rfl ?_
                              refine KT.skip rfl rfl ?_
                              refine KT.skip rfl rfl ?_
                              refine KT.skip rfl rfl ?_
                              refine KT.skip rfl rfl ?_
                              refine KT.skip rfl rfl ?_
                              refine KT.skip rfl rfl ?_
                              refine KT.skip rfl rfl ?_
                              refine KT.skip rfl rfl ?_
                              refine KT.step rfl rfl (K.pick rfl (fun _ => rfl) (fun h => by cases h)) ?_
                              refine KT.nil ?_
                              refine thenK_n ?_
                              refine KC.cond rfl (fun hc123 => ?_) (fun hc123 => ?_)
                              · skip
                                refine KC.seq ?_
                                refine KC.region ?_
                                refine KT.step rfl rfl (K.assign rfl) ?_
                                refine KT.step rfl rfl (K.assign rfl) ?_
                                refine KT.nil ?_
                                refine thenK_n ?_
                                refine KC.ret ?_
                                refine thenK_r ?_
                                refine blockK_r ?_
                                refine thenK_r ?_
                                refine thenK_r ?_
                                refine blockK_r ?_
                                refine thenK_r ?_
                                obtain rfl : b = false := Bool.eq_false_iff.2 fun h => by
                                  have q := hb.1 h
                                  have v := q.2.1 p[i] (List.getElem_mem hil)
                                  have := v.hh _ (show p[i].h.toNat < l.length by omega) (by omega)
                                  rw [this] at hb111; cases hb111
                                exact ⟨.inl rfl, _, rfl, rfl⟩
                              · cases hc123
                            · skip
                              refine KT.step rfl rfl (K.fieldAddrO rfl Try.fld88_1 Try.size3) ?_
                              refine KT.step rfl rfl (K.loadO (y := .d (DI p[i].c)) rfl (List.getElem?_concat_length ..) (by simp) rfl Try.agg3) ?_
                              refine KT.step rfl rfl (K.geq rfl rfl) ?_
                              refine KT.step rfl rfl (K.move rfl) ?_
                              refine KT.bcase (fun hb115 => ?_) (fun hb115 => ?_)
                              · skip
                                replace hb115 := of_decide_eq_true hb115
                                refine KT.step rfl rfl (K.move rfl) ?_
                                refine KT.step rfl rfl (K.fieldAddrO rfl Try.fld88_1 Try.size3) ?_
                                refine KT.step rfl rfl (K.loadO (y := .d (DI p[i].c)) rfl (List.getElem?_concat_length ..) (by simp) rfl Try.agg3) ?_
                                refine KT.step rfl rfl (K.idxF c3_len (m := p[i].c.toNat) rfl hd (by rw [← show p[i].c = ((p[i].c.toNat : Nat) : Int) by omega]; rfl) (by omega) Try.underlying22 Try.size63) ?_
                                refine KT.step rfl rfl (K.loadFl (cs := c3 (l[p[i].c.toNat]'(by omega))) rfl rfl Try.agg63 Try.size63) ?_
                                refine KT.step rfl rfl (K.call1 rfl plainTry_50 (rhot50 (l[p[i].c.toNat]'(by omega)))) ?_
                                refine KT.step rfl rfl (K.pick rfl (fun _ => rfl) (fun h => by cases h)) ?_
                                refine KT.step rfl rfl (K.pick rfl (fun h => by cases h) (fun _ => rfl)) ?_
                                refine KT.nil ?_
                                refine thenK_n ?_
                                refine KC.cond rfl (fun hc123 => ?_) (fun hc123 => ?_)
                                · skip
                                  refine KC.seq ?_
                                  refine KC.region ?_
                                  refine KT.step rfl rfl (K.assign rfl) ?_
                                  refine KT.step rfl rfl (K.assign rfl) ?_
                                  refine KT.nil ?_
                                  refine thenK_n ?_
                                  refine KC.ret ?_
                                  refine thenK_r ?_
                                  refine blockK_r ?_
                                  refine thenK_r ?_
                                  refine thenK_r ?_
                                  refine blockK_r ?_
                                  refine thenK_r ?_
                                  obtain rfl : b = false := Bool.eq_false_iff.2 fun h => by
                                    have q := hb.1 h
                                    have v := q.2.1 p[i] (List.getElem_mem hil)
                                    have := v.cc _ (show p[i].c.toNat < l.length by omega) (by omega)
                                    rw [this] at hc123; cases hc123
                                  exact ⟨.inl rfl, _, rfl, rfl⟩
                                · skip
                                  refine KC.skip ?_
                                  refine thenK_n ?_
                                  refine KC.seq ?_
                                  refine KC.region ?_
                                  refine KT.step rfl rfl (K.fieldAddrO rfl Try.fld88_0 Try.size3) ?_
                                  refine KT.step rfl rfl (K.loadO (y := .d (DI p[i].h)) rfl (List.getElem?_concat_length ..) (by simp) rfl Try.agg3) ?_
                                  refine KT.step rfl rfl (K.eql rfl rfl) ?_
                                  refine KT.nil ?_
                                  refine thenK_n ?_
                                  refine KC.cond rfl (fun hc126 => ?_) (fun hc126 => ?_)
                                  · skip
                                    replace hc126 := of_decide_eq_true hc126
                                    refine KC.region ?_
                                    refine KT.step rfl rfl (K.move rfl) ?_
                                    refine KT.step rfl rfl (K.fieldAddrO rfl Try.fld88_3 Try.size3) ?_
                                    refine KT.step rfl rfl (K.loadO (y := .d (DI p[i].q)) rfl (List.getElem?_concat_length ..) (by simp) rfl Try.agg3) ?_
                                    refine KT.step rfl rfl (K.add rfl rfl (wrap_id (by omega))) ?_
                                    refine KT.step rfl rfl (K.assign rfl) ?_
                                    refine KT.nil ?_
                                    refine blockK_n ?_
                                    refine thenK_n ?_
                                    refine KC.region ?_
                                    refine KT.step rfl rfl (K.add rfl rfl (wrap_id (by omega))) ?_
                                    refine KT.step rfl rfl (K.move rfl) ?_
                                    refine KT.nil ?_
                                    refine thenK_n ?_
                                    have hvn : VLd gap l p[i] := ⟨(fnd_iff (j := (tops gap l).length) (Nat.le_refl _)).1 (by simpa using hb55), by omega, by omega, by omega, by omega, fun h => hb89 h.2, by omega, by omega, fun i' hi' e => by
                                      have e3 : p[i].h.toNat = i' := by omega
                                      subst e3; simpa using hb111, fun i' hi' e => by
                                      have e3 : p[i].c.toNat = i' := by omega
                                      subst e3; simpa using hc123⟩
                                    rw [if_pos hc126] at hsn
                                    exact ⟨(_, i + 1), ⟨by simp only; omega, ld_snoc hil hv hvn⟩, by simp only; omega, rfl, by simp [Go.Vm.look, extK, hsn]⟩
                                  · skip
                                    replace hc126 := of_decide_eq_false hc126
                                    refine KC.skip ?_
                                    refine blockK_n ?_
                                    refine thenK_n ?_
                                    refine KC.region ?_
                                    refine KT.step rfl rfl (K.add rfl rfl (wrap_id (by omega))) ?_
                                    refine KT.step rfl rfl (K.move rfl) ?_
                                    refine KT.nil ?_
                                    refine thenK_n ?_
                                    have hvn : VLd gap l p[i] := ⟨(fnd_iff (j := (tops gap l).length) (Nat.le_refl _)).1 (by simpa using hb55), by omega, by omega, by omega, by omega, fun h => hb89 h.2, by omega, by omega, fun i' hi' e => by
                                      have e3 : p[i].h.toNat = i' := by omega
                                      subst e3; simpa using hb111, fun i' hi' e => by
                                      have e3 : p[i].c.toNat = i' := by omega
                                      subst e3; simpa using hc123⟩
                                    rw [if_neg hc126, Int.add_zero] at hsn
                                    exact ⟨(_, i + 1), ⟨by simp only; omega, ld_snoc hil hv hvn⟩, by simp only; omega, rfl, by simp [Go.Vm.look, extK, hsn]⟩
                              · skip
                                replace hb115 := of_decide_eq_false hb115
                                refine KT.skip rfl rfl ?_
                                refine KT.skip rfl rfl ?_
                                refine KT.skip rfl rfl ?_
                                refine KT.skip rfl rfl ?_
                                refine KT.skip rfl rfl ?_
                                refine KT.skip rfl rfl ?_
                                refine KT.step rfl rfl (K.pick rfl (fun h => by cases h) (fun _ => rfl)) ?_
                                refine KT.step rfl rfl (K.pick rfl (fun h => by cases h) (fun _ => rfl)) ?_
                                refine KT.nil ?_
                                refine thenK_n ?_
                                refine KC.cond rfl (fun hc123 => ?_) (fun hc123 => ?_)
                                · cases hc123
                                · skip
                                  refine KC.skip ?_
                                  refine thenK_n ?_
                                  refine KC.seq ?_
                                  refine KC.region ?_
                                  refine KT.step rfl rfl (K.fieldAddrO rfl Try.fld88_0 Try.size3) ?_
                                  refine KT.step rfl rfl (K.loadO (y := .d (DI p[i].h)) rfl (List.getElem?_concat_length ..) (by simp) rfl Try.agg3) ?_
                                  refine KT.step rfl rfl (K.eql rfl rfl) ?_
                                  refine KT.nil ?_
                                  refine thenK_n ?_
                                  refine KC.cond rfl (fun hc126 => ?_) (fun hc126 => ?_)
                                  · skip
                                    replace hc126 := of_decide_eq_true hc126
                                    refine KC.region ?_
                                    refine KT.step rfl rfl (K.move rfl) ?_
                                    refine KT.step rfl rfl (K.fieldAddrO rfl Try.fld88_3 Try.size3) ?_
                                    refine KT.step rfl rfl (K.loadO (y := .d (DI p[i].q)) rfl (List.getElem?_concat_length ..) (by simp) rfl Try.agg3) ?_
                                    refine KT.step rfl rfl (K.add rfl rfl (wrap_id (by omega))) ?_
                                    refine KT.step rfl rfl (K.assign rfl) ?_
                                    refine KT.nil ?_
                                    refine blockK_n ?_
                                    refine thenK_n ?_
                                    refine KC.region ?_
                                    refine KT.step rfl rfl (K.add rfl rfl (wrap_id (by omega))) ?_
                                    refine KT.step rfl rfl (K.move rfl) ?_
                                    refine KT.nil ?_
                                    refine thenK_n ?_
                                    have hvn : VLd gap l p[i] := ⟨(fnd_iff (j := (tops gap l).length) (Nat.le_refl _)).1 (by simpa using hb55), by omega, by omega, by omega, by omega, fun h => hb89 h.2, by omega, by omega, fun i' hi' e => by
                                      have e3 : p[i].h.toNat = i' := by omega
                                      subst e3; simpa using hb111, fun i' hi' e => by omega⟩
                                    rw [if_pos hc126] at hsn
                                    exact ⟨(_, i + 1), ⟨by simp only; omega, ld_snoc hil hv hvn⟩, by simp only; omega, rfl, by simp [Go.Vm.look, extK, hsn]⟩
                                  · skip
                                    replace hc126 := of_decide_eq_false hc126
                                    refine KC.skip ?_
                                    refine blockK_n ?_
                                    refine thenK_n ?_
                                    refine KC.region ?_
                                    refine KT.step rfl rfl (K.add rfl rfl (wrap_id (by omega))) ?_
                                    refine KT.step rfl rfl (K.move rfl) ?_
                                    refine KT.nil ?_
                                    refine thenK_n ?_
                                    have hvn : VLd gap l p[i] := ⟨(fnd_iff (j := (tops gap l).length) (Nat.le_refl _)).1 (by simpa using hb55), by omega, by omega, by omega, by omega, fun h => hb89 h.2, by omega, by omega, fun i' hi' e => by
                                      have e3 : p[i].h.toNat = i' := by omega
                                      subst e3; simpa using hb111, fun i' hi' e => by omega⟩
                                    rw [if_neg hc126, Int.add_zero] at hsn
                                    exact ⟨(_, i + 1), ⟨by simp only; omega, ld_snoc hil hv hvn⟩, by simp only; omega, rfl, by simp [Go.Vm.look, extK, hsn]⟩
                          · skip
                            replace hb102 := of_decide_eq_false hb102
                            refine KT.skip rfl rfl ?_
                            refine KT.skip rfl rfl ?_
                            refine KT.skip rfl rfl ?_
                            refine KT.skip rfl rfl ?_
                            refine KT.skip rfl rfl ?_
                            refine KT.skip rfl rfl ?_
                            refine KT.skip rfl rfl ?_
                            refine KT.step rfl rfl (K.pick rfl (fun h => by cases h) (fun _ => rfl)) ?_
                            refine KT.step rfl rfl (K.move rfl) ?_
                            refine KT.step rfl rfl (K.fieldAddrO rfl Try.fld88_1 Try.size3) ?_
                            refine KT.step rfl rfl (K.loadO (y := .d (DI p[i].c)) rfl (List.getElem?_concat_length ..) (by simp) rfl Try.agg3) ?_
                            refine KT.step rfl rfl (K.geq rfl rfl) ?_
                            refine KT.step rfl rfl (K.move rfl) ?_
                            refine KT.bcase (fun hb115 => ?_) (fun hb115 => ?_)
                            · skip
                              replace hb115 := of_decide_eq_true hb115
                              refine KT.step rfl rfl (K.move rfl) ?_
                              refine KT.step rfl rfl (K.fieldAddrO rfl Try.fld88_1 Try.size3) ?_
                              refine KT.step rfl rfl (K.loadO (y := .d (DI p[i].c)) rfl (List.getElem?_concat_length ..) (by simp) rfl Try.agg3) ?_
                              refine KT.step rfl rfl (K.idxF c3_len (m := p[i].c.toNat) rfl hd (by rw [← show p[i].c = ((p[i].c.toNat : Nat) : Int) by omega]; rfl) (by omega) Try.underlying22 Try.size63) ?_
                              refine KT.step rfl rfl (K.loadFl (cs := c3 (l[p[i].c.toNat]'(by omega))) rfl rfl Try.agg63 Try.size63) ?_
                              refine KT.step rfl rfl (K.call1 rfl plainTry_50 (rhot50 (l[p[i].c.toNat]'(by omega)))) ?_
                              refine KT.step rfl rfl (K.pick rfl (fun _ => rfl) (fun h => by cases h)) ?_
                              refine KT.step rfl rfl (K.pick rfl (fun h => by cases h) (fun _ => rfl)) ?_
                              refine KT.nil ?_
                              refine thenK_n ?_
                              refine KC.cond rfl (fun hc123 => ?_) (fun hc123 => ?_)
                              · skip
                                refine KC.seq ?_
                                refine KC.region ?_
                                refine KT.step rfl rfl (K.assign rfl) ?_
                                refine KT.step rfl rfl (K.assign rfl) ?_
                                refine KT.nil ?_
                                refine thenK_n ?_
                                refine KC.ret ?_
                                refine thenK_r ?_
                                refine blockK_r ?_
                                refine thenK_r ?_
                                refine thenK_r ?_
                                refine blockK_r ?_
                                refine thenK_r ?_
                                obtain rfl : b = false := Bool.eq_false_iff.2 fun h => by
                                  have q := hb.1 h
                                  have v := q.2.1 p[i] (List.getElem_mem hil)
                                  have := v.cc _ (show p[i].c.toNat < l.length by omega) (by omega)
                                  rw [this] at hc123; cases hc123
                                exact ⟨.inl rfl, _, rfl, rfl⟩
                              · skip
                                refine KC.skip ?_
                                refine thenK_n ?_
                                refine KC.seq ?_
                                refine KC.region ?_
                                refine KT.step rfl rfl (K.fieldAddrO rfl Try.fld88_0 Try.size3) ?_
                                refine KT.step rfl rfl (K.loadO (y := .d (DI p[i].h)) rfl (List.getElem?_concat_length ..) (by simp) rfl Try.agg3) ?_
                                refine KT.step rfl rfl (K.eql rfl rfl) ?_
                                refine KT.nil ?_
                                refine thenK_n ?_
                                refine KC.cond rfl (fun hc126 => ?_) (fun hc126 => ?_)
                                · skip
                                  replace hc126 := of_decide_eq_true hc126
                                  refine KC.region ?_
                                  refine KT.step rfl rfl (K.move rfl) ?_
                                  refine KT.step rfl rfl (K.fieldAddrO rfl Try.fld88_3 Try.size3) ?_
                                  refine KT.step rfl rfl (K.loadO (y := .d (DI p[i].q)) rfl (List.getElem?_concat_length ..) (by simp) rfl Try.agg3) ?_
                                  refine KT.step rfl rfl (K.add rfl rfl (wrap_id (by omega))) ?_
                                  refine KT.step rfl rfl (K.assign rfl) ?_
                                  refine KT.nil ?_
                                  refine blockK_n ?_
                                  refine thenK_n ?_
                                  refine KC.region ?_
                                  refine KT.step rfl rfl (K.add rfl rfl (wrap_id (by omega))) ?_
                                  refine KT.step rfl rfl (K.move rfl) ?_
                                  refine KT.nil ?_
                                  refine thenK_n ?_
                                  have hvn : VLd gap l p[i] := ⟨(fnd_iff (j := (tops gap l).length) (Nat.le_refl _)).1 (by simpa using hb55), by omega, by omega, by omega, by omega, fun h => hb89 h.2, by omega, by omega, fun i' hi' e => by omega, fun i' hi' e => by
                                    have e3 : p[i].c.toNat = i' := by omega
                                    subst e3; simpa using hc123⟩
                                  rw [if_pos hc126] at hsn
                                  exact ⟨(_, i + 1), ⟨by simp only; omega, ld_snoc hil hv hvn⟩, by simp only; omega, rfl, by simp [Go.Vm.look, extK, hsn]⟩
                                · skip
                                  replace hc126 := of_decide_eq_false hc126
                                  refine KC.skip ?_
                                  refine blockK_n ?_
                                  refine thenK_n ?_
                                  refine KC.region ?_
                                  refine KT.step rfl rfl (K.add rfl rfl (wrap_id (by omega))) ?_
                                  refine KT.step rfl rfl (K.move rfl) ?_
                                  refine KT.nil ?_
                                  refine thenK_n ?_
                                  have hvn : VLd gap l p[i] := ⟨(fnd_iff (j := (tops gap l).length) (Nat.le_refl _)).1 (by simpa using hb55), by omega, by omega, by omega, by omega, fun h => hb89 h.2, by omega, by omega, fun i' hi' e => by omega, fun i' hi' e => by
                                    have e3 : p[i].c.toNat = i' := by omega
                                    subst e3; simpa using hc123⟩
                                  rw [if_neg hc126, Int.add_zero] at hsn
                                  exact ⟨(_, i + 1), ⟨by simp only; omega, ld_snoc hil hv hvn⟩, by simp only; omega, rfl, by simp [Go.Vm.look, extK, hsn]⟩
                            · skip
                              replace hb115 := of_decide_eq_false hb115
                              refine KT.skip rfl rfl ?_
                              refine KT.skip rfl rfl ?_
                              refine KT.skip rfl rfl ?_
                              refine KT.skip rfl rfl ?_
                              refine KT.skip rfl rfl ?_
                              refine KT.skip rfl rfl ?_
                              refine KT.step rfl rfl (K.pick rfl (fun h => by cases h) (fun _ => rfl)) ?_
                              refine KT.step rfl rfl (K.pick rfl (fun h => by cases h) (fun _ => rfl)) ?_
                              refine KT.nil ?_
                              refine thenK_n ?_
                              refine KC.cond rfl (fun hc123 => ?_) (fun hc123 => ?_)
                              · cases hc123
                              · skip
                                refine KC.skip ?_
                                refine thenK_n ?_
                                refine KC.seq ?_
                                refine KC.region ?_
                                refine KT.step rfl rfl (K.fieldAddrO rfl Try.fld88_0 Try.size3) ?_
                                refine KT.step rfl rfl (K.loadO (y := .d (DI p[i].h)) rfl (List.getElem?_concat_length ..) (by simp) rfl Try.agg3) ?_
                                refine KT.step rfl rfl (K.eql rfl rfl) ?_
                                refine KT.nil ?_
                                refine thenK_n ?_
                                refine KC.cond rfl (fun hc126 => ?_) (fun hc126 => ?_)
                                · skip
                                  replace hc126 := of_decide_eq_true hc126
                                  refine KC.region ?_
                                  refine KT.step rfl rfl (K.move rfl) ?_
                                  refine KT.step rfl rfl (K.fieldAddrO rfl Try.fld88_3 Try.size3) ?_
                                  refine KT.step rfl rfl (K.loadO (y := .d (DI p[i].q)) rfl (List.getElem?_concat_length ..) (by simp) rfl Try.agg3) ?_
                                  refine KT.step rfl rfl (K.add rfl rfl (wrap_id (by omega))) ?_
                                  refine KT.step rfl rfl (K.assign rfl) ?_
                                  refine KT.nil ?_
                                  refine blockK_n ?_
                                  refine thenK_n ?_
                                  refine KC.region ?_
                                  refine KT.step rfl rfl (K.add rfl rfl (wrap_id (by omega))) ?_
                                  refine KT.step rfl rfl (K.move rfl) ?_
                                  refine KT.nil ?_
                                  refine thenK_n ?_
                                  have hvn : VLd gap l p[i] := ⟨(fnd_iff (j := (tops gap l).length) (Nat.le_refl _)).1 (by simpa using hb55), by omega, by omega, by omega, by omega, fun h => hb89 h.2, by omega, by omega, fun i' hi' e => by omega, fun i' hi' e => by omega⟩
                                  rw [if_pos hc126] at hsn
                                  exact ⟨(_, i + 1), ⟨by simp only; omega, ld_snoc hil hv hvn⟩, by simp only; omega, rfl, by simp [Go.Vm.look, extK, hsn]⟩
                                · skip
                                  replace hc126 := of_decide_eq_false hc126
                                  refine KC.skip ?_
                                  refine blockK_n ?_
                                  refine thenK_n ?_
                                  refine KC.region ?_
                                  refine KT.step rfl rfl (K.add rfl rfl (wrap_id (by omega))) ?_
                                  refine KT.step rfl rfl (K.move rfl) ?_
                                  refine KT.nil ?_
                                  refine thenK_n ?_
                                  have hvn : VLd gap l p[i] := ⟨(fnd_iff (j := (tops gap l).length) (Nat.le_refl _)).1 (by simpa using hb55), by omega, by omega, by omega, by omega, fun h => hb89 h.2, by omega, by omega, fun i' hi' e => by omega, fun i' hi' e => by omega⟩
                                  rw [if_neg hc126, Int.add_zero] at hsn
                                  exact ⟨(_, i + 1), ⟨by simp only; omega, ld_snoc hil hv hvn⟩, by simp only; omega, rfl, by simp [Go.Vm.look, extK, hsn]⟩
                  · skip
                    replace hb83 := of_decide_eq_false hb83
                    refine KT.skip rfl rfl ?_
                    refine KT.skip rfl rfl ?_
                    refine KT.skip rfl rfl ?_
                    refine KT.step rfl rfl (K.pick rfl (fun h => by cases h) (fun _ => rfl)) ?_
                    refine KT.step rfl rfl (K.pick rfl (fun h => by cases h) (fun _ => rfl)) ?_
                    refine KT.step rfl rfl (K.move rfl) ?_
                    refine KT.step rfl rfl (K.fieldAddrO rfl Try.fld88_3 Try.size3) ?_
                    refine KT.step rfl rfl (K.loadO (y := .d (DI p[i].q)) rfl (List.getElem?_concat_length ..) (by simp) rfl Try.agg3) ?_
                    refine KT.step rfl rfl (K.lss rfl rfl) ?_
                    refine KT.step rfl rfl (K.pick rfl (fun h => by cases h) (fun _ => rfl)) ?_
                    refine KT.step rfl rfl (K.move rfl) ?_
                    refine KT.bcase (fun hb94 => ?_) (fun hb94 => ?_)
                    · skip
                      replace hb94 := of_decide_eq_true hb94
                      refine KT.skip rfl rfl ?_
                      refine KT.skip rfl rfl ?_
                      refine KT.skip rfl rfl ?_
                      refine KT.step rfl rfl (K.pick rfl (fun _ => rfl) (fun h => by cases h)) ?_
                      refine KT.nil ?_
                      refine thenK_n ?_
                      refine KC.cond rfl (fun hc98 => ?_) (fun hc98 => ?_)
                      · skip
                        refine KC.seq ?_
                        refine KC.region ?_
                        refine KT.step rfl rfl (K.assign rfl) ?_
                        refine KT.step rfl rfl (K.assign rfl) ?_
                        refine KT.nil ?_
                        refine thenK_n ?_
                        refine KC.ret ?_
                        refine thenK_r ?_
                        refine blockK_r ?_
                        refine thenK_r ?_
                        refine thenK_r ?_
                        refine blockK_r ?_
                        refine thenK_r ?_
                        obtain rfl : b = false := Bool.eq_false_iff.2 fun h => by
                          have q := hb.1 h
                          have v := q.2.1 p[i] (List.getElem_mem hil)
                          have := v.q1
                          omega
                        exact ⟨.inl rfl, _, rfl, rfl⟩
                      · cases hc98
                    · skip
                      replace hb94 := of_decide_eq_false hb94
                      refine KT.step rfl rfl (K.fieldAddrO rfl Try.fld88_3 Try.size3) ?_
                      refine KT.step rfl rfl (K.loadO (y := .d (DI p[i].q)) rfl (List.getElem?_concat_length ..) (by simp) rfl Try.agg3) ?_
                      refine KT.step rfl rfl (K.gtr rfl rfl) ?_
                      refine KT.step rfl rfl (K.pick rfl (fun h => by cases h) (fun _ => rfl)) ?_
                      refine KT.nil ?_
                      refine thenK_n ?_
                      refine KC.cond rfl (fun hc98 => ?_) (fun hc98 => ?_)
                      · skip
                        replace hc98 := of_decide_eq_true hc98
                        refine KC.seq ?_
                        refine KC.region ?_
                        refine KT.step rfl rfl (K.assign rfl) ?_
                        refine KT.step rfl rfl (K.assign rfl) ?_
                        refine KT.nil ?_
                        refine thenK_n ?_
                        refine KC.ret ?_
                        refine thenK_r ?_
                        refine blockK_r ?_
                        refine thenK_r ?_
                        refine thenK_r ?_
                        refine blockK_r ?_
                        refine thenK_r ?_
                        obtain rfl : b = false := Bool.eq_false_iff.2 fun h => by
                          have q := hb.1 h
                          have v := q.2.1 p[i] (List.getElem_mem hil)
                          have := v.q2
                          omega
                        exact ⟨.inl rfl, _, rfl, rfl⟩
                      · skip
                        replace hc98 := of_decide_eq_false hc98
                        refine KC.skip ?_
                        refine thenK_n ?_
                        refine KC.seq ?_
                        refine KC.seq ?_
                        refine KC.region ?_
                        refine KT.step rfl rfl (K.fieldAddrO rfl Try.fld88_0 Try.size3) ?_
                        refine KT.step rfl rfl (K.loadO (y := .d (DI p[i].h)) rfl (List.getElem?_concat_length ..) (by simp) rfl Try.agg3) ?_
                        refine KT.step rfl rfl (K.geq rfl rfl) ?_
                        refine KT.step rfl rfl (K.move rfl) ?_
                        refine KT.bcase (fun hb102 => ?_) (fun hb102 => ?_)
                        · skip
                          replace hb102 := of_decide_eq_true hb102
                          refine KT.step rfl rfl (K.move rfl) ?_
                          refine KT.step rfl rfl (K.fieldAddrO rfl Try.fld88_0 Try.size3) ?_
                          refine KT.step rfl rfl (K.loadO (y := .d (DI p[i].h)) rfl (List.getElem?_concat_length ..) (by simp) rfl Try.agg3) ?_
                          refine KT.step rfl rfl (K.idxF c3_len (m := p[i].h.toNat) rfl hd (by rw [← show p[i].h = ((p[i].h.toNat : Nat) : Int) by omega]; rfl) (by omega) Try.underlying22 Try.size63) ?_
                          refine KT.step rfl rfl (K.loadFl (cs := c3 (l[p[i].h.toNat]'(by omega))) rfl rfl Try.agg63 Try.size63) ?_
                          refine KT.step rfl rfl (K.call1 rfl plainTry_50 (rhot50 (l[p[i].h.toNat]'(by omega)))) ?_
                          refine KT.step rfl rfl (K.not rfl) ?_
                          refine KT.step rfl rfl (K.pick rfl (fun _ => rfl) (fun h => by cases h)) ?_
                          refine KT.step rfl rfl (K.move rfl) ?_
                          refine KT.bcase (fun hb111 => ?_) (fun hb111 => ?_)
                          · skip
                            refine KT.skip rfl rfl ?_
                            refine KT.skip rfl rfl ?_
                            refine KT.skip rfl rfl ?_
                            refine KT.skip rfl rfl ?_
                            refine KT.skip rfl rfl ?_
                            refine KT.skip rfl rfl ?_
                            refine KT.skip rfl rfl ?_
                            refine KT.skip rfl rfl ?_
                            refine KT.skip rfl rfl ?_
                            refine KT.skip rfl rfl ?_
                            refine KT.skip rfl rfl ?_
                            refine KT.step rfl rfl (K.pick rfl (fun _ => rfl) (fun h => by cases h)) ?_
                            refine KT.nil ?_
                            refine thenK_n ?_
                            refine KC.cond rfl (fun hc123 => ?_) (fun hc123 => ?_)
                            · skip
                              refine KC.seq ?_
                              refine KC.region ?_
                              refine KT.step rfl rfl (K.assign rfl) ?_
                              refine KT.step rfl rfl (K.assign rfl) ?_
                              refine KT.nil ?_
                              refine thenK_n ?_
                              refine KC.ret ?_
                              refine thenK_r ?_
                              refine blockK_r ?_
                              refine thenK_r ?_
                              refine thenK_r ?_
                              refine blockK_r ?_
                              refine thenK_r ?_
                              obtain rfl : b = false := Bool.eq_false_iff.2 fun h => by
                                have q := hb.1 h
                                have v := q.2.1 p[i] (List.getElem_mem hil)
                                have := v.hh _ (show p[i].h.toNat < l.length by omega) (by omega)
                                rw [this] at hb111; cases hb111
                              exact ⟨.inl rfl, _, rfl, rfl⟩
                            · cases hc123
                          · skip
                            refine KT.step rfl rfl (K.fieldAddrO rfl Try.fld88_1 Try.size3) ?_
                            refine KT.step rfl rfl (K.loadO (y := .d (DI p[i].c)) rfl (List.getElem?_concat_length ..) (by simp) rfl Try.agg3) ?_
                            refine KT.step rfl rfl (K.geq rfl rfl) ?_
                            refine KT.step rfl rfl (K.move rfl) ?_
                            refine KT.bcase (fun hb115 => ?_) (fun hb115 => ?_)
                            · skip
                              replace hb115 := of_decide_eq_true hb115
                              refine KT.step rfl rfl (K.move rfl) ?_
                              refine KT.step rfl rfl (K.fieldAddrO rfl Try.fld88_1 Try.size3) ?_
                              refine KT.step rfl rfl (K.loadO (y := .d (DI p[i].c)) rfl (List.getElem?_concat_length ..) (by simp) rfl Try.agg3) ?_
                              refine KT.step rfl rfl (K.idxF c3_len (m := p[i].c.toNat) rfl hd (by rw [← show p[i].c = ((p[i].c.toNat : Nat) : Int) by omega]; rfl) (by omega) Try.underlying22 Try.size63) ?_
                              refine KT.step rfl rfl (K.loadFl (cs := c3 (l[p[i].c.toNat]'(by omega))) rfl rfl Try.agg63 Try.size63) ?_
                              refine KT.step rfl rfl (K.call1 rfl plainTry_50 (rhot50 (l[p[i].c.toNat]'(by omega)))) ?_
                              refine KT.step rfl rfl (K.pick rfl (fun _ => rfl) (fun h => by cases h)) ?_
                              refine KT.step rfl rfl (K.pick rfl (fun h => by cases h) (fun _ => rfl)) ?_
                              refine KT.nil ?_
                              refine thenK_n ?_
                              refine KC.cond rfl (fun hc123 => ?_) (fun hc123 => ?_)
                              · skip
                                refine KC.seq ?_
                                refine KC.region ?_
                                refine KT.step rfl rfl (K.assign rfl) ?_
                                refine KT.step rfl rfl (K.assign rfl) ?_
                                refine KT.nil ?_
                                refine thenK_n ?_
                                refine KC.ret ?_
                                refine thenK_r ?_
                                refine blockK_r ?_
                                refine thenK_r ?_
                                refine thenK_r ?_
                                refine blockK_r ?_
                                refine thenK_r ?_
                                obtain rfl : b = false := Bool.eq_false_iff.2 fun h => by
                                  have q := hb.1 h
                                  have v := q.2.1 p[i] (List.getElem_mem hil)
                                  have := v.cc _ (show p[i].c.toNat < l.length by omega) (by omega)
                                  rw [this] at hc123; cases hc123
                                exact ⟨.inl rfl, _, rfl, rfl⟩
                              · skip
                                refine KC.skip ?_
                                refine thenK_n ?_
                                refine KC.seq ?_
                                refine KC.region ?_
                                refine KT.step rfl rfl (K.fieldAddrO rfl Try.fld88_0 Try.size3) ?_
                                refine KT.step rfl rfl (K.loadO (y := .d (DI p[i].h)) rfl (List.getElem?_concat_length ..) (by simp) rfl Try.agg3) ?_
                                refine KT.step rfl rfl (K.eql rfl rfl) ?_
                                refine KT.nil ?_
                                refine thenK_n ?_
                                refine KC.cond rfl (fun hc126 => ?_) (fun hc126 => ?_)
                                · skip
                                  replace hc126 := of_decide_eq_true hc126
                                  refine KC.region ?_
                                  refine KT.step rfl rfl (K.move rfl) ?_
                                  refine KT.step rfl rfl (K.fieldAddrO rfl Try.fld88_3 Try.size3) ?_
                                  refine KT.step rfl rfl (K.loadO (y := .d (DI p[i].q)) rfl (List.getElem?_concat_length ..) (by simp) rfl Try.agg3) ?_
                                  refine KT.step rfl rfl (K.add rfl rfl (wrap_id (by omega))) ?_
                                  refine KT.step rfl rfl (K.assign rfl) ?_
                                  refine KT.nil ?_
                                  refine blockK_n ?_
                                  refine thenK_n ?_
                                  refine KC.region ?_
                                  refine KT.step rfl rfl (K.add rfl rfl (wrap_id (by omega))) ?_
                                  refine KT.step rfl rfl (K.move rfl) ?_
                                  refine KT.nil ?_
                                  refine thenK_n ?_
                                  have hvn : VLd gap l p[i] := ⟨(fnd_iff (j := (tops gap l).length) (Nat.le_refl _)).1 (by simpa using hb55), by omega, by omega, by omega, by omega, fun h => hb83 h.1, by omega, by omega, fun i' hi' e => by
                                    have e3 : p[i].h.toNat = i' := by omega
                                    subst e3; simpa using hb111, fun i' hi' e => by
                                    have e3 : p[i].c.toNat = i' := by omega
                                    subst e3; simpa using hc123⟩
                                  rw [if_pos hc126] at hsn
                                  exact ⟨(_, i + 1), ⟨by simp only; omega, ld_snoc hil hv hvn⟩, by simp only; omega, rfl, by simp [Go.Vm.look, extK, hsn]⟩
                                · skip
                                  replace hc126 := of_decide_eq_false hc126
                                  refine KC.skip ?_
                                  refine blockK_n ?_
                                  refine thenK_n ?_
                                  refine KC.region ?_
                                  refine KT.step rfl rfl (K.add rfl rfl (wrap_id (by omega))) ?_
                                  refine KT.step rfl rfl (K.move rfl) ?_
                                  refine KT.nil ?_
                                  refine thenK_n ?_
                                  have hvn : VLd gap l p[i] := ⟨(fnd_iff (j := (tops gap l).length) (Nat.le_refl _)).1 (by simpa using hb55), by omega, by omega, by omega, by omega, fun h => hb83 h.1, by omega, by omega, fun i' hi' e => by
                                    have e3 : p[i].h.toNat = i' := by omega
                                    subst e3; simpa using hb111, fun i' hi' e => by
                                    have e3 : p[i].c.toNat = i' := by omega
                                    subst e3; simpa using hc123⟩
                                  rw [if_neg hc126, Int.add_zero] at hsn
                                  exact ⟨(_, i + 1), ⟨by simp only; omega, ld_snoc hil hv hvn⟩, by simp only; omega, rfl, by simp [Go.Vm.look, extK, hsn]⟩
                            · skip
                              replace hb115 := of_decide_eq_false hb115
                              refine KT.skip rfl rfl ?_
                              refine KT.skip rfl rfl ?_
                              refine KT.skip rfl rfl ?_
                              refine KT.skip rfl rfl ?_
                              refine KT.skip rfl rfl ?_
                              refine KT.skip rfl rfl ?_
                              refine KT.step rfl rfl (K.pick rfl (fun h => by cases h) (fun _ => rfl)) ?_
                              refine KT.step rfl rfl (K.pick rfl (fun h => by cases h) (fun _ => rfl)) ?_
                              refine KT.nil ?_
                              refine thenK_n ?_
                              refine KC.cond rfl (fun hc123 => ?_) (fun hc123 => ?_)
                              · cases hc123
                              · skip
                                refine KC.skip ?_
                                refine thenK_n ?_
                                refine KC.seq ?_
                                refine KC.region ?_
                                refine KT.step rfl rfl (K.fieldAddrO rfl Try.fld88_0 Try.size3) ?_
                                refine KT.step rfl rfl (K.loadO (y := .d (DI p[i].h)) rfl (List.getElem?_concat_length ..) (by simp) rfl Try.agg3) ?_
                                refine KT.step rfl rfl (K.eql rfl rfl) ?_
                                refine KT.nil ?_
                                refine thenK_n ?_
                                refine KC.cond rfl (fun hc126 => ?_) (fun hc126 => ?_)
                                · skip
                                  replace hc126 := of_decide_eq_true hc126
                                  refine KC.region ?_
                                  refine KT.step rfl rfl (K.move rfl) ?_
                                  refine KT.step rfl rfl (K.fieldAddrO rfl Try.fld88_3 Try.size3) ?_
                                  refine KT.step rfl rfl (K.loadO (y := .d (DI p[i].q)) rfl (List.getElem?_concat_length ..) (by simp) rfl Try.agg3) ?_
                                  refine KT.step rfl rfl (K.add rfl rfl (wrap_id (by omega))) ?_
                                  refine KT.step rfl rfl (K.assign rfl) ?_
                                  refine KT.nil ?_
                                  refine blockK_n ?_
                                  refine thenK_n ?_
                                  refine KC.region ?_
                                  refine KT.step rfl rfl (K.add rfl rfl (wrap_id (by omega))) ?_
                                  refine KT.step rfl rfl (K.move rfl) ?_
                                  refine KT.nil ?_
                                  refine thenK_n ?_
                                  have hvn : VLd gap l p[i] := ⟨(fnd_iff (j := (tops gap l).length) (Nat.le_refl _)).1 (by simpa using hb55), by omega, by omega, by omega, by omega, fun h => hb83 h.1, by omega, by omega, fun i' hi' e => by
                                    have e3 : p[i].h.toNat = i' := by omega
                                    subst e3; simpa using hb111, fun i' hi' e => by omega⟩
                                  rw [if_pos hc126] at hsn
                                  exact ⟨(_, i + 1), ⟨by simp only; omega, ld_snoc hil hv hvn⟩, by simp only; omega, rfl, by simp [Go.Vm.look, extK, hsn]⟩
                                · skip
                                  replace hc126 := of_decide_eq_false hc126
                                  refine KC.skip ?_
                                  refine blockK_n ?_
                                  refine thenK_n ?_
                                  refine KC.region ?_
                                  refine KT.step rfl rfl (K.add rfl rfl (wrap_id (by omega))) ?_
                                  refine KT.step rfl rfl (K.move rfl) ?_
                                  refine KT.nil ?_
                                  refine thenK_n ?_
                                  have hvn : VLd gap l p[i] := ⟨(fnd_iff (j := (tops gap l).length) (Nat.le_refl _)).1 (by simpa using hb55), by omega, by omega, by omega, by omega, fun h => hb83 h.1, by omega, by omega, fun i' hi' e => by
                                    have e3 : p[i].h.toNat = i' := by omega
                                    subst e3; simpa using hb111, fun i' hi' e => by omega⟩
                                  rw [if_neg hc126, Int.add_zero] at hsn
                                  exact ⟨(_, i + 1), ⟨by simp only; omega, ld_snoc hil hv hvn⟩, by simp only; omega, rfl, by simp [Go.Vm.look, extK, hsn]⟩
                        · skip
                          replace hb102 := of_decide_eq_false hb102
                          refine KT.skip rfl rfl ?_
                          refine KT.skip rfl rfl ?_
                          refine KT.skip rfl rfl ?_
                          refine KT.skip rfl rfl ?_
                          refine KT.skip rfl rfl ?_
                          refine KT.skip rfl rfl ?_
                          refine KT.skip rfl rfl ?_
                          refine KT.step rfl rfl (K.pick rfl (fun h => by cases h) (fun _ => rfl)) ?_
                          refine KT.step rfl rfl (K.move rfl) ?_
                          refine KT.step rfl rfl (K.fieldAddrO rfl Try.fld88_1 Try.size3) ?_
                          refine KT.step rfl rfl (K.loadO (y := .d (DI p[i].c)) rfl (List.getElem?_concat_length ..) (by simp) rfl Try.agg3) ?_
                          refine KT.step rfl rfl (K.geq rfl rfl) ?_
                          refine KT.step rfl rfl (K.move rfl) ?_
                          refine KT.bcase (fun hb115 => ?_) (fun hb115 => ?_)
                          · skip
                            replace hb115 := of_decide_eq_true hb115
                            refine KT.step rfl rfl (K.move rfl) ?_
                            refine KT.step rfl rfl (K.fieldAddrO rfl Try.fld88_1 Try.size3) ?_
                            refine KT.step rfl rfl (K.loadO (y := .d (DI p[i].c)) rfl (List.getElem?_concat_length ..) (by simp) rfl Try.agg3) ?_
                            refine KT.step rfl rfl (K.idxF c3_len (m := p[i].c.toNat) rfl hd (by rw [← show p[i].c = ((p[i].c.toNat : Nat) : Int) by omega]; rfl) (by omega) Try.underlying22 Try.size63) ?_
                            refine KT.step rfl rfl (K.loadFl (cs := c3 (l[p[i].c.toNat]'(by omega))) rfl rfl Try.agg63 Try.size63) ?_
                            refine KT.step rfl rfl (K.call1 rfl plainTry_50 (rhot50 (l[p[i].c.toNat]'(by omega)))) ?_
                            refine KT.step rfl rfl (K.pick rfl (fun _ => rfl) (fun h => by cases h)) ?_
                            refine KT.step rfl rfl (K.pick rfl (fun h => by cases h) (fun _ => rfl)) ?_
                            refine KT.nil ?_
                            refine thenK_n ?_
                            refine KC.cond rfl (fun hc123 => ?_) (fun hc123 => ?_)
                            · skip
                              refine KC.seq ?_
                              refine KC.region ?_
                              refine KT.step rfl rfl (K.assign rfl) ?_
                              refine KT.step rfl rfl (K.assign rfl) ?_
                              refine KT.nil ?_
                              refine thenK_n ?_
                              refine KC.ret ?_
                              refine thenK_r ?_
                              refine blockK_r ?_
                              refine thenK_r ?_
                              refine thenK_r ?_
                              refine blockK_r ?_
                              refine thenK_r ?_
                              obtain rfl : b = false := Bool.eq_false_iff.2 fun h => by
                                have q := hb.1 h
                                have v := q.2.1 p[i] (List.getElem_mem hil)
                                have := v.cc _ (show p[i].c.toNat < l.length by omega) (by omega)
                                rw [this] at hc123; cases hc123
                              exact ⟨.inl rfl, _, rfl, rfl⟩
                            · skip
                              refine KC.skip ?_
                              refine thenK_n ?_
                              refine KC.seq ?_
                              refine KC.region ?_
                              refine KT.step rfl rfl (K.fieldAddrO rfl Try.fld88_0 Try.size3) ?_
                              refine KT.step rfl rfl (K.loadO (y := .d (DI p[i].h)) rfl (List.getElem?_concat_length ..) (by simp) rfl Try.agg3) ?_
                              refine KT.step rfl rfl (K.eql rfl rfl) ?_
                              refine KT.nil ?_
                              refine thenK_n ?_
                              refine KC.cond rfl (fun hc126 => ?_) (fun hc126 => ?_)
                              · skip
                                replace hc126 := of_decide_eq_true hc126
                                refine KC.region ?_
                                refine KT.step rfl rfl (K.move rfl) ?_
                                refine KT.step rfl rfl (K.fieldAddrO rfl Try.fld88_3 Try.size3) ?_
                                refine KT.step rfl rfl (K.loadO (y := .d (DI p[i].q)) rfl (List.getElem?_concat_length ..) (by simp) rfl Try.agg3) ?_
                                refine KT.step rfl rfl (K.add rfl rfl (wrap_id (by omega))) ?_
                                refine KT.step rfl rfl (K.assign rfl) ?_
                                refine KT.nil ?_
                                refine blockK_n ?_
                                refine thenK_n ?_
                                refine KC.region ?_
                                refine KT.step rfl rfl (K.add rfl rfl (wrap_id (by omega))) ?_
                                refine KT.step rfl rfl (K.move rfl) ?_
                                refine KT.nil ?_
                                refine thenK_n ?_
                                have hvn : VLd gap l p[i] := ⟨(fnd_iff (j := (tops gap l).length) (Nat.le_refl _)).1 (by simpa using hb55), by omega, by omega, by omega, by omega, fun h => hb83 h.1, by omega, by omega, fun i' hi' e => by omega, fun i' hi' e => by
                                  have e3 : p[i].c.toNat = i' := by omega
                                  subst e3; simpa using hc123⟩
                                rw [if_pos hc126] at hsn
                                exact ⟨(_, i + 1), ⟨by simp only; omega, ld_snoc hil hv hvn⟩, by simp only; omega, rfl, by simp [Go.Vm.look, extK, hsn]⟩
                              · skip
                                replace hc126 := of_decide_eq_false hc126
                                refine KC.skip ?_
                                refine blockK_n ?_
                                refine thenK_n ?_
                                refine KC.region ?_
                                refine KT.step rfl rfl (K.add rfl rfl (wrap_id (by omega))) ?_
                                refine KT.step rfl rfl (K.move rfl) ?_
                                refine KT.nil ?_
                                refine thenK_n ?_
                                have hvn : VLd gap l p[i] := ⟨(fnd_iff (j := (tops gap l).length) (Nat.le_refl _)).1 (by simpa using hb55), by omega, by omega, by omega, by omega, fun h => hb83 h.1, by omega, by omega, fun i' hi' e => by omega, fun i' hi' e => by
                                  have e3 : p[i].c.toNat = i' := by omega
                                  subst e3; simpa using hc123⟩
                                rw [if_neg hc126, Int.add_zero] at hsn
                                exact ⟨(_, i + 1), ⟨by simp only; omega, ld_snoc hil hv hvn⟩, by simp only; omega, rfl, by simp [Go.Vm.look, extK, hsn]⟩
                          · skip
                            replace hb115 := of_decide_eq_false hb115
                            refine KT.skip rfl rfl ?_
                            refine KT.skip rfl rfl ?_
                            refine KT.skip rfl rfl ?_
                            refine KT.skip rfl rfl ?_
                            refine KT.skip rfl rfl ?_
                            refine KT.skip rfl rfl ?_
                            refine KT.step rfl rfl (K.pick rfl (fun h => by cases h) (fun _ => rfl)) ?_
                            refine KT.step rfl rfl (K.pick rfl (fun h => by cases h) (fun _ => rfl)) ?_
                            refine KT.nil ?_
                            refine thenK_n ?_
                            refine KC.cond rfl (fun hc123 => ?_) (fun hc123 => ?_)
                            · cases hc123
                            · skip
                              refine KC.skip ?_
                              refine thenK_n ?_
                              refine KC.seq ?_
                              refine KC.region ?_
                              refine KT.step rfl rfl (K.fieldAddrO rfl Try.fld88_0 Try.size3) ?_
                              refine KT.step rfl rfl (K.loadO (y := .d (DI p[i].h)) rfl (List.getElem?_concat_length ..) (by simp) rfl Try.agg3) ?_
                              refine KT.step rfl rfl (K.eql rfl rfl) ?_
                              refine KT.nil ?_
                              refine thenK_n ?_
                              refine KC.cond rfl (fun hc126 => ?_) (fun hc126 => ?_)
                              · skip
                                replace hc126 := of_decide_eq_true hc126
                                refine KC.region ?_
                                refine KT.step rfl rfl (K.move rfl) ?_
                                refine KT.step rfl rfl (K.fieldAddrO rfl Try.fld88_3 Try.size3) ?_
                                refine KT.step rfl rfl (K.loadO (y := .d (DI p[i].q)) rfl (List.getElem?_concat_length ..) (by simp) rfl Try.agg3) ?_
                                refine KT.step rfl rfl (K.add rfl rfl (wrap_id (by omega))) ?_
                                refine KT.step rfl rfl (K.assign rfl) ?_
                                refine KT.nil ?_
                                refine blockK_n ?_
                                refine thenK_n ?_
                                refine KC.region ?_
                                refine KT.step rfl rfl (K.add rfl rfl (wrap_id (by omega))) ?_
                                refine KT.step rfl rfl (K.move rfl) ?_
                                refine KT.nil ?_
                                refine thenK_n ?_
                                have hvn : VLd gap l p[i] := ⟨(fnd_iff (j := (tops gap l).length) (Nat.le_refl _)).1 (by simpa using hb55), by omega, by omega, by omega, by omega, fun h => hb83 h.1, by omega, by omega, fun i' hi' e => by omega, fun i' hi' e => by omega⟩
                                rw [if_pos hc126] at hsn
                                exact ⟨(_, i + 1), ⟨by simp only; omega, ld_snoc hil hv hvn⟩, by simp only; omega, rfl, by simp [Go.Vm.look, extK, hsn]⟩
                              · skip
                                replace hc126 := of_decide_eq_false hc126
                                refine KC.skip ?_
                                refine blockK_n ?_
                                refine thenK_n ?_
                                refine KC.region ?_
                                refine KT.step rfl rfl (K.add rfl rfl (wrap_id (by omega))) ?_
                                refine KT.step rfl rfl (K.move rfl) ?_
                                refine KT.nil ?_
                                refine thenK_n ?_
                                have hvn : VLd gap l p[i] := ⟨(fnd_iff (j := (tops gap l).length) (Nat.le_refl _)).1 (by simpa using hb55), by omega, by omega, by omega, by omega, fun h => hb83 h.1, by omega, by omega, fun i' hi' e => by omega, fun i' hi' e => by omega⟩
                                rw [if_neg hc126, Int.add_zero] at hsn
                                exact ⟨(_, i + 1), ⟨by simp only; omega, ld_snoc hil hv hvn⟩, by simp only; omega, rfl, by simp [Go.Vm.look, extK, hsn]⟩
    · skip
      replace hc32 := of_decide_eq_false hc32
      have et : p.take i = p := List.take_of_length_le (by omega)
      rw [et] at hv ⊢
      clear et hi hc32
      have hqb : ∀ x ∈ p, 0 ≤ x.q ∧ x.q ≤ 4000 := fun x hx => ⟨by have := (hv x hx).q1; omega, (hv x hx).q2⟩
      refine KC.exit ?_
      refine thenK_x ?_
      refine thenK_x ?_
      refine blockK_e ?_
      refine thenK_n ?_
      refine KC.seq ?_
      refine KC.seq ?_
      refine KC.region ?_
      refine KT.step rfl rfl (K.move rfl) ?_
      refine KT.step rfl rfl (K.lenF rfl hd Try.underlying22) ?_
      refine KT.step rfl rfl (K.move rfl) ?_
      refine KT.nil ?_
      refine thenK_n ?_
      refine KC.block ?_
      refine KC.loop (fun z : List VObj × Nat => z.1) (fun z => [(0, .d d), (1, .d (DI gap)), (2, .d e), (8, .d (.sl (ints (lvls gap l)) (lvls gap l).length none)), (9, .d (DI (utl p))), (132, .d d), (133, .d (DI (l.length : Nat))), (134, .d (DI (z.2 : Nat)))]) (fun z => z.2 ≤ l.length ∧ ∀ (i : Nat), i < z.2 → ∀ (hi : i < l.length), StrOK gap l p i hi) (fun z => l.length - z.2) (_, 0) ⟨Nat.zero_le _, fun i hi => absurd hi (Nat.not_lt_zero _)⟩ rfl (by simp [Go.Vm.look, extK]) ?_
      intro z hz
      obtain ⟨σ2, i⟩ := z
      obtain ⟨hi, hS⟩ := hz
      simp only at hi hS ⊢
      refine KC.seq ?_
      refine KC.region ?_
      refine KT.step rfl rfl (K.lss rfl rfl) ?_
      refine KT.nil ?_
      refine thenK_n ?_
      refine KC.seq ?_
      refine KC.cond rfl (fun hc135 => ?_) (fun hc135 => ?_)
      · skip
        replace hc135 := of_decide_eq_true hc135
        have hil : i < l.length := by omega
        refine KC.skip ?_
        refine thenK_n ?_
        refine KC.seq ?_
        refine KC.block ?_
        refine KC.seq ?_
        refine KC.region ?_
        refine KT.step rfl rfl (K.move rfl) ?_
        refine KT.step rfl rfl (K.idxF c3_len (m := i) rfl hd rfl hil Try.underlying22 Try.size63) ?_
        refine KT.step rfl rfl (K.loadFl (cs := c3 l[i]) rfl rfl Try.agg63 Try.size63) ?_
        refine KT.step rfl rfl (K.alloc Try.zero63) ?_
        refine KT.step rfl rfl (K.assign rfl) ?_
        refine KT.storeL (cs := (c3 l[i]).map .d) rfl rfl rfl rfl rfl rfl rfl Try.size63 ?_
        have y16 : (σ2 ++ [(⟨(c3 l[i]).map .d, 0⟩ : VObj)])[σ2.length]? = some ⟨(c3 l[i]).map .d, 0⟩ := List.getElem?_concat_length ..
        refine KT.nil ?_
        refine thenK_n ?_
        refine KC.seq ?_
        refine KC.region ?_
        refine KT.step rfl rfl (K.assign rfl) ?_
        refine KT.nil ?_
        refine thenK_n ?_
        refine KC.seq ?_
        refine KC.seq ?_
        refine KC.region ?_
        refine KT.step rfl rfl (K.move rfl) ?_
        refine KT.step rfl rfl (K.move rfl) ?_
        refine KT.step rfl rfl (K.len rfl (ints_ok (l := lvls gap l)) Try.underlying23) ?_
        refine KT.step rfl rfl (K.sub rfl rfl (show IntKind.i64.wrap (((lvls gap l).length : Int) - 1) = (((lvls gap l).length - 1 : Nat) : Int) from by rw [wrap_id (by omega)]; omega)) ?_
        refine KT.sliceTo (m := (lvls gap l).length - 1) rfl rfl rfl (ints_ok (l := lvls gap l)) rfl (by omega) Try.underlying23 Try.size3 fun r143 hq143 => ?_
        change Ints r143 (tops gap l) at hq143
        refine KT.step rfl rfl (K.len rfl hq143 Try.underlying23) ?_
        refine KT.step rfl rfl (K.move rfl) ?_
        refine KT.nil ?_
        refine thenK_n ?_
        refine KC.block ?_
        refine KC.loop (fun z : List VObj × Nat => z.1) (fun z => [(0, .d d), (1, .d (DI gap)), (2, .d e), (8, .d (.sl (ints (lvls gap l)) (lvls gap l).length none)), (9, .d (DI (utl p))), (132, .d d), (133, .d (DI (l.length : Nat))), (134, .d (DI (i : Nat))), (15, .d (DI (i : Nat))), (16, .optr σ2.length 0), (17, .d (DI (gvn gap l p l[i] i z.2))), (143, .d r143), (144, .d (DI ((tops gap l).length : Nat))), (145, .d (DI (z.2 : Nat)))]) (fun z => z.2 ≤ (tops gap l).length ∧ z.1[σ2.length]? = some ⟨(c3 l[i]).map .d, 0⟩ ∧ (∀ k, k < z.2 → hot l[i] = false → got p l[i] i (lvP gap l k).1 = ht gap l[i] (lvP gap l k).1 (lvP gap l k).2) ∧ (∀ k, k < z.2 → hot l[i] = true → gvn gap l p l[i] i (k + 1) ≤ ht gap l[i] 1000 (lvP gap l k).2)) (fun z => (tops gap l).length - z.2) (_, 0) ⟨Nat.zero_le _, y16, fun k hk => absurd hk (Nat.not_lt_zero _), fun k hk => absurd hk (Nat.not_lt_zero _)⟩ rfl (by simp [Go.Vm.look, extK, gvn]) ?_
        clear y16
        intro z hz
        obtain ⟨σ3, k⟩ := z
        obtain ⟨hk, y16, hC, hH⟩ := hz
        simp only at hk y16 hC hH ⊢
        refine KC.seq ?_
        refine KC.region ?_
        refine KT.step rfl rfl (K.lss rfl rfl) ?_
        refine KT.nil ?_
        refine thenK_n ?_
        refine KC.seq ?_
        refine KC.cond rfl (fun hc146 => ?_) (fun hc146 => ?_)
        · skip
          replace hc146 := of_decide_eq_true hc146
          have hkl : k < (tops gap l).length := by omega
          have hkp : k < (prs (lvls gap l)).length := by omega
          have hk1 : k + 1 < (lvls gap l).length := by omega
          have m1 := lvls_in hok _ (List.getElem_mem (show k < (lvls gap l).length by omega))
          have m2 := lvls_in hok _ (List.getElem_mem hk1)
          have hgv := gvn_bd (gap := gap) (l := l) (s := l[i]) (i := i) hqb (by omega) k
          refine KC.skip ?_
          refine thenK_n ?_
          refine KC.seq ?_
          refine KC.block ?_
          refine KC.seq ?_
          refine KC.region ?_
          refine KT.step rfl rfl (K.move rfl) ?_
          refine KT.idxI (m := k) rfl rfl rfl hq143 rfl hkl Try.underlying23 Try.size3 fun cs148 => ?_
          refine KT.step rfl rfl (K.load rfl Try.agg3) ?_
          rw [tops_get hkl]
          refine KT.step rfl rfl (K.assign rfl) ?_
          refine KT.step rfl rfl (K.assign rfl) ?_
          refine KT.nil ?_
          refine thenK_n ?_
          refine KC.seq ?_
          refine KC.region ?_
          refine KT.step rfl rfl (K.assign rfl) ?_
          refine KT.nil ?_
          refine thenK_n ?_
          refine KC.seq ?_
          refine KC.seq ?_
          refine KC.region ?_
          refine KT.step rfl rfl (K.move rfl) ?_
          refine KT.step rfl rfl (K.lenF rfl he Try.underlying49) ?_
          refine KT.step rfl rfl (K.move rfl) ?_
          refine KT.nil ?_
          refine thenK_n ?_
          refine KC.block ?_
          refine KC.loop (fun z : List VObj × Nat => z.1) (fun z => [(0, .d d), (1, .d (DI gap)), (2, .d e), (8, .d (.sl (ints (lvls gap l)) (lvls gap l).length none)), (9, .d (DI (utl p))), (132, .d d), (133, .d (DI (l.length : Nat))), (134, .d (DI (i : Nat))), (15, .d (DI (i : Nat))), (16, .optr σ2.length 0), (17, .d (DI (gvn gap l p l[i] i k))), (143, .d r143), (144, .d (DI ((tops gap l).length : Nat))), (145, .d (DI (k : Nat))), (18, .d (DI (k : Nat))), (19, .d (DI (lvP gap l k).1)), (20, .d (DI (got (p.take z.2) l[i] i (lvP gap l k).1))), (150, .d e), (151, .d (DI (p.length : Nat))), (152, .d (DI (z.2 : Nat)))]) (fun z => z.2 ≤ p.length ∧ z.1[σ2.length]? = some ⟨(c3 l[i]).map .d, 0⟩) (fun z => p.length - z.2) (_, 0) ⟨Nat.zero_le _, y16⟩ rfl (by simp [Go.Vm.look, extK, got_zero0]) ?_
          clear y16
          intro z hz
          obtain ⟨σ4, j⟩ := z
          obtain ⟨hj, y16⟩ := hz
          simp only at hj y16 ⊢
          refine KC.seq ?_
          refine KC.region ?_
          refine KT.step rfl rfl (K.lss rfl rfl) ?_
          refine KT.nil ?_
          refine thenK_n ?_
          refine KC.seq ?_
          refine KC.cond rfl (fun hc153 => ?_) (fun hc153 => ?_)
          · skip
            replace hc153 := of_decide_eq_true hc153
            have hjp : j < p.length := by omega
            have hgb := got_bd (s := l[i]) (i := i) (t := (lvP gap l k).1) hqb j hj
            have hgs := got_snoc (s := l[i]) (i := i) (t := (lvP gap l k).1) hjp
            have hxq := hqb _ (List.getElem_mem hjp)
            refine KC.skip ?_
            refine thenK_n ?_
            refine KC.seq ?_
            refine KC.block ?_
            refine KC.seq ?_
            refine KC.region ?_
            refine KT.step rfl rfl (K.idxF c4_len (m := j) rfl he rfl hjp Try.underlying49 Try.size88) ?_
            refine KT.step rfl rfl (K.loadFl (cs := c4 p[j]) rfl rfl Try.agg88 Try.size88) ?_
            refine KT.step rfl rfl (K.alloc Try.zero88) ?_
            refine KT.storeL (cs := (c4 p[j]).map .d) rfl rfl rfl rfl rfl rfl rfl Try.size88 ?_
            replace y16 := get_left (B := [(⟨(c4 p[j]).map .d, 0⟩ : VObj)]) y16
            refine KT.nil ?_
            refine thenK_n ?_
            refine KC.seq ?_
            refine KC.region ?_
            refine KT.step rfl rfl (K.fieldAddrO rfl Try.fld88_2 Try.size3) ?_
            refine KT.step rfl rfl (K.loadO (y := .d (DI p[j].t)) rfl (List.getElem?_concat_length ..) (by simp) rfl Try.agg3) ?_
            refine KT.step rfl rfl (K.move rfl) ?_
            refine KT.step rfl rfl (K.eql rfl rfl) ?_
            refine KT.step rfl rfl (K.move rfl) ?_
            refine KT.bcase (fun hb160 => ?_) (fun hb160 => ?_)
            · skip
              replace hb160 := of_decide_eq_true hb160
              refine KT.step rfl rfl (K.loadOA (c3 l[i]) rfl y16 (by decide) Try.agg63 Try.size63 rfl) ?_
              refine KT.step rfl rfl (K.call1 rfl plainTry_50 (rhot50 l[i])) ?_
              refine KT.step rfl rfl (K.move rfl) ?_
              refine KT.bcase (fun hb163 => ?_) (fun hb163 => ?_)
              · skip
                refine KT.step rfl rfl (K.fieldAddrO rfl Try.fld88_0 Try.size3) ?_
                refine KT.step rfl rfl (K.loadO (y := .d (DI p[j].h)) rfl (List.getElem?_concat_length ..) (by simp) rfl Try.agg3) ?_
                refine KT.step rfl rfl (K.move rfl) ?_
                refine KT.step rfl rfl (K.eql rfl rfl) ?_
                refine KT.step rfl rfl (K.pick rfl (fun _ => rfl) (fun h => by cases h)) ?_
                refine KT.step rfl rfl (K.move rfl) ?_
                refine KT.bcase (fun hb169 => ?_) (fun hb169 => ?_)
                · skip
                  replace hb169 := of_decide_eq_true hb169
                  refine KT.skip rfl rfl ?_
                  refine KT.skip rfl rfl ?_
                  refine KT.skip rfl rfl ?_
                  refine KT.skip rfl rfl ?_
                  refine KT.skip rfl rfl ?_
                  refine KT.skip rfl rfl ?_
                  refine KT.skip rfl rfl ?_
                  refine KT.skip rfl rfl ?_
                  refine KT.skip rfl rfl ?_
                  refine KT.step rfl rfl (K.pick rfl (fun _ => rfl) (fun h => by cases h)) ?_
                  refine KT.step rfl rfl (K.pick rfl (fun _ => rfl) (fun h => by cases h)) ?_
                  refine KT.nil ?_
                  refine thenK_n ?_
                  refine KC.cond rfl (fun hc180 => ?_) (fun hc180 => ?_)
                  · skip
                    refine KC.region ?_
                    refine KT.step rfl rfl (K.move rfl) ?_
                    refine KT.step rfl rfl (K.fieldAddrO rfl Try.fld88_3 Try.size3) ?_
                    refine KT.step rfl rfl (K.loadO (y := .d (DI p[j].q)) rfl (List.getElem?_concat_length ..) (by simp) rfl Try.agg3) ?_
                    refine KT.step rfl rfl (K.add rfl rfl (wrap_id (by omega))) ?_
                    refine KT.step rfl rfl (K.assign rfl) ?_
                    refine KT.nil ?_
                    refine blockK_n ?_
                    refine thenK_n ?_
                    refine KC.region ?_
                    refine KT.step rfl rfl (K.add rfl rfl (wrap_id (by omega))) ?_
                    refine KT.step rfl rfl (K.move rfl) ?_
                    refine KT.nil ?_
                    refine thenK_n ?_
                    rw [if_pos ⟨hb160, by unfold mineB; rw [if_pos hb163]; exact hb169⟩] at hgs
                    exact ⟨(_, j + 1), ⟨by simp only; omega, y16⟩, by simp only; omega, rfl, by simp [Go.Vm.look, extK, hgs]⟩
                  · cases hc180
                · skip
                  replace hb169 := of_decide_eq_false hb169
                  refine KT.step rfl rfl (K.loadOA (c3 l[i]) rfl y16 (by decide) Try.agg63 Try.size63 rfl) ?_
                  refine KT.step rfl rfl (K.call1 rfl plainTry_50 (rhot50 l[i])) ?_
                  refine KT.step rfl rfl (K.not rfl) ?_
                  refine KT.step rfl rfl (K.move rfl) ?_
                  refine KT.bcase (fun hb173 => ?_) (fun hb173 => ?_)
                  · skip
                    exact absurd hb173 (by rw [hb163]; decide)
                  · skip
                    refine KT.skip rfl rfl ?_
                    refine KT.skip rfl rfl ?_
                    refine KT.skip rfl rfl ?_
                    refine KT.skip rfl rfl ?_
                    refine KT.step rfl rfl (K.pick rfl (fun h => by cases h) (fun _ => rfl)) ?_
                    refine KT.step rfl rfl (K.pick rfl (fun h => by cases h) (fun _ => rfl)) ?_
                    refine KT.step rfl rfl (K.pick rfl (fun _ => rfl) (fun h => by cases h)) ?_
                    refine KT.nil ?_
                    refine thenK_n ?_
                    refine KC.cond rfl (fun hc180 => ?_) (fun hc180 => ?_)
                    · cases hc180
                    · skip
                      refine KC.skip ?_
                      refine blockK_n ?_
                      refine thenK_n ?_
                      refine KC.region ?_
                      refine KT.step rfl rfl (K.add rfl rfl (wrap_id (by omega))) ?_
                      refine KT.step rfl rfl (K.move rfl) ?_
                      refine KT.nil ?_
                      refine thenK_n ?_
                      rw [if_neg (fun z => hb169 (by have := z.2; unfold mineB at this; rwa [if_pos hb163] at this)), Int.add_zero] at hgs
                      exact ⟨(_, j + 1), ⟨by simp only; omega, y16⟩, by simp only; omega, rfl, by simp [Go.Vm.look, extK, hgs]⟩
              · skip
                refine KT.skip rfl rfl ?_
                refine KT.skip rfl rfl ?_
                refine KT.skip rfl rfl ?_
                refine KT.skip rfl rfl ?_
                refine KT.step rfl rfl (K.pick rfl (fun h => by cases h) (fun _ => rfl)) ?_
                refine KT.step rfl rfl (K.move rfl) ?_
                refine KT.step rfl rfl (K.loadOA (c3 l[i]) rfl y16 (by decide) Try.agg63 Try.size63 rfl) ?_
                refine KT.step rfl rfl (K.call1 rfl plainTry_50 (rhot50 l[i])) ?_
                refine KT.step rfl rfl (K.not rfl) ?_
                refine KT.step rfl rfl (K.move rfl) ?_
                refine KT.bcase (fun hb173 => ?_) (fun hb173 => ?_)
                · skip
                  refine KT.step rfl rfl (K.fieldAddrO rfl Try.fld88_1 Try.size3) ?_
                  refine KT.step rfl rfl (K.loadO (y := .d (DI p[j].c)) rfl (List.getElem?_concat_length ..) (by simp) rfl Try.agg3) ?_
                  refine KT.step rfl rfl (K.move rfl) ?_
                  refine KT.step rfl rfl (K.eql rfl rfl) ?_
                  refine KT.step rfl rfl (K.pick rfl (fun _ => rfl) (fun h => by cases h)) ?_
                  refine KT.step rfl rfl (K.pick rfl (fun h => by cases h) (fun _ => rfl)) ?_
                  refine KT.step rfl rfl (K.pick rfl (fun _ => rfl) (fun h => by cases h)) ?_
                  refine KT.nil ?_
                  refine thenK_n ?_
                  refine KC.cond rfl (fun hc180 => ?_) (fun hc180 => ?_)
                  · skip
                    replace hc180 := of_decide_eq_true hc180
                    refine KC.region ?_
                    refine KT.step rfl rfl (K.move rfl) ?_
                    refine KT.step rfl rfl (K.fieldAddrO rfl Try.fld88_3 Try.size3) ?_
                    refine KT.step rfl rfl (K.loadO (y := .d (DI p[j].q)) rfl (List.getElem?_concat_length ..) (by simp) rfl Try.agg3) ?_
                    refine KT.step rfl rfl (K.add rfl rfl (wrap_id (by omega))) ?_
                    refine KT.step rfl rfl (K.assign rfl) ?_
                    refine KT.nil ?_
                    refine blockK_n ?_
                    refine thenK_n ?_
                    refine KC.region ?_
                    refine KT.step rfl rfl (K.add rfl rfl (wrap_id (by omega))) ?_
                    refine KT.step rfl rfl (K.move rfl) ?_
                    refine KT.nil ?_
                    refine thenK_n ?_
                    rw [if_pos ⟨hb160, by unfold mineB; rw [if_neg (by rw [hb163]; decide)]; exact hc180⟩] at hgs
                    exact ⟨(_, j + 1), ⟨by simp only; omega, y16⟩, by simp only; omega, rfl, by simp [Go.Vm.look, extK, hgs]⟩
                  · skip
                    replace hc180 := of_decide_eq_false hc180
                    refine KC.skip ?_
                    refine blockK_n ?_
                    refine thenK_n ?_
                    refine KC.region ?_
                    refine KT.step rfl rfl (K.add rfl rfl (wrap_id (by omega))) ?_
                    refine KT.step rfl rfl (K.move rfl) ?_
                    refine KT.nil ?_
                    refine thenK_n ?_
                    rw [if_neg (fun z => hc180 (by have := z.2; unfold mineB at this; rwa [if_neg (by rw [hb163]; decide)] at this)), Int.add_zero] at hgs
                    exact ⟨(_, j + 1), ⟨by simp only; omega, y16⟩, by simp only; omega, rfl, by simp [Go.Vm.look, extK, hgs]⟩
                · skip
                  exact absurd hb173 (by rw [hb163]; decide)
            · skip
              replace hb160 := of_decide_eq_false hb160
              refine KT.skip rfl rfl ?_
              refine KT.skip rfl rfl ?_
              refine KT.skip rfl rfl ?_
              refine KT.skip rfl rfl ?_
              refine KT.skip rfl rfl ?_
              refine KT.skip rfl rfl ?_
              refine KT.skip rfl rfl ?_
              refine KT.skip rfl rfl ?_
              refine KT.skip rfl rfl ?_
              refine KT.skip rfl rfl ?_
              refine KT.skip rfl rfl ?_
              refine KT.skip rfl rfl ?_
              refine KT.skip rfl rfl ?_
              refine KT.skip rfl rfl ?_
              refine KT.skip rfl rfl ?_
              refine KT.skip rfl rfl ?_
              refine KT.skip rfl rfl ?_
              refine KT.skip rfl rfl ?_
              refine KT.skip rfl rfl ?_
              refine KT.step rfl rfl (K.pick rfl (fun h => by cases h) (fun _ => rfl)) ?_
              refine KT.nil ?_
              refine thenK_n ?_
              refine KC.cond rfl (fun hc180 => ?_) (fun hc180 => ?_)
              · cases hc180
              · skip
                refine KC.skip ?_
                refine blockK_n ?_
                refine thenK_n ?_
                refine KC.region ?_
                refine KT.step rfl rfl (K.add rfl rfl (wrap_id (by omega))) ?_
                refine KT.step rfl rfl (K.move rfl) ?_
                refine KT.nil ?_
                refine thenK_n ?_
                rw [if_neg (fun z => hb160 z.1), Int.add_zero] at hgs
                exact ⟨(_, j + 1), ⟨by simp only; omega, y16⟩, by simp only; omega, rfl, by simp [Go.Vm.look, extK, hgs]⟩
          · skip
            replace hc153 := of_decide_eq_false hc153
            have ep : p.take j = p := List.take_of_length_le (by omega)
            have hgb := got_bd (s := l[i]) (i := i) (t := (lvP gap l k).1) hqb j hj
            rw [ep] at hgb ⊢
            clear ep
            refine KC.exit ?_
            refine thenK_x ?_
            refine thenK_x ?_
            refine blockK_e ?_
            refine thenK_n ?_
            refine KC.seq ?_
            refine KC.region ?_
            refine KT.step rfl rfl (K.move rfl) ?_
            refine KT.step rfl rfl (K.move rfl) ?_
            refine KT.step rfl rfl (K.add rfl rfl (wrap_id (by omega))) ?_
            refine KT.step rfl rfl (K.assign rfl) ?_
            refine KT.nil ?_
            refine thenK_n ?_
            refine KC.seq ?_
            refine KC.draw Try.mixed ?_
            refine KT.step rfl rfl (K.loadOA (c3 l[i]) rfl y16 (by decide) Try.agg63 Try.size63 rfl) ?_
            refine KT.step rfl rfl (K.call1 rfl plainTry_50 (rhot50 l[i])) ?_
            refine KT.step rfl rfl (K.not rfl) ?_
            refine KT.step rfl rfl (K.move rfl) ?_
            refine KT.bcase (fun hb192 => ?_) (fun hb192 => ?_)
            · skip
              refine KT.step rfl rfl (K.move rfl) ?_
              refine KT.step rfl rfl (K.loadOA (c3 l[i]) rfl y16 (by decide) Try.agg63 Try.size63 rfl) ?_
              refine KT.step rfl rfl (K.move rfl) ?_
              refine KT.step rfl rfl (K.move rfl) ?_
              refine KT.step rfl rfl (K.move rfl) ?_
              refine KT.step rfl rfl (K.move rfl) ?_
              refine KT.step rfl rfl (K.add rfl rfl (show IntKind.i64.wrap ((k : Int) + 1) = ((k + 1 : Nat) : Int) from by rw [wrap_id (by omega)]; omega)) ?_
              refine KT.idxI (m := k + 1) rfl rfl rfl (ints_ok (l := lvls gap l)) rfl (by omega) Try.underlying23 Try.size3 fun cs200 => ?_
              refine KT.step rfl rfl (K.load rfl Try.agg3) ?_
              refine KT.step rfl rfl (K.call4 rfl rfl rfl rfl plainTry_49 (rheat49 (hall _ (List.getElem_mem hil)) g0 g20 ⟨by rw [lvP_get hk1]; simp only; omega, by rw [lvP_get hk1]; simp only; omega⟩ ⟨by omega, by omega⟩)) ?_
              refine KT.step rfl rfl (K.neq rfl rfl) ?_
              refine KT.step rfl rfl (K.pick rfl (fun _ => rfl) (fun h => by cases h)) ?_
              refine KT.step rfl rfl (K.move rfl) ?_
              refine KT.bcase (fun hb205 => ?_) (fun hb205 => ?_)
              · skip
                replace hb205 := of_decide_eq_true hb205
                refine KT.skip rfl rfl ?_
                refine KT.skip rfl rfl ?_
                refine KT.skip rfl rfl ?_
                refine KT.skip rfl rfl ?_
                refine KT.skip rfl rfl ?_
                refine KT.skip rfl rfl ?_
                refine KT.skip rfl rfl ?_
                refine KT.skip rfl rfl ?_
                refine KT.skip rfl rfl ?_
                refine KT.skip rfl rfl ?_
                refine KT.skip rfl rfl ?_
                refine KT.skip rfl rfl ?_
                refine KT.skip rfl rfl ?_
                refine KT.skip rfl rfl ?_
                refine KT.step rfl rfl (K.pick rfl (fun _ => rfl) (fun h => by cases h)) ?_
                refine KT.nil ?_
                refine ⟨by kernel_rfl, ?_⟩
                refine thenK_n ?_
                refine KC.cond rfl (fun hc220 => ?_) (fun hc220 => ?_)
                · skip
                  refine KC.seq ?_
                  refine KC.region ?_
                  refine KT.step rfl rfl (K.assign rfl) ?_
                  refine KT.step rfl rfl (K.assign rfl) ?_
                  refine KT.nil ?_
                  refine thenK_n ?_
                  refine KC.ret ?_
                  refine blockK_r ?_
                  refine thenK_r ?_
                  refine thenK_r ?_
                  refine blockK_r ?_
                  refine thenK_r ?_
                  refine blockK_r ?_
                  refine thenK_r ?_
                  refine thenK_r ?_
                  refine blockK_r ?_
                  refine thenK_r ?_
                  obtain rfl : b = false := Bool.eq_false_iff.2 fun h => by
                    have q := hb.1 h
                    have v := (q.2.2 i hil).c k hkp (by simpa using hb192)
                    rw [lvP_get hk1] at v hb205
                    exact hb205 v
                  exact ⟨.inl rfl, _, rfl, rfl⟩
                · cases hc220
              · skip
                replace hb205 := of_decide_eq_false hb205
                refine KT.step rfl rfl (K.loadOA (c3 l[i]) rfl y16 (by decide) Try.agg63 Try.size63 rfl) ?_
                refine KT.step rfl rfl (K.call1 rfl plainTry_50 (rhot50 l[i])) ?_
                refine KT.step rfl rfl (K.move rfl) ?_
                refine KT.bcase (fun hb208 => ?_) (fun hb208 => ?_)
                · skip
                  exact absurd hb192 (by rw [hb208]; decide)
                · skip
                  refine KT.skip rfl rfl ?_
                  refine KT.skip rfl rfl ?_
                  refine KT.skip rfl rfl ?_
                  refine KT.skip rfl rfl ?_
                  refine KT.skip rfl rfl ?_
                  refine KT.skip rfl rfl ?_
                  refine KT.skip rfl rfl ?_
                  refine KT.skip rfl rfl ?_
                  refine KT.skip rfl rfl ?_
                  refine KT.skip rfl rfl ?_
                  refine KT.step rfl rfl (K.pick rfl (fun h => by cases h) (fun _ => rfl)) ?_
                  refine KT.step rfl rfl (K.pick rfl (fun h => by cases h) (fun _ => rfl)) ?_
                  refine KT.nil ?_
                  refine ⟨by kernel_rfl, ?_⟩
                  refine thenK_n ?_
                  refine KC.cond rfl (fun hc220 => ?_) (fun hc220 => ?_)
                  · cases hc220
                  · skip
                    refine KC.skip ?_
                    refine blockK_n ?_
                    refine thenK_n ?_
                    refine KC.region ?_
                    refine KT.step rfl rfl (K.add rfl rfl (wrap_id (by omega))) ?_
                    refine KT.step rfl rfl (K.move rfl) ?_
                    refine KT.nil ?_
                    refine thenK_n ?_
                    have hCn : hot l[i] = false → got p l[i] i (lvP gap l k).1 = ht gap l[i] (lvP gap l k).1 (lvP gap l k).2 := fun _ => by
                      rw [lvP_get hk1] at hb205 ⊢
                      exact Classical.not_not.1 hb205
                    have hHn : hot l[i] = true → gvn gap l p l[i] i (k + 1) ≤ ht gap l[i] 1000 (lvP gap l k).2 := fun h => by
                      rw [h] at hb192; cases hb192
                    refine ⟨(_, k + 1), ⟨by simp only; omega, y16, fun k' hk' => (Nat.lt_succ_iff_lt_or_eq.1 hk').elim (hC k') (fun e => by subst e; exact hCn), fun k' hk' => (Nat.lt_succ_iff_lt_or_eq.1 hk').elim (hH k') (fun e => by subst e; exact hHn)⟩, by simp only; omega, rfl, by simp [Go.Vm.look, extK, gvn]⟩
            · skip
              refine KT.skip rfl rfl ?_
              refine KT.skip rfl rfl ?_
              refine KT.skip rfl rfl ?_
              refine KT.skip rfl rfl ?_
              refine KT.skip rfl rfl ?_
              refine KT.skip rfl rfl ?_
              refine KT.skip rfl rfl ?_
              refine KT.skip rfl rfl ?_
              refine KT.skip rfl rfl ?_
              refine KT.skip rfl rfl ?_
              refine KT.skip rfl rfl ?_
              refine KT.step rfl rfl (K.pick rfl (fun h => by cases h) (fun _ => rfl)) ?_
              refine KT.step rfl rfl (K.move rfl) ?_
              refine KT.step rfl rfl (K.loadOA (c3 l[i]) rfl y16 (by decide) Try.agg63 Try.size63 rfl) ?_
              refine KT.step rfl rfl (K.call1 rfl plainTry_50 (rhot50 l[i])) ?_
              refine KT.step rfl rfl (K.move rfl) ?_
              refine KT.bcase (fun hb208 => ?_) (fun hb208 => ?_)
              · skip
                refine KT.step rfl rfl (K.move rfl) ?_
                refine KT.step rfl rfl (K.loadOA (c3 l[i]) rfl y16 (by decide) Try.agg63 Try.size63 rfl) ?_
                refine KT.step rfl rfl (K.move rfl) ?_
                refine KT.step rfl rfl (K.move rfl) ?_
                refine KT.step rfl rfl (K.move rfl) ?_
                refine KT.step rfl rfl (K.add rfl rfl (show IntKind.i64.wrap ((k : Int) + 1) = ((k + 1 : Nat) : Int) from by rw [wrap_id (by omega)]; omega)) ?_
                refine KT.idxI (m := k + 1) rfl rfl rfl (ints_ok (l := lvls gap l)) rfl (by omega) Try.underlying23 Try.size3 fun cs215 => ?_
                refine KT.step rfl rfl (K.load rfl Try.agg3) ?_
                refine KT.step rfl rfl (K.call4 rfl rfl rfl rfl plainTry_49 (rheat49 (hall _ (List.getElem_mem hil)) g0 g20 ⟨by omega, by omega⟩ ⟨by omega, by omega⟩)) ?_
                refine KT.step rfl rfl (K.gtr rfl rfl) ?_
                refine KT.step rfl rfl (K.pick rfl (fun _ => rfl) (fun h => by cases h)) ?_
                refine KT.step rfl rfl (K.pick rfl (fun h => by cases h) (fun _ => rfl)) ?_
                refine KT.nil ?_
                refine ⟨by kernel_rfl, ?_⟩
                refine thenK_n ?_
                refine KC.cond rfl (fun hc220 => ?_) (fun hc220 => ?_)
                · skip
                  replace hc220 := of_decide_eq_true hc220
                  refine KC.seq ?_
                  refine KC.region ?_
                  refine KT.step rfl rfl (K.assign rfl) ?_
                  refine KT.step rfl rfl (K.assign rfl) ?_
                  refine KT.nil ?_
                  refine thenK_n ?_
                  refine KC.ret ?_
                  refine blockK_r ?_
                  refine thenK_r ?_
                  refine thenK_r ?_
                  refine blockK_r ?_
                  refine thenK_r ?_
                  refine blockK_r ?_
                  refine thenK_r ?_
                  refine thenK_r ?_
                  refine blockK_r ?_
                  refine thenK_r ?_
                  obtain rfl : b = false := Bool.eq_false_iff.2 fun h => by
                    have q := hb.1 h
                    have v := (q.2.2 i hil).h k hkp hb208
                    rw [lvP_get hk1] at v
                    simp only [gvn] at v
                    rw [lvP_get hk1] at v hc220
                    simp only at v hc220
                    omega
                  exact ⟨.inl rfl, _, rfl, rfl⟩
                · skip
                  replace hc220 := of_decide_eq_false hc220
                  refine KC.skip ?_
                  refine blockK_n ?_
                  refine thenK_n ?_
                  refine KC.region ?_
                  refine KT.step rfl rfl (K.add rfl rfl (wrap_id (by omega))) ?_
                  refine KT.step rfl rfl (K.move rfl) ?_
                  refine KT.nil ?_
                  refine thenK_n ?_
                  have hCn : hot l[i] = false → got p l[i] i (lvP gap l k).1 = ht gap l[i] (lvP gap l k).1 (lvP gap l k).2 := fun h => by
                    rw [h] at hb192; cases hb192
                  have hHn : hot l[i] = true → gvn gap l p l[i] i (k + 1) ≤ ht gap l[i] 1000 (lvP gap l k).2 := fun _ => by
                    simp only [gvn]
                    rw [lvP_get hk1] at hc220 ⊢
                    simp only at hc220 ⊢
                    omega
                  refine ⟨(_, k + 1), ⟨by simp only; omega, y16, fun k' hk' => (Nat.lt_succ_iff_lt_or_eq.1 hk').elim (hC k') (fun e => by subst e; exact hCn), fun k' hk' => (Nat.lt_succ_iff_lt_or_eq.1 hk').elim (hH k') (fun e => by subst e; exact hHn)⟩, by simp only; omega, rfl, by simp [Go.Vm.look, extK, gvn]⟩
              · skip
                exact absurd hb192 (by rw [hb208]; decide)
        · skip
          replace hc146 := of_decide_eq_false hc146
          obtain rfl : k = (prs (lvls gap l)).length := by omega
          refine KC.exit ?_
          refine thenK_x ?_
          refine thenK_x ?_
          refine blockK_e ?_
          refine thenK_n ?_
          refine KC.seq ?_
          refine KC.region ?_
          refine KT.step rfl rfl (K.move rfl) ?_
          refine KT.step rfl rfl (K.loadOA (c3 l[i]) rfl y16 (by decide) Try.agg63 Try.size63 rfl) ?_
          refine KT.step rfl rfl (K.move rfl) ?_
          refine KT.step rfl rfl (K.call4 rfl rfl rfl rfl plainTry_49 (rheat49 (hall _ (List.getElem_mem hil)) g0 g20 ⟨by omega, by omega⟩ ⟨by omega, by omega⟩)) ?_
          refine KT.step rfl rfl (K.neq rfl rfl) ?_
          refine KT.nil ?_
          refine thenK_n ?_
          refine KC.cond rfl (fun hc226 => ?_) (fun hc226 => ?_)
          · skip
            replace hc226 := of_decide_eq_true hc226
            refine KC.seq ?_
            refine KC.region ?_
            refine KT.step rfl rfl (K.assign rfl) ?_
            refine KT.step rfl rfl (K.assign rfl) ?_
            refine KT.nil ?_
            refine thenK_n ?_
            refine KC.ret ?_
            refine blockK_r ?_
            refine thenK_r ?_
            refine thenK_r ?_
            refine blockK_r ?_
            refine thenK_r ?_
            obtain rfl : b = false := Bool.eq_false_iff.2 fun h => by
              have q := hb.1 h
              have v := (q.2.2 i hil).e
              exact hc226 v
            exact ⟨.inl rfl, _, rfl, rfl⟩
          · skip
            replace hc226 := of_decide_eq_false hc226
            refine KC.skip ?_
            refine blockK_n ?_
            refine thenK_n ?_
            refine KC.region ?_
            refine KT.step rfl rfl (K.add rfl rfl (wrap_id (by omega))) ?_
            refine KT.step rfl rfl (K.move rfl) ?_
            refine KT.nil ?_
            refine thenK_n ?_
            have hSn : StrOK gap l p i hil := ⟨fun k' hk' hh => hC k' hk' hh, fun k' hk' hh => hH k' hk' hh, Classical.not_not.1 hc226⟩
            exact ⟨(_, i + 1), ⟨by simp only; omega, fun i' hi' => (Nat.lt_succ_iff_lt_or_eq.1 hi').elim (hS i') (fun e => by subst e; exact fun _ => hSn)⟩, by simp only; omega, rfl, by simp [Go.Vm.look, extK]⟩
      · skip
        replace hc135 := of_decide_eq_false hc135
        refine KC.exit ?_
        refine thenK_x ?_
        refine thenK_x ?_
        refine blockK_e ?_
        refine thenK_n ?_
        refine KC.seq ?_
        refine KC.region ?_
        refine KT.step rfl rfl (K.move rfl) ?_
        refine KT.step rfl rfl (K.assign rfl) ?_
        refine KT.step rfl rfl (K.assign rfl) ?_
        refine KT.nil ?_
        refine thenK_n ?_
        refine KC.ret ?_
        obtain rfl : b = true := hb.2 ⟨by omega, hv, fun i' hi' => hS i' (by omega) hi'⟩
        exact ⟨.inl rfl, _, rfl, rfl⟩
end Go.Proofs.Ytmfbakipfobaeaa

