import Derived.Test.YtcjcchceeidgkaaLgCe
import Derived.Test.YtcjcchceeidgkaaLgY
import Derived.Test.YtcjcchceeidgkaaLgPe
import Derived.Test.YtcjcchceeidgkaaLgO
/-
  The law LogicClauses.
-/
namespace Go.Proofs.Ytcjcchceeidgkaa
open Go.Vm Go.Lg
theorem plainTry_5 : plainFn Try.prog 5 = true := by kernel_rfl
theorem ca_eq {N L : List Int} {l : List Cl} {x y : Int} : caB (N.take 18) (L.take 18) (l.take 5002) x y = (((validS N L && inS N.length x) && inS N.length y) && okC l) := by
  unfold caB
  rw [valid_take, okC_take]
  cases hv : validS N L with
  | false => rfl
  | true => rw [(take_valid hv).1]; cases okC l <;> cases inS N.length x <;> cases inS N.length y <;> rfl
theorem CA_no {dN dL : DV} {N L : List Int} {l : List Cl} {x y : Int} (hN : Ints dN N) (hL : Ints dL L) (h : (((validS N L && inS N.length x) && inS N.length y) && okC l) = false) : DeepCall Try.prog 20 [.agg [l18 N dN, l18 L dL], clsV (l.take 5002), DI x, DI y] (.tup [DI 0, DB false, DI 2]) := by
  have hc := CheckApart20 (x := x) (y := y) (l18_ints hN) (l18_ints hL) ⟨by simp; omega, by simp; omega⟩ (clsV_ok (l.take 5002)) (by simp; omega)
  have hb : caB (N.take 18) (L.take 18) (l.take 5002) x y = false := ca_eq.trans h
  rw [show caD (N.take 18) (L.take 18) (l.take 5002) x y = 0 from by unfold caD; rw [hb]; rfl, show caP (N.take 18) (L.take 18) (l.take 5002) x y = false from by unfold caP; rw [hb]; rfl, show caE (N.take 18) (L.take 18) (l.take 5002) x y = 2 from by unfold caE; rw [hb]; rfl] at hc
  exact hc
theorem CA_yes {dN dL : DV} {N L : List Int} {l : List Cl} {x y : Int} (hN : Ints dN N) (hL : Ints dL L) (hv : validS N L = true) (hx : inS N.length x = true) (hy : inS N.length y = true) (hok : okC l = true) : DeepCall Try.prog 20 [.agg [l18 N dN, l18 L dL], clsV (l.take 5002), DI x, DI y] (.tup [DI ((depC l l.length).getD (l.length - 1) 0), DB (tb ((satC (toN N) (toN L) l l.length).getD (l.length - 1) 0) x && !tb ((satC (toN N) (toN L) l l.length).getD (l.length - 1) 0) y), DI 0]) := by
  have hc := CheckApart20 (x := x) (y := y) (l18_ints hN) (l18_ints hL) ⟨by simp; omega, by simp; omega⟩ (clsV_ok (l.take 5002)) (by simp; omega)
  have hb : caB (N.take 18) (L.take 18) (l.take 5002) x y = true := ca_eq.trans (by rw [hv, hx, hy, hok]; rfl)
  have ht : l.take 5002 = l := List.take_of_length_le (by have := (okC_all hok).2.1; omega)
  rw [show caD (N.take 18) (L.take 18) (l.take 5002) x y = ((depC l l.length).getD (l.length - 1) 0) from by unfold caD; rw [hb, ht]; rfl, show caP (N.take 18) (L.take 18) (l.take 5002) x y = (tb ((satC (toN N) (toN L) l l.length).getD (l.length - 1) 0) x && !tb ((satC (toN N) (toN L) l l.length).getD (l.length - 1) 0) y) from by unfold caP; rw [hb, ht, (take_valid hv).1, (take_valid hv).2]; rfl, show caE (N.take 18) (L.take 18) (l.take 5002) x y = 0 from by unfold caE; rw [hb]; rfl] at hc
  exact hc
set_option maxRecDepth 10000 in
theorem law_clauses_no {dN dL d : DV} {N L : List Int} {l : List Cl} {x y : Int} (hN : Ints dN N) (hL : Ints dL L) (hNl : N.length ≤ 9223372036854775807) (hLl : L.length ≤ 9223372036854775807) (hd : ClsD d l) (hdl : l.length ≤ 9223372036854775807) (h : (((validS N L && inS N.length x) && inS N.length y) && okC l) = false) : DeepCall Try.prog 5 [.agg [dN, dL], d, DI x, DI y] (DB true) := by
  refine deepCall_K 5 Try.func5 rfl (Nat.le_of_ble_eq_true rfl) fun M W0 => ?_
  refine KC.seq ?_
  refine KC.region ?_
  refine KT.step rfl rfl (K.box rfl) ?_
  refine KT.step rfl rfl (K.assign rfl) ?_
  refine KT.nil ?_
  refine thenK_n ?_
  refine KC.seq ?_
  refine KC.region ?_
  refine KT.step rfl rfl (K.loadOA ([dN, dL]) rfl rfl (by decide) Try.agg24 Try.size24 rfl) ?_
  refine KT.step rfl rfl (K.call1 rfl plainTry_10 (of10 hN hL)) ?_
  refine KT.step rfl rfl (K.move rfl) ?_
  refine KT.step rfl rfl (K.call1 rfl plainTry_21 (clauses21 hd hdl)) ?_
  refine KT.step rfl rfl (K.move rfl) ?_
  refine KT.step rfl rfl (K.move rfl) ?_
  refine KT.step rfl rfl (K.call4 rfl rfl rfl rfl plainTry_20 (CA_no hN hL h)) ?_
  refine KT.step rfl rfl (K.move rfl) ?_
  refine KT.step rfl rfl (K.extract rfl rfl) ?_
  refine KT.step rfl rfl (K.extract rfl rfl) ?_
  refine KT.step rfl rfl (K.extract rfl rfl) ?_
  refine KT.step rfl rfl (K.assign rfl) ?_
  refine KT.step rfl rfl (K.assign rfl) ?_
  refine KT.step rfl rfl (K.assign rfl) ?_
  refine KT.nil ?_
  refine thenK_n ?_
  refine KC.seq ?_
  refine KC.seq ?_
  refine KC.region ?_
  refine KT.step rfl rfl (K.loadOA ([dN, dL]) rfl rfl (by decide) Try.agg24 Try.size24 rfl) ?_
  refine KT.step rfl rfl (K.call1 rfl plainTry_12 (rvalid12 hN hL ⟨hNl, hLl⟩)) ?_
  refine KT.step rfl rfl (K.not rfl) ?_
  refine KT.step rfl rfl (K.move rfl) ?_
  refine KT.bcase (fun hb28 => ?_) (fun hb28 => ?_)
  · skip
    refine KT.skip rfl rfl ?_
    refine KT.skip rfl rfl ?_
    refine KT.skip rfl rfl ?_
    refine KT.skip rfl rfl ?_
    refine KT.step rfl rfl (K.pick rfl (fun _ => rfl) (fun h => by cases h)) ?_
    refine KT.step rfl rfl (K.move rfl) ?_
    refine KT.skip rfl rfl ?_
    refine KT.skip rfl rfl ?_
    refine KT.skip rfl rfl ?_
    refine KT.skip rfl rfl ?_
    refine KT.step rfl rfl (K.pick rfl (fun _ => rfl) (fun h => by cases h)) ?_
    refine KT.step rfl rfl (K.move rfl) ?_
    refine KT.skip rfl rfl ?_
    refine KT.skip rfl rfl ?_
    refine KT.skip rfl rfl ?_
    refine KT.step rfl rfl (K.pick rfl (fun _ => rfl) (fun h => by cases h)) ?_
    refine KT.nil ?_
    refine thenK_n ?_
    refine KC.cond rfl (fun hc44 => ?_) (fun hc44 => ?_)
    · skip
      refine KC.seq ?_
      refine KC.region ?_
      refine KT.step rfl rfl (K.move rfl) ?_
      refine KT.step rfl rfl (K.eql rfl rfl) ?_
      refine KT.step rfl rfl (K.move rfl) ?_
      refine KT.step rfl rfl (K.move rfl) ?_
      refine KT.step rfl rfl (K.not rfl) ?_
      refine KT.step rfl rfl (K.pick rfl (fun _ => rfl) (fun h => by cases h)) ?_
      refine KT.step rfl rfl (K.move rfl) ?_
      refine KT.step rfl rfl (K.move rfl) ?_
      refine KT.step rfl rfl (K.eql rfl rfl) ?_
      refine KT.step rfl rfl (K.pick rfl (fun _ => rfl) (fun h => by cases h)) ?_
      refine KT.step rfl rfl (K.move rfl) ?_
      refine KT.step rfl rfl (K.call0 plainTry_14 (awake14)) ?_
      refine KT.step rfl rfl (K.pick rfl (fun _ => rfl) (fun h => by cases h)) ?_
      refine KT.step rfl rfl (K.assign rfl) ?_
      refine KT.nil ?_
      refine thenK_n ?_
      refine KC.ret ?_
      refine thenK_r ?_
      exact ⟨.inl rfl, _, rfl, fin_b rfl⟩
    · cases hc44
  · skip
    refine KT.step rfl rfl (K.loadOA ([dN, dL]) rfl rfl (by decide) Try.agg24 Try.size24 rfl) ?_
    refine KT.step rfl rfl (K.move rfl) ?_
    have hv : validS N L = true := by rw [Bool.not_eq_false'] at hb28; exact hb28
    refine KT.step rfl rfl (K.call2 rfl rfl plainTry_22 (toN_len N ▸ rstate22 (str_of hN hL hv))) ?_
    refine KT.step rfl rfl (K.not rfl) ?_
    refine KT.step rfl rfl (K.pick rfl (fun h => by cases h) (fun _ => rfl)) ?_
    refine KT.step rfl rfl (K.move rfl) ?_
    refine KT.bcase (fun hb34 => ?_) (fun hb34 => ?_)
    · skip
      refine KT.skip rfl rfl ?_
      refine KT.skip rfl rfl ?_
      refine KT.skip rfl rfl ?_
      refine KT.skip rfl rfl ?_
      refine KT.step rfl rfl (K.pick rfl (fun _ => rfl) (fun h => by cases h)) ?_
      refine KT.step rfl rfl (K.move rfl) ?_
      refine KT.skip rfl rfl ?_
      refine KT.skip rfl rfl ?_
      refine KT.skip rfl rfl ?_
      refine KT.step rfl rfl (K.pick rfl (fun _ => rfl) (fun h => by cases h)) ?_
      refine KT.nil ?_
      refine thenK_n ?_
      refine KC.cond rfl (fun hc44 => ?_) (fun hc44 => ?_)
      · skip
        refine KC.seq ?_
        refine KC.region ?_
        refine KT.step rfl rfl (K.move rfl) ?_
        refine KT.step rfl rfl (K.eql rfl rfl) ?_
        refine KT.step rfl rfl (K.move rfl) ?_
        refine KT.step rfl rfl (K.move rfl) ?_
        refine KT.step rfl rfl (K.not rfl) ?_
        refine KT.step rfl rfl (K.pick rfl (fun _ => rfl) (fun h => by cases h)) ?_
        refine KT.step rfl rfl (K.move rfl) ?_
        refine KT.step rfl rfl (K.move rfl) ?_
        refine KT.step rfl rfl (K.eql rfl rfl) ?_
        refine KT.step rfl rfl (K.pick rfl (fun _ => rfl) (fun h => by cases h)) ?_
        refine KT.step rfl rfl (K.move rfl) ?_
        refine KT.step rfl rfl (K.call0 plainTry_14 (awake14)) ?_
        refine KT.step rfl rfl (K.pick rfl (fun _ => rfl) (fun h => by cases h)) ?_
        refine KT.step rfl rfl (K.assign rfl) ?_
        refine KT.nil ?_
        refine thenK_n ?_
        refine KC.ret ?_
        refine thenK_r ?_
        exact ⟨.inl rfl, _, rfl, fin_b rfl⟩
      · cases hc44
    · skip
      refine KT.step rfl rfl (K.loadOA ([dN, dL]) rfl rfl (by decide) Try.agg24 Try.size24 rfl) ?_
      refine KT.step rfl rfl (K.move rfl) ?_
      refine KT.step rfl rfl (K.call2 rfl rfl plainTry_22 (toN_len N ▸ rstate22 (str_of hN hL hv))) ?_
      refine KT.step rfl rfl (K.not rfl) ?_
      refine KT.step rfl rfl (K.pick rfl (fun h => by cases h) (fun _ => rfl)) ?_
      refine KT.step rfl rfl (K.move rfl) ?_
      refine KT.bcase (fun hb40 => ?_) (fun hb40 => ?_)
      · skip
        refine KT.skip rfl rfl ?_
        refine KT.skip rfl rfl ?_
        refine KT.skip rfl rfl ?_
        refine KT.step rfl rfl (K.pick rfl (fun _ => rfl) (fun h => by cases h)) ?_
        refine KT.nil ?_
        refine thenK_n ?_
        refine KC.cond rfl (fun hc44 => ?_) (fun hc44 => ?_)
        · skip
          refine KC.seq ?_
          refine KC.region ?_
          refine KT.step rfl rfl (K.move rfl) ?_
          refine KT.step rfl rfl (K.eql rfl rfl) ?_
          refine KT.step rfl rfl (K.move rfl) ?_
          refine KT.step rfl rfl (K.move rfl) ?_
          refine KT.step rfl rfl (K.not rfl) ?_
          refine KT.step rfl rfl (K.pick rfl (fun _ => rfl) (fun h => by cases h)) ?_
          refine KT.step rfl rfl (K.move rfl) ?_
          refine KT.step rfl rfl (K.move rfl) ?_
          refine KT.step rfl rfl (K.eql rfl rfl) ?_
          refine KT.step rfl rfl (K.pick rfl (fun _ => rfl) (fun h => by cases h)) ?_
          refine KT.step rfl rfl (K.move rfl) ?_
          refine KT.step rfl rfl (K.call0 plainTry_14 (awake14)) ?_
          refine KT.step rfl rfl (K.pick rfl (fun _ => rfl) (fun h => by cases h)) ?_
          refine KT.step rfl rfl (K.assign rfl) ?_
          refine KT.nil ?_
          refine thenK_n ?_
          refine KC.ret ?_
          refine thenK_r ?_
          exact ⟨.inl rfl, _, rfl, fin_b rfl⟩
        · cases hc44
      · skip
        refine KT.step rfl rfl (K.move rfl) ?_
        refine KT.step rfl rfl (K.call1 rfl plainTry_23 (rclauses23 hd hdl)) ?_
        refine KT.step rfl rfl (K.not rfl) ?_
        refine KT.step rfl rfl (K.pick rfl (fun h => by cases h) (fun _ => rfl)) ?_
        refine KT.nil ?_
        refine thenK_n ?_
        refine KC.cond rfl (fun hc44 => ?_) (fun hc44 => ?_)
        · skip
          refine KC.seq ?_
          refine KC.region ?_
          refine KT.step rfl rfl (K.move rfl) ?_
          refine KT.step rfl rfl (K.eql rfl rfl) ?_
          refine KT.step rfl rfl (K.move rfl) ?_
          refine KT.step rfl rfl (K.move rfl) ?_
          refine KT.step rfl rfl (K.not rfl) ?_
          refine KT.step rfl rfl (K.pick rfl (fun _ => rfl) (fun h => by cases h)) ?_
          refine KT.step rfl rfl (K.move rfl) ?_
          refine KT.step rfl rfl (K.move rfl) ?_
          refine KT.step rfl rfl (K.eql rfl rfl) ?_
          refine KT.step rfl rfl (K.pick rfl (fun _ => rfl) (fun h => by cases h)) ?_
          refine KT.step rfl rfl (K.move rfl) ?_
          refine KT.step rfl rfl (K.call0 plainTry_14 (awake14)) ?_
          refine KT.step rfl rfl (K.pick rfl (fun _ => rfl) (fun h => by cases h)) ?_
          refine KT.step rfl rfl (K.assign rfl) ?_
          refine KT.nil ?_
          refine thenK_n ?_
          refine KC.ret ?_
          refine thenK_r ?_
          exact ⟨.inl rfl, _, rfl, fin_b rfl⟩
        · skip
          rw [Bool.not_eq_false'] at hb34 hb40 hc44
          rw [hv, hb34, hb40, hc44] at h
          exact absurd h (by decide)
set_option maxRecDepth 10000 in
theorem law_clauses_yes {dN dL d : DV} {N L : List Int} {l : List Cl} {x y : Int} (hN : Ints dN N) (hL : Ints dL L) (hNl : N.length ≤ 9223372036854775807) (hLl : L.length ≤ 9223372036854775807) (hd : ClsD d l) (hdl : l.length ≤ 9223372036854775807) (hv : validS N L = true) (hx : inS N.length x = true) (hy : inS N.length y = true) (hok : okC l = true) : DeepCall Try.prog 5 [.agg [dN, dL], d, DI x, DI y] (DB true) := by
  have hS := str_of hN hL hv
  have h16 := hS.n16
  rw [toN_len] at h16
  have hx1 := inS_iff.1 hx
  have hy1 := inS_iff.1 hy
  have hx2 := And.intro hx1.1 (Int.lt_of_lt_of_le hx1.2 (show (N.length : Int) ≤ 64 by omega))
  have hy2 := And.intro hy1.1 (Int.lt_of_lt_of_le hy1.2 (show (N.length : Int) ≤ 64 by omega))
  have hset := pow16 hS.n16 (satC_lt hS.len l l.length (l.length - 1))
  refine deepCall_K 5 Try.func5 rfl (Nat.le_of_ble_eq_true rfl) fun M W0 => ?_
  refine KC.seq ?_
  refine KC.region ?_
  refine KT.step rfl rfl (K.box rfl) ?_
  refine KT.step rfl rfl (K.assign rfl) ?_
  refine KT.nil ?_
  refine thenK_n ?_
  refine KC.seq ?_
  refine KC.region ?_
  refine KT.step rfl rfl (K.loadOA ([dN, dL]) rfl rfl (by decide) Try.agg24 Try.size24 rfl) ?_
  refine KT.step rfl rfl (K.call1 rfl plainTry_10 (of10 hN hL)) ?_
  refine KT.step rfl rfl (K.move rfl) ?_
  refine KT.step rfl rfl (K.call1 rfl plainTry_21 (clauses21 hd hdl)) ?_
  refine KT.step rfl rfl (K.move rfl) ?_
  refine KT.step rfl rfl (K.move rfl) ?_
  refine KT.step rfl rfl (K.call4 rfl rfl rfl rfl plainTry_20 (CA_yes hN hL hv hx hy hok)) ?_
  refine KT.step rfl rfl (K.move rfl) ?_
  refine KT.step rfl rfl (K.extract rfl rfl) ?_
  refine KT.step rfl rfl (K.extract rfl rfl) ?_
  refine KT.step rfl rfl (K.extract rfl rfl) ?_
  refine KT.step rfl rfl (K.assign rfl) ?_
  refine KT.step rfl rfl (K.assign rfl) ?_
  refine KT.step rfl rfl (K.assign rfl) ?_
  refine KT.nil ?_
  refine thenK_n ?_
  refine KC.seq ?_
  refine KC.seq ?_
  refine KC.region ?_
  refine KT.step rfl rfl (K.loadOA ([dN, dL]) rfl rfl (by decide) Try.agg24 Try.size24 rfl) ?_
  refine KT.step rfl rfl (K.call1 rfl plainTry_12 (rvalid12 hN hL ⟨hNl, hLl⟩)) ?_
  refine KT.step rfl rfl (K.not rfl) ?_
  refine KT.step rfl rfl (K.move rfl) ?_
  refine KT.bcase (fun hb28 => ?_) (fun hb28 => ?_)
  · skip
    rw [Bool.not_eq_true', hv] at hb28
    cases hb28
  · skip
    refine KT.step rfl rfl (K.loadOA ([dN, dL]) rfl rfl (by decide) Try.agg24 Try.size24 rfl) ?_
    refine KT.step rfl rfl (K.move rfl) ?_
    refine KT.step rfl rfl (K.call2 rfl rfl plainTry_22 (toN_len N ▸ rstate22 (str_of hN hL hv))) ?_
    refine KT.step rfl rfl (K.not rfl) ?_
    refine KT.step rfl rfl (K.pick rfl (fun h => by cases h) (fun _ => rfl)) ?_
    refine KT.step rfl rfl (K.move rfl) ?_
    refine KT.bcase (fun hb34 => ?_) (fun hb34 => ?_)
    · skip
      rw [Bool.not_eq_true', hx] at hb34
      cases hb34
    · skip
      refine KT.step rfl rfl (K.loadOA ([dN, dL]) rfl rfl (by decide) Try.agg24 Try.size24 rfl) ?_
      refine KT.step rfl rfl (K.move rfl) ?_
      refine KT.step rfl rfl (K.call2 rfl rfl plainTry_22 (toN_len N ▸ rstate22 (str_of hN hL hv))) ?_
      refine KT.step rfl rfl (K.not rfl) ?_
      refine KT.step rfl rfl (K.pick rfl (fun h => by cases h) (fun _ => rfl)) ?_
      refine KT.step rfl rfl (K.move rfl) ?_
      refine KT.bcase (fun hb40 => ?_) (fun hb40 => ?_)
      · skip
        rw [Bool.not_eq_true', hy] at hb40
        cases hb40
      · skip
        refine KT.step rfl rfl (K.move rfl) ?_
        refine KT.step rfl rfl (K.call1 rfl plainTry_23 (rclauses23 hd hdl)) ?_
        refine KT.step rfl rfl (K.not rfl) ?_
        refine KT.step rfl rfl (K.pick rfl (fun h => by cases h) (fun _ => rfl)) ?_
        refine KT.nil ?_
        refine thenK_n ?_
        refine KC.cond rfl (fun hc44 => ?_) (fun hc44 => ?_)
        · skip
          rw [Bool.not_eq_true', hok] at hc44
          cases hc44
        · skip
          refine KC.skip ?_
          refine thenK_n ?_
          refine KC.seq ?_
          refine KC.region ?_
          refine KT.step rfl rfl (K.loadOA ([dN, dL]) rfl rfl (by decide) Try.agg24 Try.size24 rfl) ?_
          refine KT.step rfl rfl (K.move rfl) ?_
          refine KT.step rfl rfl (K.call2 rfl rfl plainTry_24 (rlast24 hS (tot_of2 hv) hd hok)) ?_
          refine KT.step rfl rfl (K.move rfl) ?_
          refine KT.step rfl rfl (K.extract rfl rfl) ?_
          refine KT.step rfl rfl (K.extract rfl rfl) ?_
          refine KT.step rfl rfl (K.assign rfl) ?_
          refine KT.step rfl rfl (K.assign rfl) ?_
          refine KT.nil ?_
          refine thenK_n ?_
          refine KC.seq ?_
          refine KC.region ?_
          refine KT.step rfl rfl (K.move rfl) ?_
          refine KT.step rfl rfl (K.move rfl) ?_
          refine KT.step rfl rfl (K.eql rfl rfl) ?_
          refine KT.step rfl rfl (K.move rfl) ?_
          refine KT.bcase (fun hb67 => ?_) (fun hb67 => ?_)
          · skip
            replace hb67 := of_decide_eq_true hb67
            refine KT.step rfl rfl (K.move rfl) ?_
            refine KT.step rfl rfl (K.move rfl) ?_
            refine KT.step rfl rfl (K.move rfl) ?_
            refine KT.step rfl rfl (K.shr rfl rfl (hx2).1 (shrII (hx2))) ?_
            refine KT.step rfl rfl (K.band rfl rfl (show IntKind.i64.wrap (BitVec.ofInt IntKind.i64.bits ((((satC (toN N) (toN L) l l.length).getD (l.length - 1) 0) / 2 ^ (x).toNat : Nat) : Int) &&& BitVec.ofInt IntKind.i64.bits (1 : Int)).toNat = ((((satC (toN N) (toN L) l l.length).getD (l.length - 1) 0) / 2 ^ (x).toNat &&& 1 : Nat) : Int) from andI (b := 1) (Nat.lt_of_le_of_lt (Nat.div_le_self _ _) (lt63 hset)) (by decide))) ?_
            refine KT.step rfl rfl (K.eql rfl rfl) ?_
            refine KT.step rfl rfl (K.move rfl) ?_
            refine KT.bcase (fun hb74 => ?_) (fun hb74 => ?_)
            · skip
              replace hb74 := of_decide_eq_true hb74
              refine KT.step rfl rfl (K.move rfl) ?_
              refine KT.step rfl rfl (K.move rfl) ?_
              refine KT.step rfl rfl (K.shr rfl rfl (hy2).1 (shrII (hy2))) ?_
              refine KT.step rfl rfl (K.band rfl rfl (show IntKind.i64.wrap (BitVec.ofInt IntKind.i64.bits ((((satC (toN N) (toN L) l l.length).getD (l.length - 1) 0) / 2 ^ (y).toNat : Nat) : Int) &&& BitVec.ofInt IntKind.i64.bits (1 : Int)).toNat = ((((satC (toN N) (toN L) l l.length).getD (l.length - 1) 0) / 2 ^ (y).toNat &&& 1 : Nat) : Int) from andI (b := 1) (Nat.lt_of_le_of_lt (Nat.div_le_self _ _) (lt63 hset)) (by decide))) ?_
              refine KT.step rfl rfl (K.eql rfl rfl) ?_
              refine KT.step rfl rfl (K.pick rfl (fun _ => rfl) (fun h => by cases h)) ?_
              refine KT.step rfl rfl (K.eqB Try.underlying4 rfl rfl) ?_
              refine KT.step rfl rfl (K.pick rfl (fun _ => rfl) (fun h => by cases h)) ?_
              refine KT.step rfl rfl (K.move rfl) ?_
              refine KT.bcase (fun hb83 => ?_) (fun hb83 => ?_)
              · skip
                refine KT.step rfl rfl (K.move rfl) ?_
                refine KT.step rfl rfl (K.eql rfl rfl) ?_
                refine KT.step rfl rfl (K.pick rfl (fun _ => rfl) (fun h => by cases h)) ?_
                refine KT.step rfl rfl (K.move rfl) ?_
                refine KT.step rfl rfl (K.call0 plainTry_14 (awake14)) ?_
                refine KT.step rfl rfl (K.pick rfl (fun _ => rfl) (fun h => by cases h)) ?_
                refine KT.step rfl rfl (K.assign rfl) ?_
                refine KT.nil ?_
                refine thenK_n ?_
                refine KC.ret ?_
                exact ⟨.inl rfl, _, rfl, fin_b rfl⟩
              · skip
                rw [bit_zero, (show tb ((satC (toN N) (toN L) l l.length).getD (l.length - 1) 0) x = true from by rw [← bit_is]; exact decide_eq_true hb74)] at hb83
                simp at hb83
            · skip
              replace hb74 := of_decide_eq_false hb74
              refine KT.skip rfl rfl ?_
              refine KT.skip rfl rfl ?_
              refine KT.skip rfl rfl ?_
              refine KT.skip rfl rfl ?_
              refine KT.skip rfl rfl ?_
              refine KT.step rfl rfl (K.pick rfl (fun h => by cases h) (fun _ => rfl)) ?_
              refine KT.step rfl rfl (K.eqB Try.underlying4 rfl rfl) ?_
              refine KT.step rfl rfl (K.pick rfl (fun _ => rfl) (fun h => by cases h)) ?_
              refine KT.step rfl rfl (K.move rfl) ?_
              refine KT.bcase (fun hb83 => ?_) (fun hb83 => ?_)
              · skip
                refine KT.step rfl rfl (K.move rfl) ?_
                refine KT.step rfl rfl (K.eql rfl rfl) ?_
                refine KT.step rfl rfl (K.pick rfl (fun _ => rfl) (fun h => by cases h)) ?_
                refine KT.step rfl rfl (K.move rfl) ?_
                refine KT.step rfl rfl (K.call0 plainTry_14 (awake14)) ?_
                refine KT.step rfl rfl (K.pick rfl (fun _ => rfl) (fun h => by cases h)) ?_
                refine KT.step rfl rfl (K.assign rfl) ?_
                refine KT.nil ?_
                refine thenK_n ?_
                refine KC.ret ?_
                exact ⟨.inl rfl, _, rfl, fin_b rfl⟩
              · skip
                rw [(show tb ((satC (toN N) (toN L) l l.length).getD (l.length - 1) 0) x = false from by rw [← bit_is]; exact decide_eq_false hb74)] at hb83
                simp at hb83
          · skip
            exact absurd rfl (of_decide_eq_false hb67)
theorem law_clauses {dN dL d : DV} {N L : List Int} {l : List Cl} {x y : Int} (hN : Ints dN N) (hL : Ints dL L) (hNl : N.length ≤ 9223372036854775807) (hLl : L.length ≤ 9223372036854775807) (hd : ClsD d l) (hdl : l.length ≤ 9223372036854775807) : DeepCall Try.prog 5 [.agg [dN, dL], d, DI x, DI y] (DB true) := by
  cases h : (((validS N L && inS N.length x) && inS N.length y) && okC l) with
  | false => exact law_clauses_no hN hL hNl hLl hd hdl h
  | true =>
    simp only [Bool.and_eq_true] at h
    exact law_clauses_yes hN hL hNl hLl hd hdl h.1.1.1 h.1.1.2 h.1.2 h.2
theorem open_clause : Opn Try.prog 90 ClP := by
  refine (Opn.struct Try.underlying90 [(1, One fun d => ∃ s, d = .lit (.string s)), (1, One fun d => ∃ n, IsI d n), (1, One fun d => ∃ n, IsI d n)] (fun i => i) rfl rfl (by kernel_rfl) fun i f q hf hq => ?_).mono fun ds h => ?_
  · match i with
    | 0 => simp at hf hq; subst hf hq; exact ⟨rfl, by kernel_rfl, rfl, open_s⟩
    | 1 => simp at hf hq; subst hf hq; exact ⟨rfl, by kernel_rfl, rfl, open_i⟩
    | 2 => simp at hf hq; subst hf hq; exact ⟨rfl, by kernel_rfl, rfl, open_i⟩
    | i + 3 => simp at hf
  · obtain ⟨_, _, rfl, _, ⟨_, rfl, s, rfl⟩, _, _, rfl, _, ⟨_, rfl, a, rfl⟩, _, _, rfl, _, ⟨_, rfl, b, rfl⟩, rfl⟩ := h
    exact ⟨s, a, b, rfl⟩
theorem open_cls : Opn Try.prog 49 (One fun d => ∃ l, ClsD d l ∧ l.length ≤ 9223372036854775807) := (Opn.slice Try.underlying49 (by kernel_rfl) open_clause).mono fun ds ⟨d, e, h⟩ => ⟨d, e, cls_of h⟩
end Go.Proofs.Ytcjcchceeidgkaa

