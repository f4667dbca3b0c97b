import Derived.Test.YtmfbakipfobaeaaHtEc
import Derived.Test.YtmfbakipfobaeaaHtGu
import Derived.Test.YtmfbakipfobaeaaHtO
/-
  Heat: the check of a plan.
-/
namespace Go.Proofs.Ytmfbakipfobaeaa
open Go.Vm Go.Ht
theorem plainTry_35 : plainFn Try.prog 35 = true := by kernel_rfl
theorem open_ld : Opn Try.prog 88 fun ds => ∃ x : Ld, ds = c4 x := by
  refine (Opn.struct Try.underlying88 [(1, (One fun d => ∃ n, IsI d n)), (1, (One fun d => ∃ n, IsI d n)), (1, (One fun d => ∃ n, IsI d n)), (1, (One fun d => ∃ n, IsI d n))] (fun i => i) rfl rfl (by kernel_rfl) fun i f q hf hq => ?_).mono fun ds h => ?_
  · match i with
    | 0 => simp at hf hq; subst hf hq; exact ⟨rfl, by kernel_rfl, rfl, open_i⟩
    | 1 => simp at hf hq; subst hf hq; exact ⟨rfl, by kernel_rfl, rfl, open_i⟩
    | 2 => simp at hf hq; subst hf hq; exact ⟨rfl, by kernel_rfl, rfl, open_i⟩
    | 3 => simp at hf hq; subst hf hq; exact ⟨rfl, by kernel_rfl, rfl, open_i⟩
    | i + 4 => simp at hf
  · obtain ⟨_, _, rfl, _, ⟨_, rfl, a, rfl⟩, _, _, rfl, _, ⟨_, rfl, b, rfl⟩, _, _, rfl, _, ⟨_, rfl, r, rfl⟩, _, _, rfl, _, ⟨_, rfl, q, rfl⟩, rfl⟩ := h
    exact ⟨⟨a, b, r, q⟩, rfl⟩
theorem open_p : Opn Try.prog 49 (One fun d => ∃ l, FlD 4 c4 d l ∧ l.length ≤ 9223372036854775807) := (Opn.slice Try.underlying49 (by kernel_rfl) open_ld).mono fun ds ⟨d, e, h⟩ => ⟨d, e, fl_of h⟩
set_option maxRecDepth 10000 in
theorem check_no {e : DV} {d : DV} {l : List Sm} {gap : Int} (hd : StD d l) (hl : l.length ≤ 9223372036854775807) (hno : okH l gap = false) : DeepCall Try.prog 35 [d, DI gap, e] (.tup [DI 0, DB false, DI 2]) := by
  refine deepCall_K 5 Try.func35 rfl (Nat.le_of_ble_eq_true rfl) fun M W0 => ?_
  refine KC.seq ?_
  refine KC.region ?_
  refine KT.step rfl rfl (K.assign rfl) ?_
  refine KT.step rfl rfl (K.assign rfl) ?_
  refine KT.step rfl rfl (K.assign rfl) ?_
  refine KT.nil ?_
  refine thenK_n ?_
  refine KC.seq ?_
  refine KC.region ?_
  refine KT.step rfl rfl (K.move rfl) ?_
  refine KT.step rfl rfl (K.move rfl) ?_
  refine KT.step rfl rfl (K.call2 rfl rfl plainTry_45 (read_no hd hl hno)) ?_
  refine KT.step rfl rfl (K.move rfl) ?_
  refine KT.step rfl rfl (K.extract rfl rfl) ?_
  refine KT.step rfl rfl (K.extract rfl rfl) ?_
  refine KT.step rfl rfl (K.alloc Try.zero75) ?_
  refine KT.putAll (cs := [.d Dnil, .d Dnil]) rfl rfl rfl rfl rfl rfl rfl rfl Try.size75 ?_
  refine KT.step rfl rfl (K.assign rfl) ?_
  refine KT.nil ?_
  refine thenK_n ?_
  refine KC.seq ?_
  refine KC.seq ?_
  refine KC.region ?_
  refine KT.step rfl rfl (K.move rfl) ?_
  refine KT.step rfl rfl (K.not rfl) ?_
  refine KT.nil ?_
  refine thenK_n ?_
  refine KC.cond rfl (fun hc18 => ?_) (fun hc18 => ?_)
  · skip
    refine KC.seq ?_
    refine KC.region ?_
    refine KT.step rfl rfl (K.assign rfl) ?_
    refine KT.step rfl rfl (K.assign rfl) ?_
    refine KT.step rfl rfl (K.assign rfl) ?_
    refine KT.nil ?_
    refine thenK_n ?_
    refine KC.ret ?_
    refine thenK_r ?_
    exact ⟨.inl rfl, _, rfl, rfl⟩
  · skip
    exact absurd hc18 (by decide)
set_option maxRecDepth 10000 in
theorem check_ok {d : DV} {l : List Sm} {gap : Int} (hd : StD d l) (hl : l.length ≤ 9223372036854775807) (hok : okH l gap = true) {e : DV} {p : List Ld} (he : FlD 4 c4 e p) (hpl : p.length ≤ 9223372036854775807) {b : Bool} (hb : b = true ↔ p.length ≤ 200 ∧ SrvOK gap l p) : DeepCall Try.prog 35 [d, DI gap, e] (.tup [DI (if b = true then utl p else 0), DB b, DI 0]) := by
  refine deepCall_K 5 Try.func35 rfl (Nat.le_of_ble_eq_true rfl) fun M W0 => ?_
  refine KC.seq ?_
  refine KC.region ?_
  refine KT.step rfl rfl (K.assign rfl) ?_
  refine KT.step rfl rfl (K.assign rfl) ?_
  refine KT.step rfl rfl (K.assign rfl) ?_
  refine KT.nil ?_
  refine thenK_n ?_
  refine KC.seq ?_
  refine KC.region ?_
  refine KT.step rfl rfl (K.move rfl) ?_
  refine KT.step rfl rfl (K.move rfl) ?_
  refine KT.step rfl rfl (K.call2 rfl rfl plainTry_45 (read_ok hd hl hok)) ?_
  refine KT.step rfl rfl (K.move rfl) ?_
  refine KT.step rfl rfl (K.extract rfl rfl) ?_
  refine KT.step rfl rfl (K.extract rfl rfl) ?_
  refine KT.step rfl rfl (K.alloc Try.zero75) ?_
  refine KT.putAll (cs := [.d (.sl (l.flatMap (c5 gap)) l.length none), .d (.sl (ints (lvls gap l)) (lvls gap l).length none)]) rfl rfl rfl rfl rfl rfl rfl rfl Try.size75 ?_
  refine KT.step rfl rfl (K.assign rfl) ?_
  refine KT.nil ?_
  refine thenK_n ?_
  refine KC.seq ?_
  refine KC.seq ?_
  refine KC.region ?_
  refine KT.step rfl rfl (K.move rfl) ?_
  refine KT.step rfl rfl (K.not rfl) ?_
  refine KT.nil ?_
  refine thenK_n ?_
  refine KC.cond rfl (fun hc18 => ?_) (fun hc18 => ?_)
  · skip
    exact absurd hc18 (by decide)
  · skip
    refine KC.skip ?_
    refine thenK_n ?_
    refine KC.seq ?_
    refine KC.seq ?_
    refine KC.region ?_
    refine KT.step rfl rfl (K.move rfl) ?_
    refine KT.step rfl rfl (K.lenF rfl he Try.underlying44) ?_
    refine KT.step rfl rfl (K.gtr rfl rfl) ?_
    refine KT.step rfl rfl (K.move rfl) ?_
    refine KT.bcase (fun hb22 => ?_) (fun hb22 => ?_)
    · skip
      replace hb22 := of_decide_eq_true hb22
      refine KT.skip rfl rfl ?_
      refine KT.skip rfl rfl ?_
      refine KT.skip rfl rfl ?_
      refine KT.skip rfl rfl ?_
      refine KT.step rfl rfl (K.pick rfl (fun _ => rfl) (fun h => by cases h)) ?_
      refine KT.nil ?_
      refine thenK_n ?_
      refine KC.cond rfl (fun hc27 => ?_) (fun hc27 => ?_)
      · skip
        refine KC.seq ?_
        refine KC.region ?_
        refine KT.step rfl rfl (K.assign rfl) ?_
        refine KT.step rfl rfl (K.assign rfl) ?_
        refine KT.step rfl rfl (K.assign rfl) ?_
        refine KT.nil ?_
        refine thenK_n ?_
        refine KC.ret ?_
        refine thenK_r ?_
        obtain rfl : b = false := Bool.eq_false_iff.2 fun h => by
          have q := hb.1 h
          omega
        exact ⟨.inl rfl, _, rfl, rfl⟩
      · cases hc27
    · skip
      replace hb22 := of_decide_eq_false hb22
      refine KT.step rfl rfl (K.loadOA [.sl (l.flatMap (c5 gap)) l.length none, .sl (ints (lvls gap l)) (lvls gap l).length none] rfl rfl (by decide) Try.agg75 Try.size75 rfl) ?_
      refine KT.step rfl rfl (K.move rfl) ?_
      refine KT.step rfl rfl (K.call2 rfl rfl plainTry_55 (servedBy55 he (by omega) hok)) ?_
      refine KT.step rfl rfl (K.not rfl) ?_
      refine KT.step rfl rfl (K.pick rfl (fun h => by cases h) (fun _ => rfl)) ?_
      refine KT.nil ?_
      refine thenK_n ?_
      refine KC.cond rfl (fun hc27 => ?_) (fun hc27 => ?_)
      · skip
        refine KC.seq ?_
        refine KC.region ?_
        refine KT.step rfl rfl (K.assign rfl) ?_
        refine KT.step rfl rfl (K.assign rfl) ?_
        refine KT.step rfl rfl (K.assign rfl) ?_
        refine KT.nil ?_
        refine thenK_n ?_
        refine KC.ret ?_
        refine thenK_r ?_
        obtain rfl : b = false := Bool.eq_false_iff.2 fun h => by
          have q := hb.1 h
          rw [(srv_iff hok).2 q.2] at hc27; cases hc27
        exact ⟨.inl rfl, _, rfl, rfl⟩
      · skip
        refine KC.skip ?_
        refine thenK_n ?_
        refine KC.seq ?_
        refine KC.region ?_
        refine KT.step rfl rfl (K.move rfl) ?_
        have hsv : srvd gap l p = true := by simpa using hc27
        have hS := (srv_iff hok).1 hsv
        have hqb : ∀ x ∈ p, 0 ≤ x.q ∧ x.q ≤ 1000000 := fun x hx => ⟨by have := (hS.1 x hx).q1; omega, by have := (hS.1 x hx).q2; omega⟩
        refine KT.step rfl rfl (K.call1 rfl plainTry_56 (fromUtility56 he (by omega) hqb)) ?_
        refine KT.step rfl rfl (K.assign rfl) ?_
        refine KT.step rfl rfl (K.assign rfl) ?_
        refine KT.step rfl rfl (K.assign rfl) ?_
        refine KT.nil ?_
        refine thenK_n ?_
        refine KC.ret ?_
        obtain rfl : b = true := hb.2 ⟨by omega, hS⟩
        exact ⟨.inl rfl, _, rfl, rfl⟩
theorem b202 {gap : Int} {l : List Sm} {p : List Ld} {b : Bool} (hb : b = true ↔ p.length ≤ 200 ∧ SrvOK gap l p) : b = true ↔ (p.take 202).length ≤ 200 ∧ SrvOK gap l (p.take 202) := by
  rw [hb]
  by_cases h : p.length ≤ 200
  · rw [List.take_of_length_le (l := p) (by omega)]
  · constructor
    · rintro ⟨h1, _⟩; omega
    · rintro ⟨h1, _⟩; rw [List.length_take] at h1; omega
theorem check_q {d : DV} {l : List Sm} {gap : Int} (hd : StD d l) (hl : l.length ≤ 9223372036854775807) (hok : okH l gap = true) {p : List Ld} {b : Bool} (hb : b = true ↔ p.length ≤ 200 ∧ SrvOK gap l p) : DeepCall Try.prog 35 [d, DI gap, flV c4 (p.take 202)] (.tup [DI (if b = true then utl p else 0), DB b, DI 0]) := by
  have h := check_ok hd hl hok (flV_ok (f := c4) (k := 4) (p.take 202)) (by rw [List.length_take]; omega) (b202 hb)
  by_cases e : b = true
  · have h2 := (hb.1 e).1
    rw [List.take_of_length_le (l := p) (by omega)] at h ⊢; exact h
  · rw [if_neg e] at h ⊢; exact h
end Go.Proofs.Ytmfbakipfobaeaa

