/-
  The law FlowAny: every beginning can be completed.
-/
import Derived.Test.YtnfnjnaheckdbaaFlL
namespace Go.Proofs.Ytnfnjnaheckdbaa
open Go.Vm Go.Fl
theorem plainTry_9 : plainFn Try.prog 9 = true := by kernel_rfl

theorem take_le {L : List LZ} (hl : L.length ≤ 9223372036854775807) : (L.take 12).length ≤ 9223372036854775807 := by rw [List.length_take]; omega
set_option maxRecDepth 10000 in
theorem any_err {d e : DV} {n : Int} {L : List LZ} {ch : List Int} (hd : Lks d L) (hl : L.length ≤ 9223372036854775807) (he : Ints e ch) (hel : ch.length ≤ 9223372036854775807) (hE : (repA n (L.take 12)).2 ≠ 0) : DeepCall Try.prog 9 [.agg [DI n, d], e] (DB true) := by
  have hsch := schedule23 (scheduled48_err (n := n) (lkD_lks (L.take 12)) (take_le hl) hE)
  refine deepCall_K 5 Try.func9 rfl (Nat.le_of_ble_eq_true rfl) fun M W0 => ?_
  refine KC.seq ?_
  refine KC.region ?_
  refine KT.step rfl rfl (K.box rfl) ?_
  refine KT.step rfl rfl (K.assign rfl) ?_
  refine KT.nil ?_
  refine thenK_n ?_
  refine KC.seq ?_
  refine KC.region ?_
  refine KT.step rfl rfl (K.loadOA ([DI n, d]) rfl rfl (by decide) Try.agg24 Try.size24 rfl) ?_
  refine KT.step rfl rfl (K.call1 rfl plainTry_19 (of19 hd hl)) ?_
  refine KT.step rfl rfl (K.call1 rfl plainTry_18 (repeat18_err (lkD_lks (L.take 12)) (take_le hl) hE)) ?_
  refine KT.step rfl rfl (K.move rfl) ?_
  refine KT.step rfl rfl (K.extract rfl rfl) ?_
  refine KT.step rfl rfl (K.extract rfl rfl) ?_
  refine KT.step rfl rfl (K.assign rfl) ?_
  refine KT.step rfl rfl (K.assign rfl) ?_
  refine KT.nil ?_
  refine thenK_n ?_
  refine KC.seq ?_
  refine KC.region ?_
  refine KT.step rfl rfl (K.loadOA ([DI n, d]) rfl rfl (by decide) Try.agg24 Try.size24 rfl) ?_
  refine KT.step rfl rfl (K.call1 rfl plainTry_19 (of19 hd hl)) ?_
  refine KT.step rfl rfl (K.call1 rfl plainTry_23 (hsch)) ?_
  refine KT.step rfl rfl (K.move rfl) ?_
  refine KT.step rfl rfl (K.extract rfl rfl) ?_
  refine KT.step rfl rfl (K.extract rfl rfl) ?_
  refine KT.step rfl rfl (K.assign rfl) ?_
  refine KT.step rfl rfl (K.assign rfl) ?_
  refine KT.nil ?_
  refine thenK_n ?_
  refine KC.seq ?_
  refine KC.seq ?_
  refine KC.region ?_
  refine KT.step rfl rfl (K.move rfl) ?_
  refine KT.step rfl rfl (K.neq rfl rfl) ?_
  refine KT.step rfl rfl (K.move rfl) ?_
  refine KT.bcase (fun hb30 => ?_) (fun hb30 => ?_)
  · skip
    replace hb30 := of_decide_eq_true hb30
    refine KT.skip rfl rfl ?_
    refine KT.skip rfl rfl ?_
    refine KT.step rfl rfl (K.pick rfl (fun _ => rfl) (fun h => by cases h)) ?_
    refine KT.step rfl rfl (K.move rfl) ?_
    refine KT.skip rfl rfl ?_
    refine KT.skip rfl rfl ?_
    refine KT.skip rfl rfl ?_
    refine KT.step rfl rfl (K.pick rfl (fun _ => rfl) (fun h => by cases h)) ?_
    refine KT.step rfl rfl (K.move rfl) ?_
    refine KT.skip rfl rfl ?_
    refine KT.skip rfl rfl ?_
    refine KT.skip rfl rfl ?_
    refine KT.skip rfl rfl ?_
    refine KT.skip rfl rfl ?_
    refine KT.step rfl rfl (K.pick rfl (fun _ => rfl) (fun h => by cases h)) ?_
    refine KT.nil ?_
    refine thenK_n ?_
    refine KC.cond rfl (fun hc45 => ?_) (fun hc45 => ?_)
    · skip
      refine KC.seq ?_
      refine KC.region ?_
      refine KT.step rfl rfl (K.move rfl) ?_
      refine KT.step rfl rfl (K.neq rfl rfl) ?_
      refine KT.step rfl rfl (K.move rfl) ?_
      refine KT.bcase (fun hb48 => ?_) (fun hb48 => ?_)
      · skip
        replace hb48 := of_decide_eq_true hb48
        refine KT.skip rfl rfl ?_
        refine KT.skip rfl rfl ?_
        refine KT.step rfl rfl (K.pick rfl (fun _ => rfl) (fun h => by cases h)) ?_
        refine KT.step rfl rfl (K.move rfl) ?_
        refine KT.step rfl rfl (K.call0 plainTry_22 (awake22)) ?_
        refine KT.step rfl rfl (K.pick rfl (fun _ => rfl) (fun h => by cases h)) ?_
        refine KT.step rfl rfl (K.assign rfl) ?_
        refine KT.nil ?_
        refine thenK_n ?_
        refine KC.ret ?_
        refine thenK_r ?_
        exact ⟨.inl rfl, _, rfl, rfl⟩
      · skip
        exact absurd hE (of_decide_eq_false hb48)
    · cases hc45
  · skip
    exact absurd hE (of_decide_eq_false hb30)
set_option maxRecDepth 10000 in
theorem any_loop {d e : DV} {N : Nat} {L : List LN} {q : Nat → Nat} {ch : List Int} (hd : Lks d (L.map LN.z)) (hr : RepG N L q) (h12 : (L.map LN.z).take 12 = L.map LN.z) (he : Ints e ch) (hel : ch.length ≤ 9223372036854775807) (hf : first0 L N q = none) : DeepCall Try.prog 9 [.agg [DI (N : Nat), d], e] (DB true) := by
  have hl : (L.map LN.z).length ≤ 9223372036854775807 := by have := hr.len; rw [List.length_map]; omega
  have hof := of19 (n := (N : Int)) hd hl
  unfold ofD at hof
  rw [h12] at hof
  have hsch := schedule23 (scheduled48_no (lkD_lks (L.map LN.z)) hr hf)
  refine deepCall_K 5 Try.func9 rfl (Nat.le_of_ble_eq_true rfl) fun M W0 => ?_
  refine KC.seq ?_
  refine KC.region ?_
  refine KT.step rfl rfl (K.box rfl) ?_
  refine KT.step rfl rfl (K.assign rfl) ?_
  refine KT.nil ?_
  refine thenK_n ?_
  refine KC.seq ?_
  refine KC.region ?_
  refine KT.step rfl rfl (K.loadOA ([DI (N : Nat), d]) rfl rfl (by decide) Try.agg24 Try.size24 rfl) ?_
  refine KT.step rfl rfl (K.call1 rfl plainTry_19 (hof)) ?_
  refine KT.step rfl rfl (K.call1 rfl plainTry_18 (repeat18_ok (lkD_lks (L.map LN.z)) hr)) ?_
  refine KT.step rfl rfl (K.move rfl) ?_
  refine KT.step rfl rfl (K.extract rfl rfl) ?_
  refine KT.step rfl rfl (K.extract rfl rfl) ?_
  refine KT.step rfl rfl (K.assign rfl) ?_
  refine KT.step rfl rfl (K.assign rfl) ?_
  refine KT.nil ?_
  refine thenK_n ?_
  refine KC.seq ?_
  refine KC.region ?_
  refine KT.step rfl rfl (K.loadOA ([DI (N : Nat), d]) rfl rfl (by decide) Try.agg24 Try.size24 rfl) ?_
  refine KT.step rfl rfl (K.call1 rfl plainTry_19 (hof)) ?_
  refine KT.step rfl rfl (K.call1 rfl plainTry_23 (hsch)) ?_
  refine KT.step rfl rfl (K.move rfl) ?_
  refine KT.step rfl rfl (K.extract rfl rfl) ?_
  refine KT.step rfl rfl (K.extract rfl rfl) ?_
  refine KT.step rfl rfl (K.assign rfl) ?_
  refine KT.step rfl rfl (K.assign rfl) ?_
  refine KT.nil ?_
  refine thenK_n ?_
  refine KC.seq ?_
  refine KC.seq ?_
  refine KC.region ?_
  refine KT.step rfl rfl (K.move rfl) ?_
  refine KT.step rfl rfl (K.neq rfl rfl) ?_
  refine KT.step rfl rfl (K.move rfl) ?_
  refine KT.bcase (fun hb30 => ?_) (fun hb30 => ?_)
  · skip
    exact absurd rfl (of_decide_eq_true hb30)
  · skip
    replace hb30 := of_decide_eq_false hb30
    refine KT.step rfl rfl (K.move rfl) ?_
    refine KT.step rfl rfl (K.neq rfl rfl) ?_
    refine KT.step rfl rfl (K.pick rfl (fun h => by cases h) (fun _ => rfl)) ?_
    refine KT.step rfl rfl (K.move rfl) ?_
    refine KT.bcase (fun hb34 => ?_) (fun hb34 => ?_)
    · skip
      replace hb34 := of_decide_eq_true hb34
      refine KT.skip rfl rfl ?_
      refine KT.skip rfl rfl ?_
      refine KT.skip rfl rfl ?_
      refine KT.step rfl rfl (K.pick rfl (fun _ => rfl) (fun h => by cases h)) ?_
      refine KT.step rfl rfl (K.move rfl) ?_
      refine KT.skip rfl rfl ?_
      refine KT.skip rfl rfl ?_
      refine KT.skip rfl rfl ?_
      refine KT.skip rfl rfl ?_
      refine KT.skip rfl rfl ?_
      refine KT.step rfl rfl (K.pick rfl (fun _ => rfl) (fun h => by cases h)) ?_
      refine KT.nil ?_
      refine thenK_n ?_
      refine KC.cond rfl (fun hc45 => ?_) (fun hc45 => ?_)
      · skip
        refine KC.seq ?_
        refine KC.region ?_
        refine KT.step rfl rfl (K.move rfl) ?_
        refine KT.step rfl rfl (K.neq rfl rfl) ?_
        refine KT.step rfl rfl (K.move rfl) ?_
        refine KT.bcase (fun hb48 => ?_) (fun hb48 => ?_)
        · skip
          exact absurd rfl (of_decide_eq_true hb48)
        · skip
          replace hb48 := of_decide_eq_false hb48
          refine KT.step rfl rfl (K.move rfl) ?_
          refine KT.step rfl rfl (K.eql rfl rfl) ?_
          refine KT.step rfl rfl (K.pick rfl (fun h => by cases h) (fun _ => rfl)) ?_
          refine KT.step rfl rfl (K.move rfl) ?_
          refine KT.bcase (fun hb52 => ?_) (fun hb52 => ?_)
          · skip
            replace hb52 := of_decide_eq_true hb52
            refine KT.step rfl rfl (K.call0 plainTry_22 (awake22)) ?_
            refine KT.step rfl rfl (K.pick rfl (fun _ => rfl) (fun h => by cases h)) ?_
            refine KT.step rfl rfl (K.assign rfl) ?_
            refine KT.nil ?_
            refine thenK_n ?_
            refine KC.ret ?_
            refine thenK_r ?_
            exact ⟨.inl rfl, _, rfl, rfl⟩
          · skip
            exact absurd rfl (of_decide_eq_false hb52)
      · cases hc45
    · skip
      exact absurd (of_decide_eq_false hb34) (by decide)
set_option maxRecDepth 10000 in
theorem any_main {d e : DV} {N : Nat} {L : List LN} {q : Nat → Nat} {s : List Nat} {ch : List Int} (hd : Lks d (L.map LN.z)) (hr : RepG N L q) (h12 : (L.map LN.z).take 12 = L.map LN.z) (he : Ints e ch) (hel : ch.length ≤ 9223372036854775807) (hf : first0 L N q = some s) : DeepCall Try.prog 9 [.agg [DI (N : Nat), d], e] (DB true) := by
  have hl : (L.map LN.z).length ≤ 9223372036854775807 := by have := hr.len; rw [List.length_map]; omega
  have hof := of19 (n := (N : Int)) hd hl
  unfold ofD at hof
  rw [h12] at hof
  have hsch := schedule23 (scheduled48_ok (lkD_lks (L.map LN.z)) hr hf)
  have hval := rvalid35 (n := (N : Int)) hd hl
  rw [hr.v] at hval
  have h1 := hr.n1
  have h6 := hr.n6
  have hslen : s.length = tot q := greedy_len h6 hf
  have hsum := hr.sum
  have hsI := lsD_ints (zs s)
  have hzl : (zs s).length = s.length := List.length_map ..
  refine deepCall_K 5 Try.func9 rfl (Nat.le_of_ble_eq_true rfl) fun M W0 => ?_
  refine KC.seq ?_
  refine KC.region ?_
  refine KT.step rfl rfl (K.box rfl) ?_
  refine KT.step rfl rfl (K.assign rfl) ?_
  refine KT.nil ?_
  refine thenK_n ?_
  refine KC.seq ?_
  refine KC.region ?_
  refine KT.step rfl rfl (K.loadOA ([DI (N : Nat), d]) rfl rfl (by decide) Try.agg24 Try.size24 rfl) ?_
  refine KT.step rfl rfl (K.call1 rfl plainTry_19 (hof)) ?_
  refine KT.step rfl rfl (K.call1 rfl plainTry_18 (repeat18_ok (lkD_lks (L.map LN.z)) hr)) ?_
  refine KT.step rfl rfl (K.move rfl) ?_
  refine KT.step rfl rfl (K.extract rfl rfl) ?_
  refine KT.step rfl rfl (K.extract rfl rfl) ?_
  refine KT.step rfl rfl (K.assign rfl) ?_
  refine KT.step rfl rfl (K.assign rfl) ?_
  refine KT.nil ?_
  refine thenK_n ?_
  refine KC.seq ?_
  refine KC.region ?_
  refine KT.step rfl rfl (K.loadOA ([DI (N : Nat), d]) rfl rfl (by decide) Try.agg24 Try.size24 rfl) ?_
  refine KT.step rfl rfl (K.call1 rfl plainTry_19 (hof)) ?_
  refine KT.step rfl rfl (K.call1 rfl plainTry_23 (hsch)) ?_
  refine KT.step rfl rfl (K.move rfl) ?_
  refine KT.step rfl rfl (K.extract rfl rfl) ?_
  refine KT.step rfl rfl (K.extract rfl rfl) ?_
  refine KT.step rfl rfl (K.assign rfl) ?_
  refine KT.step rfl rfl (K.assign rfl) ?_
  refine KT.nil ?_
  refine thenK_n ?_
  refine KC.seq ?_
  refine KC.seq ?_
  refine KC.region ?_
  refine KT.step rfl rfl (K.move rfl) ?_
  refine KT.step rfl rfl (K.neq rfl rfl) ?_
  refine KT.step rfl rfl (K.move rfl) ?_
  refine KT.bcase (fun hb30 => ?_) (fun hb30 => ?_)
  · skip
    exact absurd rfl (of_decide_eq_true hb30)
  · skip
    replace hb30 := of_decide_eq_false hb30
    refine KT.step rfl rfl (K.move rfl) ?_
    refine KT.step rfl rfl (K.neq rfl rfl) ?_
    refine KT.step rfl rfl (K.pick rfl (fun h => by cases h) (fun _ => rfl)) ?_
    refine KT.step rfl rfl (K.move rfl) ?_
    refine KT.bcase (fun hb34 => ?_) (fun hb34 => ?_)
    · skip
      exact absurd rfl (of_decide_eq_true hb34)
    · skip
      replace hb34 := of_decide_eq_false hb34
      refine KT.step rfl rfl (K.loadOA ([DI (N : Nat), d]) rfl rfl (by decide) Try.agg24 Try.size24 rfl) ?_
      refine KT.step rfl rfl (K.call1 rfl plainTry_35 (hval)) ?_
      refine KT.step rfl rfl (K.not rfl) ?_
      refine KT.step rfl rfl (K.pick rfl (fun h => by cases h) (fun _ => rfl)) ?_
      refine KT.step rfl rfl (K.move rfl) ?_
      refine KT.bcase (fun hb39 => ?_) (fun hb39 => ?_)
      · skip
        cases hb39
      · skip
        refine KT.step rfl rfl (K.move rfl) ?_
        refine KT.step rfl rfl (K.lenD rfl Try.underlying25) ?_
        refine KT.step rfl rfl (K.fieldAddrO rfl Try.fld24_0 Try.size3) ?_
        refine KT.step rfl rfl (K.loadO rfl rfl (by simp) rfl Try.agg3) ?_
        refine KT.step rfl rfl (K.neq rfl rfl) ?_
        refine KT.step rfl rfl (K.pick rfl (fun h => by cases h) (fun _ => rfl)) ?_
        refine KT.nil ?_
        refine thenK_n ?_
        refine KC.cond rfl (fun hc45 => ?_) (fun hc45 => ?_)
        · skip
          exact absurd rfl (of_decide_eq_true hc45)
        · skip
          replace hc45 := of_decide_eq_false hc45
          refine KC.skip ?_
          refine thenK_n ?_
          refine KC.seq ?_
          refine KC.region ?_
          refine KT.step rfl rfl (K.fieldAddrO rfl Try.fld24_0 Try.size3) ?_
          refine KT.step rfl rfl (K.loadO rfl rfl (by simp) rfl Try.agg3) ?_
          refine KT.step rfl rfl (K.make rfl rfl (Nat.le_refl _) (by omega) Try.underlying25 Try.one3) ?_
          rw [iX_zero]
          refine KT.step rfl rfl (K.assign rfl) ?_
          refine KT.nil ?_
          refine thenK_n ?_
          refine KC.seq ?_
          refine KC.region ?_
          refine KT.step rfl rfl (K.assign rfl) ?_
          refine KT.nil ?_
          refine thenK_n ?_
          refine KC.seq ?_
          refine KC.seq ?_
          refine KC.region ?_
          refine KT.step rfl rfl (K.move rfl) ?_
          refine KT.step rfl rfl (K.len rfl hsI Try.underlying25) ?_
          rw [hzl]
          refine KT.step rfl rfl (K.move rfl) ?_
          refine KT.nil ?_
          refine thenK_n ?_
          refine KC.block ?_
          refine KC.loop (fun p : List VObj × XV × (Nat → Nat) × List Int × Nat => p.1) (fun p => [(1, .d e), (2, .optr 0 0), (5, .d (seqD q N)), (9, .osl 1 0 N 1 N true), (10, p.2.1), (59, .d (DI (s.length : Nat))), (60, .d (DI (p.2.2.2.2 : Nat)))]) (fun p : List VObj × XV × (Nat → Nat) × List Int × Nat => p.2.2.2.2 ≤ s.length ∧ p.1[0]? = some ⟨[.d (DI (N : Nat)), .d d], 0⟩ ∧ p.1[1]? = some ⟨iX N fun k => (p.2.2.1 k : Int), 0⟩ ∧ OwnK 1 p.1 p.2.1 (intX p.2.2.2.1) ∧ (∀ j, idX p.2.1 = some j → 2 ≤ j) ∧ (p.2.2.2.1 = [] → p.2.1 = .d Dnil) ∧ (∀ j, p.2.2.1 j ≤ q j) ∧ runL L N q p.2.2.2.1 (fun _ => 0) = some p.2.2.1 ∧ p.2.2.2.1.length = p.2.2.2.2) (fun p => s.length - p.2.2.2.2) (_, .d Dnil, (fun _ => 0), [], 0) ⟨Nat.zero_le _, rfl, rfl, .nil, fun j hj => (by cases hj), fun _ => rfl, fun j => Nat.zero_le _, rfl, rfl⟩ rfl (by simp [Go.Vm.look, extK, enterK]) ?_
          intro p hp
          obtain ⟨σ0, x, X, own, i⟩ := p
          obtain ⟨hi, y0, y1, hown, hid, hnil, hXq, hrun0, hlen0⟩ := hp
          simp only at hi y0 y1 hown hid hnil hXq hrun0 hlen0 ⊢
          refine KC.seq ?_
          refine KC.region ?_
          refine KT.step rfl rfl (K.lss rfl rfl) ?_
          refine KT.nil ?_
          refine thenK_n ?_
          refine KC.seq ?_
          refine KC.cond rfl (fun hc61 => ?_) (fun hc61 => ?_)
          · skip
            replace hc61 := of_decide_eq_true hc61
            have hil : i < s.length := by omega
            refine KC.skip ?_
            refine thenK_n ?_
            refine KC.seq ?_
            refine KC.block ?_
            refine KC.seq ?_
            refine KC.region ?_
            refine KT.step rfl rfl (K.move rfl) ?_
            refine KT.step rfl rfl (K.assign rfl) ?_
            refine KT.nil ?_
            refine thenK_n ?_
            refine KC.seq ?_
            refine KC.region ?_
            refine KT.step rfl rfl (K.assign rfl) ?_
            refine KT.nil ?_
            refine thenK_n ?_
            refine KC.seq ?_
            refine KC.seq ?_
            refine KC.region ?_
            refine KT.step rfl rfl (K.move rfl) ?_
            refine KT.step rfl rfl (K.move rfl) ?_
            refine KT.step rfl rfl (K.len rfl he Try.underlying25) ?_
            refine KT.step rfl rfl (K.lss rfl rfl) ?_
            refine KT.nil ?_
            refine thenK_n ?_
            refine KC.cond rfl (fun hc66 => ?_) (fun hc66 => ?_)
            · skip
              replace hc66 := of_decide_eq_true hc66
              have hci : i < ch.length := by omega
              obtain ⟨fr0, hfr0⟩ : ∃ fr0 : Nat, fr0 = 0 := ⟨0, rfl⟩
              refine KC.draw Try.mixed ?_
              refine KT.step rfl rfl (K.move rfl) ?_
              refine KT.step rfl rfl (K.move rfl) ?_
              refine KT.idxI rfl rfl rfl (by assumption) rfl (by omega) Try.underlying25 Try.size3 fun cs69 => ?_
              refine KT.step rfl rfl (K.load rfl Try.agg3) ?_
              refine KT.step rfl rfl (K.conv rfl Try.underlying3 Try.underlying59 (wrapUI _)) ?_
              refine KT.step rfl rfl (K.fieldAddrO rfl Try.fld24_0 Try.size3) ?_
              refine KT.step rfl rfl (K.loadO rfl y0 (by simp) rfl Try.agg3) ?_
              refine KT.step rfl rfl (K.conv rfl Try.underlying3 Try.underlying59 (show IntKind.u64.wrap (N : Int) = (N : Int) from by rw [wrapU, Nat.mod_eq_of_lt (by omega)])) ?_
              refine KT.step rfl rfl (K.rem rfl rfl (by omega) (tmodN (ch[i] % 2 ^ 64).toNat N)) ?_
              refine KT.step rfl rfl (K.conv rfl Try.underlying59 Try.underlying3 (wrapN (a := (ch[i] % 2 ^ 64).toNat % N) (by have := Nat.mod_lt (ch[i] % 2 ^ 64).toNat (show N > 0 by omega); omega))) ?_
              have hfrN := Nat.mod_lt (ch[i] % 2 ^ 64).toNat (show N > 0 by omega)
              generalize (ch[i] % 2 ^ 64).toNat % N = fr at hfrN ⊢
              refine KT.step rfl rfl (K.assign rfl) ?_
              refine KT.nil ?_
              refine ⟨by kernel_rfl, ?_⟩
              refine thenK_n ?_
              refine KC.seq ?_
              refine KC.region ?_
              refine KT.step rfl rfl (K.assign rfl) ?_
              refine KT.nil ?_
              refine thenK_n ?_
              refine KC.seq ?_
              refine KC.seq ?_
              refine KC.region ?_
              refine KT.step rfl rfl (K.fieldAddrO rfl Try.fld24_0 Try.size3) ?_
              refine KT.step rfl rfl (K.loadO rfl y0 (by simp) rfl Try.agg3) ?_
              refine KT.step rfl rfl (K.move rfl) ?_
              refine KT.nil ?_
              refine thenK_n ?_
              refine KC.block ?_
              refine KC.loop (fun p : List VObj × XV × (Nat → Nat) × List Int × Bool × Nat => p.1) (fun p => [(1, .d e), (2, .optr 0 0), (5, .d (seqD q N)), (9, .osl 1 0 N 1 N true), (10, p.2.1), (12, .d (DI (fr : Nat))), (13, .d (DB p.2.2.2.2.1)), (59, .d (DI (s.length : Nat))), (60, .d (DI (i : Nat))), (78, .d (DI (N : Nat))), (79, .d (DI (p.2.2.2.2.2 : Nat)))]) (fun p : List VObj × XV × (Nat → Nat) × List Int × Bool × Nat => p.2.2.2.2.2 ≤ N ∧ p.1[0]? = some ⟨[.d (DI (N : Nat)), .d d], 0⟩ ∧ p.1[1]? = some ⟨iX N fun k => (p.2.2.1 k : Int), 0⟩ ∧ OwnK 1 p.1 p.2.1 (intX p.2.2.2.1) ∧ (∀ j, idX p.2.1 = some j → 2 ≤ j) ∧ (p.2.2.2.1 = [] → p.2.1 = .d Dnil) ∧ (∀ j, p.2.2.1 j ≤ q j) ∧
                ((p.2.2.2.2.1 = false ∧ p.2.2.1 = X ∧ p.2.2.2.1 = own ∧ ∀ j, j < p.2.2.2.2.2 → fireB L q X ((fr + j) % N) = false) ∨ (p.2.2.2.2.1 = true ∧ runL L N q p.2.2.2.1 (fun _ => 0) = some p.2.2.1 ∧ p.2.2.2.1.length = own.length + 1))) (fun p => N - p.2.2.2.2.2) (σ0, x, X, own, false, 0) ⟨Nat.zero_le _, y0, y1, hown, hid, hnil, hXq, .inl ⟨rfl, rfl, rfl, fun j hj => by simp only at hj; omega⟩⟩ rfl (by first | (simp [Go.Vm.look, extK, enterK]; done) | (subst hfr0; simp [Go.Vm.look, extK, enterK]; done)) ?_
              clear y0 y1 hown hid hnil hXq
              revert hrun0 hlen0
              generalize X = X0
              generalize own = own0
              intro hrun0 hlen0 p hp
              obtain ⟨σ0, x, X, own, fnd, k⟩ := p
              obtain ⟨hk, y0, y1, hown, hid, hnil, hXq, hst⟩ := hp
              simp only at hk y0 y1 hown hid hnil hXq hst ⊢
              refine KC.seq ?_
              refine KC.region ?_
              refine KT.step rfl rfl (K.lss rfl rfl) ?_
              refine KT.nil ?_
              refine thenK_n ?_
              refine KC.seq ?_
              refine KC.cond rfl (fun hc80 => ?_) (fun hc80 => ?_)
              · skip
                replace hc80 := of_decide_eq_true hc80
                have hkN : k < N := by omega
                have haN : (fr + k) % N < N := Nat.mod_lt _ (by omega)
                refine KC.skip ?_
                refine thenK_n ?_
                refine KC.seq ?_
                refine KC.block ?_
                refine KC.seq ?_
                refine KC.region ?_
                refine KT.step rfl rfl (K.move rfl) ?_
                refine KT.step rfl rfl (K.assign rfl) ?_
                refine KT.nil ?_
                refine thenK_n ?_
                refine KC.seq ?_
                refine KC.region ?_
                refine KT.step rfl rfl (K.move rfl) ?_
                refine KT.step rfl rfl (K.move rfl) ?_
                refine KT.step rfl rfl (K.add rfl rfl (addN (by omega))) ?_
                refine KT.step rfl rfl (K.fieldAddrO rfl Try.fld24_0 Try.size3) ?_
                refine KT.step rfl rfl (K.loadO rfl y0 (by simp) rfl Try.agg3) ?_
                refine KT.step rfl rfl (K.rem rfl rfl (by omega) (tmodN (fr + k) N)) ?_
                refine KT.step rfl rfl (K.assign rfl) ?_
                refine KT.nil ?_
                refine thenK_n ?_
                refine KC.seq ?_
                refine KC.draw Try.mixed ?_
                refine KT.step rfl rfl (K.move rfl) ?_
                refine KT.step rfl rfl (K.not rfl) ?_
                refine KT.step rfl rfl (K.move rfl) ?_
                refine KT.bcase (fun hb90 => ?_) (fun hb90 => ?_)
                · skip
                  refine KT.step rfl rfl (K.move rfl) ?_
                  refine KT.step rfl rfl (K.move rfl) ?_
                  refine KT.step rfl rfl (K.idxO rfl rfl haN Try.underlying25 Try.size3) ?_
                  refine KT.step rfl rfl (K.loadO rfl y1 (by simp) (iX_get _ haN) Try.agg3) ?_
                  refine KT.step rfl rfl (K.move rfl) ?_
                  refine KT.step rfl rfl (K.move rfl) ?_
                  refine KT.step rfl rfl (K.idxDK rfl rfl haN Try.underlying25 Try.size3) ?_
                  refine KT.step rfl rfl (K.loadSeq haN rfl Try.agg3) ?_
                  refine KT.step rfl rfl (K.lss rfl rfl) ?_
                  refine KT.step rfl rfl (K.pick rfl (fun _ => rfl) (fun h => by cases h)) ?_
                  refine KT.step rfl rfl (K.move rfl) ?_
                  refine KT.bcase (fun hb101 => ?_) (fun hb101 => ?_)
                  · skip
                    replace hb101 := of_decide_eq_true hb101
                    refine KT.step rfl rfl (K.loadOA ([DI (N : Nat), d]) rfl y0 (by decide) Try.agg24 Try.size24 rfl) ?_
                    refine KT.step rfl rfl (K.move rfl) ?_
                    refine KT.step rfl rfl (K.move rfl) ?_
                    have hcan := can37 (n := (N : Int)) (a := (fr + k) % N) hd hr.len hr.ok (fun j => Nat.le_trans (hXq j) (hr.le j)) y1
                    refine KT.step rfl rfl (K.callG rfl plainTry_37 hcan) ?_
                    generalize hτ : (⟨[.d (DI (N : Nat)), .d d], 0⟩ :: canObj X ((fr + k) % N) L : List VObj) = τ
                    have z0 : (σ0 ++ τ)[0]? = _ := get_left y0
                    have z1 : (σ0 ++ τ)[1]? = _ := get_left y1
                    have hown1 : OwnK 1 (σ0 ++ τ) x (intX own) := hown.keep fun j hj => List.getElem?_append_left (hown.lt hj)
                    generalize σ0 ++ τ = σ1 at z0 z1 hown1
                    have g1 := (List.getElem?_eq_some_iff.1 z1).1
                    refine KT.step rfl rfl (K.pick rfl (fun _ => rfl) (fun h => by cases h)) ?_
                    refine KT.nil ?_
                    refine ⟨by kernel_rfl, ?_⟩
                    refine thenK_n ?_
                    refine KC.cond rfl (fun hc106 => ?_) (fun hc106 => ?_)
                    · skip
                      refine KC.seq ?_
                      refine KC.region ?_
                      refine KT.step rfl rfl (K.move rfl) ?_
                      refine KT.step rfl rfl (K.move rfl) ?_
                      refine KT.step rfl rfl (K.idxO rfl rfl haN Try.underlying25 Try.size3) ?_
                      refine KT.step rfl rfl (K.loadO rfl z1 (by simp) (iX_get _ haN) Try.agg3) ?_
                      refine KT.step rfl rfl (K.add rfl rfl (oneN (by have := hXq ((fr + k) % N); have := hr.le ((fr + k) % N); omega))) ?_
                      refine KT.step rfl rfl (K.idxO rfl rfl haN Try.underlying25 Try.size3) ?_
                      refine KT.storeG rfl rfl rfl rfl z1 (by rw [iX_len]; omega) rfl rfl Try.size3 fun σ2 l2 u2 v2 => ?_
                      refine KT.nil ?_
                      refine thenK_n ?_
                      refine KC.seq ?_
                      refine KC.region ?_
                      refine KT.step rfl rfl (K.move rfl) ?_
                      refine KT.step rfl rfl (K.move rfl) ?_
                      refine KT.step rfl rfl (K.build1' (v := .d (DI ((fr + k) % N : Nat))) rfl rfl Try.underlying25 Try.one3) ?_
                      have hol : own.length ≤ 61 := by
                        rcases hst with ⟨_, _, h3, _⟩ | h
                        · rw [h3]; omega
                        · rw [h.1] at hb90; cases hb90
                      refine KT.appK (k := 1) rfl rfl rfl rfl ((hown1.keep fun j hj => v2 j (by have := hid j hj; omega)).pushed _) (List.getElem?_concat_length ..) rfl rfl (by simp [intX]; omega) Try.underlying25 Try.size3 (of_decide_eq_true (by kernel_rfl)) (by kernel_rfl) (by omega) fun σ3 x3 ho3 k3 w3 => ?_
                      have t0 := (k3 0 (fun h => by have := hid 0 h; omega) (by simp only [List.length_append, List.length_cons, List.length_nil]; omega)).trans ((List.getElem?_append_left (by omega)).trans ((v2 0 (by omega)).trans z0))
                      have t1 := (k3 1 (fun h => by have := hid 1 h; omega) (by simp only [List.length_append, List.length_cons, List.length_nil]; omega)).trans ((List.getElem?_append_left (by omega)).trans u2)
                      rw [iX_bump X haN] at t1
                      refine KT.step rfl rfl (K.assign rfl) ?_
                      refine KT.nil ?_
                      refine thenK_n ?_
                      refine KC.region ?_
                      refine KT.step rfl rfl (K.assign rfl) ?_
                      refine KT.nil ?_
                      refine blockK_n ?_
                      refine thenK_n ?_
                      refine KC.region ?_
                      refine KT.step rfl rfl (K.add rfl rfl (wrap_id (by omega))) ?_
                      refine KT.step rfl rfl (K.move rfl) ?_
                      refine KT.nil ?_
                      refine thenK_n ?_
                      have hfire : fireB L q X ((fr + k) % N) = true := fireB_iff.2 ⟨by omega, hc106⟩
                      obtain ⟨j3, w3, w4⟩ := w3
                      simp only [List.length_append, List.length_cons, List.length_nil] at w4
                      have hrun : runL L N q own (fun _ => 0) = some X ∧ own.length = own0.length := by
                        rcases hst with ⟨h1, h2, h3, h4⟩ | hst
                        · subst h2 h3; exact ⟨hrun0, rfl⟩
                        · rw [hst.1] at hb90; cases hb90
                      refine ⟨(σ3, x3, bump X ((fr + k) % N), own ++ [(((fr + k) % N : Nat) : Int)], true, k + 1), ⟨by simp only; omega, t0, t1, by simpa [intX] using ho3, fun j hj => ?_, fun h => by simp at h, fun j => ?_, .inr ⟨rfl, ?_, ?_⟩⟩, by simp only; omega, rfl, by simp [Go.Vm.look, extK]⟩
                      · simp only at hj
                        rw [w3] at hj; cases hj; omega
                      · simp only [bump]
                        split
                        · rename_i ej; subst ej; omega
                        · exact hXq j
                      · exact runL_snoc hrun.1 ⟨by omega, by omega, by rw [Int.toNat_natCast]; exact hfire⟩
                      · simp only [List.length_append, List.length_cons, List.length_nil]; omega
                    · skip
                      refine KC.skip ?_
                      refine blockK_n ?_
                      refine thenK_n ?_
                      refine KC.region ?_
                      refine KT.step rfl rfl (K.add rfl rfl (wrap_id (by omega))) ?_
                      refine KT.step rfl rfl (K.move rfl) ?_
                      refine KT.nil ?_
                      refine thenK_n ?_
                      have hno : fireB L q X ((fr + k) % N) = false := by unfold fireB; rw [hc106, Bool.and_false]
                      refine ⟨(σ1, x, X, own, fnd, k + 1), ⟨by simp only; omega, z0, z1, hown1, hid, hnil, hXq, ?_⟩, by simp only; omega, rfl, by simp [Go.Vm.look, extK]⟩
                      rcases hst with ⟨h1, h2, h3, h4⟩ | hst
                      · refine .inl ⟨h1, h2, h3, fun j hj => ?_⟩
                        simp only at hj
                        by_cases ej : j = k
                        · subst ej; rw [← h2]; exact hno
                        · exact h4 j (by omega)
                      · rw [hst.1] at hb90; cases hb90
                  · skip
                    replace hb101 := of_decide_eq_false hb101
                    refine KT.skip rfl rfl ?_
                    refine KT.skip rfl rfl ?_
                    refine KT.skip rfl rfl ?_
                    refine KT.skip rfl rfl ?_
                    refine KT.step rfl rfl (K.pick rfl (fun h => by cases h) (fun _ => rfl)) ?_
                    refine KT.nil ?_
                    refine ⟨by kernel_rfl, ?_⟩
                    refine thenK_n ?_
                    refine KC.cond rfl (fun hc106 => ?_) (fun hc106 => ?_)
                    · cases hc106
                    · skip
                      refine KC.skip ?_
                      refine blockK_n ?_
                      refine thenK_n ?_
                      refine KC.region ?_
                      refine KT.step rfl rfl (K.add rfl rfl (wrap_id (by omega))) ?_
                      refine KT.step rfl rfl (K.move rfl) ?_
                      refine KT.nil ?_
                      refine thenK_n ?_
                      have hno : fireB L q X ((fr + k) % N) = false := by unfold fireB; rw [decide_eq_false (by omega)]; rfl
                      refine ⟨(σ0, x, X, own, fnd, k + 1), ⟨by simp only; omega, y0, y1, hown, hid, hnil, hXq, ?_⟩, by simp only; omega, rfl, by simp [Go.Vm.look, extK]⟩
                      rcases hst with ⟨h1, h2, h3, h4⟩ | hst
                      · refine .inl ⟨h1, h2, h3, fun j hj => ?_⟩
                        simp only at hj
                        by_cases ej : j = k
                        · subst ej; rw [← h2]; exact hno
                        · exact h4 j (by omega)
                      · rw [hst.1] at hb90; cases hb90
                · skip
                  refine KT.skip rfl rfl ?_
                  refine KT.skip rfl rfl ?_
                  refine KT.skip rfl rfl ?_
                  refine KT.skip rfl rfl ?_
                  refine KT.skip rfl rfl ?_
                  refine KT.skip rfl rfl ?_
                  refine KT.skip rfl rfl ?_
                  refine KT.skip rfl rfl ?_
                  refine KT.skip rfl rfl ?_
                  refine KT.step rfl rfl (K.pick rfl (fun h => by cases h) (fun _ => rfl)) ?_
                  refine KT.step rfl rfl (K.move rfl) ?_
                  refine KT.skip rfl rfl ?_
                  refine KT.skip rfl rfl ?_
                  refine KT.skip rfl rfl ?_
                  refine KT.skip rfl rfl ?_
                  refine KT.step rfl rfl (K.pick rfl (fun h => by cases h) (fun _ => rfl)) ?_
                  refine KT.nil ?_
                  refine ⟨by kernel_rfl, ?_⟩
                  refine thenK_n ?_
                  refine KC.cond rfl (fun hc106 => ?_) (fun hc106 => ?_)
                  · cases hc106
                  · skip
                    refine KC.skip ?_
                    refine blockK_n ?_
                    refine thenK_n ?_
                    refine KC.region ?_
                    refine KT.step rfl rfl (K.add rfl rfl (wrap_id (by omega))) ?_
                    refine KT.step rfl rfl (K.move rfl) ?_
                    refine KT.nil ?_
                    refine thenK_n ?_
                    refine ⟨(σ0, x, X, own, fnd, k + 1), ⟨by simp only; omega, y0, y1, hown, hid, hnil, hXq, ?_⟩, by simp only; omega, rfl, by simp [Go.Vm.look, extK]⟩
                    rcases hst with hst | hst
                    · rw [hst.1] at hb90; cases hb90
                    · exact .inr hst
              · skip
                replace hc80 := of_decide_eq_false hc80
                refine KC.exit ?_
                refine thenK_x ?_
                refine thenK_x ?_
                refine blockK_e ?_
                refine thenK_n ?_
                refine KC.seq ?_
                refine KC.region ?_
                refine KT.step rfl rfl (K.move rfl) ?_
                refine KT.step rfl rfl (K.not rfl) ?_
                refine KT.nil ?_
                refine thenK_n ?_
                refine KC.cond rfl (fun hc119 => ?_) (fun hc119 => ?_)
                · skip
                  refine KC.seq ?_
                  refine KC.region ?_
                  refine KT.step rfl rfl (K.assign rfl) ?_
                  refine KT.nil ?_
                  refine thenK_n ?_
                  refine KC.ret ?_
                  refine blockK_r ?_
                  refine thenK_r ?_
                  refine thenK_r ?_
                  refine blockK_r ?_
                  refine thenK_r ?_
                  exfalso
                  have hfn : fnd = false := by simpa using hc119
                  rcases hst with ⟨_, h2, h3, h4⟩ | hst
                  · subst h2
                    have ht := (runL_tot h6 hrun0).1
                    have hlt : tot X < tot q := by rw [ht, hlen0]; have : tot (fun _ => 0) = 0 := rfl; omega
                    have hex : ∃ j, j < 6 ∧ X j < q j := by
                      refine Classical.byContradiction fun hno => ?_
                      have := tot_le (X := q) (Y := X) fun j hj => Nat.le_of_not_lt fun h => hno ⟨j, hj, h⟩
                      omega
                    obtain ⟨a, ha, hfa⟩ := any_can hex _ _ _ hf (fun _ => Nat.zero_le _)
                    obtain ⟨k', hk', ek⟩ := turn_hits hfrN ha
                    have := h4 k' (by omega)
                    rw [ek, hfa] at this; cases this
                  · rw [hst.1] at hfn; cases hfn
                · skip
                  refine KC.skip ?_
                  refine blockK_n ?_
                  refine thenK_n ?_
                  refine KC.region ?_
                  refine KT.step rfl rfl (K.add rfl rfl (wrap_id (by omega))) ?_
                  refine KT.step rfl rfl (K.move rfl) ?_
                  refine KT.nil ?_
                  refine thenK_n ?_
                  have hfn : fnd = true := by simpa using hc119
                  rcases hst with hst | ⟨_, h2, h3⟩
                  · rw [hst.1] at hfn; cases hfn
                  refine ⟨(σ0, x, X, own, i + 1), ⟨by simp only; omega, y0, y1, hown, hid, hnil, hXq, h2, by simp only; omega⟩, by simp only; omega, rfl, by simp [Go.Vm.look, extK]⟩
            · skip
              replace hc66 := of_decide_eq_false hc66
              obtain ⟨fr, hfr0⟩ : ∃ fr : Nat, fr = 0 := ⟨0, rfl⟩
              have hfrN : fr < N := by omega
              refine KC.skip ?_
              refine thenK_n ?_
              refine KC.seq ?_
              refine KC.region ?_
              refine KT.step rfl rfl (K.assign rfl) ?_
              refine KT.nil ?_
              refine thenK_n ?_
              refine KC.seq ?_
              refine KC.seq ?_
              refine KC.region ?_
              refine KT.step rfl rfl (K.fieldAddrO rfl Try.fld24_0 Try.size3) ?_
              refine KT.step rfl rfl (K.loadO rfl y0 (by simp) rfl Try.agg3) ?_
              refine KT.step rfl rfl (K.move rfl) ?_
              refine KT.nil ?_
              refine thenK_n ?_
              refine KC.block ?_
              refine KC.loop (fun p : List VObj × XV × (Nat → Nat) × List Int × Bool × Nat => p.1) (fun p => [(1, .d e), (2, .optr 0 0), (5, .d (seqD q N)), (9, .osl 1 0 N 1 N true), (10, p.2.1), (12, .d (DI (fr : Nat))), (13, .d (DB p.2.2.2.2.1)), (59, .d (DI (s.length : Nat))), (60, .d (DI (i : Nat))), (78, .d (DI (N : Nat))), (79, .d (DI (p.2.2.2.2.2 : Nat)))]) (fun p : List VObj × XV × (Nat → Nat) × List Int × Bool × Nat => p.2.2.2.2.2 ≤ N ∧ p.1[0]? = some ⟨[.d (DI (N : Nat)), .d d], 0⟩ ∧ p.1[1]? = some ⟨iX N fun k => (p.2.2.1 k : Int), 0⟩ ∧ OwnK 1 p.1 p.2.1 (intX p.2.2.2.1) ∧ (∀ j, idX p.2.1 = some j → 2 ≤ j) ∧ (p.2.2.2.1 = [] → p.2.1 = .d Dnil) ∧ (∀ j, p.2.2.1 j ≤ q j) ∧
                ((p.2.2.2.2.1 = false ∧ p.2.2.1 = X ∧ p.2.2.2.1 = own ∧ ∀ j, j < p.2.2.2.2.2 → fireB L q X ((fr + j) % N) = false) ∨ (p.2.2.2.2.1 = true ∧ runL L N q p.2.2.2.1 (fun _ => 0) = some p.2.2.1 ∧ p.2.2.2.1.length = own.length + 1))) (fun p => N - p.2.2.2.2.2) (σ0, x, X, own, false, 0) ⟨Nat.zero_le _, y0, y1, hown, hid, hnil, hXq, .inl ⟨rfl, rfl, rfl, fun j hj => by simp only at hj; omega⟩⟩ rfl (by first | (simp [Go.Vm.look, extK, enterK]; done) | (subst hfr0; simp [Go.Vm.look, extK, enterK]; done)) ?_
              clear y0 y1 hown hid hnil hXq
              revert hrun0 hlen0
              generalize X = X0
              generalize own = own0
              intro hrun0 hlen0 p hp
              obtain ⟨σ0, x, X, own, fnd, k⟩ := p
              obtain ⟨hk, y0, y1, hown, hid, hnil, hXq, hst⟩ := hp
              simp only at hk y0 y1 hown hid hnil hXq hst ⊢
              refine KC.seq ?_
              refine KC.region ?_
              refine KT.step rfl rfl (K.lss rfl rfl) ?_
              refine KT.nil ?_
              refine thenK_n ?_
              refine KC.seq ?_
              refine KC.cond rfl (fun hc80 => ?_) (fun hc80 => ?_)
              · skip
                replace hc80 := of_decide_eq_true hc80
                have hkN : k < N := by omega
                have haN : (fr + k) % N < N := Nat.mod_lt _ (by omega)
                refine KC.skip ?_
                refine thenK_n ?_
                refine KC.seq ?_
                refine KC.block ?_
                refine KC.seq ?_
                refine KC.region ?_
                refine KT.step rfl rfl (K.move rfl) ?_
                refine KT.step rfl rfl (K.assign rfl) ?_
                refine KT.nil ?_
                refine thenK_n ?_
                refine KC.seq ?_
                refine KC.region ?_
                refine KT.step rfl rfl (K.move rfl) ?_
                refine KT.step rfl rfl (K.move rfl) ?_
                refine KT.step rfl rfl (K.add rfl rfl (addN (by omega))) ?_
                refine KT.step rfl rfl (K.fieldAddrO rfl Try.fld24_0 Try.size3) ?_
                refine KT.step rfl rfl (K.loadO rfl y0 (by simp) rfl Try.agg3) ?_
                refine KT.step rfl rfl (K.rem rfl rfl (by omega) (tmodN (fr + k) N)) ?_
                refine KT.step rfl rfl (K.assign rfl) ?_
                refine KT.nil ?_
                refine thenK_n ?_
                refine KC.seq ?_
                refine KC.draw Try.mixed ?_
                refine KT.step rfl rfl (K.move rfl) ?_
                refine KT.step rfl rfl (K.not rfl) ?_
                refine KT.step rfl rfl (K.move rfl) ?_
                refine KT.bcase (fun hb90 => ?_) (fun hb90 => ?_)
                · skip
                  refine KT.step rfl rfl (K.move rfl) ?_
                  refine KT.step rfl rfl (K.move rfl) ?_
                  refine KT.step rfl rfl (K.idxO rfl rfl haN Try.underlying25 Try.size3) ?_
                  refine KT.step rfl rfl (K.loadO rfl y1 (by simp) (iX_get _ haN) Try.agg3) ?_
                  refine KT.step rfl rfl (K.move rfl) ?_
                  refine KT.step rfl rfl (K.move rfl) ?_
                  refine KT.step rfl rfl (K.idxDK rfl rfl haN Try.underlying25 Try.size3) ?_
                  refine KT.step rfl rfl (K.loadSeq haN rfl Try.agg3) ?_
                  refine KT.step rfl rfl (K.lss rfl rfl) ?_
                  refine KT.step rfl rfl (K.pick rfl (fun _ => rfl) (fun h => by cases h)) ?_
                  refine KT.step rfl rfl (K.move rfl) ?_
                  refine KT.bcase (fun hb101 => ?_) (fun hb101 => ?_)
                  · skip
                    replace hb101 := of_decide_eq_true hb101
                    refine KT.step rfl rfl (K.loadOA ([DI (N : Nat), d]) rfl y0 (by decide) Try.agg24 Try.size24 rfl) ?_
                    refine KT.step rfl rfl (K.move rfl) ?_
                    refine KT.step rfl rfl (K.move rfl) ?_
                    have hcan := can37 (n := (N : Int)) (a := (fr + k) % N) hd hr.len hr.ok (fun j => Nat.le_trans (hXq j) (hr.le j)) y1
                    refine KT.step rfl rfl (K.callG rfl plainTry_37 hcan) ?_
                    generalize hτ : (⟨[.d (DI (N : Nat)), .d d], 0⟩ :: canObj X ((fr + k) % N) L : List VObj) = τ
                    have z0 : (σ0 ++ τ)[0]? = _ := get_left y0
                    have z1 : (σ0 ++ τ)[1]? = _ := get_left y1
                    have hown1 : OwnK 1 (σ0 ++ τ) x (intX own) := hown.keep fun j hj => List.getElem?_append_left (hown.lt hj)
                    generalize σ0 ++ τ = σ1 at z0 z1 hown1
                    have g1 := (List.getElem?_eq_some_iff.1 z1).1
                    refine KT.step rfl rfl (K.pick rfl (fun _ => rfl) (fun h => by cases h)) ?_
                    refine KT.nil ?_
                    refine ⟨by kernel_rfl, ?_⟩
                    refine thenK_n ?_
                    refine KC.cond rfl (fun hc106 => ?_) (fun hc106 => ?_)
                    · skip
                      refine KC.seq ?_
                      refine KC.region ?_
                      refine KT.step rfl rfl (K.move rfl) ?_
                      refine KT.step rfl rfl (K.move rfl) ?_
                      refine KT.step rfl rfl (K.idxO rfl rfl haN Try.underlying25 Try.size3) ?_
                      refine KT.step rfl rfl (K.loadO rfl z1 (by simp) (iX_get _ haN) Try.agg3) ?_
                      refine KT.step rfl rfl (K.add rfl rfl (oneN (by have := hXq ((fr + k) % N); have := hr.le ((fr + k) % N); omega))) ?_
                      refine KT.step rfl rfl (K.idxO rfl rfl haN Try.underlying25 Try.size3) ?_
                      refine KT.storeG rfl rfl rfl rfl z1 (by rw [iX_len]; omega) rfl rfl Try.size3 fun σ2 l2 u2 v2 => ?_
                      refine KT.nil ?_
                      refine thenK_n ?_
                      refine KC.seq ?_
                      refine KC.region ?_
                      refine KT.step rfl rfl (K.move rfl) ?_
                      refine KT.step rfl rfl (K.move rfl) ?_
                      refine KT.step rfl rfl (K.build1' (v := .d (DI ((fr + k) % N : Nat))) rfl rfl Try.underlying25 Try.one3) ?_
                      have hol : own.length ≤ 61 := by
                        rcases hst with ⟨_, _, h3, _⟩ | h
                        · rw [h3]; omega
                        · rw [h.1] at hb90; cases hb90
                      refine KT.appK (k := 1) rfl rfl rfl rfl ((hown1.keep fun j hj => v2 j (by have := hid j hj; omega)).pushed _) (List.getElem?_concat_length ..) rfl rfl (by simp [intX]; omega) Try.underlying25 Try.size3 (of_decide_eq_true (by kernel_rfl)) (by kernel_rfl) (by omega) fun σ3 x3 ho3 k3 w3 => ?_
                      have t0 := (k3 0 (fun h => by have := hid 0 h; omega) (by simp only [List.length_append, List.length_cons, List.length_nil]; omega)).trans ((List.getElem?_append_left (by omega)).trans ((v2 0 (by omega)).trans z0))
                      have t1 := (k3 1 (fun h => by have := hid 1 h; omega) (by simp only [List.length_append, List.length_cons, List.length_nil]; omega)).trans ((List.getElem?_append_left (by omega)).trans u2)
                      rw [iX_bump X haN] at t1
                      refine KT.step rfl rfl (K.assign rfl) ?_
                      refine KT.nil ?_
                      refine thenK_n ?_
                      refine KC.region ?_
                      refine KT.step rfl rfl (K.assign rfl) ?_
                      refine KT.nil ?_
                      refine blockK_n ?_
                      refine thenK_n ?_
                      refine KC.region ?_
                      refine KT.step rfl rfl (K.add rfl rfl (wrap_id (by omega))) ?_
                      refine KT.step rfl rfl (K.move rfl) ?_
                      refine KT.nil ?_
                      refine thenK_n ?_
                      have hfire : fireB L q X ((fr + k) % N) = true := fireB_iff.2 ⟨by omega, hc106⟩
                      obtain ⟨j3, w3, w4⟩ := w3
                      simp only [List.length_append, List.length_cons, List.length_nil] at w4
                      have hrun : runL L N q own (fun _ => 0) = some X ∧ own.length = own0.length := by
                        rcases hst with ⟨h1, h2, h3, h4⟩ | hst
                        · subst h2 h3; exact ⟨hrun0, rfl⟩
                        · rw [hst.1] at hb90; cases hb90
                      refine ⟨(σ3, x3, bump X ((fr + k) % N), own ++ [(((fr + k) % N : Nat) : Int)], true, k + 1), ⟨by simp only; omega, t0, t1, by simpa [intX] using ho3, fun j hj => ?_, fun h => by simp at h, fun j => ?_, .inr ⟨rfl, ?_, ?_⟩⟩, by simp only; omega, rfl, by simp [Go.Vm.look, extK]⟩
                      · simp only at hj
                        rw [w3] at hj; cases hj; omega
                      · simp only [bump]
                        split
                        · rename_i ej; subst ej; omega
                        · exact hXq j
                      · exact runL_snoc hrun.1 ⟨by omega, by omega, by rw [Int.toNat_natCast]; exact hfire⟩
                      · simp only [List.length_append, List.length_cons, List.length_nil]; omega
                    · skip
                      refine KC.skip ?_
                      refine blockK_n ?_
                      refine thenK_n ?_
                      refine KC.region ?_
                      refine KT.step rfl rfl (K.add rfl rfl (wrap_id (by omega))) ?_
                      refine KT.step rfl rfl (K.move rfl) ?_
                      refine KT.nil ?_
                      refine thenK_n ?_
                      have hno : fireB L q X ((fr + k) % N) = false := by unfold fireB; rw [hc106, Bool.and_false]
                      refine ⟨(σ1, x, X, own, fnd, k + 1), ⟨by simp only; omega, z0, z1, hown1, hid, hnil, hXq, ?_⟩, by simp only; omega, rfl, by simp [Go.Vm.look, extK]⟩
                      rcases hst with ⟨h1, h2, h3, h4⟩ | hst
                      · refine .inl ⟨h1, h2, h3, fun j hj => ?_⟩
                        simp only at hj
                        by_cases ej : j = k
                        · subst ej; rw [← h2]; exact hno
                        · exact h4 j (by omega)
                      · rw [hst.1] at hb90; cases hb90
                  · skip
                    replace hb101 := of_decide_eq_false hb101
                    refine KT.skip rfl rfl ?_
                    refine KT.skip rfl rfl ?_
                    refine KT.skip rfl rfl ?_
                    refine KT.skip rfl rfl ?_
                    refine KT.step rfl rfl (K.pick rfl (fun h => by cases h) (fun _ => rfl)) ?_
                    refine KT.nil ?_
                    refine ⟨by kernel_rfl, ?_⟩
                    refine thenK_n ?_
                    refine KC.cond rfl (fun hc106 => ?_) (fun hc106 => ?_)
                    · cases hc106
                    · skip
                      refine KC.skip ?_
                      refine blockK_n ?_
                      refine thenK_n ?_
                      refine KC.region ?_
                      refine KT.step rfl rfl (K.add rfl rfl (wrap_id (by omega))) ?_
                      refine KT.step rfl rfl (K.move rfl) ?_
                      refine KT.nil ?_
                      refine thenK_n ?_
                      have hno : fireB L q X ((fr + k) % N) = false := by unfold fireB; rw [decide_eq_false (by omega)]; rfl
                      refine ⟨(σ0, x, X, own, fnd, k + 1), ⟨by simp only; omega, y0, y1, hown, hid, hnil, hXq, ?_⟩, by simp only; omega, rfl, by simp [Go.Vm.look, extK]⟩
                      rcases hst with ⟨h1, h2, h3, h4⟩ | hst
                      · refine .inl ⟨h1, h2, h3, fun j hj => ?_⟩
                        simp only at hj
                        by_cases ej : j = k
                        · subst ej; rw [← h2]; exact hno
                        · exact h4 j (by omega)
                      · rw [hst.1] at hb90; cases hb90
                · skip
                  refine KT.skip rfl rfl ?_
                  refine KT.skip rfl rfl ?_
                  refine KT.skip rfl rfl ?_
                  refine KT.skip rfl rfl ?_
                  refine KT.skip rfl rfl ?_
                  refine KT.skip rfl rfl ?_
                  refine KT.skip rfl rfl ?_
                  refine KT.skip rfl rfl ?_
                  refine KT.skip rfl rfl ?_
                  refine KT.step rfl rfl (K.pick rfl (fun h => by cases h) (fun _ => rfl)) ?_
                  refine KT.step rfl rfl (K.move rfl) ?_
                  refine KT.skip rfl rfl ?_
                  refine KT.skip rfl rfl ?_
                  refine KT.skip rfl rfl ?_
                  refine KT.skip rfl rfl ?_
                  refine KT.step rfl rfl (K.pick rfl (fun h => by cases h) (fun _ => rfl)) ?_
                  refine KT.nil ?_
                  refine ⟨by kernel_rfl, ?_⟩
                  refine thenK_n ?_
                  refine KC.cond rfl (fun hc106 => ?_) (fun hc106 => ?_)
                  · cases hc106
                  · skip
                    refine KC.skip ?_
                    refine blockK_n ?_
                    refine thenK_n ?_
                    refine KC.region ?_
                    refine KT.step rfl rfl (K.add rfl rfl (wrap_id (by omega))) ?_
                    refine KT.step rfl rfl (K.move rfl) ?_
                    refine KT.nil ?_
                    refine thenK_n ?_
                    refine ⟨(σ0, x, X, own, fnd, k + 1), ⟨by simp only; omega, y0, y1, hown, hid, hnil, hXq, ?_⟩, by simp only; omega, rfl, by simp [Go.Vm.look, extK]⟩
                    rcases hst with hst | hst
                    · rw [hst.1] at hb90; cases hb90
                    · exact .inr hst
              · skip
                replace hc80 := of_decide_eq_false hc80
                refine KC.exit ?_
                refine thenK_x ?_
                refine thenK_x ?_
                refine blockK_e ?_
                refine thenK_n ?_
                refine KC.seq ?_
                refine KC.region ?_
                refine KT.step rfl rfl (K.move rfl) ?_
                refine KT.step rfl rfl (K.not rfl) ?_
                refine KT.nil ?_
                refine thenK_n ?_
                refine KC.cond rfl (fun hc119 => ?_) (fun hc119 => ?_)
                · skip
                  refine KC.seq ?_
                  refine KC.region ?_
                  refine KT.step rfl rfl (K.assign rfl) ?_
                  refine KT.nil ?_
                  refine thenK_n ?_
                  refine KC.ret ?_
                  refine blockK_r ?_
                  refine thenK_r ?_
                  refine thenK_r ?_
                  refine blockK_r ?_
                  refine thenK_r ?_
                  exfalso
                  have hfn : fnd = false := by simpa using hc119
                  rcases hst with ⟨_, h2, h3, h4⟩ | hst
                  · subst h2
                    have ht := (runL_tot h6 hrun0).1
                    have hlt : tot X < tot q := by rw [ht, hlen0]; have : tot (fun _ => 0) = 0 := rfl; omega
                    have hex : ∃ j, j < 6 ∧ X j < q j := by
                      refine Classical.byContradiction fun hno => ?_
                      have := tot_le (X := q) (Y := X) fun j hj => Nat.le_of_not_lt fun h => hno ⟨j, hj, h⟩
                      omega
                    obtain ⟨a, ha, hfa⟩ := any_can hex _ _ _ hf (fun _ => Nat.zero_le _)
                    obtain ⟨k', hk', ek⟩ := turn_hits hfrN ha
                    have := h4 k' (by omega)
                    rw [ek, hfa] at this; cases this
                  · rw [hst.1] at hfn; cases hfn
                · skip
                  refine KC.skip ?_
                  refine blockK_n ?_
                  refine thenK_n ?_
                  refine KC.region ?_
                  refine KT.step rfl rfl (K.add rfl rfl (wrap_id (by omega))) ?_
                  refine KT.step rfl rfl (K.move rfl) ?_
                  refine KT.nil ?_
                  refine thenK_n ?_
                  have hfn : fnd = true := by simpa using hc119
                  rcases hst with hst | ⟨_, h2, h3⟩
                  · rw [hst.1] at hfn; cases hfn
                  refine ⟨(σ0, x, X, own, i + 1), ⟨by simp only; omega, y0, y1, hown, hid, hnil, hXq, h2, by simp only; omega⟩, by simp only; omega, rfl, by simp [Go.Vm.look, extK]⟩
          · skip
            replace hc61 := of_decide_eq_false hc61
            obtain ⟨p, hp⟩ : ∃ p, pkL L N q own (fun _ => 0) (ldAt L fun _ => 0) = some (X, p) := by
              have h := pkL_run (L := L) (N := N) (q := q) own (fun _ => 0) (ldAt L fun _ => 0)
              rw [hrun0] at h
              cases hpp : pkL L N q own (fun _ => 0) (ldAt L fun _ => 0) with
              | none => rw [hpp] at h; cases h
              | some r =>
                obtain ⟨X', p⟩ := r
                rw [hpp] at h
                simp only [Option.map_some, Option.some.injEq] at h
                subst h
                exact ⟨p, rfl⟩
            have heq : eqB X q = true := eqB_iff.2 (tot_eq (fun j _ => hXq j) (by
              have ht := (runL_tot h6 hrun0).1
              have : tot (fun _ => 0) = 0 := rfl
              omega))
            have hpk := peaksOf25_ok (lkD_lks (L.map LN.z)) hr (lsD_ints own) (by omega) (by rw [hp]; exact heq)
            refine KC.exit ?_
            refine thenK_x ?_
            refine thenK_x ?_
            refine blockK_e ?_
            refine thenK_n ?_
            refine KC.seq ?_
            refine KC.region ?_
            refine KT.step rfl rfl (K.loadOA ([DI (N : Nat), d]) rfl y0 (by decide) Try.agg24 Try.size24 rfl) ?_
            refine KT.step rfl rfl (K.call1 rfl plainTry_19 (hof)) ?_
            refine KT.step rfl rfl (K.move rfl) ?_
            obtain ⟨ids, hids, hfz⟩ := freeze_own (a := .agg [DI (N : Nat), lkD (L.map LN.z)]) hown hnil
            refine KT.step rfl rfl (K.callZ ids 5 rfl plainTry_25 hfz hpk) ?_
            refine KT.step rfl rfl (K.move rfl) ?_
            refine KT.step rfl rfl (K.extract rfl rfl) ?_
            refine KT.step rfl rfl (K.extract rfl rfl) ?_
            refine KT.step rfl rfl (K.assign rfl) ?_
            refine KT.nil ?_
            refine thenK_n ?_
            refine KC.seq ?_
            refine KC.region ?_
            refine KT.step rfl rfl (K.move rfl) ?_
            refine KT.step rfl rfl (K.eql rfl rfl) ?_
            refine KT.step rfl rfl (K.move rfl) ?_
            refine KT.bcase (fun hb130 => ?_) (fun hb130 => ?_)
            · skip
              replace hb130 := of_decide_eq_true hb130
              refine KT.step rfl rfl (K.call0 plainTry_22 (awake22)) ?_
              refine KT.step rfl rfl (K.pick rfl (fun _ => rfl) (fun h => by cases h)) ?_
              refine KT.step rfl rfl (K.assign rfl) ?_
              refine KT.nil ?_
              refine thenK_n ?_
              refine KC.ret ?_
              exact ⟨.inl rfl, _, rfl, rfl⟩
            · skip
              exact absurd rfl (of_decide_eq_false hb130)
end Go.Proofs.Ytnfnjnaheckdbaa
