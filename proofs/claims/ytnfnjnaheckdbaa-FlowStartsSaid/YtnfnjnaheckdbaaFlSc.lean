import Derived.Test.YtnfnjnaheckdbaaFlSb
/-
  The law FlowSchedules.
-/
namespace Go.Proofs.Ytnfnjnaheckdbaa
open Go.Vm Go.Fl
theorem plainTry_4 : plainFn Try.prog 4 = true := by kernel_rfl

theorem pk_long {N : Nat} {L : List LN} {q : Nat → Nat} (hr : RepG N L q) {s : List Int} (h : 60 < s.length) : (pkRes q L.length (pkL L N q s (fun _ => 0) (ldAt L fun _ => 0))).2 = false := by
  have hrun := pkL_run (L := L) (N := N) (q := q) s (fun _ => 0) (ldAt L fun _ => 0)
  cases hp : (pkL L N q s (fun _ => 0) (ldAt L fun _ => 0)) with
  | none => rfl
  | some r =>
    rw [hp] at hrun
    obtain ⟨X, pk⟩ := r
    have ht : tot X = tot (fun _ => 0) + s.length := (runL_tot hr.n6 hrun.symm).1
    show eqB X q = false
    rw [← Bool.not_eq_true]
    intro he
    have e := eqB_iff.1 he
    have h1 := tot_le (X := X) (Y := q) fun i hi => Nat.le_of_eq (e i hi)
    have := hr.sum
    have h0 : tot (fun _ => 0) = 0 := rfl
    omega
set_option maxHeartbeats 2000000 in
set_option maxRecDepth 10000 in
theorem rpeaks_max {e : DV} {s : List Int} {d : DV} {N : Nat} {L : List LN} {q : Nat → Nat} (hd : Lks d (L.map LN.z)) (hr : RepG N L q) (hs : Ints e s) (hsl : s.length = 9223372036854775807) : DeepCall Try.prog 26 [.agg [DI (N : Nat), d], e] (.tup [Dnil, DI 2]) := by
  have h6 := hr.n6
  have h1 := hr.n1
  have hlen := hr.len
  have hpos := hr.rep.pos
  refine deepCall_K 5 Try.func26 rfl (Nat.le_of_ble_eq_true rfl) fun M W0 => ?_
  refine KC.seq ?_
  refine KC.region ?_
  refine KT.step rfl rfl (K.box rfl) ?_
  refine KT.step rfl rfl (K.assign rfl) ?_
  refine KT.step rfl rfl (K.assign rfl) ?_
  refine KT.nil ?_
  refine thenK_n ?_
  refine KC.seq ?_
  refine KC.region ?_
  refine KT.step rfl rfl (K.loadOA [DI (N : Nat), d] rfl rfl (by decide) Try.agg24 Try.size24 rfl) ?_
  refine KT.step rfl rfl (K.call1 rfl plainTry_20 (rrep_ok hd hr)) ?_
  refine KT.step rfl rfl (K.move rfl) ?_
  refine KT.step rfl rfl (K.extract rfl rfl) ?_
  refine KT.step rfl rfl (K.extract rfl rfl) ?_
  refine KT.step rfl rfl (K.assign rfl) ?_
  refine KT.step rfl rfl (K.assign rfl) ?_
  refine KT.nil ?_
  refine thenK_n ?_
  refine KC.seq ?_
  refine KC.seq ?_
  refine KC.region ?_
  refine KT.step rfl rfl (K.move rfl) ?_
  refine KT.step rfl rfl (K.neq rfl rfl) ?_
  refine KT.nil ?_
  refine thenK_n ?_
  refine KC.cond rfl (fun hc22 => ?_) (fun hc22 => ?_)
  · skip
    exact absurd hc22 (by decide)
  · skip
    replace hc22 := of_decide_eq_false hc22
    refine KC.skip ?_
    refine thenK_n ?_
    refine KC.seq ?_
    refine KC.region ?_
    refine KT.step rfl rfl (K.fieldAddrO rfl Try.fld24_0 Try.size3) ?_
    refine KT.step rfl rfl (K.loadO (y := .d (DI (N : Nat))) rfl rfl (by simp) rfl Try.agg3) ?_
    refine KT.step rfl rfl (K.make (m := N) rfl rfl (Nat.le_refl _) (by omega) Try.underlying25 Try.one3) ?_
    rw [iX_zero]
    refine KT.step rfl rfl (K.assign rfl) ?_
    refine KT.nil ?_
    refine thenK_n ?_
    refine KC.seq ?_
    refine KC.region ?_
    refine KT.step rfl rfl (K.fieldAddrO rfl Try.fld24_1 Try.size22) ?_
    refine KT.step rfl rfl (K.loadO (y := .d d) rfl rfl (by simp) rfl Try.agg22) ?_
    refine KT.step rfl rfl (K.lenN rfl hd Try.underlying22) ?_
    refine KT.step rfl rfl (K.make (m := L.length) rfl rfl (Nat.le_refl _) (by omega) Try.underlying25 Try.one3) ?_
    rw [iX_zero]
    refine KT.step rfl rfl (K.assign rfl) ?_
    refine KT.nil ?_
    refine thenK_n ?_
    refine KC.seq ?_
    refine KC.seq ?_
    refine KC.region ?_
    refine KT.step rfl rfl (K.move rfl) ?_
    refine KT.step rfl rfl (K.len rfl hs Try.underlying25) ?_
    rw [hsl]
    refine KT.step rfl rfl (K.add rfl rfl (show IntKind.i64.wrap (((9223372036854775807 : Nat) : Int) + 1) = -9223372036854775808 by decide)) ?_
    refine KT.step rfl rfl (K.move rfl) ?_
    refine KT.nil ?_
    refine thenK_n ?_
    refine KC.block ?_
    refine KC.loop (fun _ : Nat => ([⟨[.d (DI (N : Nat)), .d d], 0⟩, ⟨iX N fun _ => 0, 0⟩, ⟨iX L.length fun _ => 0, 0⟩] : List VObj)) (fun i => [(1, .d e), (2, .optr 0 0), (6, .d (iD N fun k => (q k : Int))), (8, .osl 1 0 N 1 N true), (9, .osl 2 0 L.length 1 L.length true), (33, .d (DI (-9223372036854775808))), (34, .d (DI (0 : Nat)))]) (fun _ => True) (fun i => i) 0 trivial rfl (by simp [Go.Vm.look, extK, enterK]) ?_
    intro i0 _
    refine KC.seq ?_
    refine KC.region ?_
    refine KT.step rfl rfl (K.lss rfl rfl) ?_
    refine KT.nil ?_
    refine thenK_n ?_
    refine KC.seq ?_
    refine KC.cond rfl (fun hc35 => ?_) (fun hc35 => ?_)
    · skip
      exact absurd (of_decide_eq_true hc35) (by omega)
    · skip
      replace hc35 := of_decide_eq_false hc35
      refine KC.exit ?_
      refine thenK_x ?_
      refine thenK_x ?_
      refine blockK_e ?_
      refine thenK_n ?_
      refine KC.seq ?_
      refine KC.seq ?_
      refine KC.region ?_
      refine KT.step rfl rfl (K.move rfl) ?_
      refine KT.step rfl rfl (K.len rfl (iD_ints N _) Try.underlying25) ?_
      rw [show ((List.range N).map fun k => (q k : Int)).length = N by simp]
      refine KT.step rfl rfl (K.move rfl) ?_
      refine KT.nil ?_
      refine thenK_n ?_
      refine KC.block ?_
      refine KC.loop (fun _ : Nat => ([⟨[.d (DI (N : Nat)), .d d], 0⟩, ⟨iX N fun _ => 0, 0⟩, ⟨iX L.length fun _ => 0, 0⟩] : List VObj)) (fun j => [(1, .d e), (2, .optr 0 0), (6, .d (iD N fun k => (q k : Int))), (8, .osl 1 0 N 1 N true), (9, .osl 2 0 L.length 1 L.length true), (98, .d (iD N fun k => (q k : Int))), (99, .d (DI (N : Nat))), (100, .d (DI (j : Nat)))]) (fun j => j = 0) (fun j => j) 0 rfl rfl (by simp [Go.Vm.look, extK]) ?_
      intro j hj
      refine KC.seq ?_
      refine KC.region ?_
      refine KT.step rfl rfl (K.lss rfl rfl) ?_
      refine KT.nil ?_
      refine thenK_n ?_
      refine KC.seq ?_
      refine KC.cond rfl (fun hc101 => ?_) (fun hc101 => ?_)
      · skip
        replace hc101 := of_decide_eq_true hc101
        have hjN : j < N := by omega
        refine KC.skip ?_
        refine thenK_n ?_
        refine KC.seq ?_
        refine KC.block ?_
        refine KC.seq ?_
        refine KC.region ?_
        refine KT.step rfl rfl (K.move rfl) ?_
        refine KT.step rfl rfl (K.idxDK (m := j) rfl rfl hjN Try.underlying25 Try.size3) ?_
        refine KT.step rfl rfl (K.loadSeq hjN rfl Try.agg3) ?_
        refine KT.step rfl rfl (K.assign rfl) ?_
        refine KT.step rfl rfl (K.assign rfl) ?_
        refine KT.nil ?_
        refine thenK_n ?_
        refine KC.seq ?_
        refine KC.region ?_
        refine KT.step rfl rfl (K.move rfl) ?_
        refine KT.step rfl rfl (K.move rfl) ?_
        refine KT.step rfl rfl (K.idxO (m := j) rfl rfl hjN Try.underlying25 Try.size3) ?_
        refine KT.step rfl rfl (K.loadO rfl rfl (by simp) (iX_get _ hjN) Try.agg3) ?_
        refine KT.step rfl rfl (K.move rfl) ?_
        refine KT.step rfl rfl (K.neq rfl rfl) ?_
        refine KT.nil ?_
        refine thenK_n ?_
        refine KC.cond rfl (fun hc110 => ?_) (fun hc110 => ?_)
        · skip
          replace hc110 := of_decide_eq_true hc110
          refine KC.seq ?_
          refine KC.region ?_
          refine KT.step rfl rfl (K.assign rfl) ?_
          refine KT.step rfl rfl (K.assign rfl) ?_
          refine KT.nil ?_
          refine thenK_n ?_
          refine KC.ret ?_
          refine blockK_r ?_
          refine thenK_r ?_
          refine thenK_r ?_
          refine blockK_r ?_
          refine thenK_r ?_
          exact ⟨.inl rfl, _, rfl, rfl⟩
        · skip
          exact absurd (of_decide_eq_false hc110) (fun h => h (show ¬ (((fun _ => 0) j : Int)) = (q j : Int) by have := hpos j hjN; simp only; omega))
      · skip
        exact absurd (of_decide_eq_false hc101) (by omega)

theorem take12_rep {N : Nat} {Ln : List LN} {q : Nat → Nat} (hr : RepG N Ln q) : (Ln.map LN.z).take 12 = Ln.map LN.z := List.take_of_length_le (by rw [List.length_map]; have := hr.len; omega)
theorem scA_take {n : Int} {L : List LZ} : scA n (L.take 12) = scA n L := by
  by_cases h : (repA n L).2 = 0
  · obtain ⟨N, Ln, q, h1, h2, hr⟩ := repG_of h
    subst h2; rw [take12_rep hr]
  · unfold scA
    rw [repA_take, if_neg h, if_neg h]
theorem rschedule_any {d : DV} {n : Int} {L : List LZ} (hd : Lks d L) (hl : L.length ≤ 9223372036854775807) : DeepCall Try.prog 24 [.agg [DI n, d]] (.tup [lsD (scA n L).1, DI (scA n L).2]) := by
  by_cases h : (repA n L).2 = 0
  · obtain ⟨N, Ln, q, h1, h2, hr⟩ := repG_of h
    subst h1 h2
    have e : scA (N : Int) (Ln.map LN.z) = match first0 Ln N q with | some s => (zs s, 0) | none => ([], 8) := by
      unfold scA; rw [if_pos h, toN_z, hr.r]; rfl
    rw [e]
    cases hf : first0 Ln N q with
    | none => exact rschedule_no hd hr hf
    | some s => exact rschedule_ok hd hr hf
  · have e : scA n L = ([], (repA n L).2) := by unfold scA; rw [if_neg h]
    rw [e]
    exact rschedule_err hd hl h
theorem peaks_both {d e : DV} {n : Int} {L : List LZ} {s : List Int} (hd : Lks d L) (hl : L.length ≤ 9223372036854775807) (hs : Ints e s) (hsl : s.length ≤ 9223372036854775807) : ∃ v l x, DeepCall Try.prog 25 [.agg [DI n, lkD (L.take 12)], e] (.tup [v, DI x]) ∧ DeepCall Try.prog 26 [.agg [DI n, d], e] (.tup [v, DI x]) ∧ Ints v l ∧ l.length ≤ 9223372036854775807 := by
  have hlt : (L.take 12).length ≤ 9223372036854775807 := by rw [List.length_take]; omega
  by_cases h : (repA n L).2 = 0
  · obtain ⟨N, L, q, h1, h2, hr⟩ := repG_of h
    subst h1 h2
    rw [take12_rep hr]
    have hd2 := lkD_lks (L.map LN.z)
    have hlen := hr.len
    by_cases hb : (pkRes q L.length (pkL L N q s (fun _ => 0) (ldAt L fun _ => 0))).2 = true
    · have hs2 : s.length < 9223372036854775807 := by
        rcases Nat.lt_or_ge 60 s.length with h6 | h6
        · rw [pk_long hr h6] at hb; cases hb
        · omega
      have k1 := peaksOf25_ok hd2 hr hs hsl hb
      have k2 := rpeaks_ok hd hr hs hs2 hb
      rw [if_pos rfl, if_pos rfl] at k2
      cases hp : (pkL L N q s (fun _ => 0) (ldAt L fun _ => 0)) with
      | none => rw [hp] at hb; cases hb
      | some r =>
        obtain ⟨X, pk⟩ := r
        rw [hp] at k1 k2
        exact ⟨_, _, _, k1, k2, iD_ints L.length pk, by rw [List.length_map, List.length_range]; omega⟩
    · have hb' : (pkRes q L.length (pkL L N q s (fun _ => 0) (ldAt L fun _ => 0))).2 = false := by simpa using hb
      have k1 := peaksOf25_no hd2 hr hs hsl hb'
      have k2 : DeepCall Try.prog 26 [.agg [DI (N : Nat), d], e] (.tup [Dnil, DI 2]) := by
        rcases Nat.lt_or_ge s.length 9223372036854775807 with h6 | h6
        · have := rpeaks_ok hd hr hs h6 hb'
          exact this
        · exact rpeaks_max hd hr hs (by omega)
      exact ⟨_, [], _, k1, k2, .nil, by simp⟩
  · have h' : (repA n (L.take 12)).2 ≠ 0 := by rw [repA_take]; exact h
    have k1 := peaksOf25_err (e := e) (lkD_lks (L.take 12)) hlt h'
    rw [repA_take] at k1
    exact ⟨_, [], _, k1, rpeaks_err hd hl h, .nil, by simp⟩
set_option maxRecDepth 10000 in
theorem schedules {d e : DV} {n : Int} {L : List LZ} {s : List Int} (hd : Lks d L) (hl : L.length ≤ 9223372036854775807) (hs : Ints e s) (hsl : s.length ≤ 9223372036854775807) : DeepCall Try.prog 4 [.agg [DI n, d], e] (DB true) := by
  have hlt : (L.take 12).length ≤ 9223372036854775807 := by rw [List.length_take]; omega
  have hsc := schedule_any (n := n) (lkD_lks (L.take 12)) hlt
  rw [scA_take] at hsc
  have hsc2 := rschedule_any (n := n) hd hl
  obtain ⟨v, l, x, hp1, hp2, hv, hvl⟩ := peaks_both (n := n) hd hl hs hsl
  refine deepCall_K 5 Try.func4 rfl (Nat.le_of_ble_eq_true rfl) fun M W0 => ?_
  refine KC.seq ?_
  refine KC.region ?_
  refine KT.step rfl rfl (K.box rfl) ?_
  refine KT.step rfl rfl (K.assign rfl) ?_
  refine KT.nil ?_
  refine thenK_n ?_
  refine KC.seq ?_
  refine KC.region ?_
  refine KT.step rfl rfl (K.loadOA ([DI n, d]) rfl rfl (by decide) Try.agg24 Try.size24 rfl) ?_
  refine KT.step rfl rfl (K.call1 rfl plainTry_19 (of19 hd hl)) ?_
  refine KT.step rfl rfl (K.call1 rfl plainTry_23 (hsc)) ?_
  refine KT.step rfl rfl (K.move rfl) ?_
  refine KT.step rfl rfl (K.extract rfl rfl) ?_
  refine KT.step rfl rfl (K.extract rfl rfl) ?_
  refine KT.step rfl rfl (K.assign rfl) ?_
  refine KT.step rfl rfl (K.assign rfl) ?_
  refine KT.nil ?_
  refine thenK_n ?_
  refine KC.seq ?_
  refine KC.region ?_
  refine KT.step rfl rfl (K.loadOA ([DI n, d]) rfl rfl (by decide) Try.agg24 Try.size24 rfl) ?_
  refine KT.step rfl rfl (K.call1 rfl plainTry_24 (hsc2)) ?_
  refine KT.step rfl rfl (K.move rfl) ?_
  refine KT.step rfl rfl (K.extract rfl rfl) ?_
  refine KT.step rfl rfl (K.extract rfl rfl) ?_
  refine KT.step rfl rfl (K.assign rfl) ?_
  refine KT.step rfl rfl (K.assign rfl) ?_
  refine KT.nil ?_
  refine thenK_n ?_
  refine KC.seq ?_
  refine KC.region ?_
  refine KT.step rfl rfl (K.loadOA ([DI n, d]) rfl rfl (by decide) Try.agg24 Try.size24 rfl) ?_
  refine KT.step rfl rfl (K.call1 rfl plainTry_19 (of19 hd hl)) ?_
  refine KT.step rfl rfl (K.move rfl) ?_
  refine KT.step rfl rfl (K.call2 rfl rfl plainTry_25 (hp1)) ?_
  refine KT.step rfl rfl (K.move rfl) ?_
  refine KT.step rfl rfl (K.extract rfl rfl) ?_
  refine KT.step rfl rfl (K.extract rfl rfl) ?_
  refine KT.step rfl rfl (K.assign rfl) ?_
  refine KT.step rfl rfl (K.assign rfl) ?_
  refine KT.nil ?_
  refine thenK_n ?_
  refine KC.seq ?_
  refine KC.region ?_
  refine KT.step rfl rfl (K.loadOA ([DI n, d]) rfl rfl (by decide) Try.agg24 Try.size24 rfl) ?_
  refine KT.step rfl rfl (K.move rfl) ?_
  refine KT.step rfl rfl (K.call2 rfl rfl plainTry_26 (hp2)) ?_
  refine KT.step rfl rfl (K.move rfl) ?_
  refine KT.step rfl rfl (K.extract rfl rfl) ?_
  refine KT.step rfl rfl (K.extract rfl rfl) ?_
  refine KT.step rfl rfl (K.assign rfl) ?_
  refine KT.step rfl rfl (K.assign rfl) ?_
  refine KT.nil ?_
  refine thenK_n ?_
  refine KC.seq ?_
  refine KC.region ?_
  refine KT.step rfl rfl (K.move rfl) ?_
  refine KT.step rfl rfl (K.move rfl) ?_
  refine KT.step rfl rfl (K.call2 rfl rfl plainTry_21 (equal21 (lsD_ints _) (lsD_ints _) (scA_len _ _))) ?_
  refine KT.step rfl rfl (K.move rfl) ?_
  refine KT.bcase (fun hb40 => ?_) (fun hb40 => ?_)
  · skip
    refine KT.step rfl rfl (K.move rfl) ?_
    refine KT.step rfl rfl (K.move rfl) ?_
    refine KT.step rfl rfl (K.eql rfl rfl) ?_
    refine KT.step rfl rfl (K.pick rfl (fun _ => rfl) (fun h => by cases h)) ?_
    refine KT.step rfl rfl (K.move rfl) ?_
    refine KT.bcase (fun hb45 => ?_) (fun hb45 => ?_)
    · skip
      replace hb45 := of_decide_eq_true hb45
      refine KT.step rfl rfl (K.move rfl) ?_
      refine KT.step rfl rfl (K.move rfl) ?_
      refine KT.step rfl rfl (K.call2 rfl rfl plainTry_21 (equal21 hv hv hvl)) ?_
      refine KT.step rfl rfl (K.pick rfl (fun _ => rfl) (fun h => by cases h)) ?_
      refine KT.step rfl rfl (K.move rfl) ?_
      refine KT.bcase (fun hb50 => ?_) (fun hb50 => ?_)
      · skip
        refine KT.step rfl rfl (K.move rfl) ?_
        refine KT.step rfl rfl (K.move rfl) ?_
        refine KT.step rfl rfl (K.eql rfl rfl) ?_
        refine KT.step rfl rfl (K.pick rfl (fun _ => rfl) (fun h => by cases h)) ?_
        refine KT.step rfl rfl (K.move rfl) ?_
        refine KT.bcase (fun hb55 => ?_) (fun hb55 => ?_)
        · skip
          replace hb55 := of_decide_eq_true hb55
          refine KT.step rfl rfl (K.call0 plainTry_22 (awake22)) ?_
          refine KT.step rfl rfl (K.pick rfl (fun _ => rfl) (fun h => by cases h)) ?_
          refine KT.step rfl rfl (K.assign rfl) ?_
          refine KT.nil ?_
          refine thenK_n ?_
          refine KC.ret ?_
          exact ⟨.inl rfl, _, rfl, rfl⟩
        · skip
          exact absurd rfl (of_decide_eq_false hb55)
      · skip
        exact absurd rfl (of_decide_eq_false hb50)
    · skip
      exact absurd rfl (of_decide_eq_false hb45)
  · skip
    exact absurd rfl (of_decide_eq_false hb40)
end Go.Proofs.Ytnfnjnaheckdbaa

