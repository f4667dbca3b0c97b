import Derived.Test.YtocgjopmlhpjdaaNtZl
import Derived.Test.YtocgjopmlhpjdaaNtSf
/-
  Nets: the reference: Covers; the law NetCovers.
-/
namespace Go.Proofs.Ytocgjopmlhpjdaa
open Go.Vm Go.RowKit Go.Nt Go.Ht
theorem plainTry_27 : plainFn Try.prog 27 = true := by kernel_rfl
theorem cL_ok {pre post : List (List Int)} {c : DV} {start : List Int} (hc : Ints c start) : PairsOk start.length (cL pre post c start) := fun p hp => by
  unfold cL at hp
  cases h : covO pre post start with
  | none => rw [h] at hp; cases hp
  | some ns =>
    rw [h] at hp
    obtain ⟨hv, hre, _, _⟩ := covO_yes h
    obtain ⟨l, e⟩ := cov_len hre
    have hn := cov_nodes hv hre
    have hm := (List.mem_filter.1 (sortP_mem hp)).1
    subst e
    exact covP_ok hc (NetOk.of hv).n0 hn p hm
/-- The greatest markings, rising. -/
def gM (pre post : List (List Int)) (start : List Int) : List (List Int) := match covO pre post start with | none => [] | some ns => sortM (grtL ns)
theorem gM_ok {pre post : List (List Int)} {start : List Int} : (gM pre post start).length ≤ 2000 ∧ ∀ m ∈ gM pre post start, validB pre post start = true ∧ m.length = start.length := by
  unfold gM
  cases h : covO pre post start with
  | none => exact ⟨by simp, fun m hm => by cases hm⟩
  | some ns =>
    obtain ⟨hv, hre, _, _⟩ := covO_yes h
    obtain ⟨_, h2, h3, h4⟩ := cov_grt hv hre
    exact ⟨by simp only; rw [sortM_len h3]; exact h4, fun m hm => ⟨hv, h2 m (sortM_in.1 hm)⟩⟩
theorem cL_snd {pre post : List (List Int)} {c : DV} {start : List Int} : (cL pre post c start).map (·.2) = gM pre post start := by
  unfold cL gM
  cases h : covO pre post start with
  | none => rfl
  | some ns =>
    obtain ⟨hv, hre, _, _⟩ := covO_yes h
    simp only
    have e : ((covP c ns).filter fun p => topB ns p.2).map (·.2) = ns.filter (topB ns) := by
      conv => rhs; rw [← covP_snd c ns]
      rw [List.filter_map]
      rw [covP_snd]; rfl
    rw [sortP_snd, e]
    exact top_sort (NetOk.of hv).n6 (cov_nodes hv hre)
/-- What Covers of the reference returns. -/
def rcvsD (pre post : List (List Int)) (start m : List Int) : DV :=
  if validB pre post start && fitsB m start.length 1073741824 then .tup [DB ((gM pre post start).any fun x => withinB m x), DI (covE pre post start)] else .tup [DB false, DI 2]
theorem rcvsD_bad {pre post : List (List Int)} {start m : List Int} (h : ¬ (validB pre post start = true ∧ fitsB m start.length 1073741824 = true)) : rcvsD pre post start m = .tup [DB false, DI 2] := by
  unfold rcvsD; rw [if_neg (by simpa using h)]
theorem cvs_same (pre post : List (List Int)) (start m : List Int) : rcvsD pre post start m = cvsD pre post start m := by
  unfold rcvsD cvsD
  by_cases h : (validB pre post start && fitsB m start.length 1073741824) = true
  · rw [if_pos h, if_pos h]
    have hv : validB pre post start = true := by revert h; cases validB pre post start <;> simp
    have hf : fitsB m start.length 1073741824 = true := by revert h; cases fitsB m start.length 1073741824 <;> simp
    have hl := fitsB_len hf
    have n6 := (NetOk.of hv).n6
    unfold gM covE covO
    rw [if_pos hv, if_pos hv]
    cases hc : covT pre post start with
    | none => rfl
    | some ns =>
      obtain ⟨_, h2, _, _⟩ := cov_grt hv hc
      simp only
      refine congrArg (fun b => DV.tup [DB b, DI 0]) (Bool.eq_iff_iff.2 ?_)
      rw [List.any_eq_true, List.any_eq_true]
      constructor
      · rintro ⟨x, hx, hw⟩
        have hx2 := sortM_in.1 hx
        exact ⟨x, hx2, by rw [leq6_within (by rw [hl, h2 x hx2]) (by omega)]; exact hw⟩
      · rintro ⟨x, hx, hw⟩
        exact ⟨x, sortM_in.2 hx, by rw [← leq6_within (by rw [hl, h2 x hx]) (by omega)]; exact hw⟩
  · rw [if_neg h, if_neg h]
set_option maxHeartbeats 4000000 in
set_option maxRecDepth 10000 in
theorem rCovers27 {a b c d : DV} {pre post : List (List Int)} {start m : List Int} (h : NetD a b c pre post start) (hd : Ints d m) (hl : m.length ≤ 9223372036854775807) : DeepCall Try.prog 27 [.agg [a, b, c], d] (rcvsD pre post start m) := by
  have hN0 := h
  obtain ⟨ha, hb, hc, l1, l2, l3, r1, r2⟩ := h
  have hM := mat_pairs (cL_ok (pre := pre) (post := post) hc)
  rw [cL_snd] at hM
  obtain ⟨gl, gm⟩ := gM_ok (pre := pre) (post := post) (start := start)
  refine deepCall_K 9 Try.func27 rfl (Nat.le_of_ble_eq_true rfl) fun M W0 => ?_
  refine KC.seq ?_
  refine KC.region ?_
  refine KT.step rfl rfl (K.box rfl) ?_
  refine KT.step rfl rfl (K.assign rfl) ?_
  refine KT.step rfl rfl (K.assign rfl) ?_
  refine KT.nil ?_
  refine thenK_n ?_
  refine KC.seq ?_
  refine KC.seq ?_
  refine KC.region ?_
  refine KT.step rfl rfl (K.loadOA [a, b, c] rfl rfl (by decide) Try.agg25 Try.size25 rfl) ?_
  refine KT.step rfl rfl (K.call1 rfl plainTry_31 (rvalid31 hN0)) ?_
  refine KT.step rfl rfl (K.not rfl) ?_
  refine KT.step rfl rfl (K.move rfl) ?_
  refine KT.bcase (fun hb14 => ?_) (fun hb14 => ?_)
  · skip
    refine KT.skip rfl rfl ?_
    refine KT.skip rfl rfl ?_
    refine KT.skip rfl rfl ?_
    refine KT.skip rfl rfl ?_
    refine KT.step rfl rfl (K.pick rfl (fun _ => rfl) (fun h => by cases h)) ?_
    refine KT.nil ?_
    refine thenK_n ?_
    refine KC.cond rfl (fun hc19 => ?_) (fun hc19 => ?_)
    · skip
      refine KC.seq ?_
      refine KC.region ?_
      refine KT.step rfl rfl (K.assign rfl) ?_
      refine KT.step rfl rfl (K.assign rfl) ?_
      refine KT.nil ?_
      refine thenK_n ?_
      refine KC.ret ?_
      refine thenK_r ?_
      refine ⟨.inl rfl, _, rfl, ?_⟩
      rw [rcvsD_bad (by intro h; have h1 := h.1; rw [h1] at hb14; simp at hb14)]; rfl
    · cases hc19
  · skip
    refine KT.step rfl rfl (K.loadOA [a, b, c] rfl rfl (by decide) Try.agg25 Try.size25 rfl) ?_
    refine KT.step rfl rfl (K.move rfl) ?_
    refine KT.step rfl rfl (K.call2 rfl rfl plainTry_52 (plain52 hN0 hd hl)) ?_
    refine KT.step rfl rfl (K.not rfl) ?_
    refine KT.step rfl rfl (K.pick rfl (fun h => by cases h) (fun _ => rfl)) ?_
    refine KT.nil ?_
    refine thenK_n ?_
    refine KC.cond rfl (fun hc19 => ?_) (fun hc19 => ?_)
    · skip
      refine KC.seq ?_
      refine KC.region ?_
      refine KT.step rfl rfl (K.assign rfl) ?_
      refine KT.step rfl rfl (K.assign rfl) ?_
      refine KT.nil ?_
      refine thenK_n ?_
      refine KC.ret ?_
      refine thenK_r ?_
      refine ⟨.inl rfl, _, rfl, ?_⟩
      rw [rcvsD_bad (by intro h; have h1 := h.2; rw [h1] at hc19; simp at hc19)]; rfl
    · skip
      have hv : validB pre post start = true := by simpa using hb14
      have hf : fitsB m start.length 1073741824 = true := by simpa using hc19
      have hfl : m.length = start.length := fitsB_len hf
      refine KC.skip ?_
      refine thenK_n ?_
      refine KC.seq ?_
      refine KC.region ?_
      refine KT.step rfl rfl (K.loadOA [a, b, c] rfl rfl (by decide) Try.agg25 Try.size25 rfl) ?_
      refine KT.step rfl rfl (K.call1 rfl plainTry_25 (rCover25 hN0)) ?_
      refine KT.step rfl rfl (K.move rfl) ?_
      refine KT.step rfl rfl (K.extract rfl rfl) ?_
      refine KT.step rfl rfl (K.extract rfl rfl) ?_
      refine KT.step rfl rfl (K.assign rfl) ?_
      refine KT.step rfl rfl (K.assign rfl) ?_
      refine KT.nil ?_
      refine thenK_n ?_
      refine KC.seq ?_
      refine KC.region ?_
      refine KT.step rfl rfl (K.assign rfl) ?_
      refine KT.nil ?_
      refine thenK_n ?_
      refine KC.seq ?_
      refine KC.seq ?_
      refine KC.region ?_
      refine KT.step rfl rfl (K.move rfl) ?_
      refine KT.step rfl rfl (K.len rfl hM Try.underlying22) ?_
      refine KT.step rfl rfl (K.move rfl) ?_
      refine KT.nil ?_
      refine thenK_n ?_
      refine KC.block ?_
      refine KC.loop (fun _ : Nat => [fB a b c]) (fun i => [(1, .d d), (7, .d (DI (covE pre post start))), (8, .d (DB (((gM pre post start).take i).any fun x => withinB m x))), (25, .d (slOf ((cL pre post c start).map (·.1)))), (26, .d (DI ((gM pre post start).length : Nat))), (27, .d (DI (i : Nat)))]) (fun i => i ≤ (gM pre post start).length) (fun i => (gM pre post start).length - i) 0 (Nat.zero_le _) rfl (by simp [Go.Vm.look, extK, enterK]) ?_
      intro i hi
      refine KC.seq ?_
      refine KC.region ?_
      refine KT.step rfl rfl (K.lss rfl rfl) ?_
      refine KT.nil ?_
      refine thenK_n ?_
      refine KC.seq ?_
      refine KC.cond rfl (fun hc28 => ?_) (fun hc28 => ?_)
      · skip
        replace hc28 := of_decide_eq_true hc28
        have hil : i < (gM pre post start).length := by omega
        have han : (((gM pre post start).take (i + 1)).any fun x => withinB m x) = ((((gM pre post start).take i).any fun x => withinB m x) || withinB m (gM pre post start)[i]) := by rw [List.take_add_one, List.getElem?_eq_getElem hil, Option.toList_some, List.any_append]; simp
        refine KC.skip ?_
        refine thenK_n ?_
        refine KC.seq ?_
        refine KC.block ?_
        refine KC.seq ?_
        refine KC.region ?_
        refine KT.idx rfl rfl rfl (by assumption) rfl (by omega) Try.underlying22 Try.size23 fun c29 cs29 hq29 => ?_
        refine KT.step rfl rfl (K.load rfl Try.agg23) ?_
        refine KT.step rfl rfl (K.assign rfl) ?_
        refine KT.nil ?_
        refine thenK_n ?_
        refine KC.region ?_
        refine KT.step rfl rfl (K.move rfl) ?_
        refine KT.step rfl rfl (K.move rfl) ?_
        refine KT.bcase (fun hb32 => ?_) (fun hb32 => ?_)
        · skip
          refine KT.skip rfl rfl ?_
          refine KT.skip rfl rfl ?_
          refine KT.skip rfl rfl ?_
          refine KT.step rfl rfl (K.pick rfl (fun _ => rfl) (fun h => by cases h)) ?_
          refine KT.step rfl rfl (K.assign rfl) ?_
          refine KT.nil ?_
          refine blockK_n ?_
          refine thenK_n ?_
          refine KC.region ?_
          refine KT.step rfl rfl (K.add rfl rfl (wrap_id (by omega))) ?_
          refine KT.step rfl rfl (K.move rfl) ?_
          refine KT.nil ?_
          refine thenK_n ?_
          refine ⟨i + 1, by omega, by omega, rfl, ?_⟩
          rw [han, hb32]
          simp [Go.Vm.look, extK]
        · skip
          refine KT.step rfl rfl (K.move rfl) ?_
          refine KT.step rfl rfl (K.move rfl) ?_
          refine KT.step rfl rfl (K.call2 rfl rfl plainTry_46 (within46 hd hq29 (by rw [hfl, (gm _ (List.getElem_mem hil)).2]; exact Nat.le_refl _) hl)) ?_
          refine KT.step rfl rfl (K.pick rfl (fun h => by cases h) (fun _ => rfl)) ?_
          refine KT.step rfl rfl (K.assign rfl) ?_
          refine KT.nil ?_
          refine blockK_n ?_
          refine thenK_n ?_
          refine KC.region ?_
          refine KT.step rfl rfl (K.add rfl rfl (wrap_id (by omega))) ?_
          refine KT.step rfl rfl (K.move rfl) ?_
          refine KT.nil ?_
          refine thenK_n ?_
          refine ⟨i + 1, by omega, by omega, rfl, ?_⟩
          rw [han, hb32]
          simp [Go.Vm.look, extK]
      · skip
        replace hc28 := of_decide_eq_false hc28
        refine KC.exit ?_
        refine thenK_x ?_
        refine thenK_x ?_
        refine blockK_e ?_
        refine thenK_n ?_
        refine KC.seq ?_
        refine KC.region ?_
        refine KT.step rfl rfl (K.move rfl) ?_
        refine KT.step rfl rfl (K.move rfl) ?_
        refine KT.step rfl rfl (K.assign rfl) ?_
        refine KT.step rfl rfl (K.assign rfl) ?_
        refine KT.nil ?_
        refine thenK_n ?_
        refine KC.ret ?_
        obtain rfl : i = (gM pre post start).length := by omega
        refine ⟨.inl rfl, _, rfl, ?_⟩
        unfold rcvsD
        rw [hv, hf, List.take_of_length_le (Nat.le_refl _)]; rfl
end Go.Proofs.Ytocgjopmlhpjdaa

