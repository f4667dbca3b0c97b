/-
  The law FlowSlower: if an actor takes longer, no firing begins earlier.
-/
import Derived.Test.YtnfnjnaheckdbaaFlTh
namespace Go.Proofs.Ytnfnjnaheckdbaa
open Go.Vm Go.Fl
theorem plainTry_15 : plainFn Try.prog 15 = true := by kernel_rfl
set_option maxRecDepth 10000 in
theorem slower_err {d td : DV} {n pe ac : Int} {L : List LZ} {tm : List Int} (hd : Lks d L) (hl : L.length ≤ 9223372036854775807) (htd : Ints td tm) (htl : tm.length ≤ 9223372036854775807) (hE : (stA n (L.take 12) tm pe).2 ≠ 0) : DeepCall Try.prog 15 [.agg [DI n, d], td, DI pe, DI ac] (DB true) := by
  have hlt : (L.take 12).length ≤ 9223372036854775807 := by rw [List.length_take]; omega
  refine deepCall_K 5 Try.func15 rfl (Nat.le_of_ble_eq_true rfl) fun M W0 => ?_
  refine KC.seq ?_
  refine KC.region ?_
  refine KT.step rfl rfl (K.box rfl) ?_
  refine KT.step rfl rfl (K.assign rfl) ?_
  refine KT.nil ?_
  refine thenK_n ?_
  refine KC.seq ?_
  refine KC.region ?_
  refine KT.step rfl rfl (K.loadOA ([DI n, d]) rfl rfl (by decide) Try.agg24 Try.size24 rfl) ?_
  refine KT.step rfl rfl (K.call1 rfl plainTry_19 (of19 hd hl)) ?_
  refine KT.step rfl rfl (K.move rfl) ?_
  refine KT.step rfl rfl (K.move rfl) ?_
  refine KT.step rfl rfl (K.call3 rfl rfl rfl plainTry_32 (startsOf32 (lkD_lks _) hlt htd htl)) ?_
  refine KT.step rfl rfl (K.move rfl) ?_
  refine KT.step rfl rfl (K.extract rfl rfl) ?_
  refine KT.step rfl rfl (K.extract rfl rfl) ?_
  refine KT.step rfl rfl (K.assign rfl) ?_
  refine KT.step rfl rfl (K.assign rfl) ?_
  refine KT.nil ?_
  refine thenK_n ?_
  refine KC.seq ?_
  refine KC.seq ?_
  refine KC.region ?_
  refine KT.step rfl rfl (K.move rfl) ?_
  refine KT.step rfl rfl (K.neq rfl rfl) ?_
  refine KT.step rfl rfl (K.move rfl) ?_
  refine KT.bcase (fun hb24 => ?_) (fun hb24 => ?_)
  · skip
    replace hb24 := of_decide_eq_true hb24
    refine KT.skip rfl rfl ?_
    refine KT.skip rfl rfl ?_
    refine KT.skip rfl rfl ?_
    refine KT.step rfl rfl (K.pick rfl (fun _ => rfl) (fun h => by cases h)) ?_
    refine KT.nil ?_
    refine thenK_n ?_
    refine KC.cond rfl (fun hc28 => ?_) (fun hc28 => ?_)
    · skip
      refine KC.seq ?_
      refine KC.region ?_
      refine KT.step rfl rfl (K.move rfl) ?_
      refine KT.step rfl rfl (K.neq rfl rfl) ?_
      refine KT.step rfl rfl (K.move rfl) ?_
      refine KT.bcase (fun hb31 => ?_) (fun hb31 => ?_)
      · skip
        replace hb31 := of_decide_eq_true hb31
        refine KT.step rfl rfl (K.call0 plainTry_22 (awake22)) ?_
        refine KT.step rfl rfl (K.pick rfl (fun _ => rfl) (fun h => by cases h)) ?_
        refine KT.step rfl rfl (K.assign rfl) ?_
        refine KT.nil ?_
        refine thenK_n ?_
        refine KC.ret ?_
        refine thenK_r ?_
        exact ⟨.inl rfl, _, rfl, rfl⟩
      · skip
        exact absurd hE (of_decide_eq_false hb31)
    · cases hc28
  · skip
    exact absurd hE (of_decide_eq_false hb24)

theorem set_get {tm : List Int} {k : Nat} {v : Int} (hk : k < tm.length) (hv : tm[k] ≤ v) : ∀ j, tm.getD j 0 ≤ (tm.set k v).getD j 0 := fun j => by
  rw [List.getD_eq_getElem?_getD, List.getD_eq_getElem?_getD, List.getElem?_set]
  by_cases e : k = j
  · subst e; simp [hk, hv]
  · rw [if_neg e]; omega
theorem intX_set {tm : List Int} {k : Nat} {v : Int} : (intX tm).set (0 + k) (.d (DI v)) = intX (tm.set k v) := by
  rw [Nat.zero_add]
  simp only [intX, List.map_set]
set_option maxRecDepth 10000 in
theorem slower_main {d td : DV} {N : Nat} {pe ac : Int} {L : List LN} {q : Nat → Nat} {s : List Nat} {tm : List Int} (hd : Lks d (L.map LN.z)) (hr : RepG N L q) (h12 : (L.map LN.z).take 12 = L.map LN.z) (htd : Ints td tm) (hf : first0 L N q = some s) (hsc : scA (N : Int) (L.map LN.z) = (zs s, 0)) (htm : tmB tm (N : Int) pe = true) (h4 : tot q * pe.toNat ≤ 400)
    (hE : (stA (N : Int) (L.map LN.z) tm pe).2 = 0) (hR : stR (N : Int) (L.map LN.z) tm pe = stD N (runS L tm (seqP pe.toNat s))) : DeepCall Try.prog 15 [.agg [DI (N : Nat), d], td, DI pe, DI ac] (DB true) := by
  have hl : (L.map LN.z).length ≤ 9223372036854775807 := by have := hr.len; rw [List.length_map]; omega
  have hof := of19 (n := (N : Int)) hd hl
  unfold ofD at hof
  rw [h12] at hof
  obtain ⟨htN, hta, hp1, hp20⟩ := tmB_iff.1 htm
  have htN2 : tm.length = N := by omega
  have htl : tm.length ≤ 9223372036854775807 := by have := hr.n6; omega
  have hst1 := startsOf32 (n := (N : Int)) (pe := pe) (lkD_lks (L.map LN.z)) hl htd htl
  rw [hR, hE] at hst1
  have h1 := hr.n1
  have h6 := hr.n6
  have htb := okTm_all hta
  refine deepCall_K 5 Try.func15 rfl (Nat.le_of_ble_eq_true rfl) fun M W0 => ?_
  refine KC.seq ?_
  refine KC.region ?_
  refine KT.step rfl rfl (K.box rfl) ?_
  refine KT.step rfl rfl (K.assign rfl) ?_
  refine KT.nil ?_
  refine thenK_n ?_
  refine KC.seq ?_
  refine KC.region ?_
  refine KT.step rfl rfl (K.loadOA ([DI (N : Nat), d]) rfl rfl (by decide) Try.agg24 Try.size24 rfl) ?_
  refine KT.step rfl rfl (K.call1 rfl plainTry_19 (hof)) ?_
  refine KT.step rfl rfl (K.move rfl) ?_
  refine KT.step rfl rfl (K.move rfl) ?_
  refine KT.step rfl rfl (K.call3 rfl rfl rfl plainTry_32 (hst1)) ?_
  refine KT.step rfl rfl (K.move rfl) ?_
  refine KT.step rfl rfl (K.extract rfl rfl) ?_
  refine KT.step rfl rfl (K.extract rfl rfl) ?_
  refine KT.step rfl rfl (K.assign rfl) ?_
  refine KT.step rfl rfl (K.assign rfl) ?_
  refine KT.nil ?_
  refine thenK_n ?_
  refine KC.seq ?_
  refine KC.seq ?_
  refine KC.region ?_
  refine KT.step rfl rfl (K.move rfl) ?_
  refine KT.step rfl rfl (K.neq rfl rfl) ?_
  refine KT.step rfl rfl (K.move rfl) ?_
  refine KT.bcase (fun hb24 => ?_) (fun hb24 => ?_)
  · skip
    exact absurd rfl (of_decide_eq_true hb24)
  · skip
    replace hb24 := of_decide_eq_false hb24
    refine KT.step rfl rfl (K.move rfl) ?_
    refine KT.step rfl rfl (K.len rfl htd Try.underlying25) ?_
    refine KT.step rfl rfl (K.eql rfl rfl) ?_
    refine KT.step rfl rfl (K.pick rfl (fun h => by cases h) (fun _ => rfl)) ?_
    refine KT.nil ?_
    refine thenK_n ?_
    refine KC.cond rfl (fun hc28 => ?_) (fun hc28 => ?_)
    · skip
      exfalso; replace hc28 := of_decide_eq_true hc28; omega
    · skip
      replace hc28 := of_decide_eq_false hc28
      refine KC.skip ?_
      refine thenK_n ?_
      refine KC.seq ?_
      refine KC.region ?_
      refine KT.step rfl rfl (K.move rfl) ?_
      refine KT.step rfl rfl (K.callO rfl plainTry_39 (cloneO39 htd (by omega) (by omega))) ?_
      refine KT.step rfl rfl (K.assign rfl) ?_
      refine KT.nil ?_
      refine thenK_n ?_
      refine KC.seq ?_
      refine KC.region ?_
      refine KT.step rfl rfl (K.move rfl) ?_
      refine KT.step rfl rfl (K.conv rfl Try.underlying3 Try.underlying59 (wrapUI _)) ?_
      refine KT.step rfl rfl (K.move rfl) ?_
      refine KT.step rfl rfl (K.lenO rfl Try.underlying25) ?_
      refine KT.step rfl rfl (K.conv rfl Try.underlying3 Try.underlying59 (show IntKind.u64.wrap (tm.length : Int) = (tm.length : Int) from by rw [wrapU, Nat.mod_eq_of_lt (by omega)])) ?_
      refine KT.step rfl rfl (K.rem rfl rfl (by omega) (tmodN (ac % 2 ^ 64).toNat tm.length)) ?_
      have hkk : (ac % 2 ^ 64).toNat % tm.length < tm.length := Nat.mod_lt _ (by omega)
      refine KT.step rfl rfl (K.conv rfl Try.underlying59 Try.underlying3 (wrapN (a := (ac % 2 ^ 64).toNat % tm.length) (by omega))) ?_
      generalize (ac % 2 ^ 64).toNat % tm.length = kk at hkk ⊢
      refine KT.step rfl rfl (K.assign rfl) ?_
      refine KT.nil ?_
      refine thenK_n ?_
      refine KC.seq ?_
      refine KC.region ?_
      refine KT.step rfl rfl (K.move rfl) ?_
      refine KT.step rfl rfl (K.move rfl) ?_
      refine KT.step rfl rfl (K.move rfl) ?_
      refine KT.step rfl rfl (K.move rfl) ?_
      refine KT.step rfl rfl (K.idxO rfl rfl hkk Try.underlying25 Try.size3) ?_
      refine KT.step rfl rfl (K.loadO (y := .d (DI tm[kk])) rfl rfl (by simp) (by simp [intX, hkk]) Try.agg3) ?_
      refine KT.step rfl rfl (K.add rfl rfl (wrap_id (by have := htb _ (List.getElem_mem hkk); omega))) ?_
      refine KT.step rfl rfl (K.min2 rfl rfl) ?_
      refine KT.step rfl rfl (K.idxO rfl rfl hkk Try.underlying25 Try.size3) ?_
      refine KT.storeG rfl rfl rfl rfl (show _ = some (⟨intX tm, 0⟩ : VObj) from rfl) (by rw [intX_len]; omega) rfl rfl Try.size3 fun σ1 l1 u1 v1 => ?_
      have y0 : σ1[0]? = some ⟨[.d (DI (N : Nat)), .d d], 0⟩ := (v1 0 (by simp)).trans rfl
      rw [intX_set] at u1
      have u2 : σ1[2]? = some ⟨intX (tm.set kk (min 100 (tm[kk] + 1))), 0⟩ := u1
      have hb1 := htb _ (List.getElem_mem hkk)
      have hle : ∀ j, tm.getD j 0 ≤ (tm.set kk (min 100 (tm[kk] + 1))).getD j 0 := set_get hkk (by omega)
      generalize htm' : tm.set kk (min 100 (tm[kk] + 1)) = tm' at u2 hle
      have hl' : tm'.length = tm.length := by rw [← htm', List.length_set]
      have hta' : tm'.all okTm = true := by
        rw [← htm', List.all_eq_true]
        intro v hv
        rcases List.mem_or_eq_of_mem_set hv with h | h
        · exact List.all_eq_true.1 hta v h
        · subst h; simp [okTm]; omega
      have hE2 : (stA (N : Int) (L.map LN.z) tm' pe).2 = 0 := by
        unfold stA
        rw [if_pos (tmB_iff.2 ⟨by omega, hta', hp1, hp20⟩), if_pos (by rw [hsc]), if_neg (by rw [hr.r]; simp only; omega)]
      obtain ⟨N', Ln', q', s', e1, e2, hr', hf', hse', _, _, hR'⟩ := stA_ok hE2
      obtain rfl : N = N' := by omega
      obtain rfl : L = Ln' := by rw [← toN_z L, e2, toN_z]
      obtain rfl := hr.inj hr'
      rw [hf] at hf'; cases hf'
      have hst2 := startsOf32 (n := (N : Int)) (pe := pe) (tm := tm') (lkD_lks (L.map LN.z)) hl (lsD_ints tm') (by omega)
      rw [hR', hE2] at hst2
      have hfz : ([.d (.agg [DI (N : Nat), lkD (L.map LN.z)]), .osl 2 0 tm.length 1 tm.length false, .d (DI pe)] : List XV).mapM (deepen (freezeIds σ1 [2]) 5) = some [.agg [DI (N : Nat), lkD (L.map LN.z)], lsD tm', DI pe] := by
        have k1 := freezeIds_in (ids := [2]) (by simp) u2
        have k2 : deepen (freezeIds σ1 [2]) 5 (.osl 2 0 tm.length 1 tm.length false) = some (lsD tm') := by
          rw [← hl']
          have k3 := deepen_cells (σ := freezeIds σ1 [2]) (id := 2) (R := tm'.length) (ex := false) (k := 3) (ds := tm'.map DI) k1 rfl (by simp)
          rw [k3]
          cases tm' with
          | nil => simp at hl'; omega
          | cons a l => simp [lsD, slOf]
        rw [List.mapM_cons, List.mapM_cons, k2]; rfl
      have hmono := runS_mono (L := L) hle (seqP pe.toNat s)
      have hlat := later38 (N := N) (fun j hj => ⟨(hmono j).1.symm, (hmono j).2⟩) h6 (fun j hj => by rw [runS_cnt hr hf pe.toNat hj]; exact Nat.le_trans (Nat.mul_le_mul (hr.le j) (show pe.toNat ≤ 20 by omega)) (by decide))
      refine KT.nil ?_
      refine thenK_n ?_
      refine KC.seq ?_
      refine KC.region ?_
      refine KT.step rfl rfl (K.loadOA ([DI (N : Nat), d]) rfl y0 (by decide) Try.agg24 Try.size24 rfl) ?_
      refine KT.step rfl rfl (K.call1 rfl plainTry_19 (hof)) ?_
      refine KT.step rfl rfl (K.move rfl) ?_
      refine KT.step rfl rfl (K.move rfl) ?_
      refine KT.step rfl rfl (K.callZ [2] 5 rfl plainTry_32 hfz hst2) ?_
      refine KT.step rfl rfl (K.move rfl) ?_
      refine KT.step rfl rfl (K.extract rfl rfl) ?_
      refine KT.step rfl rfl (K.extract rfl rfl) ?_
      refine KT.step rfl rfl (K.assign rfl) ?_
      refine KT.step rfl rfl (K.assign rfl) ?_
      refine KT.nil ?_
      refine thenK_n ?_
      refine KC.seq ?_
      refine KC.region ?_
      refine KT.step rfl rfl (K.move rfl) ?_
      refine KT.step rfl rfl (K.eql rfl rfl) ?_
      refine KT.step rfl rfl (K.move rfl) ?_
      refine KT.bcase (fun hb62 => ?_) (fun hb62 => ?_)
      · skip
        replace hb62 := of_decide_eq_true hb62
        refine KT.step rfl rfl (K.move rfl) ?_
        refine KT.step rfl rfl (K.move rfl) ?_
        refine KT.step rfl rfl (K.call2 rfl rfl plainTry_38 (hlat)) ?_
        refine KT.step rfl rfl (K.pick rfl (fun _ => rfl) (fun h => by cases h)) ?_
        refine KT.step rfl rfl (K.move rfl) ?_
        refine KT.bcase (fun hb67 => ?_) (fun hb67 => ?_)
        · skip
          refine KT.step rfl rfl (K.call0 plainTry_22 (awake22)) ?_
          refine KT.step rfl rfl (K.pick rfl (fun _ => rfl) (fun h => by cases h)) ?_
          refine KT.step rfl rfl (K.assign rfl) ?_
          refine KT.nil ?_
          refine thenK_n ?_
          refine KC.ret ?_
          exact ⟨.inl rfl, _, rfl, rfl⟩
        · skip
          cases hb67
      · skip
        exact absurd rfl (of_decide_eq_false hb62)
theorem law15 {d td : DV} {n pe ac : Int} {L : List LZ} {tm : List Int} (hd : Lks d L) (hl : L.length ≤ 9223372036854775807) (htd : Ints td tm) (htl : tm.length ≤ 9223372036854775807) : DeepCall Try.prog 15 [.agg [DI n, d], td, DI pe, DI ac] (DB true) := by
  by_cases hE : (stA n (L.take 12) tm pe).2 = 0
  · obtain ⟨N, Ln, q, s, h1, h2, hr, hf, hsc, htm, h400, hR⟩ := stA_ok hE
    obtain ⟨h3, h4⟩ := take12 h2 hr.len
    rw [h4] at hE hsc hR
    subst h1 h3
    exact slower_main hd hr h4 htd hf hsc htm h400 hE hR
  · exact slower_err hd hl htd htl hE
end Go.Proofs.Ytnfnjnaheckdbaa
