import Derived.Test.YtdgahcbalabjdaaGreatZBaN
import Derived.Test.YtdgahcbalabjdaaGreatCyN
/-
  Batch: the reference: orders.
-/
namespace Go.Proofs.YtdgahcbalabjdaaGreat
open Go.Vm Go.Ht Go.Ba
theorem plainTryz_43 : plainFn Tryz.prog 43 = true := by kernel_rfl
theorem getD_pair {os : List (Int × Int)} {i : Nat} (h : i < os.length) : os.getD i (0, 0) = os[i] := by simp [h]
set_option maxHeartbeats 2000000 in
set_option maxRecDepth 10000 in
theorem rorder42 {N : Int} {jd ld : DV} {J : List (List (Int × Int))} {l : List (List Int)} (hd : JbD jd J) (hS : ShopOk N J) (hm : Mat ld l) (hl : l.length ≤ 9223372036854775807) (hr : ∀ r ∈ l, r.length ≤ 9223372036854775807) : DeepCall Tryz.prog 43 [.agg [DI N, jd], ld] (DB (ordB N.toNat J.flatten l)) := by
  have h3 := hS.j3
  have h4 : ∀ j ∈ J, 1 ≤ j.length ∧ j.length ≤ 4 := fun j hj => ⟨(hS.jb j hj).1, (hS.jb j hj).2.1⟩
  have n9 := hS.n9
  have n1 := hS.m1
  have n4 := hS.m4
  have hmach : ∀ o ∈ J.flatten, 0 ≤ o.1 ∧ o.1 < (N.toNat : Nat) := fun o ho => by
    obtain ⟨j, hj, ho⟩ := List.mem_flatten.1 ho
    have := (hS.jb j hj).2.2.1 o ho
    omega
  refine deepCall_K 5 Tryz.func43 rfl (Nat.le_of_ble_eq_true rfl) fun M W0 => ?_
  refine KC.seq ?_
  refine KC.region ?_
  refine KT.step rfl rfl (K.box rfl) ?_
  refine KT.step rfl rfl (K.assign rfl) ?_
  refine KT.nil ?_
  refine thenK_n ?_
  refine KC.seq ?_
  refine KC.region ?_
  refine KT.step rfl rfl (K.loadOA [DI N, jd] rfl rfl (by decide) Tryz.agg24 Tryz.size24 rfl) ?_
  refine KT.step rfl rfl (K.call1 rfl plainTryz_23 (rops44 hd h3 h4)) ?_
  refine KT.step rfl rfl (K.assign rfl) ?_
  refine KT.nil ?_
  refine thenK_n ?_
  refine KC.seq ?_
  refine KC.region ?_
  refine KT.step rfl rfl (K.move rfl) ?_
  refine KT.step rfl rfl (K.lenF (k := 2) rfl (flV_ok J.flatten) Tryz.underlying57) ?_
  refine KT.step rfl rfl (K.make (m := J.flatten.length) (c := J.flatten.length) rfl rfl (Nat.le_refl _) (by omega) Tryz.underlying116 Tryz.one4) ?_
  refine KT.step rfl rfl (K.assign rfl) ?_
  refine KT.nil ?_
  refine thenK_n ?_
  refine KC.seq ?_
  refine KC.region ?_
  refine KT.step rfl rfl (K.assign rfl) ?_
  refine KT.nil ?_
  refine thenK_n ?_
  refine KC.seq ?_
  refine KC.seq ?_
  refine KC.region ?_
  refine KT.step rfl rfl (K.move rfl) ?_
  refine KT.step rfl rfl (K.len rfl hm Tryz.underlying25) ?_
  refine KT.step rfl rfl (K.move rfl) ?_
  refine KT.nil ?_
  refine thenK_n ?_
  refine KC.block ?_
  have ebs : List.replicate J.flatten.length (XV.d (.lit (.bool false))) = bsX (List.replicate J.flatten.length false) := by simp [bsX]
  rw [ebs]
  refine KC.loop (fun p : List VObj × List Bool × Nat => p.1) (fun p => [(1, .d ld), (2, .optr 0 0), (5, .d (flV c2 J.flatten)), (6, .osl 1 0 J.flatten.length 1 J.flatten.length true), (17, .d ld), (18, .d (DI (l.length : Nat))), (7, .d (DI (((l.take p.2.2).flatten.length : Nat) : Int))), (19, .d (DI (p.2.2 : Nat)))]) (fun p => p.2.2 ≤ l.length ∧ p.1[0]? = some ⟨[.d (DI N), .d jd], 0⟩ ∧ p.1[1]? = some ⟨bsX p.2.1, 0⟩ ∧ p.2.1.length = J.flatten.length ∧ p.2.1.countP id = (l.take p.2.2).flatten.length ∧ (∀ x : Int, 0 ≤ x → x < J.flatten.length → (p.2.1.getD x.toNat false = true ↔ x ∈ (l.take p.2.2).flatten)) ∧ ∀ (m : Nat) (h : m < l.length), m < p.2.2 → RowOk J.flatten (m : Int) l[m]) (fun p => l.length - p.2.2) (_, List.replicate J.flatten.length false, 0) ⟨Nat.zero_le _, rfl, rfl, by simp, by simp [List.countP_replicate], (fun x h0 h1 => by simp [show x.toNat < J.flatten.length by omega, -List.length_flatten]), fun m _ h => absurd h (Nat.not_lt_zero _)⟩ rfl (by simp [Go.Vm.look, extK, enterK]) ?_
  intro p hp
  obtain ⟨σ0, mt, i⟩ := p
  obtain ⟨hi, y0, y1, hml, hcn, hmk, hrows⟩ := hp
  simp only at hi y0 y1 hml hcn hmk hrows ⊢
  refine KC.seq ?_
  refine KC.region ?_
  refine KT.step rfl rfl (K.lss rfl rfl) ?_
  refine KT.nil ?_
  refine thenK_n ?_
  refine KC.seq ?_
  refine KC.cond rfl (fun hc20 => ?_) (fun hc20 => ?_)
  · skip
    replace hc20 := of_decide_eq_true hc20
    have hil : i < l.length := by omega
    have hri := hr _ (List.getElem_mem hil)
    refine KC.skip ?_
    refine thenK_n ?_
    refine KC.seq ?_
    refine KC.block ?_
    refine KC.seq ?_
    refine KC.region ?_
    refine KT.step rfl rfl (K.move rfl) ?_
    refine KT.idx rfl rfl rfl hm rfl (by omega) Tryz.underlying25 Tryz.size36 fun c22 cs22 hrow => ?_
    refine KT.step rfl rfl (K.load rfl Tryz.agg36) ?_
    refine KT.step rfl rfl (K.assign rfl) ?_
    refine KT.step rfl rfl (K.assign rfl) ?_
    refine KT.nil ?_
    refine thenK_n ?_
    refine KC.seq ?_
    refine KC.region ?_
    refine KT.step rfl rfl (K.move rfl) ?_
    refine KT.step rfl rfl (K.len rfl hrow Tryz.underlying36) ?_
    refine KT.step rfl rfl (K.move rfl) ?_
    refine KT.nil ?_
    refine thenK_n ?_
    refine KC.block ?_
    refine KC.loop (fun p : List VObj × List Bool × Nat => p.1) (fun p => [(1, .d ld), (2, .optr 0 0), (5, .d (flV c2 J.flatten)), (6, .osl 1 0 J.flatten.length 1 J.flatten.length true), (17, .d ld), (18, .d (DI (l.length : Nat))), (7, .d (DI ((((l.take i).flatten ++ l[i].take p.2.2).length : Nat) : Int))), (19, .d (DI (i : Nat))), (8, .d (DI (i : Nat))), (24, .d c22), (25, .d (DI (l[i].length : Nat))), (26, .d (DI (p.2.2 : Nat)))]) (fun p => p.2.2 ≤ l[i].length ∧ p.1[0]? = some ⟨[.d (DI N), .d jd], 0⟩ ∧ p.1[1]? = some ⟨bsX p.2.1, 0⟩ ∧ p.2.1.length = J.flatten.length ∧ p.2.1.countP id = ((l.take i).flatten ++ l[i].take p.2.2).length ∧ (∀ x : Int, 0 ≤ x → x < J.flatten.length → (p.2.1.getD x.toNat false = true ↔ x ∈ ((l.take i).flatten ++ l[i].take p.2.2))) ∧ (∀ x ∈ l[i].take p.2.2, x ∈ rowI J.flatten (i : Int)) ∧ (l[i].take p.2.2).Nodup) (fun p => l[i].length - p.2.2) (_, mt, 0) ⟨Nat.zero_le _, y0, y1, hml, by simpa [-List.length_flatten] using hcn, by simpa using hmk, fun x hx => by simp at hx, by simp⟩ rfl (by simp [-List.length_flatten, Go.Vm.look, extK, enterK]) ?_
    intro p hp
    obtain ⟨σ1, mt2, k⟩ := p
    obtain ⟨hk, z0, z1, hml2, hcn2, hmk2, hrow2, hnd2⟩ := hp
    simp only at hk z0 z1 hml2 hcn2 hmk2 hrow2 hnd2 ⊢
    refine KC.seq ?_
    refine KC.region ?_
    refine KT.step rfl rfl (K.lss rfl rfl) ?_
    refine KT.nil ?_
    refine thenK_n ?_
    refine KC.seq ?_
    refine KC.cond rfl (fun hc27 => ?_) (fun hc27 => ?_)
    · skip
      replace hc27 := of_decide_eq_true hc27
      have hkl : k < l[i].length := by omega
      have hcb : mt2.countP id ≤ mt2.length := List.countP_le_length
      refine KC.skip ?_
      refine thenK_n ?_
      refine KC.seq ?_
      refine KC.block ?_
      refine KC.seq ?_
      refine KC.region ?_
      refine KT.idxI (m := k) rfl rfl rfl hrow rfl (by omega) Tryz.underlying36 Tryz.size3 fun cs28 => ?_
      refine KT.step rfl rfl (K.load rfl Tryz.agg3) ?_
      refine KT.step rfl rfl (K.assign rfl) ?_
      refine KT.nil ?_
      refine thenK_n ?_
      refine KC.seq ?_
      refine KC.seq ?_
      refine KC.region ?_
      refine KT.step rfl rfl (K.move rfl) ?_
      refine KT.step rfl rfl (K.lss rfl rfl) ?_
      refine KT.step rfl rfl (K.move rfl) ?_
      refine KT.bcase (fun hb32 => ?_) (fun hb32 => ?_)
      · skip
        replace hb32 := of_decide_eq_true hb32
        refine KT.skip rfl rfl ?_
        refine KT.skip rfl rfl ?_
        refine KT.skip rfl rfl ?_
        refine KT.skip rfl rfl ?_
        refine KT.step rfl rfl (K.pick rfl (fun _ => rfl) (fun h => by cases h)) ?_
        refine KT.step rfl rfl (K.move rfl) ?_
        refine KT.skip rfl rfl ?_
        refine KT.skip rfl rfl ?_
        refine KT.skip rfl rfl ?_
        refine KT.skip rfl rfl ?_
        refine KT.step rfl rfl (K.pick rfl (fun _ => rfl) (fun h => by cases h)) ?_
        refine KT.step rfl rfl (K.move rfl) ?_
        refine KT.skip rfl rfl ?_
        refine KT.skip rfl rfl ?_
        refine KT.skip rfl rfl ?_
        refine KT.skip rfl rfl ?_
        refine KT.skip rfl rfl ?_
        refine KT.skip rfl rfl ?_
        refine KT.skip rfl rfl ?_
        refine KT.step rfl rfl (K.pick rfl (fun _ => rfl) (fun h => by cases h)) ?_
        refine KT.nil ?_
        refine thenK_n ?_
        refine KC.cond rfl (fun hc52 => ?_) (fun hc52 => ?_)
        · skip
          refine KC.seq ?_
          refine KC.region ?_
          refine KT.step rfl rfl (K.assign rfl) ?_
          refine KT.nil ?_
          refine thenK_n ?_
          refine KC.ret ?_
          refine thenK_r ?_
          refine blockK_r ?_
          refine thenK_r ?_
          refine thenK_r ?_
          refine blockK_r ?_
          refine blockK_r ?_
          refine thenK_r ?_
          refine thenK_r ?_
          refine blockK_r ?_
          refine thenK_r ?_
          exact ⟨.inl rfl, _, rfl, fin_b (ordB_no hil fun h => by have := mem_rowI.1 (h.1 _ (List.getElem_mem hkl)); omega)⟩
        · cases hc52
      · skip
        replace hb32 := of_decide_eq_false hb32
        refine KT.step rfl rfl (K.move rfl) ?_
        refine KT.step rfl rfl (K.move rfl) ?_
        refine KT.step rfl rfl (K.lenF (k := 2) rfl (flV_ok J.flatten) Tryz.underlying57) ?_
        refine KT.step rfl rfl (K.geq rfl rfl) ?_
        refine KT.step rfl rfl (K.pick rfl (fun h => by cases h) (fun _ => rfl)) ?_
        refine KT.step rfl rfl (K.move rfl) ?_
        refine KT.bcase (fun hb38 => ?_) (fun hb38 => ?_)
        · skip
          replace hb38 := of_decide_eq_true hb38
          refine KT.skip rfl rfl ?_
          refine KT.skip rfl rfl ?_
          refine KT.skip rfl rfl ?_
          refine KT.skip rfl rfl ?_
          refine KT.step rfl rfl (K.pick rfl (fun _ => rfl) (fun h => by cases h)) ?_
          refine KT.step rfl rfl (K.move rfl) ?_
          refine KT.skip rfl rfl ?_
          refine KT.skip rfl rfl ?_
          refine KT.skip rfl rfl ?_
          refine KT.skip rfl rfl ?_
          refine KT.skip rfl rfl ?_
          refine KT.skip rfl rfl ?_
          refine KT.skip rfl rfl ?_
          refine KT.step rfl rfl (K.pick rfl (fun _ => rfl) (fun h => by cases h)) ?_
          refine KT.nil ?_
          refine thenK_n ?_
          refine KC.cond rfl (fun hc52 => ?_) (fun hc52 => ?_)
          · skip
            refine KC.seq ?_
            refine KC.region ?_
            refine KT.step rfl rfl (K.assign rfl) ?_
            refine KT.nil ?_
            refine thenK_n ?_
            refine KC.ret ?_
            refine thenK_r ?_
            refine blockK_r ?_
            refine thenK_r ?_
            refine thenK_r ?_
            refine blockK_r ?_
            refine blockK_r ?_
            refine thenK_r ?_
            refine thenK_r ?_
            refine blockK_r ?_
            refine thenK_r ?_
            exact ⟨.inl rfl, _, rfl, fin_b (ordB_no hil fun h => by have := mem_rowI.1 (h.1 _ (List.getElem_mem hkl)); omega)⟩
          · cases hc52
        · skip
          replace hb38 := of_decide_eq_false hb38
          have hx0 : 0 ≤ l[i][k] ∧ l[i][k] < J.flatten.length := by omega
          refine KT.step rfl rfl (K.move rfl) ?_
          refine KT.step rfl rfl (K.move rfl) ?_
          refine KT.step rfl rfl (K.idxO (m := l[i][k].toNat) rfl (by exact congrArg (fun z => some (XV.d (DI z))) (show l[i][k] = ((l[i][k]).toNat : Int) by omega)) (by omega) Tryz.underlying116 Tryz.size4) ?_
          refine KT.step rfl rfl (K.loadO rfl z1 (by simp) (bsX_get (by omega)) Tryz.agg4) ?_
          refine KT.step rfl rfl (K.pick rfl (fun h => by cases h) (fun _ => rfl)) ?_
          refine KT.step rfl rfl (K.move rfl) ?_
          refine KT.bcase (fun hb44 => ?_) (fun hb44 => ?_)
          · skip
            have hmx : mt2.getD l[i][k].toNat false = true := hb44
            refine KT.skip rfl rfl ?_
            refine KT.skip rfl rfl ?_
            refine KT.skip rfl rfl ?_
            refine KT.skip rfl rfl ?_
            refine KT.skip rfl rfl ?_
            refine KT.skip rfl rfl ?_
            refine KT.skip rfl rfl ?_
            refine KT.step rfl rfl (K.pick rfl (fun _ => rfl) (fun h => by cases h)) ?_
            refine KT.nil ?_
            refine thenK_n ?_
            refine KC.cond rfl (fun hc52 => ?_) (fun hc52 => ?_)
            · skip
              refine KC.seq ?_
              refine KC.region ?_
              refine KT.step rfl rfl (K.assign rfl) ?_
              refine KT.nil ?_
              refine thenK_n ?_
              refine KC.ret ?_
              refine thenK_r ?_
              refine blockK_r ?_
              refine thenK_r ?_
              refine thenK_r ?_
              refine blockK_r ?_
              refine blockK_r ?_
              refine thenK_r ?_
              refine thenK_r ?_
              refine blockK_r ?_
              refine thenK_r ?_
              refine ⟨.inl rfl, _, rfl, fin_b (ordB_no hil fun h => ?_)⟩
              have hin2 := (hmk2 l[i][k] hx0.1 hx0.2).1 hmx
              rcases List.mem_append.1 hin2 with h5 | h5
              · obtain ⟨r, hr5, hx5⟩ := List.mem_flatten.1 h5
                obtain ⟨m, hm5, rfl⟩ := List.getElem_of_mem hr5
                rw [List.length_take] at hm5
                rw [List.getElem_take] at hx5
                have g1 := mem_rowI.1 ((hrows m (by omega) (by omega)).1 _ hx5)
                have g2 := mem_rowI.1 (h.1 _ (List.getElem_mem hkl))
                omega
              · obtain ⟨q, hq5, he5⟩ := List.getElem_of_mem h5
                rw [List.length_take] at hq5
                rw [List.getElem_take] at he5
                have := (List.getElem_inj (h₀ := by omega) (h₁ := by omega) h.2).1 he5
                omega
            · cases hc52
          · skip
            have hmx : mt2.getD l[i][k].toNat false = false := hb44
            refine KT.step rfl rfl (K.move rfl) ?_
            refine KT.step rfl rfl (K.move rfl) ?_
            refine KT.step rfl rfl (K.idxF c2_len (m := l[i][k].toNat) rfl (flV_ok J.flatten) (by exact congrArg (fun z => some (XV.d (DI z))) (show l[i][k] = ((l[i][k]).toNat : Int) by omega)) (by omega) Tryz.underlying57 Tryz.size59) ?_
            refine KT.step rfl rfl (K.fieldAddrD rfl Tryz.fld59_0 Tryz.size3) ?_
            refine KT.step rfl rfl (K.load rfl Tryz.agg3) ?_
            refine KT.step rfl rfl (K.move rfl) ?_
            refine KT.step rfl rfl (K.neq rfl rfl) ?_
            refine KT.step rfl rfl (K.pick rfl (fun h => by cases h) (fun _ => rfl)) ?_
            refine KT.nil ?_
            refine thenK_n ?_
            refine KC.cond rfl (fun hc52 => ?_) (fun hc52 => ?_)
            · skip
              replace hc52 := of_decide_eq_true hc52
              refine KC.seq ?_
              refine KC.region ?_
              refine KT.step rfl rfl (K.assign rfl) ?_
              refine KT.nil ?_
              refine thenK_n ?_
              refine KC.ret ?_
              refine thenK_r ?_
              refine blockK_r ?_
              refine thenK_r ?_
              refine thenK_r ?_
              refine blockK_r ?_
              refine blockK_r ?_
              refine thenK_r ?_
              refine thenK_r ?_
              refine blockK_r ?_
              refine thenK_r ?_
              refine ⟨.inl rfl, _, rfl, fin_b (ordB_no hil fun h => ?_)⟩
              have g2 := (mem_rowI.1 (h.1 _ (List.getElem_mem hkl))).2.2
              rw [getD_pair (by omega)] at g2
              exact hc52 g2
            · skip
              replace hc52 := of_decide_eq_false hc52
              refine KC.skip ?_
              refine thenK_n ?_
              refine KC.seq ?_
              refine KC.region ?_
              refine KT.step rfl rfl (K.move rfl) ?_
              refine KT.step rfl rfl (K.move rfl) ?_
              refine KT.step rfl rfl (K.idxO (m := l[i][k].toNat) rfl (by exact congrArg (fun z => some (XV.d (DI z))) (show l[i][k] = ((l[i][k]).toNat : Int) by omega)) (by omega) Tryz.underlying116 Tryz.size4) ?_
              refine KT.storeG rfl rfl rfl rfl z1 (by rw [bsX_len]; omega) rfl rfl Tryz.size4 fun σ3 l3' u3 v3 => ?_
              rw [bsX_set] at u3
              have u0 := (v3 0 (by decide)).trans z0
              refine KT.nil ?_
              refine thenK_n ?_
              refine KC.region ?_
              refine KT.step rfl rfl (K.move rfl) ?_
              refine KT.step rfl rfl (K.add rfl rfl (wrap_id (by omega))) ?_
              refine KT.step rfl rfl (K.assign rfl) ?_
              refine KT.nil ?_
              refine blockK_n ?_
              refine thenK_n ?_
              refine KC.region ?_
              refine KT.step rfl rfl (K.add rfl rfl (wrap_id (by omega))) ?_
              refine KT.step rfl rfl (K.move rfl) ?_
              refine KT.nil ?_
              refine thenK_n ?_
              have ek : l[i].take (k + 1) = l[i].take k ++ [l[i][k]] := List.take_succ_eq_append_getElem hkl
              have hxr : l[i][k] ∈ rowI J.flatten (i : Int) := mem_rowI.2 ⟨hx0.1, hx0.2, by rw [getD_pair (by omega)]; omega⟩
              have hxn : l[i][k] ∉ (l.take i).flatten ++ l[i].take k := fun h => by
                rw [(hmk2 l[i][k] hx0.1 hx0.2).2 h] at hmx; cases hmx
              refine ⟨(σ3, mt2.set l[i][k].toNat true, k + 1), ⟨by simp only; omega, u0, u3, by simp only [List.length_set]; exact hml2, ?_, fun x h0 h1 => ?_, fun x hx => ?_, ?_⟩, by simp only; omega, rfl, ?_⟩
              · simp only
                rw [countT_set _ _ (by omega) hmx, hcn2, ek, ← List.append_assoc, List.length_append (bs := [_])]; rfl
              · simp only
                rw [ek, ← List.append_assoc, List.mem_append, List.mem_singleton, ← hmk2 x h0 h1]
                rw [List.getD_eq_getElem?_getD, List.getElem?_set]
                by_cases e : x = l[i][k]
                · rw [if_pos (by rw [e]), if_pos (by omega)]; simp [e]
                · rw [if_neg (by omega), ← List.getD_eq_getElem?_getD]; simp [e]
              · rw [ek, List.mem_append, List.mem_singleton] at hx
                rcases hx with hx | rfl
                · exact hrow2 x hx
                · exact hxr
              · rw [ek, List.nodup_append]
                refine ⟨hnd2, by simp, fun a ha b hb => ?_⟩
                simp at hb; subst hb
                exact fun e => hxn (by rw [← e]; exact List.mem_append_right _ ha)
              · have e1 : ((l.take i).flatten ++ l[i].take (k + 1)).length = ((l.take i).flatten ++ l[i].take k).length + 1 := by rw [ek, ← List.append_assoc, List.length_append (bs := [_])]; rfl
                simp [-List.length_flatten, -List.length_append, -List.length_take, Go.Vm.look, extK, e1]
    · skip
      replace hc27 := of_decide_eq_false hc27
      refine KC.exit ?_
      refine thenK_x ?_
      refine thenK_x ?_
      refine blockK_e ?_
      refine blockK_n ?_
      refine thenK_n ?_
      refine KC.region ?_
      refine KT.step rfl rfl (K.add rfl rfl (wrap_id (by omega))) ?_
      refine KT.step rfl rfl (K.move rfl) ?_
      refine KT.nil ?_
      refine thenK_n ?_
      have et : l[i].take k = l[i] := List.take_of_length_le (by omega)
      have ef : (l.take (i + 1)).flatten = (l.take i).flatten ++ l[i] := by rw [List.take_succ_eq_append_getElem hil, List.flatten_append]; simp
      rw [et] at hmk2 hcn2 hrow2 hnd2
      rw [← ef] at hmk2 hcn2
      refine ⟨(σ1, mt2, i + 1), ⟨by simp only; omega, z0, z1, hml2, hcn2, hmk2, fun m h hmi => ?_⟩, by simp only; omega, rfl, by simp [-List.length_flatten, Go.Vm.look, extK, ef, et]⟩
      by_cases e : m = i
      · subst e; exact ⟨hrow2, hnd2⟩
      · exact hrows m h (by simp only at hmi; omega)
  · skip
    replace hc20 := of_decide_eq_false hc20
    refine KC.exit ?_
    refine thenK_x ?_
    refine thenK_x ?_
    refine blockK_e ?_
    refine thenK_n ?_
    refine KC.seq ?_
    refine KC.region ?_
    refine KT.step rfl rfl (K.move rfl) ?_
    refine KT.step rfl rfl (K.len rfl hm Tryz.underlying25) ?_
    refine KT.step rfl rfl (K.fieldAddrO rfl Tryz.fld24_0 Tryz.size3) ?_
    refine KT.step rfl rfl (K.loadO rfl y0 (by simp) rfl Tryz.agg3) ?_
    refine KT.step rfl rfl (K.eql rfl rfl) ?_
    refine KT.step rfl rfl (K.move rfl) ?_
    refine KT.bcase (fun hb65 => ?_) (fun hb65 => ?_)
    · skip
      replace hb65 := of_decide_eq_true hb65
      refine KT.step rfl rfl (K.move rfl) ?_
      refine KT.step rfl rfl (K.move rfl) ?_
      refine KT.step rfl rfl (K.lenF (k := 2) rfl (flV_ok J.flatten) Tryz.underlying57) ?_
      refine KT.step rfl rfl (K.eql rfl rfl) ?_
      refine KT.step rfl rfl (K.pick rfl (fun _ => rfl) (fun h => by cases h)) ?_
      refine KT.step rfl rfl (K.assign rfl) ?_
      refine KT.nil ?_
      refine thenK_n ?_
      refine KC.ret ?_
      have et : l.take i = l := List.take_of_length_le (by omega)
      rw [et] at hcn
      have hall : ∀ (m : Nat) (hm : m < l.length), RowOk J.flatten (m : Int) l[m] := fun m h => hrows m h (by omega)
      have hiff := ordB_iff hmach hall
      refine ⟨.inl rfl, _, rfl, fin_b ?_⟩
      rw [et]
      cases hb : ordB N.toNat J.flatten l with
      | true => have := hiff.1 hb; exact (decide_eq_true (by omega)).symm
      | false =>
        refine (decide_eq_false fun h => ?_).symm
        have := hiff.2 ⟨by omega, by omega⟩
        rw [this] at hb; cases hb
    · skip
      replace hb65 := of_decide_eq_false hb65
      refine KT.skip rfl rfl ?_
      refine KT.skip rfl rfl ?_
      refine KT.skip rfl rfl ?_
      refine KT.skip rfl rfl ?_
      refine KT.step rfl rfl (K.pick rfl (fun h => by cases h) (fun _ => rfl)) ?_
      refine KT.step rfl rfl (K.assign rfl) ?_
      refine KT.nil ?_
      refine thenK_n ?_
      refine KC.ret ?_
      have et : l.take i = l := List.take_of_length_le (by omega)
      rw [et] at hcn
      have hall : ∀ (m : Nat) (hm : m < l.length), RowOk J.flatten (m : Int) l[m] := fun m h => hrows m h (by omega)
      have hiff := ordB_iff hmach hall
      refine ⟨.inl rfl, _, rfl, fin_b ?_⟩
      rw [← Bool.not_eq_true, hiff]
      omega
end Go.Proofs.YtdgahcbalabjdaaGreat

