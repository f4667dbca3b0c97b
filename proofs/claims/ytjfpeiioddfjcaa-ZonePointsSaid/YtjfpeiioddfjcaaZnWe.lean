import Derived.Test.YtjfpeiioddfjcaaZnWd
/-
  Zones: the reference: First.
-/
namespace Go.Proofs.Ytjfpeiioddfjcaa
open Go.Vm Go.Zn

def Cnd (a : Nat → Nat → Int) (v : Nat → Int) (i j : Nat) : Prop := 0 < j → v i - v j ≤ gre (a i j) 4
theorem in_cnd {n : Nat} {a : Nat → Nat → Int} {v p : Nat → Int} (hu : Up n a v) (hp : Sol n a p) (h : ∀ i j, i < n → j < n → Cnd a v i j) : In n a v := fun i j hi hj => by
  rcases Nat.eq_zero_or_pos j with e | e
  · subst e
    have h1 := hp.2.2 i 0 hi hj
    have h2 := hu.low p hp i hi
    have h3 := hp.1
    have h4 := hu.zero
    omega
  · exact h i j hi hj e
set_option maxHeartbeats 2000000 in
set_option maxRecDepth 10000 in
theorem First34 {d : DV} {z : List (List Int)} (hd : Mat d z) (hl : z.length ≤ 9223372036854775807) (hr : ∀ r ∈ z, r.length ≤ 9223372036854775807) : DeepCall Try.prog 34 [d] (.tup [ptD z, DI (tgE z)]) := by
  refine deepCall_K 6 Try.func34 rfl (Nat.le_of_ble_eq_true rfl) fun M W0 => ?_
  refine KC.seq ?_
  refine KC.region ?_
  refine KT.step rfl rfl (K.assign rfl) ?_
  refine KT.step rfl rfl (K.assign rfl) ?_
  refine KT.nil ?_
  refine thenK_n ?_
  refine KC.seq ?_
  refine KC.seq ?_
  refine KC.region ?_
  refine KT.step rfl rfl (K.move rfl) ?_
  refine KT.step rfl rfl (K.call1 rfl plainTry_17 (rTight17 hd hl hr)) ?_
  refine KT.step rfl rfl (K.move rfl) ?_
  refine KT.step rfl rfl (K.extract rfl rfl) ?_
  refine KT.step rfl rfl (K.extract rfl rfl) ?_
  refine KT.step rfl rfl (K.assign rfl) ?_
  refine KT.step rfl rfl (K.assign rfl) ?_
  refine KT.nil ?_
  refine thenK_n ?_
  refine KC.seq ?_
  refine KC.region ?_
  refine KT.step rfl rfl (K.move rfl) ?_
  refine KT.step rfl rfl (K.neq rfl rfl) ?_
  refine KT.nil ?_
  refine thenK_n ?_
  refine KC.cond rfl (fun hc18 => ?_) (fun hc18 => ?_)
  · skip
    replace hc18 := of_decide_eq_true hc18
    refine KC.seq ?_
    refine KC.region ?_
    refine KT.step rfl rfl (K.move rfl) ?_
    refine KT.step rfl rfl (K.assign rfl) ?_
    refine KT.step rfl rfl (K.assign rfl) ?_
    refine KT.nil ?_
    refine thenK_n ?_
    refine KC.ret ?_
    refine thenK_r ?_
    have hne : ¬ tgE z = 0 := fun h => hc18 (rT_tg.1.trans h)
    exact ⟨.inl rfl, _, rfl, fin_op (by unfold ptD; rw [if_neg hne]) rT_tg.1⟩
  · skip
    replace hc18 := of_decide_eq_false hc18
    have h18 : rTE z = 0 := Classical.not_not.1 hc18
    have hte : tgE z = 0 := rT_tg.1.symm.trans h18
    obtain ⟨hv, hem⟩ := tgE_zero hte
    have hn := (validZ_rows hv).2.1
    have h2 := (validZ_rows hv).1
    have hrow : ∀ k (h : k < z.length), z[k].length = z.length := fun k h => ((validZ_rows hv).2.2 _ (List.getElem_mem h)).1
    obtain ⟨p, hp, hpb⟩ := sol_ex hn (by omega) (Go.Zn.lim5 (zf_lim hv)) hem
    have hz := zf5 hv
    refine KC.skip ?_
    refine thenK_n ?_
    refine KC.seq ?_
    refine KC.region ?_
    refine KT.step rfl rfl (K.move rfl) ?_
    refine KT.step rfl rfl (K.len rfl hd Try.underlying22) ?_
    refine KT.step rfl rfl (K.make rfl rfl (Nat.le_refl z.length) (by omega) Try.underlying23 Try.one3) ?_
    refine KT.step rfl rfl (K.assign rfl) ?_
    refine KT.nil ?_
    refine thenK_n ?_
    refine KC.seq ?_
    refine KC.seq ?_
    refine KC.region ?_
    refine KT.step rfl rfl (K.assign rfl) ?_
    refine KT.nil ?_
    refine thenK_n ?_
    refine KC.block ?_
    rw [vC_zero]
    refine KC.loop (fun s : (Nat → Int) × Bool => [⟨vC z.length s.1, 0⟩]) (fun s => [(0, .d d), (6, .osl 0 0 z.length 1 z.length true), (7, .d (DB s.2))]) (fun s => Up z.length (zf z) s.1 ∧ (s.2 = false → In z.length (zf z) s.1)) (fun s => gap p s.1 + (if s.2 then 1 else 0)) (fun _ => 0, true) ⟨Up.start, fun h => by cases h⟩ rfl (by simp [Go.Vm.look, extK, enterK]) ?_
    intro s hs
    obtain ⟨hup, hin⟩ := hs
    refine KC.seq ?_
    refine KC.seq ?_
    refine KC.region ?_
    refine KT.step rfl rfl (K.move rfl) ?_
    refine KT.nil ?_
    refine thenK_n ?_
    refine KC.cond rfl (fun hc23 => ?_) (fun hc23 => ?_)
    · skip
      refine KC.skip ?_
      refine thenK_n ?_
      refine KC.block ?_
      refine KC.seq ?_
      refine KC.region ?_
      refine KT.step rfl rfl (K.assign rfl) ?_
      refine KT.nil ?_
      refine thenK_n ?_
      refine KC.seq ?_
      refine KC.region ?_
      refine KT.step rfl rfl (K.move rfl) ?_
      refine KT.step rfl rfl (K.len rfl hd Try.underlying22) ?_
      refine KT.step rfl rfl (K.move rfl) ?_
      refine KT.nil ?_
      refine thenK_n ?_
      refine KC.block ?_
      refine KC.loop (fun t : (Nat → Int) × Bool × Nat => [⟨vC z.length t.1, 0⟩]) (fun t => [(0, .d d), (6, .osl 0 0 z.length 1 z.length true), (24, .d d), (25, .d (DI (z.length : Nat))), (26, .d (DI (t.2.2 : Nat))), (7, .d (DB t.2.1))]) (fun t => Up z.length (zf z) t.1 ∧ t.2.2 ≤ z.length ∧ (t.2.1 = true → gap p t.1 < gap p s.1) ∧ (t.2.1 = false → t.1 = s.1 ∧ ∀ x y, x < t.2.2 → y < z.length → Cnd (zf z) s.1 x y)) (fun t => z.length - t.2.2) (s.1, false, 0) ⟨hup, Nat.zero_le _, (fun h => by cases h), fun _ => ⟨rfl, fun _ _ h => absurd h (Nat.not_lt_zero _)⟩⟩ rfl (by simp [Go.Vm.look, extK, enterK]) ?_
      clear hup hin
      intro t ht
      obtain ⟨hup, hi, hlt, hst⟩ := ht
      refine KC.seq ?_
      refine KC.region ?_
      refine KT.step rfl rfl (K.lss rfl rfl) ?_
      refine KT.nil ?_
      refine thenK_n ?_
      refine KC.seq ?_
      refine KC.cond rfl (fun hc27 => ?_) (fun hc27 => ?_)
      · skip
        replace hc27 := of_decide_eq_true hc27
        have hil : t.2.2 < z.length := by omega
        refine KC.skip ?_
        refine thenK_n ?_
        refine KC.seq ?_
        refine KC.block ?_
        refine KC.seq ?_
        refine KC.region ?_
        refine KT.step rfl rfl (K.move rfl) ?_
        refine KT.idx rfl rfl rfl hd rfl hil Try.underlying22 Try.size23 fun c29 cs29 hq29 => ?_
        refine KT.step rfl rfl (K.load rfl Try.agg23) ?_
        refine KT.step rfl rfl (K.assign rfl) ?_
        refine KT.step rfl rfl (K.assign rfl) ?_
        refine KT.nil ?_
        refine thenK_n ?_
        refine KC.seq ?_
        refine KC.region ?_
        refine KT.step rfl rfl (K.move rfl) ?_
        refine KT.step rfl rfl (K.len rfl hq29 Try.underlying23) ?_
        rw [hrow]
        refine KT.step rfl rfl (K.move rfl) ?_
        refine KT.nil ?_
        refine thenK_n ?_
        refine KC.block ?_
        refine KC.loop (fun u : (Nat → Int) × Bool × Nat => [⟨vC z.length u.1, 0⟩]) (fun u => [(0, .d d), (6, .osl 0 0 z.length 1 z.length true), (24, .d d), (25, .d (DI (z.length : Nat))), (26, .d (DI (t.2.2 : Nat))), (8, .d (DI (t.2.2 : Nat))), (9, .d c29), (31, .d c29), (32, .d (DI (z.length : Nat))), (33, .d (DI (u.2.2 : Nat))), (7, .d (DB u.2.1))]) (fun u => Up z.length (zf z) u.1 ∧ u.2.2 ≤ z.length ∧ (u.2.1 = true → gap p u.1 < gap p s.1) ∧ (u.2.1 = false → u.1 = s.1 ∧ (∀ x y, x < t.2.2 → y < z.length → Cnd (zf z) s.1 x y) ∧ ∀ y, y < u.2.2 → Cnd (zf z) s.1 t.2.2 y)) (fun u => z.length - u.2.2) (t.1, t.2.1, 0) ⟨hup, Nat.zero_le _, hlt, fun h => ⟨(hst h).1, (hst h).2, fun _ h => absurd h (Nat.not_lt_zero _)⟩⟩ rfl (by simp [Go.Vm.look, extK, enterK]) ?_
        clear hup hlt hst
        intro u hu
        obtain ⟨hup, hj, hlt, hst⟩ := hu
        refine KC.seq ?_
        refine KC.region ?_
        refine KT.step rfl rfl (K.lss rfl rfl) ?_
        refine KT.nil ?_
        refine thenK_n ?_
        refine KC.seq ?_
        refine KC.cond rfl (fun hc34 => ?_) (fun hc34 => ?_)
        · skip
          replace hc34 := of_decide_eq_true hc34
          have hjl : u.2.2 < z.length := by omega
          have hb1 := gre_zg (hz t.2.2 u.2.2)
          have hb2 := div_zg (hz t.2.2 u.2.2)
          have hb3 := hz t.2.2 u.2.2
          unfold Zg Lim at hb3
          refine KC.skip ?_
          refine thenK_n ?_
          refine KC.seq ?_
          refine KC.block ?_
          refine KC.seq ?_
          refine KC.region ?_
          refine KT.step rfl rfl (K.move rfl) ?_
          refine KT.idxI rfl rfl rfl hq29 rfl (by rw [hrow]; omega) Try.underlying23 Try.size3 fun cs36 => ?_
          rw [zf_get]
          refine KT.step rfl rfl (K.load rfl Try.agg3) ?_
          refine KT.step rfl rfl (K.assign rfl) ?_
          refine KT.step rfl rfl (K.assign rfl) ?_
          refine KT.nil ?_
          refine thenK_n ?_
          refine KC.block ?_
          refine KC.loop (fun w : (Nat → Int) × Bool => [⟨vC z.length w.1, 0⟩]) (fun w => [(0, .d d), (6, .osl 0 0 z.length 1 z.length true), (24, .d d), (25, .d (DI (z.length : Nat))), (26, .d (DI (t.2.2 : Nat))), (8, .d (DI (t.2.2 : Nat))), (9, .d c29), (31, .d c29), (32, .d (DI (z.length : Nat))), (33, .d (DI (u.2.2 : Nat))), (10, .d (DI (u.2.2 : Nat))), (11, .d (DI (zf z t.2.2 u.2.2))), (7, .d (DB w.2))]) (fun w => Up z.length (zf z) w.1 ∧ (w.2 = true → gap p w.1 < gap p s.1) ∧ (w.2 = false → w.1 = s.1 ∧ (∀ x y, x < t.2.2 → y < z.length → Cnd (zf z) s.1 x y) ∧ ∀ y, y < u.2.2 → Cnd (zf z) s.1 t.2.2 y)) (fun w => gap p w.1) (u.1, u.2.1) ⟨hup, hlt, hst⟩ rfl (by simp [Go.Vm.look, extK, enterK]) ?_
          clear hup hlt hst
          intro w hw
          obtain ⟨hup, hlt, hst⟩ := hw
          refine KC.seq ?_
          refine KC.seq ?_
          refine KC.draw Try.mixed ?_
          refine KT.step rfl rfl (K.move rfl) ?_
          refine KT.step rfl rfl (K.gtr rfl rfl) ?_
          refine KT.step rfl rfl (K.move rfl) ?_
          refine KT.bcase (fun hb40 => ?_) (fun hb40 => ?_)
          · skip
            replace hb40 := of_decide_eq_true hb40
            have hv1 := hup.pos _ hil
            have hv2 := hup.low p hp _ hil
            have hv3 := hpb _ hil
            have hv4 := hup.pos _ hjl
            have hv5 := hup.low p hp _ hjl
            have hv6 := hpb _ hjl
            have hw4 := wB_4 (diff := w.1 t.2.2 - w.1 u.2.2) (b := zf z t.2.2 u.2.2) (by omega)
            refine KT.step rfl rfl (K.move rfl) ?_
            refine KT.step rfl rfl (K.move rfl) ?_
            refine KT.step rfl rfl (K.idxO (m := t.2.2) rfl rfl hil Try.underlying23 Try.size3) ?_
            refine KT.step rfl rfl (K.loadO rfl rfl (by simp) (vC_get hil) Try.agg3) ?_
            refine KT.step rfl rfl (K.move rfl) ?_
            refine KT.step rfl rfl (K.move rfl) ?_
            refine KT.step rfl rfl (K.idxO (m := u.2.2) rfl rfl hjl Try.underlying23 Try.size3) ?_
            refine KT.step rfl rfl (K.loadO rfl rfl (by simp) (vC_get hjl) Try.agg3) ?_
            refine KT.step rfl rfl (K.sub rfl rfl (wrap_id (by omega))) ?_
            refine KT.step rfl rfl (K.move rfl) ?_
            refine KT.step rfl rfl (K.call3 rfl rfl rfl plainTry_38 (Within38 (by omega) (by omega))) ?_
            refine KT.step rfl rfl (K.not rfl) ?_
            refine KT.step rfl rfl (K.pick rfl (fun _ => rfl) (fun h => by cases h)) ?_
            refine KT.nil ?_
            refine ⟨by kernel_rfl, ?_⟩
            refine thenK_n ?_
            refine KC.cond rfl (fun hc53 => ?_) (fun hc53 => ?_)
            · skip
              rw [hw4, Bool.not_eq_true'] at hc53
              replace hc53 := of_decide_eq_false hc53
              refine KC.skip ?_
              refine thenK_n ?_
              refine KC.block ?_
              refine KC.seq ?_
              refine KC.region ?_
              refine KT.step rfl rfl (K.move rfl) ?_
              refine KT.step rfl rfl (K.move rfl) ?_
              refine KT.step rfl rfl (K.idxO (m := u.2.2) rfl rfl hjl Try.underlying23 Try.size3) ?_
              refine KT.step rfl rfl (K.loadO rfl rfl (by simp) (vC_get hjl) Try.agg3) ?_
              refine KT.step rfl rfl (K.add rfl rfl (wrap_id (by omega))) ?_
              refine KT.step rfl rfl (K.idxO (m := u.2.2) rfl rfl hjl Try.underlying23 Try.size3) ?_
              refine KT.step rfl rfl (K.storeO rfl rfl rfl (by rw [vC_len]; omega) rfl rfl Try.size3) ?_
              refine KT.nil ?_
              refine thenK_n ?_
              refine KC.region ?_
              refine KT.step rfl rfl (K.assign rfl) ?_
              refine KT.nil ?_
              refine blockK_n ?_
              refine thenK_n ?_
              obtain ⟨r1, r2, r3⟩ := hup.raise hp hil hjl (show w.1 u.2.2 < w.1 u.2.2 + 1 by omega) (show w.1 u.2.2 + 1 ≤ w.1 t.2.2 - gre (zf z t.2.2 u.2.2) 4 by omega)
              have hgp := gap_put (p := p) (show u.2.2 < 4 by omega) (show w.1 u.2.2 < w.1 u.2.2 + 1 by omega) r3
              refine ⟨(put1 w.1 u.2.2 (w.1 u.2.2 + 1), true), ⟨r1, fun _ => ?_, fun h => by cases h⟩, hgp, by rw [vC_put hjl]; rfl, by simp [Go.Vm.look, extK]⟩
              show gap p (put1 w.1 u.2.2 (w.1 u.2.2 + 1)) < gap p s.1
              cases hcc : w.2 with
              | true => have := hlt hcc; omega
              | false => rw [← (hst hcc).1]; exact hgp
            · skip
              rw [hw4, Bool.not_eq_false'] at hc53
              replace hc53 := of_decide_eq_true hc53
              refine KC.exit ?_
              refine thenK_x ?_
              refine thenK_x ?_
              refine blockK_e ?_
              refine blockK_n ?_
              refine thenK_n ?_
              refine KC.region ?_
              refine KT.step rfl rfl (K.add rfl rfl (wrap_id (by omega))) ?_
              refine KT.step rfl rfl (K.move rfl) ?_
              refine KT.nil ?_
              refine thenK_n ?_
              have hcn : Cnd (zf z) w.1 t.2.2 u.2.2 := fun _ => hc53
              refine ⟨(w.1, w.2, u.2.2 + 1), ⟨hup, by simp only; omega, hlt, fun h => ⟨(hst h).1, (hst h).2.1, fun y hy => ?_⟩⟩, by simp only; omega, rfl, by simp [Go.Vm.look, extK]⟩
              by_cases e : y = u.2.2
              · subst e; rw [← (hst h).1]; exact hcn
              · exact (hst h).2.2 y (by simp only at hy; omega)
          · skip
            replace hb40 := of_decide_eq_false hb40
            refine KT.skip rfl rfl ?_
            refine KT.skip rfl rfl ?_
            refine KT.skip rfl rfl ?_
            refine KT.skip rfl rfl ?_
            refine KT.skip rfl rfl ?_
            refine KT.skip rfl rfl ?_
            refine KT.skip rfl rfl ?_
            refine KT.skip rfl rfl ?_
            refine KT.skip rfl rfl ?_
            refine KT.skip rfl rfl ?_
            refine KT.skip rfl rfl ?_
            refine KT.skip rfl rfl ?_
            refine KT.step rfl rfl (K.pick rfl (fun h => by cases h) (fun _ => rfl)) ?_
            refine KT.nil ?_
            refine ⟨by kernel_rfl, ?_⟩
            refine thenK_n ?_
            refine KC.cond rfl (fun hc53 => ?_) (fun hc53 => ?_)
            · cases hc53
            · skip
              refine KC.exit ?_
              refine thenK_x ?_
              refine thenK_x ?_
              refine blockK_e ?_
              refine blockK_n ?_
              refine thenK_n ?_
              refine KC.region ?_
              refine KT.step rfl rfl (K.add rfl rfl (wrap_id (by omega))) ?_
              refine KT.step rfl rfl (K.move rfl) ?_
              refine KT.nil ?_
              refine thenK_n ?_
              have hcn : Cnd (zf z) w.1 t.2.2 u.2.2 := fun h => absurd h (by omega)
              refine ⟨(w.1, w.2, u.2.2 + 1), ⟨hup, by simp only; omega, hlt, fun h => ⟨(hst h).1, (hst h).2.1, fun y hy => ?_⟩⟩, by simp only; omega, rfl, by simp [Go.Vm.look, extK]⟩
              by_cases e : y = u.2.2
              · subst e; rw [← (hst h).1]; exact hcn
              · exact (hst h).2.2 y (by simp only at hy; omega)
        · skip
          replace hc34 := of_decide_eq_false hc34
          refine KC.exit ?_
          refine thenK_x ?_
          refine thenK_x ?_
          refine blockK_e ?_
          refine blockK_n ?_
          refine thenK_n ?_
          refine KC.region ?_
          refine KT.step rfl rfl (K.add rfl rfl (wrap_id (by omega))) ?_
          refine KT.step rfl rfl (K.move rfl) ?_
          refine KT.nil ?_
          refine thenK_n ?_
          refine ⟨(u.1, u.2.1, t.2.2 + 1), ⟨hup, by simp only; omega, hlt, fun h => ⟨(hst h).1, fun x y hx hy => ?_⟩⟩, by simp only; omega, rfl, by simp [Go.Vm.look, extK]⟩
          by_cases e : x = t.2.2
          · subst e; exact (hst h).2.2 y (by omega)
          · exact (hst h).2.1 x y (by simp only at hx; omega) hy
      · skip
        replace hc27 := of_decide_eq_false hc27
        refine KC.exit ?_
        refine thenK_x ?_
        refine thenK_x ?_
        refine blockK_e ?_
        refine blockK_n ?_
        refine thenK_n ?_
        refine ⟨(t.1, t.2.1), ⟨hup, fun h => ?_⟩, ?_, rfl, by simp [Go.Vm.look, extK]⟩
        · obtain ⟨e, hall⟩ := hst h
          show In z.length (zf z) t.1
          rw [e]
          exact in_cnd (e ▸ hup) hp fun x y hx hy => hall x y (by omega) hy
        · show gap p t.1 + (if t.2.1 then 1 else 0) < gap p s.1 + (if s.2 then 1 else 0)
          rw [hc23, if_pos rfl]
          cases hcc : t.2.1 with
          | true => have := hlt hcc; rw [if_pos rfl]; omega
          | false => rw [(hst hcc).1]; simp
    · skip
      refine KC.exit ?_
      refine thenK_x ?_
      refine thenK_x ?_
      refine blockK_e ?_
      refine thenK_n ?_
      refine KC.seq ?_
      refine KC.region ?_
      refine KT.step rfl rfl (K.move rfl) ?_
      refine KT.step rfl rfl (K.sliceO (m := 1) rfl rfl (by omega) (Nat.le_refl _) (.inl (by omega)) Try.underlying23 Try.size3) ?_
      refine KT.step rfl rfl (K.assign rfl) ?_
      refine KT.step rfl rfl (K.assign rfl) ?_
      refine KT.nil ?_
      refine thenK_n ?_
      refine KC.ret ?_
      have hl := hup.done (hin hc23)
      rw [vC_eq fun i hi => lst_eq hl hi]
      refine ⟨.inl rfl, _, rfl, deepen_tup2 (dx := ptD z) ?_ |>.trans (by rw [hte])⟩
      unfold ptD
      rw [if_pos hte]
      exact fin_tail rfl (by omega)
end Go.Proofs.Ytjfpeiioddfjcaa

