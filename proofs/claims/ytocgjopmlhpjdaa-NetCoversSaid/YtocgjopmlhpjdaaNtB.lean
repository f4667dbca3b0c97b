import Derived.Test.YtocgjopmlhpjdaaNtA
import Derived.Test.YtocgjopmlhpjdaaVmKi
/-
  Nets: the transitions that are enabled, as an iterator.
-/
namespace Go.Proofs.Ytocgjopmlhpjdaa
open Go.Vm Go.RowKit Go.Nt
theorem plainTry_94 : plainFn Try.prog 94 = true := by kernel_rfl
theorem plainTry_102 : plainFn Try.prog 102 = true := by kernel_rfl

/-- Firing, as one partial function. -/
def nxN (pre post : List (List Int)) (m : List Int) (t : Nat) : Option (List Int) :=
  if withinB (pre.getD t []) m then some ((List.range m.length).map (fireW (tk (post.getD t [])) (tk (pre.getD t [])) (tk m))) else none
/-- The rows of a valid net. -/
structure NetOk (pre post : List (List Int)) (n : Nat) : Prop where
  n0 : 0 < n
  n6 : n ≤ 6
  p0 : 0 < pre.length
  p6 : pre.length ≤ 6
  pp : post.length = pre.length
  rp : ∀ r ∈ pre, r.length = n
  rq : ∀ r ∈ post, r.length = n
  s1 : Small pre
  s2 : Small post
theorem NetOk.of {pre post : List (List Int)} {start : List Int} (h : validB pre post start = true) : NetOk pre post start.length := by
  obtain ⟨v1, v2, v3, v4, v5, v6, v7, v8⟩ := validB_iff.1 h
  exact ⟨v1, v2, v4, v5, v6, fun r hr => fitsB_len (allB_mem v7 r hr), fun r hr => fitsB_len (allB_mem v8 r hr), small_of v7, small_of v8⟩
theorem tk_out {l : List Int} {p : Nat} (h : l.length ≤ p) : tk l p = 0 := by simp [tk, h]
theorem w6_congr {X Y : Nat → Int} (h : ∀ p, p < 6 → X p = Y p) : w6 X = w6 Y := by
  unfold w6
  exact List.map_congr_left fun p hp => by rw [h p (List.mem_range.1 hp)]
theorem tk_range {n : Nat} (X : Nat → Int) (p : Nat) : tk ((List.range n).map X) p = if p < n then X p else 0 := by
  unfold tk
  rw [List.getD_eq_getElem?_getD, List.getElem?_map]
  split
  · rename_i h; rw [List.getElem?_range h]; rfl
  · rename_i h; rw [List.getElem?_eq_none (by simp; omega)]; rfl
section
variable {pre post : List (List Int)} {n : Nat}
theorem nxN_w6 (h : NetOk pre post n) {m m' : List Int} {t : Nat} (hm : m.length = n) (ht : t < pre.length) (e : nxN pre post m t = some m') : w6 (fireW (tk (post[t]'(by rw [h.pp]; exact ht))) (tk pre[t]) (tk m)) = w6 (tk m') := by
  have ht2 : t < post.length := by rw [h.pp]; exact ht
  unfold nxN at e
  split at e
  · cases e
    refine w6_congr fun p _ => ?_
    rw [tk_range]
    have e1 : pre.getD t [] = pre[t] := by simp [ht]
    have e2 : post.getD t [] = post[t] := by simp [ht2]
    rw [e1, e2]
    split
    · rfl
    · rename_i hp
      unfold fireW
      rw [tk_out (l := m) (by omega), tk_out (l := post[t]) (by rw [h.rq _ (List.getElem_mem ht2)]; omega), tk_out (l := pre[t]) (by rw [h.rp _ (List.getElem_mem ht)]; omega)]; rfl
  · cases e
theorem nxN_none {m : List Int} {t : Nat} (ht : t < pre.length) : nxN pre post m t = none ↔ withinB pre[t] m = false := by
  unfold nxN
  have e1 : pre.getD t [] = pre[t] := by simp [ht]
  rw [e1]
  split
  · rename_i h; simp [h]
  · rename_i h; simpa using h
theorem nxN_leq (h : NetOk pre post n) {m : List Int} {t : Nat} (hm : m.length = n) (ht : t < pre.length) : leq6 (tk pre[t]) (tk m) = (nxN pre post m t).isSome := by
  have hl := h.rp _ (List.getElem_mem ht)
  rw [leq6_within (by omega) (by have := h.n6; omega)]
  cases hn : nxN pre post m t with
  | none => rw [(nxN_none ht).1 hn]; rfl
  | some m' =>
    cases hw : withinB pre[t] m with
    | true => rfl
    | false => rw [(nxN_none ht).2 hw] at hn; cases hn
end
theorem KL.bcase {P : Program} {M : Nat → Prop} {W0 : World} {n : Nat} {ops : Array Oper} {l : List Oper} {σ : List VObj} {kn : Kn} {dst : Option Tmp} {T : List VObj → Kn → Prop} {b : Bool} (h1 : b = true → KL P M W0 n ops l σ (extK dst (.d (DB true)) kn) T) (h2 : b = false → KL P M W0 n ops l σ (extK dst (.d (DB false)) kn) T) : KL P M W0 n ops l σ (extK dst (.d (DB b)) kn) T := by
  cases b with
  | true => exact h1 rfl
  | false => exact h2 rfl
set_option maxRecDepth 10000 in
theorem firings94 {n : Nat} {pre post : List (List Int)} {s : List Int} {X : Nat → Int} : DeepCall Try.prog 94 [sysD n pre post s, .agg (w6 X)] (.fn (.func 102) [] [.ptr (DI (n : Nat) :: toksD pre :: toksD post :: w6 (tk s)), .ptr (w6 X)]) := by
  refine deepCall_K 5 Try.func94 rfl (Nat.le_of_ble_eq_true rfl) fun M W0 => ?_
  refine KC.seq ?_
  refine KC.region ?_
  refine KT.step rfl rfl (K.box rfl) ?_
  refine KT.step rfl rfl (K.box rfl) ?_
  refine KT.step rfl rfl (K.assign rfl) ?_
  refine KT.nil ?_
  refine thenK_n ?_
  refine KC.seq ?_
  refine KC.region ?_
  refine KT.step rfl rfl (K.makeF (xs := [.optr 0 0, .optr 1 0]) (m := 0) rfl rfl rfl rfl) ?_
  refine KT.step rfl rfl (K.assign rfl) ?_
  refine KT.nil ?_
  refine thenK_n ?_
  refine KC.ret ?_
  exact ⟨.inl rfl, _, rfl, rfl⟩
theorem en_pre {nx : List Int → Nat → Option (List Int)} {m : List Int} {t T : Nat} (h : t ≤ T) : ∃ r, enL nx m T = enL nx m t ++ r := by
  induction T with
  | zero => obtain rfl : t = 0 := by omega
            exact ⟨[], by simp⟩
  | succ T ih =>
    rcases Nat.lt_or_eq_of_le h with h1 | h1
    · obtain ⟨r, e⟩ := ih (by omega)
      exact ⟨_, by rw [enL_succ, e, List.append_assoc]⟩
    · subst h1; exact ⟨[], by simp⟩
theorem en_at {nx : List Int → Nat → Option (List Int)} {m m' : List Int} {t T : Nat} (h : t < T) (e : nx m t = some m') : ∃ h : (enL nx m t).length < (enL nx m T).length, (enL nx m T)[(enL nx m t).length] = (t, m') := by
  obtain ⟨r, e1⟩ := en_pre (nx := nx) (m := m) (show t + 1 ≤ T from h)
  rw [enL_succ, e] at e1
  have hl : (enL nx m t).length < (enL nx m T).length := by rw [e1]; simp
  refine ⟨hl, ?_⟩
  have : (enL nx m T)[(enL nx m t).length]? = some (t, m') := by rw [e1]; simp
  rw [List.getElem?_eq_getElem hl] at this
  exact Option.some.inj this
set_option maxHeartbeats 1600000 in
set_option maxRecDepth 10000 in
theorem firingsIter {pre post : List (List Int)} {n : Nat} (hN : NetOk pre post n) {s m : List Int} (hm : m.length = n) (hb : Bnd m) : IterG Try.prog 102 [] [.d (.ptr (DI (n : Nat) :: toksD pre :: toksD post :: w6 (tk s))), .d (.ptr (w6 (tk m)))] ((enL (nxN pre post) m pre.length).map fun p => [XV.d (DI (p.1 : Nat)), XV.d (.agg (w6 (tk p.2)))]) := by
  intro M W0 id I J σ0 hid hlen hgrow hround hI0
  have hp6 := hN.p6
  have hpp := hN.pp
  refine inCall_K Try.func102 rfl (Nat.le_of_ble_eq_true rfl) ?_
  refine KC.seq ?_
  refine KC.region ?_
  refine KT.step rfl rfl (K.fieldAddrD rfl Try.fld66_1 Try.size62) ?_
  refine KT.step rfl rfl (K.load rfl Try.agg62) ?_
  refine KT.step rfl rfl (K.lenSl rfl Try.underlying62) ?_
  refine KT.step rfl rfl (K.move rfl) ?_
  refine KT.nil ?_
  refine thenK_n ?_
  refine KC.block ?_
  refine KC.loop (fun p : List VObj × Nat => p.1) (fun p => [(0, .yl id), (1, .d (.ptr (DI (n : Nat) :: toksD pre :: toksD post :: w6 (tk s)))), (2, .d (.ptr (w6 (tk m)))), (7, .d (toksD pre)), (8, .d (DI (pre.length : Nat))), (9, .d (DI (p.2 : Nat)))]) (fun p => p.2 ≤ pre.length ∧ I (enL (nxN pre post) m p.2).length p.1) (fun p => pre.length - p.2) (σ0, 0) ⟨Nat.zero_le _, hI0⟩ rfl (by simp [Go.Vm.look, extK, enterK]) ?_
  intro p hp
  have hp1 := hp.1
  refine KC.seq ?_
  refine KC.region ?_
  refine KT.step rfl rfl (K.lss rfl rfl) ?_
  refine KT.nil ?_
  refine thenK_n ?_
  refine KC.seq ?_
  refine KC.cond rfl (fun hc10 => ?_) (fun hc10 => ?_)
  · skip
    replace hc10 := of_decide_eq_true hc10
    refine KC.skip ?_
    refine thenK_n ?_
    refine KC.seq ?_
    refine KC.block ?_
    refine KC.seq ?_
    refine KC.region ?_
    refine KT.step rfl rfl (K.move rfl) ?_
    refine KT.step rfl rfl (K.idxT rfl rfl (by omega) Try.underlying62 Try.size64) ?_
    refine KT.step rfl rfl (K.loadT (m := p.2) (by omega) rfl Try.agg64 Try.size64) ?_
    refine KT.step rfl rfl (K.alloc Try.zero64) ?_
    refine KT.step rfl rfl (K.assign rfl) ?_
    refine KT.storeL (cs := (w6 (tk pre[p.2])).map .d) rfl rfl rfl rfl rfl (by simp [w6, Value.cells]) (w6_one _) (by simp [w6]; exact Try.size64) ?_
    refine KT.nil ?_
    refine thenK_n ?_
    refine KC.seq ?_
    refine KC.regionL ?_
    obtain ⟨m9, hen⟩ | hen : (∃ m9, nxN pre post m p.2 = some m9) ∨ nxN pre post m p.2 = none := by
      cases h : nxN pre post m p.2 with
      | none => exact .inr rfl
      | some x => exact .inl ⟨x, rfl⟩
    · skip
      refine KL.step rfl rfl (K.loadOA (id := p.1.length) (md := 0) (w6 (tk pre[p.2])) rfl (List.getElem?_concat_length ..) (by decide) Try.agg64 Try.size64 rfl) ?_
      refine KL.step rfl rfl (K.loadAgg (m := 6) rfl Try.agg64 Try.size64 (by simp [w6])) ?_
      refine KL.step rfl rfl (K.call2 rfl rfl plainTry_58 (atMost58 (tk pre[p.2]) (tk m))) ?_
      rw [nxN_leq (post := post) hN hm (by omega), hen]
      refine KL.step rfl rfl (K.move rfl) ?_
      refine KL.step rfl rfl (K.move rfl) ?_
      refine KL.step rfl rfl (K.move rfl) ?_
      refine KL.step rfl rfl (K.loadAgg (m := 9) rfl Try.agg66 Try.size66 (by simp [w6])) ?_
      refine KL.step rfl rfl (K.loadAgg (m := 6) rfl Try.agg64 Try.size64 (by simp [w6])) ?_
      refine KL.step rfl rfl (K.move rfl) ?_
      have hp2 : p.2 < pre.length := by omega
      refine KL.step rfl rfl (K.call3 rfl rfl rfl plainTry_73 (fired73 hN.s1 hN.s2 hp2 (by omega) hb.tk)) ?_
      rw [nxN_w6 hN hm hp2 hen]
      have hin : (p.2, m9) ∈ enL (nxN pre post) m pre.length := enL_mem.2 ⟨hp2, hen⟩
      have hks := en_at (nx := nxN pre post) (T := pre.length) hp2 hen
      obtain ⟨hk1, hk2⟩ := hks
      have hr := hround (enL (nxN pre post) m p.2).length _ (by rw [List.length_map]; exact hk1) (hgrow _ _ ⟨(w6 (tk pre[p.2])).map .d, 0⟩ hp.2)
      rw [show (((enL (nxN pre post) m pre.length).map fun p => [XV.d (DI (p.1 : Nat)), XV.d (.agg (w6 (tk p.2)))]))[(enL (nxN pre post) m p.2).length]'(by rw [List.length_map]; exact hk1) = [XV.d (DI (p.2 : Nat)), XV.d (.agg (w6 (tk m9)))] by rw [List.getElem_map, hk2]] at hr
      refine KL.yld rfl rfl rfl (hlen _ _ (hgrow _ _ _ hp.2)) rfl (hr) fun σ1 b1 hq1 => ?_
      refine KL.step rfl rfl (K.not rfl) ?_
      refine KL.step rfl rfl (K.pick rfl (fun _ => rfl) (fun h => by cases h)) ?_
      refine KL.nil ?_
      refine thenK_n ?_
      refine KC.cond rfl (fun hc26 => ?_) (fun hc26 => ?_)
      · skip
        refine KC.ret ?_
        refine blockK_r ?_
        refine thenK_r ?_
        refine thenK_r ?_
        refine blockK_r ?_
        have hb1 : b1 = false := by simpa using hc26
        rcases hq1 with ⟨hb, _⟩ | ⟨_, h⟩
        · rw [hb] at hb1; cases hb1
        · exact ⟨.inl rfl, _, rfl, .inr h⟩
      · skip
        refine KC.skip ?_
        refine blockK_n ?_
        refine thenK_n ?_
        refine KC.region ?_
        refine KT.step rfl rfl (K.add rfl rfl (wrap_id (by omega))) ?_
        refine KT.step rfl rfl (K.move rfl) ?_
        refine KT.nil ?_
        refine thenK_n ?_
        refine ⟨(σ1, p.2 + 1), ⟨by simp only; omega, ?_⟩, by simp only; omega, rfl, by simp [Go.Vm.look, extK]⟩
        have hb1 : b1 = true := by simpa using hc26
        rcases hq1 with ⟨_, h⟩ | ⟨hb, _⟩
        · simp only
          rw [enL_succ, hen, List.length_append]; exact h
        · rw [hb] at hb1; cases hb1
    · skip
      refine KL.step rfl rfl (K.loadOA (id := p.1.length) (md := 0) (w6 (tk pre[p.2])) rfl (List.getElem?_concat_length ..) (by decide) Try.agg64 Try.size64 rfl) ?_
      refine KL.step rfl rfl (K.loadAgg (m := 6) rfl Try.agg64 Try.size64 (by simp [w6])) ?_
      refine KL.step rfl rfl (K.call2 rfl rfl plainTry_58 (atMost58 (tk pre[p.2]) (tk m))) ?_
      rw [nxN_leq (post := post) hN hm (by omega), hen]
      refine KL.step rfl rfl (K.move rfl) ?_
      refine KL.skip rfl rfl ?_
      refine KL.skip rfl rfl ?_
      refine KL.skip rfl rfl ?_
      refine KL.skip rfl rfl ?_
      refine KL.skip rfl rfl ?_
      refine KL.skip rfl rfl ?_
      refine KL.skip rfl rfl ?_
      refine KL.skip rfl rfl ?_
      refine KL.step rfl rfl (K.pick rfl (fun h => by cases h) (fun _ => rfl)) ?_
      refine KL.nil ?_
      refine thenK_n ?_
      refine KC.cond rfl (fun hc26 => ?_) (fun hc26 => ?_)
      · cases hc26
      · skip
        refine KC.skip ?_
        refine blockK_n ?_
        refine thenK_n ?_
        refine KC.region ?_
        refine KT.step rfl rfl (K.add rfl rfl (wrap_id (by omega))) ?_
        refine KT.step rfl rfl (K.move rfl) ?_
        refine KT.nil ?_
        refine thenK_n ?_
        refine ⟨(_, p.2 + 1), ⟨by simp only; omega, ?_⟩, by simp only; omega, rfl, by simp [Go.Vm.look, extK]⟩
        simp only
        rw [enL_succ, hen, List.append_nil]
        exact hgrow _ _ ⟨(w6 (tk pre[p.2])).map .d, 0⟩ hp.2
  · skip
    replace hc10 := of_decide_eq_false hc10
    refine KC.exit ?_
    refine thenK_x ?_
    refine thenK_x ?_
    refine blockK_e ?_
    refine ⟨.inr rfl, _, rfl, .inl ?_⟩
    rw [List.length_map]
    have e : p.2 = pre.length := by omega
    rw [← e]; exact hp.2
end Go.Proofs.Ytocgjopmlhpjdaa

