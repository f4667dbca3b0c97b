import Derived.Test.YtjfpeiioddfjcaaZnP0
import Derived.Test.YtjfpeiioddfjcaaFlY
/-
  Zones: the search for a proof of emptiness.
-/
namespace Go.Proofs.Ytjfpeiioddfjcaa
open Go.Vm Go.Zn

theorem dfsR_stay {g : Nat → DV} {k : Nat} (h : isNilD (dfsR g k) = false) : ∀ m, k ≤ m → dfsR g m = dfsR g k
  | 0, hm => by rw [show k = 0 by omega]
  | m + 1, hm => by
    by_cases e : k = m + 1
    · rw [e]
    · have := dfsR_stay h m (by omega)
      show (if isNilD (dfsR g m) then g m else dfsR g m) = _
      rw [this, h]; rfl
abbrev dfG (n : Nat) (a : Nat → Nat → Int) (f : Nat) (q : List Nat) : Nat → DV := fun c => if c ∈ q then Dnil else dfs n a f (q ++ [c])
theorem dfG_sl {n : Nat} {a : Nat → Nat → Int} {f : Nat} {q : List Nat} (c : Nat) : SlD (dfG n a f q c) := by unfold dfG; split; exact .nil; exact dfs_sl _ _
theorem dfs_yes {n : Nat} {a : Nat → Nat → Int} {f : Nat} {q : List Nat} (h : rfB n a (zl q) = true) : dfs n a (f + 1) q = wd0 q := by unfold dfs; rw [if_pos h]
theorem dfs_no {n : Nat} {a : Nat → Nat → Int} {f : Nat} {q : List Nat} (h : rfB n a (zl q) = false) : dfs n a (f + 1) q = dfsR (dfG n a f q) n := by
  show (if rfB n a (zl q) = true then wd0 q else dfsR (dfG n a f q) n) = _
  rw [h]; rfl
theorem dfs_hit {n : Nat} {a : Nat → Nat → Int} {f c : Nat} {q : List Nat} (h : rfB n a (zl q) = false) (h0 : isNilD (dfsR (dfG n a f q) c) = true) (hc : c < n) (hq : c ∉ q) (h1 : isNilD (dfs n a f (q ++ [c])) = false) : dfs n a (f + 1) q = dfs n a f (q ++ [c]) := by
  have e : dfsR (dfG n a f q) (c + 1) = dfs n a f (q ++ [c]) := by
    show (if isNilD (dfsR (dfG n a f q) c) = true then dfG n a f q c else _) = _
    rw [if_pos h0]
    show (if c ∈ q then Dnil else dfs n a f (q ++ [c])) = _
    rw [if_neg hq]
  rw [dfs_no h, dfsR_stay (by rw [e]; exact h1) n (by omega), e]
theorem dfs_miss {n : Nat} {a : Nat → Nat → Int} {f c : Nat} {q : List Nat} (h0 : isNilD (dfsR (dfG n a f q) c) = true) (h : c ∈ q ∨ isNilD (dfs n a f (q ++ [c])) = true) : isNilD (dfsR (dfG n a f q) (c + 1)) = true := by
  show isNilD (if isNilD (dfsR (dfG n a f q) c) = true then dfG n a f q c else _) = true
  rw [if_pos h0]
  show isNilD (if c ∈ q then Dnil else dfs n a f (q ++ [c])) = true
  split
  · rfl
  · rename_i hq
    rcases h with h | h
    · exact absurd h hq
    · exact h
theorem wd0_cons {q : List Nat} {c : Nat} : wd0 (q ++ [c]) = intsD (zl (q ++ [c])) := by
  unfold wd0
  rw [if_neg (by simp)]; rfl
theorem wd0_len {q : List Nat} (h : q.length ≤ 1000) : (zl q).length ≤ 9223372036854775807 := by rw [zl_len]; omega
theorem set_keeps {σ : List VObj} {a b c : VObj} {z : List XV} : KeepsZ (fun id => 1 ≤ id) ((σ ++ [a, b]) ++ [c]) ((((σ ++ [a, b]) ++ [c]).set (σ.length + 1) ⟨z, 2⟩) ++ [⟨z, 0⟩]) := fun id ob hz ho => by
  have : id = 0 := by omega
  subst this
  have hl := (List.getElem?_eq_some_iff.1 ho).1
  refine ⟨ob, ?_, rfl, Iff.rfl⟩
  rw [List.getElem?_append_left (by simp), List.getElem?_set, if_neg (by omega)]; exact ho

theorem set_zero {σ : List VObj} {k : Nat} {o b : VObj} (hk : k ≠ 0) (h : σ[0]? = some b) : (σ.set k o)[0]? = some b := by rw [List.getElem?_set, if_neg hk]; exact h
theorem KAll.nil {p : Nat → Prop} : KAll p [] := trivial
theorem KAll.cons {p : Nat → Prop} {i : Nat} {l : List Nat} (h : p i) (hl : KAll p l) : KAll p (i :: l) := ⟨h, hl⟩
theorem KC.ordersN {P : Program} {M : Nat → Prop} {W0 : World} {n : Nat} {ops : Array Oper} {σ : List VObj} {kn : Kn} (hm : P.follows .mixedOrders = true) {rid m : Nat} (hs : ops.size = m) {T T' : Exit → List VObj → Kn → Prop} (h : KA P M W0 n ops (T' .normal) m (Array.replicate m false) σ kn) (ht : ∀ e τ k, T' e τ k → T e τ k) : KC P M W0 n (.region rid ops true) σ kn T := by
  subst hs
  exact (KC.orders hm h).mono ht
set_option maxRecDepth 10000 in
theorem refut54_nil {n f : Nat} {a : Nat → Nat → Int} (hn : n ≤ 4) (ha : ZgM 5000 (Go.Zn.flo n a)) 
    (ih : ∀ c, c < n → c ∉ ([] : List Nat) → DeepCall Try.prog 54 [.agg (mc n a), wd0 (([] : List Nat) ++ [c])] (dfs n a f (([] : List Nat) ++ [c]))) : DeepCall Try.prog 54 [.agg (mc n a), Dnil] (dfs n a (f + 1) []) := by
  refine deepCall_K 5 Try.func54 rfl (Nat.le_of_ble_eq_true rfl) fun M W0 => ?_
  refine KC.seq ?_
  refine KC.region ?_
  refine KT.step rfl rfl (K.box rfl) ?_
  refine KT.step rfl rfl (K.assign rfl) ?_
  refine KT.nil ?_
  refine thenK_n ?_
  refine KC.seq ?_
  refine KC.seq ?_
  refine KC.region ?_
  refine KT.step rfl rfl (K.loadOA (mc n a) rfl rfl (by decide) Try.agg87 Try.size87 rfl) ?_
  refine KT.step rfl rfl (K.move rfl) ?_
  refine KT.step rfl rfl (K.call2 rfl rfl plainTry_55 (refutedBy55 (l := zl []) (wd0_ints []) (wd0_len (by simp)) hn ha)) ?_
  refine KT.nil ?_
  refine thenK_n ?_
  refine KC.cond rfl (fun hc9 => ?_) (fun hc9 => ?_)
  · skip
    refine KC.seq ?_
    refine KC.region ?_
    refine KT.step rfl rfl (K.move rfl) ?_
    refine KT.step rfl rfl (K.assign rfl) ?_
    refine KT.nil ?_
    refine thenK_n ?_
    refine KC.ret ?_
    refine thenK_r ?_
    exact ⟨.inl rfl, _, rfl, fin_d (dfs_yes hc9)⟩
  · skip
    have hrf := hc9
    refine KC.skip ?_
    refine thenK_n ?_
    refine KC.seq ?_
    refine KC.seq ?_
    refine KC.region ?_
    refine KT.step rfl rfl (K.fieldAddrO rfl Try.fld87_0 Try.size3) ?_
    refine KT.step rfl rfl (K.loadO rfl rfl (by simp) rfl Try.agg3) ?_
    refine KT.step rfl rfl (K.move rfl) ?_
    refine KT.nil ?_
    refine thenK_n ?_
    refine KC.block ?_
    refine KC.loop (fun p : List VObj × Nat => p.1) (fun p => [(1, .d (Dnil)), (2, .optr 0 0), (12, .d (DI (n : Nat))), (13, .d (DI (p.2 : Nat)))]) (fun p => p.1[0]? = some ⟨mcx n a, 0⟩ ∧ p.2 ≤ n ∧ isNilD (dfsR (dfG n a f []) p.2) = true) (fun p => n - p.2) (_, 0) ⟨rfl, Nat.zero_le _, rfl⟩ rfl (by simp [Go.Vm.look, extK, enterK]) ?_
    intro p hp
    obtain ⟨y0, hpn, hnil⟩ := hp
    refine KC.seq ?_
    refine KC.region ?_
    refine KT.step rfl rfl (K.lss rfl rfl) ?_
    refine KT.nil ?_
    refine thenK_n ?_
    refine KC.seq ?_
    refine KC.cond rfl (fun hc14 => ?_) (fun hc14 => ?_)
    · skip
      replace hc14 := of_decide_eq_true hc14
      refine KC.skip ?_
      refine thenK_n ?_
      refine KC.seq ?_
      refine KC.block ?_
      refine KC.seq ?_
      refine KC.region ?_
      refine KT.step rfl rfl (K.move rfl) ?_
      refine KT.step rfl rfl (K.assign rfl) ?_
      refine KT.nil ?_
      refine thenK_n ?_
      refine KC.seq ?_
      refine KC.seq ?_
      refine KC.region ?_
      refine KT.step rfl rfl (K.move rfl) ?_
      refine KT.step rfl rfl (K.move rfl) ?_
      refine KT.step rfl rfl (K.call2 rfl rfl plainTry_94 (contains94 (l := zl []) (wd0_ints []) (wd0_len (by simp)))) ?_
      refine KT.nil ?_
      refine thenK_n ?_
      refine KC.cond rfl (fun hc18 => ?_) (fun hc18 => ?_)
      · skip
        have hcq : p.2 ∈ ([] : List Nat) := zl_mem.1 (of_decide_eq_true hc18)
        refine KC.exit ?_
        refine thenK_x ?_
        refine blockK_e ?_
        refine thenK_n ?_
        refine KC.region ?_
        refine KT.step rfl rfl (K.add rfl rfl (wrap_id (by omega))) ?_
        refine KT.step rfl rfl (K.move rfl) ?_
        refine KT.nil ?_
        refine thenK_n ?_
        refine ⟨(_, p.2 + 1), ⟨y0, by simp only; omega, dfs_miss hnil (.inl hcq)⟩, by simp only; omega, rfl, by simp [Go.Vm.look, extK]⟩
      · skip
        have hcq : p.2 ∉ ([] : List Nat) := fun h => (of_decide_eq_false hc18) (zl_mem.2 h)
        refine KC.skip ?_
        refine thenK_n ?_
        refine KC.seq ?_
        refine KC.drawZ (fun id => 1 ≤ id) Try.mixed ?_
        refine KTZ.load rfl rfl rfl (by simp) (K.loadOA (mc n a) rfl y0 (by decide) Try.agg87 Try.size87 rfl) ?_
        refine KTZ.step rfl rfl (K.move rfl) ?_
        refine KTZ.step rfl rfl (K.call1 rfl plainTry_39 clone39_nil) ?_
        refine KTZ.step rfl rfl (K.move rfl) ?_
        refine KTZ.step rfl rfl (K.build1' (v := .d (DI (p.2 : Nat))) rfl rfl Try.underlying23 Try.one3) ?_
        refine KTZ.write rfl rfl ((fun id ob _ ho => ⟨ob, (List.getElem?_append_left (List.getElem?_eq_some_iff.1 ho).1).trans ho, rfl, Iff.rfl⟩)) (K.appQ0 rfl rfl (List.getElem?_concat_length ..) rfl Try.underlying23 Try.one3) ?_
        refine KTZ.step rfl rfl (K.callZ (ds := [.agg (mc n a), intsD (zl ([] ++ [p.2]))]) [(p.1 ++ [(⟨[.d (DI (p.2 : Nat))], 0⟩ : VObj)]).length] 5 rfl plainTry_54 (map2_deep (own_deep (l := zl ([] ++ [p.2])) (by rw [List.getElem?_concat_length]; rfl) (by simp) (by simp [zl_len]))) (wd0_cons ▸ ih p.2 (by omega) hcq)) ?_
        refine KTZ.step rfl rfl (K.assign rfl) ?_
        refine KTZ.nil ?_
        refine ⟨by kernel_rfl, ?_⟩
        refine thenK_n ?_
        refine KC.seq ?_
        have hp0 : 0 < p.1.length := (List.getElem?_eq_some_iff.1 y0).1
        have y0n : (freezeIds ((p.1 ++ [(⟨[.d (DI (p.2 : Nat))], 0⟩ : VObj)]) ++ [(⟨[.d (DI (p.2 : Nat))], 0⟩ : VObj)]) [(p.1 ++ [(⟨[.d (DI (p.2 : Nat))], 0⟩ : VObj)]).length])[0]? = some ⟨mcx n a, 0⟩ := (freezeIds_not (by simp)).trans ((List.getElem?_append_left (by simp)).trans ((List.getElem?_append_left hp0).trans y0))
        refine KC.region ?_
        refine KT.step rfl rfl (K.move rfl) ?_
        refine KT.step rfl rfl (K.neqNilD rfl (dfs_sl _ _) Try.underlying23) ?_
        refine KT.nil ?_
        refine thenK_n ?_
        refine KC.cond rfl (fun hc27 => ?_) (fun hc27 => ?_)
        · skip
          rw [Bool.not_eq_true'] at hc27
          refine KC.seq ?_
          refine KC.region ?_
          refine KT.step rfl rfl (K.move rfl) ?_
          refine KT.step rfl rfl (K.assign rfl) ?_
          refine KT.nil ?_
          refine thenK_n ?_
          refine KC.ret ?_
          refine blockK_r ?_
          refine thenK_r ?_
          refine thenK_r ?_
          refine blockK_r ?_
          refine thenK_r ?_
          exact ⟨.inl rfl, _, rfl, fin_d (dfs_hit hrf hnil (by omega) hcq hc27)⟩
        · skip
          rw [Bool.not_eq_false'] at hc27
          refine KC.skip ?_
          refine blockK_n ?_
          refine thenK_n ?_
          refine KC.region ?_
          refine KT.step rfl rfl (K.add rfl rfl (wrap_id (by omega))) ?_
          refine KT.step rfl rfl (K.move rfl) ?_
          refine KT.nil ?_
          refine thenK_n ?_
          refine ⟨(_, p.2 + 1), ⟨y0n, by simp only; omega, dfs_miss hnil (.inr hc27)⟩, by simp only; omega, rfl, by simp [Go.Vm.look, extK]⟩
    · skip
      replace hc14 := of_decide_eq_false hc14
      refine KC.exit ?_
      refine thenK_x ?_
      refine thenK_x ?_
      refine blockK_e ?_
      refine thenK_n ?_
      refine KC.seq ?_
      refine KC.region ?_
      refine KT.step rfl rfl (K.assign rfl) ?_
      refine KT.nil ?_
      refine thenK_n ?_
      refine KC.ret ?_
      have e : p.2 = n := by omega
      rw [e] at hnil
      exact ⟨.inl rfl, _, rfl, fin_d ((dfs_no hrf).trans ((dfsR_sl (fun c => dfG_sl c) n).nil_of hnil))⟩
set_option maxRecDepth 10000 in
theorem refut54_cons {n f : Nat} {a : Nat → Nat → Int} {q : List Nat} (hn : n ≤ 4) (ha : ZgM 5000 (Go.Zn.flo n a)) (hq : q ≠ []) (hql : q.length ≤ 4)
    (ih : ∀ c, c < n → c ∉ q → DeepCall Try.prog 54 [.agg (mc n a), wd0 (q ++ [c])] (dfs n a f (q ++ [c]))) : DeepCall Try.prog 54 [.agg (mc n a), wd0 q] (dfs n a (f + 1) q) := by
  refine deepCall_K 5 Try.func54 rfl (Nat.le_of_ble_eq_true rfl) fun M W0 => ?_
  refine KC.seq ?_
  refine KC.region ?_
  refine KT.step rfl rfl (K.box rfl) ?_
  refine KT.step rfl rfl (K.assign rfl) ?_
  refine KT.nil ?_
  refine thenK_n ?_
  refine KC.seq ?_
  refine KC.seq ?_
  refine KC.region ?_
  refine KT.step rfl rfl (K.loadOA (mc n a) rfl rfl (by decide) Try.agg87 Try.size87 rfl) ?_
  refine KT.step rfl rfl (K.move rfl) ?_
  refine KT.step rfl rfl (K.call2 rfl rfl plainTry_55 (refutedBy55 (l := zl q) (wd0_ints q) (wd0_len (by omega)) hn ha)) ?_
  refine KT.nil ?_
  refine thenK_n ?_
  refine KC.cond rfl (fun hc9 => ?_) (fun hc9 => ?_)
  · skip
    refine KC.seq ?_
    refine KC.region ?_
    refine KT.step rfl rfl (K.move rfl) ?_
    refine KT.step rfl rfl (K.assign rfl) ?_
    refine KT.nil ?_
    refine thenK_n ?_
    refine KC.ret ?_
    refine thenK_r ?_
    exact ⟨.inl rfl, _, rfl, fin_d (dfs_yes hc9)⟩
  · skip
    have hrf := hc9
    refine KC.skip ?_
    refine thenK_n ?_
    refine KC.seq ?_
    refine KC.seq ?_
    refine KC.region ?_
    refine KT.step rfl rfl (K.fieldAddrO rfl Try.fld87_0 Try.size3) ?_
    refine KT.step rfl rfl (K.loadO rfl rfl (by simp) rfl Try.agg3) ?_
    refine KT.step rfl rfl (K.move rfl) ?_
    refine KT.nil ?_
    refine thenK_n ?_
    refine KC.block ?_
    refine KC.loop (fun p : List VObj × Nat => p.1) (fun p => [(1, .d (wd0 q)), (2, .optr 0 0), (12, .d (DI (n : Nat))), (13, .d (DI (p.2 : Nat)))]) (fun p => p.1[0]? = some ⟨mcx n a, 0⟩ ∧ p.2 ≤ n ∧ isNilD (dfsR (dfG n a f q) p.2) = true) (fun p => n - p.2) (_, 0) ⟨rfl, Nat.zero_le _, rfl⟩ rfl (by simp [Go.Vm.look, extK, enterK]) ?_
    intro p hp
    obtain ⟨y0, hpn, hnil⟩ := hp
    refine KC.seq ?_
    refine KC.region ?_
    refine KT.step rfl rfl (K.lss rfl rfl) ?_
    refine KT.nil ?_
    refine thenK_n ?_
    refine KC.seq ?_
    refine KC.cond rfl (fun hc14 => ?_) (fun hc14 => ?_)
    · skip
      replace hc14 := of_decide_eq_true hc14
      refine KC.skip ?_
      refine thenK_n ?_
      refine KC.seq ?_
      refine KC.block ?_
      refine KC.seq ?_
      refine KC.region ?_
      refine KT.step rfl rfl (K.move rfl) ?_
      refine KT.step rfl rfl (K.assign rfl) ?_
      refine KT.nil ?_
      refine thenK_n ?_
      refine KC.seq ?_
      refine KC.seq ?_
      refine KC.region ?_
      refine KT.step rfl rfl (K.move rfl) ?_
      refine KT.step rfl rfl (K.move rfl) ?_
      refine KT.step rfl rfl (K.call2 rfl rfl plainTry_94 (contains94 (l := zl q) (wd0_ints q) (wd0_len (by omega)))) ?_
      refine KT.nil ?_
      refine thenK_n ?_
      refine KC.cond rfl (fun hc18 => ?_) (fun hc18 => ?_)
      · skip
        have hcq : p.2 ∈ q := zl_mem.1 (of_decide_eq_true hc18)
        refine KC.exit ?_
        refine thenK_x ?_
        refine blockK_e ?_
        refine thenK_n ?_
        refine KC.region ?_
        refine KT.step rfl rfl (K.add rfl rfl (wrap_id (by omega))) ?_
        refine KT.step rfl rfl (K.move rfl) ?_
        refine KT.nil ?_
        refine thenK_n ?_
        refine ⟨(_, p.2 + 1), ⟨y0, by simp only; omega, dfs_miss hnil (.inl hcq)⟩, by simp only; omega, rfl, by simp [Go.Vm.look, extK]⟩
      · skip
        have hcq : p.2 ∉ q := fun h => (of_decide_eq_false hc18) (zl_mem.2 h)
        refine KC.skip ?_
        refine thenK_n ?_
        refine KC.seq ?_
        refine KC.weaken (kn' := [(1, .d (wd0 q)), (2, .optr 0 0), (12, .d (DI (n : Nat))), (13, .d (DI (p.2 : Nat))), (5, .d (DI (p.2 : Nat)))]) ?_ (by simp [Go.Vm.look, extK, enterK])
        refine KC.ordersN Try.mixed (m := 8) rfl (T' := fun e τ k => e = .normal ∧ τ[0]? = some ⟨mcx n a, 0⟩ ∧ ∀ e ∈ ([(1, .d (wd0 q)), (2, .optr 0 0), (12, .d (DI (n : Nat))), (13, .d (DI (p.2 : Nat))), (6, .d (dfs n a f (q ++ [p.2])))] : Kn), Go.Vm.look k e.1 = some e.2) ?_ ?_
        · skip
          refine KA.next (i0 := 0) (r := [1, 3]) (by kernel_rfl) ?_
          refine KAll.cons ?_ (KAll.cons ?_ (KAll.cons ?_ KAll.nil))
          · refine KO.op rfl rfl rfl (K.loadOA (mc n a) rfl y0 (by decide) Try.agg87 Try.size87 rfl) ?_
            refine KA.next (i0 := 1) (r := [3]) (by kernel_rfl) ?_
            refine KAll.cons ?_ (KAll.cons ?_ KAll.nil)
            · refine KO.op rfl rfl rfl (K.move rfl) ?_
              refine KA.next (i0 := 2) (r := [3]) (by kernel_rfl) ?_
              refine KAll.cons ?_ (KAll.cons ?_ KAll.nil)
              · refine KO.op rfl rfl rfl (K.callG (τ := [⟨[], 0⟩, ⟨cellsI (zl q), 0⟩]) rfl plainTry_39 (clone39_ints (wd0_ints q) (by rw [zl_len]; exact fun h => hq (List.length_eq_zero_iff.1 h)) (by rw [zl_len]; omega))) ?_
                refine KA.next (i0 := 3) (r := []) (by kernel_rfl) ?_
                refine KAll.cons ?_ KAll.nil
                · refine KO.op rfl rfl rfl (K.move rfl) ?_
                  refine KA.next (i0 := 4) (r := []) (by kernel_rfl) ?_
                  refine KAll.cons ?_ KAll.nil
                  · refine KO.op rfl rfl rfl (K.build1' (v := .d (DI (p.2 : Nat))) rfl rfl Try.underlying23 Try.one3) ?_
                    refine KA.next (i0 := 5) (r := []) (by kernel_rfl) ?_
                    refine KAll.cons ?_ KAll.nil
                    · refine KO.op rfl rfl rfl (K.appQ1 (cells := cellsI (zl q)) rfl rfl (get_left own_get) (cellsI_len _) (List.getElem?_concat_length ..) rfl (by rw [zl_len]; omega) Try.underlying23 Try.one3) ?_
                      refine KA.next (i0 := 6) (r := []) (by kernel_rfl) ?_
                      refine KAll.cons ?_ KAll.nil
                      · refine KO.op rfl rfl rfl (K.callZ (ds := [.agg (mc n a), intsD (zl (q ++ [p.2]))]) [((p.1 ++ [(⟨[], 0⟩ : VObj), ⟨cellsI (zl q), 0⟩]) ++ [(⟨[.d (DI (p.2 : Nat))], 0⟩ : VObj)]).length] 5 rfl plainTry_54 (map2_deep (own_deep (l := zl (q ++ [p.2])) (new_deep ((p.1 ++ [(⟨[], 0⟩ : VObj), ⟨cellsI (zl q), 0⟩]) ++ [(⟨[.d (DI (p.2 : Nat))], 0⟩ : VObj)]).length (by rw [List.length_set])) (by simp) (by simp [zl_len]))) (wd0_cons ▸ ih p.2 (by omega) hcq)) ?_
                        refine KA.next (i0 := 7) (r := []) (by kernel_rfl) ?_
                        refine KAll.cons ?_ KAll.nil
                        · refine KO.op rfl rfl rfl (K.assign rfl) ?_
                          exact KA.done (by kernel_rfl) ⟨rfl, ((freezeIds_not (by simp)).trans (get_left (set_zero (show p.1.length + 1 ≠ 0 by omega) (get_left (get_left y0))))), (by simp [Go.Vm.look, extK, enterK])⟩
              · refine KO.op rfl rfl rfl (K.move rfl) ?_
                refine KA.next (i0 := 2) (r := [4]) (by kernel_rfl) ?_
                refine KAll.cons ?_ (KAll.cons ?_ KAll.nil)
                · refine KO.op rfl rfl rfl (K.callG (τ := [⟨[], 0⟩, ⟨cellsI (zl q), 0⟩]) rfl plainTry_39 (clone39_ints (wd0_ints q) (by rw [zl_len]; exact fun h => hq (List.length_eq_zero_iff.1 h)) (by rw [zl_len]; omega))) ?_
                  refine KA.next (i0 := 4) (r := []) (by kernel_rfl) ?_
                  refine KAll.cons ?_ KAll.nil
                  · refine KO.op rfl rfl rfl (K.build1' (v := .d (DI (p.2 : Nat))) rfl rfl Try.underlying23 Try.one3) ?_
                    refine KA.next (i0 := 5) (r := []) (by kernel_rfl) ?_
                    refine KAll.cons ?_ KAll.nil
                    · refine KO.op rfl rfl rfl (K.appQ1 (cells := cellsI (zl q)) rfl rfl (get_left own_get) (cellsI_len _) (List.getElem?_concat_length ..) rfl (by rw [zl_len]; omega) Try.underlying23 Try.one3) ?_
                      refine KA.next (i0 := 6) (r := []) (by kernel_rfl) ?_
                      refine KAll.cons ?_ KAll.nil
                      · refine KO.op rfl rfl rfl (K.callZ (ds := [.agg (mc n a), intsD (zl (q ++ [p.2]))]) [((p.1 ++ [(⟨[], 0⟩ : VObj), ⟨cellsI (zl q), 0⟩]) ++ [(⟨[.d (DI (p.2 : Nat))], 0⟩ : VObj)]).length] 5 rfl plainTry_54 (map2_deep (own_deep (l := zl (q ++ [p.2])) (new_deep ((p.1 ++ [(⟨[], 0⟩ : VObj), ⟨cellsI (zl q), 0⟩]) ++ [(⟨[.d (DI (p.2 : Nat))], 0⟩ : VObj)]).length (by rw [List.length_set])) (by simp) (by simp [zl_len]))) (wd0_cons ▸ ih p.2 (by omega) hcq)) ?_
                        refine KA.next (i0 := 7) (r := []) (by kernel_rfl) ?_
                        refine KAll.cons ?_ KAll.nil
                        · refine KO.op rfl rfl rfl (K.assign rfl) ?_
                          exact KA.done (by kernel_rfl) ⟨rfl, ((freezeIds_not (by simp)).trans (get_left (set_zero (show p.1.length + 1 ≠ 0 by omega) (get_left (get_left y0))))), (by simp [Go.Vm.look, extK, enterK])⟩
                · refine KO.op rfl rfl rfl (K.build1' (v := .d (DI (p.2 : Nat))) rfl rfl Try.underlying23 Try.one3) ?_
                  refine KA.next (i0 := 2) (r := []) (by kernel_rfl) ?_
                  refine KAll.cons ?_ KAll.nil
                  · refine KO.op rfl rfl rfl (K.callG (τ := [⟨[], 0⟩, ⟨cellsI (zl q), 0⟩]) rfl plainTry_39 (clone39_ints (wd0_ints q) (by rw [zl_len]; exact fun h => hq (List.length_eq_zero_iff.1 h)) (by rw [zl_len]; omega))) ?_
                    refine KA.next (i0 := 5) (r := []) (by kernel_rfl) ?_
                    refine KAll.cons ?_ KAll.nil
                    · refine KO.op rfl rfl rfl (K.appQ1 (cells := cellsI (zl q)) rfl rfl own_get (cellsI_len _) (get_left (List.getElem?_concat_length ..)) rfl (by rw [zl_len]; omega) Try.underlying23 Try.one3) ?_
                      refine KA.next (i0 := 6) (r := []) (by kernel_rfl) ?_
                      refine KAll.cons ?_ KAll.nil
                      · refine KO.op rfl rfl rfl (K.callZ (ds := [.agg (mc n a), intsD (zl (q ++ [p.2]))]) [((p.1 ++ [(⟨[.d (DI (p.2 : Nat))], 0⟩ : VObj)]) ++ [(⟨[], 0⟩ : VObj), ⟨cellsI (zl q), 0⟩]).length] 5 rfl plainTry_54 (map2_deep (own_deep (l := zl (q ++ [p.2])) (new_deep ((p.1 ++ [(⟨[.d (DI (p.2 : Nat))], 0⟩ : VObj)]) ++ [(⟨[], 0⟩ : VObj), ⟨cellsI (zl q), 0⟩]).length (by rw [List.length_set])) (by simp) (by simp [zl_len]))) (wd0_cons ▸ ih p.2 (by omega) hcq)) ?_
                        refine KA.next (i0 := 7) (r := []) (by kernel_rfl) ?_
                        refine KAll.cons ?_ KAll.nil
                        · refine KO.op rfl rfl rfl (K.assign rfl) ?_
                          exact KA.done (by kernel_rfl) ⟨rfl, ((freezeIds_not (by simp)).trans (get_left (set_zero (show (p.1 ++ [(⟨[.d (DI (p.2 : Nat))], 0⟩ : VObj)]).length + 1 ≠ 0 by omega) (get_left (get_left y0))))), (by simp [Go.Vm.look, extK, enterK])⟩
            · refine KO.op rfl rfl rfl (K.move rfl) ?_
              refine KA.next (i0 := 1) (r := [4]) (by kernel_rfl) ?_
              refine KAll.cons ?_ (KAll.cons ?_ KAll.nil)
              · refine KO.op rfl rfl rfl (K.move rfl) ?_
                refine KA.next (i0 := 2) (r := [4]) (by kernel_rfl) ?_
                refine KAll.cons ?_ (KAll.cons ?_ KAll.nil)
                · refine KO.op rfl rfl rfl (K.callG (τ := [⟨[], 0⟩, ⟨cellsI (zl q), 0⟩]) rfl plainTry_39 (clone39_ints (wd0_ints q) (by rw [zl_len]; exact fun h => hq (List.length_eq_zero_iff.1 h)) (by rw [zl_len]; omega))) ?_
                  refine KA.next (i0 := 4) (r := []) (by kernel_rfl) ?_
                  refine KAll.cons ?_ KAll.nil
                  · refine KO.op rfl rfl rfl (K.build1' (v := .d (DI (p.2 : Nat))) rfl rfl Try.underlying23 Try.one3) ?_
                    refine KA.next (i0 := 5) (r := []) (by kernel_rfl) ?_
                    refine KAll.cons ?_ KAll.nil
                    · refine KO.op rfl rfl rfl (K.appQ1 (cells := cellsI (zl q)) rfl rfl (get_left own_get) (cellsI_len _) (List.getElem?_concat_length ..) rfl (by rw [zl_len]; omega) Try.underlying23 Try.one3) ?_
                      refine KA.next (i0 := 6) (r := []) (by kernel_rfl) ?_
                      refine KAll.cons ?_ KAll.nil
                      · refine KO.op rfl rfl rfl (K.callZ (ds := [.agg (mc n a), intsD (zl (q ++ [p.2]))]) [((p.1 ++ [(⟨[], 0⟩ : VObj), ⟨cellsI (zl q), 0⟩]) ++ [(⟨[.d (DI (p.2 : Nat))], 0⟩ : VObj)]).length] 5 rfl plainTry_54 (map2_deep (own_deep (l := zl (q ++ [p.2])) (new_deep ((p.1 ++ [(⟨[], 0⟩ : VObj), ⟨cellsI (zl q), 0⟩]) ++ [(⟨[.d (DI (p.2 : Nat))], 0⟩ : VObj)]).length (by rw [List.length_set])) (by simp) (by simp [zl_len]))) (wd0_cons ▸ ih p.2 (by omega) hcq)) ?_
                        refine KA.next (i0 := 7) (r := []) (by kernel_rfl) ?_
                        refine KAll.cons ?_ KAll.nil
                        · refine KO.op rfl rfl rfl (K.assign rfl) ?_
                          exact KA.done (by kernel_rfl) ⟨rfl, ((freezeIds_not (by simp)).trans (get_left (set_zero (show p.1.length + 1 ≠ 0 by omega) (get_left (get_left y0))))), (by simp [Go.Vm.look, extK, enterK])⟩
                · refine KO.op rfl rfl rfl (K.build1' (v := .d (DI (p.2 : Nat))) rfl rfl Try.underlying23 Try.one3) ?_
                  refine KA.next (i0 := 2) (r := []) (by kernel_rfl) ?_
                  refine KAll.cons ?_ KAll.nil
                  · refine KO.op rfl rfl rfl (K.callG (τ := [⟨[], 0⟩, ⟨cellsI (zl q), 0⟩]) rfl plainTry_39 (clone39_ints (wd0_ints q) (by rw [zl_len]; exact fun h => hq (List.length_eq_zero_iff.1 h)) (by rw [zl_len]; omega))) ?_
                    refine KA.next (i0 := 5) (r := []) (by kernel_rfl) ?_
                    refine KAll.cons ?_ KAll.nil
                    · refine KO.op rfl rfl rfl (K.appQ1 (cells := cellsI (zl q)) rfl rfl own_get (cellsI_len _) (get_left (List.getElem?_concat_length ..)) rfl (by rw [zl_len]; omega) Try.underlying23 Try.one3) ?_
                      refine KA.next (i0 := 6) (r := []) (by kernel_rfl) ?_
                      refine KAll.cons ?_ KAll.nil
                      · refine KO.op rfl rfl rfl (K.callZ (ds := [.agg (mc n a), intsD (zl (q ++ [p.2]))]) [((p.1 ++ [(⟨[.d (DI (p.2 : Nat))], 0⟩ : VObj)]) ++ [(⟨[], 0⟩ : VObj), ⟨cellsI (zl q), 0⟩]).length] 5 rfl plainTry_54 (map2_deep (own_deep (l := zl (q ++ [p.2])) (new_deep ((p.1 ++ [(⟨[.d (DI (p.2 : Nat))], 0⟩ : VObj)]) ++ [(⟨[], 0⟩ : VObj), ⟨cellsI (zl q), 0⟩]).length (by rw [List.length_set])) (by simp) (by simp [zl_len]))) (wd0_cons ▸ ih p.2 (by omega) hcq)) ?_
                        refine KA.next (i0 := 7) (r := []) (by kernel_rfl) ?_
                        refine KAll.cons ?_ KAll.nil
                        · refine KO.op rfl rfl rfl (K.assign rfl) ?_
                          exact KA.done (by kernel_rfl) ⟨rfl, ((freezeIds_not (by simp)).trans (get_left (set_zero (show (p.1 ++ [(⟨[.d (DI (p.2 : Nat))], 0⟩ : VObj)]).length + 1 ≠ 0 by omega) (get_left (get_left y0))))), (by simp [Go.Vm.look, extK, enterK])⟩
              · refine KO.op rfl rfl rfl (K.build1' (v := .d (DI (p.2 : Nat))) rfl rfl Try.underlying23 Try.one3) ?_
                refine KA.next (i0 := 1) (r := []) (by kernel_rfl) ?_
                refine KAll.cons ?_ KAll.nil
                · refine KO.op rfl rfl rfl (K.move rfl) ?_
                  refine KA.next (i0 := 2) (r := []) (by kernel_rfl) ?_
                  refine KAll.cons ?_ KAll.nil
                  · refine KO.op rfl rfl rfl (K.callG (τ := [⟨[], 0⟩, ⟨cellsI (zl q), 0⟩]) rfl plainTry_39 (clone39_ints (wd0_ints q) (by rw [zl_len]; exact fun h => hq (List.length_eq_zero_iff.1 h)) (by rw [zl_len]; omega))) ?_
                    refine KA.next (i0 := 5) (r := []) (by kernel_rfl) ?_
                    refine KAll.cons ?_ KAll.nil
                    · refine KO.op rfl rfl rfl (K.appQ1 (cells := cellsI (zl q)) rfl rfl own_get (cellsI_len _) (get_left (List.getElem?_concat_length ..)) rfl (by rw [zl_len]; omega) Try.underlying23 Try.one3) ?_
                      refine KA.next (i0 := 6) (r := []) (by kernel_rfl) ?_
                      refine KAll.cons ?_ KAll.nil
                      · refine KO.op rfl rfl rfl (K.callZ (ds := [.agg (mc n a), intsD (zl (q ++ [p.2]))]) [((p.1 ++ [(⟨[.d (DI (p.2 : Nat))], 0⟩ : VObj)]) ++ [(⟨[], 0⟩ : VObj), ⟨cellsI (zl q), 0⟩]).length] 5 rfl plainTry_54 (map2_deep (own_deep (l := zl (q ++ [p.2])) (new_deep ((p.1 ++ [(⟨[.d (DI (p.2 : Nat))], 0⟩ : VObj)]) ++ [(⟨[], 0⟩ : VObj), ⟨cellsI (zl q), 0⟩]).length (by rw [List.length_set])) (by simp) (by simp [zl_len]))) (wd0_cons ▸ ih p.2 (by omega) hcq)) ?_
                        refine KA.next (i0 := 7) (r := []) (by kernel_rfl) ?_
                        refine KAll.cons ?_ KAll.nil
                        · refine KO.op rfl rfl rfl (K.assign rfl) ?_
                          exact KA.done (by kernel_rfl) ⟨rfl, ((freezeIds_not (by simp)).trans (get_left (set_zero (show (p.1 ++ [(⟨[.d (DI (p.2 : Nat))], 0⟩ : VObj)]).length + 1 ≠ 0 by omega) (get_left (get_left y0))))), (by simp [Go.Vm.look, extK, enterK])⟩
          · refine KO.op rfl rfl rfl (K.move rfl) ?_
            refine KA.next (i0 := 0) (r := [2, 3]) (by kernel_rfl) ?_
            refine KAll.cons ?_ (KAll.cons ?_ (KAll.cons ?_ KAll.nil))
            · refine KO.op rfl rfl rfl (K.loadOA (mc n a) rfl y0 (by decide) Try.agg87 Try.size87 rfl) ?_
              refine KA.next (i0 := 2) (r := [3]) (by kernel_rfl) ?_
              refine KAll.cons ?_ (KAll.cons ?_ KAll.nil)
              · refine KO.op rfl rfl rfl (K.callG (τ := [⟨[], 0⟩, ⟨cellsI (zl q), 0⟩]) rfl plainTry_39 (clone39_ints (wd0_ints q) (by rw [zl_len]; exact fun h => hq (List.length_eq_zero_iff.1 h)) (by rw [zl_len]; omega))) ?_
                refine KA.next (i0 := 3) (r := []) (by kernel_rfl) ?_
                refine KAll.cons ?_ KAll.nil
                · refine KO.op rfl rfl rfl (K.move rfl) ?_
                  refine KA.next (i0 := 4) (r := []) (by kernel_rfl) ?_
                  refine KAll.cons ?_ KAll.nil
                  · refine KO.op rfl rfl rfl (K.build1' (v := .d (DI (p.2 : Nat))) rfl rfl Try.underlying23 Try.one3) ?_
                    refine KA.next (i0 := 5) (r := []) (by kernel_rfl) ?_
                    refine KAll.cons ?_ KAll.nil
                    · refine KO.op rfl rfl rfl (K.appQ1 (cells := cellsI (zl q)) rfl rfl (get_left own_get) (cellsI_len _) (List.getElem?_concat_length ..) rfl (by rw [zl_len]; omega) Try.underlying23 Try.one3) ?_
                      refine KA.next (i0 := 6) (r := []) (by kernel_rfl) ?_
                      refine KAll.cons ?_ KAll.nil
                      · refine KO.op rfl rfl rfl (K.callZ (ds := [.agg (mc n a), intsD (zl (q ++ [p.2]))]) [((p.1 ++ [(⟨[], 0⟩ : VObj), ⟨cellsI (zl q), 0⟩]) ++ [(⟨[.d (DI (p.2 : Nat))], 0⟩ : VObj)]).length] 5 rfl plainTry_54 (map2_deep (own_deep (l := zl (q ++ [p.2])) (new_deep ((p.1 ++ [(⟨[], 0⟩ : VObj), ⟨cellsI (zl q), 0⟩]) ++ [(⟨[.d (DI (p.2 : Nat))], 0⟩ : VObj)]).length (by rw [List.length_set])) (by simp) (by simp [zl_len]))) (wd0_cons ▸ ih p.2 (by omega) hcq)) ?_
                        refine KA.next (i0 := 7) (r := []) (by kernel_rfl) ?_
                        refine KAll.cons ?_ KAll.nil
                        · refine KO.op rfl rfl rfl (K.assign rfl) ?_
                          exact KA.done (by kernel_rfl) ⟨rfl, ((freezeIds_not (by simp)).trans (get_left (set_zero (show p.1.length + 1 ≠ 0 by omega) (get_left (get_left y0))))), (by simp [Go.Vm.look, extK, enterK])⟩
              · refine KO.op rfl rfl rfl (K.move rfl) ?_
                refine KA.next (i0 := 2) (r := [4]) (by kernel_rfl) ?_
                refine KAll.cons ?_ (KAll.cons ?_ KAll.nil)
                · refine KO.op rfl rfl rfl (K.callG (τ := [⟨[], 0⟩, ⟨cellsI (zl q), 0⟩]) rfl plainTry_39 (clone39_ints (wd0_ints q) (by rw [zl_len]; exact fun h => hq (List.length_eq_zero_iff.1 h)) (by rw [zl_len]; omega))) ?_
                  refine KA.next (i0 := 4) (r := []) (by kernel_rfl) ?_
                  refine KAll.cons ?_ KAll.nil
                  · refine KO.op rfl rfl rfl (K.build1' (v := .d (DI (p.2 : Nat))) rfl rfl Try.underlying23 Try.one3) ?_
                    refine KA.next (i0 := 5) (r := []) (by kernel_rfl) ?_
                    refine KAll.cons ?_ KAll.nil
                    · refine KO.op rfl rfl rfl (K.appQ1 (cells := cellsI (zl q)) rfl rfl (get_left own_get) (cellsI_len _) (List.getElem?_concat_length ..) rfl (by rw [zl_len]; omega) Try.underlying23 Try.one3) ?_
                      refine KA.next (i0 := 6) (r := []) (by kernel_rfl) ?_
                      refine KAll.cons ?_ KAll.nil
                      · refine KO.op rfl rfl rfl (K.callZ (ds := [.agg (mc n a), intsD (zl (q ++ [p.2]))]) [((p.1 ++ [(⟨[], 0⟩ : VObj), ⟨cellsI (zl q), 0⟩]) ++ [(⟨[.d (DI (p.2 : Nat))], 0⟩ : VObj)]).length] 5 rfl plainTry_54 (map2_deep (own_deep (l := zl (q ++ [p.2])) (new_deep ((p.1 ++ [(⟨[], 0⟩ : VObj), ⟨cellsI (zl q), 0⟩]) ++ [(⟨[.d (DI (p.2 : Nat))], 0⟩ : VObj)]).length (by rw [List.length_set])) (by simp) (by simp [zl_len]))) (wd0_cons ▸ ih p.2 (by omega) hcq)) ?_
                        refine KA.next (i0 := 7) (r := []) (by kernel_rfl) ?_
                        refine KAll.cons ?_ KAll.nil
                        · refine KO.op rfl rfl rfl (K.assign rfl) ?_
                          exact KA.done (by kernel_rfl) ⟨rfl, ((freezeIds_not (by simp)).trans (get_left (set_zero (show p.1.length + 1 ≠ 0 by omega) (get_left (get_left y0))))), (by simp [Go.Vm.look, extK, enterK])⟩
                · refine KO.op rfl rfl rfl (K.build1' (v := .d (DI (p.2 : Nat))) rfl rfl Try.underlying23 Try.one3) ?_
                  refine KA.next (i0 := 2) (r := []) (by kernel_rfl) ?_
                  refine KAll.cons ?_ KAll.nil
                  · refine KO.op rfl rfl rfl (K.callG (τ := [⟨[], 0⟩, ⟨cellsI (zl q), 0⟩]) rfl plainTry_39 (clone39_ints (wd0_ints q) (by rw [zl_len]; exact fun h => hq (List.length_eq_zero_iff.1 h)) (by rw [zl_len]; omega))) ?_
                    refine KA.next (i0 := 5) (r := []) (by kernel_rfl) ?_
                    refine KAll.cons ?_ KAll.nil
                    · refine KO.op rfl rfl rfl (K.appQ1 (cells := cellsI (zl q)) rfl rfl own_get (cellsI_len _) (get_left (List.getElem?_concat_length ..)) rfl (by rw [zl_len]; omega) Try.underlying23 Try.one3) ?_
                      refine KA.next (i0 := 6) (r := []) (by kernel_rfl) ?_
                      refine KAll.cons ?_ KAll.nil
                      · refine KO.op rfl rfl rfl (K.callZ (ds := [.agg (mc n a), intsD (zl (q ++ [p.2]))]) [((p.1 ++ [(⟨[.d (DI (p.2 : Nat))], 0⟩ : VObj)]) ++ [(⟨[], 0⟩ : VObj), ⟨cellsI (zl q), 0⟩]).length] 5 rfl plainTry_54 (map2_deep (own_deep (l := zl (q ++ [p.2])) (new_deep ((p.1 ++ [(⟨[.d (DI (p.2 : Nat))], 0⟩ : VObj)]) ++ [(⟨[], 0⟩ : VObj), ⟨cellsI (zl q), 0⟩]).length (by rw [List.length_set])) (by simp) (by simp [zl_len]))) (wd0_cons ▸ ih p.2 (by omega) hcq)) ?_
                        refine KA.next (i0 := 7) (r := []) (by kernel_rfl) ?_
                        refine KAll.cons ?_ KAll.nil
                        · refine KO.op rfl rfl rfl (K.assign rfl) ?_
                          exact KA.done (by kernel_rfl) ⟨rfl, ((freezeIds_not (by simp)).trans (get_left (set_zero (show (p.1 ++ [(⟨[.d (DI (p.2 : Nat))], 0⟩ : VObj)]).length + 1 ≠ 0 by omega) (get_left (get_left y0))))), (by simp [Go.Vm.look, extK, enterK])⟩
            · refine KO.op rfl rfl rfl (K.callG (τ := [⟨[], 0⟩, ⟨cellsI (zl q), 0⟩]) rfl plainTry_39 (clone39_ints (wd0_ints q) (by rw [zl_len]; exact fun h => hq (List.length_eq_zero_iff.1 h)) (by rw [zl_len]; omega))) ?_
              refine KA.next (i0 := 0) (r := [3]) (by kernel_rfl) ?_
              refine KAll.cons ?_ (KAll.cons ?_ KAll.nil)
              · refine KO.op rfl rfl rfl (K.loadOA (mc n a) rfl (get_left y0) (by decide) Try.agg87 Try.size87 rfl) ?_
                refine KA.next (i0 := 3) (r := []) (by kernel_rfl) ?_
                refine KAll.cons ?_ KAll.nil
                · refine KO.op rfl rfl rfl (K.move rfl) ?_
                  refine KA.next (i0 := 4) (r := []) (by kernel_rfl) ?_
                  refine KAll.cons ?_ KAll.nil
                  · refine KO.op rfl rfl rfl (K.build1' (v := .d (DI (p.2 : Nat))) rfl rfl Try.underlying23 Try.one3) ?_
                    refine KA.next (i0 := 5) (r := []) (by kernel_rfl) ?_
                    refine KAll.cons ?_ KAll.nil
                    · refine KO.op rfl rfl rfl (K.appQ1 (cells := cellsI (zl q)) rfl rfl (get_left own_get) (cellsI_len _) (List.getElem?_concat_length ..) rfl (by rw [zl_len]; omega) Try.underlying23 Try.one3) ?_
                      refine KA.next (i0 := 6) (r := []) (by kernel_rfl) ?_
                      refine KAll.cons ?_ KAll.nil
                      · refine KO.op rfl rfl rfl (K.callZ (ds := [.agg (mc n a), intsD (zl (q ++ [p.2]))]) [((p.1 ++ [(⟨[], 0⟩ : VObj), ⟨cellsI (zl q), 0⟩]) ++ [(⟨[.d (DI (p.2 : Nat))], 0⟩ : VObj)]).length] 5 rfl plainTry_54 (map2_deep (own_deep (l := zl (q ++ [p.2])) (new_deep ((p.1 ++ [(⟨[], 0⟩ : VObj), ⟨cellsI (zl q), 0⟩]) ++ [(⟨[.d (DI (p.2 : Nat))], 0⟩ : VObj)]).length (by rw [List.length_set])) (by simp) (by simp [zl_len]))) (wd0_cons ▸ ih p.2 (by omega) hcq)) ?_
                        refine KA.next (i0 := 7) (r := []) (by kernel_rfl) ?_
                        refine KAll.cons ?_ KAll.nil
                        · refine KO.op rfl rfl rfl (K.assign rfl) ?_
                          exact KA.done (by kernel_rfl) ⟨rfl, ((freezeIds_not (by simp)).trans (get_left (set_zero (show p.1.length + 1 ≠ 0 by omega) (get_left (get_left y0))))), (by simp [Go.Vm.look, extK, enterK])⟩
              · refine KO.op rfl rfl rfl (K.move rfl) ?_
                refine KA.next (i0 := 0) (r := [4]) (by kernel_rfl) ?_
                refine KAll.cons ?_ (KAll.cons ?_ KAll.nil)
                · refine KO.op rfl rfl rfl (K.loadOA (mc n a) rfl (get_left y0) (by decide) Try.agg87 Try.size87 rfl) ?_
                  refine KA.next (i0 := 4) (r := []) (by kernel_rfl) ?_
                  refine KAll.cons ?_ KAll.nil
                  · refine KO.op rfl rfl rfl (K.build1' (v := .d (DI (p.2 : Nat))) rfl rfl Try.underlying23 Try.one3) ?_
                    refine KA.next (i0 := 5) (r := []) (by kernel_rfl) ?_
                    refine KAll.cons ?_ KAll.nil
                    · refine KO.op rfl rfl rfl (K.appQ1 (cells := cellsI (zl q)) rfl rfl (get_left own_get) (cellsI_len _) (List.getElem?_concat_length ..) rfl (by rw [zl_len]; omega) Try.underlying23 Try.one3) ?_
                      refine KA.next (i0 := 6) (r := []) (by kernel_rfl) ?_
                      refine KAll.cons ?_ KAll.nil
                      · refine KO.op rfl rfl rfl (K.callZ (ds := [.agg (mc n a), intsD (zl (q ++ [p.2]))]) [((p.1 ++ [(⟨[], 0⟩ : VObj), ⟨cellsI (zl q), 0⟩]) ++ [(⟨[.d (DI (p.2 : Nat))], 0⟩ : VObj)]).length] 5 rfl plainTry_54 (map2_deep (own_deep (l := zl (q ++ [p.2])) (new_deep ((p.1 ++ [(⟨[], 0⟩ : VObj), ⟨cellsI (zl q), 0⟩]) ++ [(⟨[.d (DI (p.2 : Nat))], 0⟩ : VObj)]).length (by rw [List.length_set])) (by simp) (by simp [zl_len]))) (wd0_cons ▸ ih p.2 (by omega) hcq)) ?_
                        refine KA.next (i0 := 7) (r := []) (by kernel_rfl) ?_
                        refine KAll.cons ?_ KAll.nil
                        · refine KO.op rfl rfl rfl (K.assign rfl) ?_
                          exact KA.done (by kernel_rfl) ⟨rfl, ((freezeIds_not (by simp)).trans (get_left (set_zero (show p.1.length + 1 ≠ 0 by omega) (get_left (get_left y0))))), (by simp [Go.Vm.look, extK, enterK])⟩
                · refine KO.op rfl rfl rfl (K.build1' (v := .d (DI (p.2 : Nat))) rfl rfl Try.underlying23 Try.one3) ?_
                  refine KA.next (i0 := 0) (r := [5]) (by kernel_rfl) ?_
                  refine KAll.cons ?_ (KAll.cons ?_ KAll.nil)
                  · refine KO.op rfl rfl rfl (K.loadOA (mc n a) rfl (get_left (get_left y0)) (by decide) Try.agg87 Try.size87 rfl) ?_
                    refine KA.next (i0 := 5) (r := []) (by kernel_rfl) ?_
                    refine KAll.cons ?_ KAll.nil
                    · refine KO.op rfl rfl rfl (K.appQ1 (cells := cellsI (zl q)) rfl rfl (get_left own_get) (cellsI_len _) (List.getElem?_concat_length ..) rfl (by rw [zl_len]; omega) Try.underlying23 Try.one3) ?_
                      refine KA.next (i0 := 6) (r := []) (by kernel_rfl) ?_
                      refine KAll.cons ?_ KAll.nil
                      · refine KO.op rfl rfl rfl (K.callZ (ds := [.agg (mc n a), intsD (zl (q ++ [p.2]))]) [((p.1 ++ [(⟨[], 0⟩ : VObj), ⟨cellsI (zl q), 0⟩]) ++ [(⟨[.d (DI (p.2 : Nat))], 0⟩ : VObj)]).length] 5 rfl plainTry_54 (map2_deep (own_deep (l := zl (q ++ [p.2])) (new_deep ((p.1 ++ [(⟨[], 0⟩ : VObj), ⟨cellsI (zl q), 0⟩]) ++ [(⟨[.d (DI (p.2 : Nat))], 0⟩ : VObj)]).length (by rw [List.length_set])) (by simp) (by simp [zl_len]))) (wd0_cons ▸ ih p.2 (by omega) hcq)) ?_
                        refine KA.next (i0 := 7) (r := []) (by kernel_rfl) ?_
                        refine KAll.cons ?_ KAll.nil
                        · refine KO.op rfl rfl rfl (K.assign rfl) ?_
                          exact KA.done (by kernel_rfl) ⟨rfl, ((freezeIds_not (by simp)).trans (get_left (set_zero (show p.1.length + 1 ≠ 0 by omega) (get_left (get_left y0))))), (by simp [Go.Vm.look, extK, enterK])⟩
                  · refine KO.op rfl rfl rfl (K.appQ1 (cells := cellsI (zl q)) rfl rfl (get_left own_get) (cellsI_len _) (List.getElem?_concat_length ..) rfl (by rw [zl_len]; omega) Try.underlying23 Try.one3) ?_
                    refine KA.next (i0 := 0) (r := []) (by kernel_rfl) ?_
                    refine KAll.cons ?_ KAll.nil
                    · refine KO.op rfl rfl rfl (K.loadOA (mc n a) rfl (get_left (set_zero (show p.1.length + 1 ≠ 0 by omega) (get_left (get_left y0)))) (by decide) Try.agg87 Try.size87 rfl) ?_
                      refine KA.next (i0 := 6) (r := []) (by kernel_rfl) ?_
                      refine KAll.cons ?_ KAll.nil
                      · refine KO.op rfl rfl rfl (K.callZ (ds := [.agg (mc n a), intsD (zl (q ++ [p.2]))]) [((p.1 ++ [(⟨[], 0⟩ : VObj), ⟨cellsI (zl q), 0⟩]) ++ [(⟨[.d (DI (p.2 : Nat))], 0⟩ : VObj)]).length] 5 rfl plainTry_54 (map2_deep (own_deep (l := zl (q ++ [p.2])) (new_deep ((p.1 ++ [(⟨[], 0⟩ : VObj), ⟨cellsI (zl q), 0⟩]) ++ [(⟨[.d (DI (p.2 : Nat))], 0⟩ : VObj)]).length (by rw [List.length_set])) (by simp) (by simp [zl_len]))) (wd0_cons ▸ ih p.2 (by omega) hcq)) ?_
                        refine KA.next (i0 := 7) (r := []) (by kernel_rfl) ?_
                        refine KAll.cons ?_ KAll.nil
                        · refine KO.op rfl rfl rfl (K.assign rfl) ?_
                          exact KA.done (by kernel_rfl) ⟨rfl, ((freezeIds_not (by simp)).trans (get_left (set_zero (show p.1.length + 1 ≠ 0 by omega) (get_left (get_left y0))))), (by simp [Go.Vm.look, extK, enterK])⟩
            · refine KO.op rfl rfl rfl (K.move rfl) ?_
              refine KA.next (i0 := 0) (r := [2, 4]) (by kernel_rfl) ?_
              refine KAll.cons ?_ (KAll.cons ?_ (KAll.cons ?_ KAll.nil))
              · refine KO.op rfl rfl rfl (K.loadOA (mc n a) rfl y0 (by decide) Try.agg87 Try.size87 rfl) ?_
                refine KA.next (i0 := 2) (r := [4]) (by kernel_rfl) ?_
                refine KAll.cons ?_ (KAll.cons ?_ KAll.nil)
                · refine KO.op rfl rfl rfl (K.callG (τ := [⟨[], 0⟩, ⟨cellsI (zl q), 0⟩]) rfl plainTry_39 (clone39_ints (wd0_ints q) (by rw [zl_len]; exact fun h => hq (List.length_eq_zero_iff.1 h)) (by rw [zl_len]; omega))) ?_
                  refine KA.next (i0 := 4) (r := []) (by kernel_rfl) ?_
                  refine KAll.cons ?_ KAll.nil
                  · refine KO.op rfl rfl rfl (K.build1' (v := .d (DI (p.2 : Nat))) rfl rfl Try.underlying23 Try.one3) ?_
                    refine KA.next (i0 := 5) (r := []) (by kernel_rfl) ?_
                    refine KAll.cons ?_ KAll.nil
                    · refine KO.op rfl rfl rfl (K.appQ1 (cells := cellsI (zl q)) rfl rfl (get_left own_get) (cellsI_len _) (List.getElem?_concat_length ..) rfl (by rw [zl_len]; omega) Try.underlying23 Try.one3) ?_
                      refine KA.next (i0 := 6) (r := []) (by kernel_rfl) ?_
                      refine KAll.cons ?_ KAll.nil
                      · refine KO.op rfl rfl rfl (K.callZ (ds := [.agg (mc n a), intsD (zl (q ++ [p.2]))]) [((p.1 ++ [(⟨[], 0⟩ : VObj), ⟨cellsI (zl q), 0⟩]) ++ [(⟨[.d (DI (p.2 : Nat))], 0⟩ : VObj)]).length] 5 rfl plainTry_54 (map2_deep (own_deep (l := zl (q ++ [p.2])) (new_deep ((p.1 ++ [(⟨[], 0⟩ : VObj), ⟨cellsI (zl q), 0⟩]) ++ [(⟨[.d (DI (p.2 : Nat))], 0⟩ : VObj)]).length (by rw [List.length_set])) (by simp) (by simp [zl_len]))) (wd0_cons ▸ ih p.2 (by omega) hcq)) ?_
                        refine KA.next (i0 := 7) (r := []) (by kernel_rfl) ?_
                        refine KAll.cons ?_ KAll.nil
                        · refine KO.op rfl rfl rfl (K.assign rfl) ?_
                          exact KA.done (by kernel_rfl) ⟨rfl, ((freezeIds_not (by simp)).trans (get_left (set_zero (show p.1.length + 1 ≠ 0 by omega) (get_left (get_left y0))))), (by simp [Go.Vm.look, extK, enterK])⟩
                · refine KO.op rfl rfl rfl (K.build1' (v := .d (DI (p.2 : Nat))) rfl rfl Try.underlying23 Try.one3) ?_
                  refine KA.next (i0 := 2) (r := []) (by kernel_rfl) ?_
                  refine KAll.cons ?_ KAll.nil
                  · refine KO.op rfl rfl rfl (K.callG (τ := [⟨[], 0⟩, ⟨cellsI (zl q), 0⟩]) rfl plainTry_39 (clone39_ints (wd0_ints q) (by rw [zl_len]; exact fun h => hq (List.length_eq_zero_iff.1 h)) (by rw [zl_len]; omega))) ?_
                    refine KA.next (i0 := 5) (r := []) (by kernel_rfl) ?_
                    refine KAll.cons ?_ KAll.nil
                    · refine KO.op rfl rfl rfl (K.appQ1 (cells := cellsI (zl q)) rfl rfl own_get (cellsI_len _) (get_left (List.getElem?_concat_length ..)) rfl (by rw [zl_len]; omega) Try.underlying23 Try.one3) ?_
                      refine KA.next (i0 := 6) (r := []) (by kernel_rfl) ?_
                      refine KAll.cons ?_ KAll.nil
                      · refine KO.op rfl rfl rfl (K.callZ (ds := [.agg (mc n a), intsD (zl (q ++ [p.2]))]) [((p.1 ++ [(⟨[.d (DI (p.2 : Nat))], 0⟩ : VObj)]) ++ [(⟨[], 0⟩ : VObj), ⟨cellsI (zl q), 0⟩]).length] 5 rfl plainTry_54 (map2_deep (own_deep (l := zl (q ++ [p.2])) (new_deep ((p.1 ++ [(⟨[.d (DI (p.2 : Nat))], 0⟩ : VObj)]) ++ [(⟨[], 0⟩ : VObj), ⟨cellsI (zl q), 0⟩]).length (by rw [List.length_set])) (by simp) (by simp [zl_len]))) (wd0_cons ▸ ih p.2 (by omega) hcq)) ?_
                        refine KA.next (i0 := 7) (r := []) (by kernel_rfl) ?_
                        refine KAll.cons ?_ KAll.nil
                        · refine KO.op rfl rfl rfl (K.assign rfl) ?_
                          exact KA.done (by kernel_rfl) ⟨rfl, ((freezeIds_not (by simp)).trans (get_left (set_zero (show (p.1 ++ [(⟨[.d (DI (p.2 : Nat))], 0⟩ : VObj)]).length + 1 ≠ 0 by omega) (get_left (get_left y0))))), (by simp [Go.Vm.look, extK, enterK])⟩
              · refine KO.op rfl rfl rfl (K.callG (τ := [⟨[], 0⟩, ⟨cellsI (zl q), 0⟩]) rfl plainTry_39 (clone39_ints (wd0_ints q) (by rw [zl_len]; exact fun h => hq (List.length_eq_zero_iff.1 h)) (by rw [zl_len]; omega))) ?_
                refine KA.next (i0 := 0) (r := [4]) (by kernel_rfl) ?_
                refine KAll.cons ?_ (KAll.cons ?_ KAll.nil)
                · refine KO.op rfl rfl rfl (K.loadOA (mc n a) rfl (get_left y0) (by decide) Try.agg87 Try.size87 rfl) ?_
                  refine KA.next (i0 := 4) (r := []) (by kernel_rfl) ?_
                  refine KAll.cons ?_ KAll.nil
                  · refine KO.op rfl rfl rfl (K.build1' (v := .d (DI (p.2 : Nat))) rfl rfl Try.underlying23 Try.one3) ?_
                    refine KA.next (i0 := 5) (r := []) (by kernel_rfl) ?_
                    refine KAll.cons ?_ KAll.nil
                    · refine KO.op rfl rfl rfl (K.appQ1 (cells := cellsI (zl q)) rfl rfl (get_left own_get) (cellsI_len _) (List.getElem?_concat_length ..) rfl (by rw [zl_len]; omega) Try.underlying23 Try.one3) ?_
                      refine KA.next (i0 := 6) (r := []) (by kernel_rfl) ?_
                      refine KAll.cons ?_ KAll.nil
                      · refine KO.op rfl rfl rfl (K.callZ (ds := [.agg (mc n a), intsD (zl (q ++ [p.2]))]) [((p.1 ++ [(⟨[], 0⟩ : VObj), ⟨cellsI (zl q), 0⟩]) ++ [(⟨[.d (DI (p.2 : Nat))], 0⟩ : VObj)]).length] 5 rfl plainTry_54 (map2_deep (own_deep (l := zl (q ++ [p.2])) (new_deep ((p.1 ++ [(⟨[], 0⟩ : VObj), ⟨cellsI (zl q), 0⟩]) ++ [(⟨[.d (DI (p.2 : Nat))], 0⟩ : VObj)]).length (by rw [List.length_set])) (by simp) (by simp [zl_len]))) (wd0_cons ▸ ih p.2 (by omega) hcq)) ?_
                        refine KA.next (i0 := 7) (r := []) (by kernel_rfl) ?_
                        refine KAll.cons ?_ KAll.nil
                        · refine KO.op rfl rfl rfl (K.assign rfl) ?_
                          exact KA.done (by kernel_rfl) ⟨rfl, ((freezeIds_not (by simp)).trans (get_left (set_zero (show p.1.length + 1 ≠ 0 by omega) (get_left (get_left y0))))), (by simp [Go.Vm.look, extK, enterK])⟩
                · refine KO.op rfl rfl rfl (K.build1' (v := .d (DI (p.2 : Nat))) rfl rfl Try.underlying23 Try.one3) ?_
                  refine KA.next (i0 := 0) (r := [5]) (by kernel_rfl) ?_
                  refine KAll.cons ?_ (KAll.cons ?_ KAll.nil)
                  · refine KO.op rfl rfl rfl (K.loadOA (mc n a) rfl (get_left (get_left y0)) (by decide) Try.agg87 Try.size87 rfl) ?_
                    refine KA.next (i0 := 5) (r := []) (by kernel_rfl) ?_
                    refine KAll.cons ?_ KAll.nil
                    · refine KO.op rfl rfl rfl (K.appQ1 (cells := cellsI (zl q)) rfl rfl (get_left own_get) (cellsI_len _) (List.getElem?_concat_length ..) rfl (by rw [zl_len]; omega) Try.underlying23 Try.one3) ?_
                      refine KA.next (i0 := 6) (r := []) (by kernel_rfl) ?_
                      refine KAll.cons ?_ KAll.nil
                      · refine KO.op rfl rfl rfl (K.callZ (ds := [.agg (mc n a), intsD (zl (q ++ [p.2]))]) [((p.1 ++ [(⟨[], 0⟩ : VObj), ⟨cellsI (zl q), 0⟩]) ++ [(⟨[.d (DI (p.2 : Nat))], 0⟩ : VObj)]).length] 5 rfl plainTry_54 (map2_deep (own_deep (l := zl (q ++ [p.2])) (new_deep ((p.1 ++ [(⟨[], 0⟩ : VObj), ⟨cellsI (zl q), 0⟩]) ++ [(⟨[.d (DI (p.2 : Nat))], 0⟩ : VObj)]).length (by rw [List.length_set])) (by simp) (by simp [zl_len]))) (wd0_cons ▸ ih p.2 (by omega) hcq)) ?_
                        refine KA.next (i0 := 7) (r := []) (by kernel_rfl) ?_
                        refine KAll.cons ?_ KAll.nil
                        · refine KO.op rfl rfl rfl (K.assign rfl) ?_
                          exact KA.done (by kernel_rfl) ⟨rfl, ((freezeIds_not (by simp)).trans (get_left (set_zero (show p.1.length + 1 ≠ 0 by omega) (get_left (get_left y0))))), (by simp [Go.Vm.look, extK, enterK])⟩
                  · refine KO.op rfl rfl rfl (K.appQ1 (cells := cellsI (zl q)) rfl rfl (get_left own_get) (cellsI_len _) (List.getElem?_concat_length ..) rfl (by rw [zl_len]; omega) Try.underlying23 Try.one3) ?_
                    refine KA.next (i0 := 0) (r := []) (by kernel_rfl) ?_
                    refine KAll.cons ?_ KAll.nil
                    · refine KO.op rfl rfl rfl (K.loadOA (mc n a) rfl (get_left (set_zero (show p.1.length + 1 ≠ 0 by omega) (get_left (get_left y0)))) (by decide) Try.agg87 Try.size87 rfl) ?_
                      refine KA.next (i0 := 6) (r := []) (by kernel_rfl) ?_
                      refine KAll.cons ?_ KAll.nil
                      · refine KO.op rfl rfl rfl (K.callZ (ds := [.agg (mc n a), intsD (zl (q ++ [p.2]))]) [((p.1 ++ [(⟨[], 0⟩ : VObj), ⟨cellsI (zl q), 0⟩]) ++ [(⟨[.d (DI (p.2 : Nat))], 0⟩ : VObj)]).length] 5 rfl plainTry_54 (map2_deep (own_deep (l := zl (q ++ [p.2])) (new_deep ((p.1 ++ [(⟨[], 0⟩ : VObj), ⟨cellsI (zl q), 0⟩]) ++ [(⟨[.d (DI (p.2 : Nat))], 0⟩ : VObj)]).length (by rw [List.length_set])) (by simp) (by simp [zl_len]))) (wd0_cons ▸ ih p.2 (by omega) hcq)) ?_
                        refine KA.next (i0 := 7) (r := []) (by kernel_rfl) ?_
                        refine KAll.cons ?_ KAll.nil
                        · refine KO.op rfl rfl rfl (K.assign rfl) ?_
                          exact KA.done (by kernel_rfl) ⟨rfl, ((freezeIds_not (by simp)).trans (get_left (set_zero (show p.1.length + 1 ≠ 0 by omega) (get_left (get_left y0))))), (by simp [Go.Vm.look, extK, enterK])⟩
              · refine KO.op rfl rfl rfl (K.build1' (v := .d (DI (p.2 : Nat))) rfl rfl Try.underlying23 Try.one3) ?_
                refine KA.next (i0 := 0) (r := [2]) (by kernel_rfl) ?_
                refine KAll.cons ?_ (KAll.cons ?_ KAll.nil)
                · refine KO.op rfl rfl rfl (K.loadOA (mc n a) rfl (get_left y0) (by decide) Try.agg87 Try.size87 rfl) ?_
                  refine KA.next (i0 := 2) (r := []) (by kernel_rfl) ?_
                  refine KAll.cons ?_ KAll.nil
                  · refine KO.op rfl rfl rfl (K.callG (τ := [⟨[], 0⟩, ⟨cellsI (zl q), 0⟩]) rfl plainTry_39 (clone39_ints (wd0_ints q) (by rw [zl_len]; exact fun h => hq (List.length_eq_zero_iff.1 h)) (by rw [zl_len]; omega))) ?_
                    refine KA.next (i0 := 5) (r := []) (by kernel_rfl) ?_
                    refine KAll.cons ?_ KAll.nil
                    · refine KO.op rfl rfl rfl (K.appQ1 (cells := cellsI (zl q)) rfl rfl own_get (cellsI_len _) (get_left (List.getElem?_concat_length ..)) rfl (by rw [zl_len]; omega) Try.underlying23 Try.one3) ?_
                      refine KA.next (i0 := 6) (r := []) (by kernel_rfl) ?_
                      refine KAll.cons ?_ KAll.nil
                      · refine KO.op rfl rfl rfl (K.callZ (ds := [.agg (mc n a), intsD (zl (q ++ [p.2]))]) [((p.1 ++ [(⟨[.d (DI (p.2 : Nat))], 0⟩ : VObj)]) ++ [(⟨[], 0⟩ : VObj), ⟨cellsI (zl q), 0⟩]).length] 5 rfl plainTry_54 (map2_deep (own_deep (l := zl (q ++ [p.2])) (new_deep ((p.1 ++ [(⟨[.d (DI (p.2 : Nat))], 0⟩ : VObj)]) ++ [(⟨[], 0⟩ : VObj), ⟨cellsI (zl q), 0⟩]).length (by rw [List.length_set])) (by simp) (by simp [zl_len]))) (wd0_cons ▸ ih p.2 (by omega) hcq)) ?_
                        refine KA.next (i0 := 7) (r := []) (by kernel_rfl) ?_
                        refine KAll.cons ?_ KAll.nil
                        · refine KO.op rfl rfl rfl (K.assign rfl) ?_
                          exact KA.done (by kernel_rfl) ⟨rfl, ((freezeIds_not (by simp)).trans (get_left (set_zero (show (p.1 ++ [(⟨[.d (DI (p.2 : Nat))], 0⟩ : VObj)]).length + 1 ≠ 0 by omega) (get_left (get_left y0))))), (by simp [Go.Vm.look, extK, enterK])⟩
                · refine KO.op rfl rfl rfl (K.callG (τ := [⟨[], 0⟩, ⟨cellsI (zl q), 0⟩]) rfl plainTry_39 (clone39_ints (wd0_ints q) (by rw [zl_len]; exact fun h => hq (List.length_eq_zero_iff.1 h)) (by rw [zl_len]; omega))) ?_
                  refine KA.next (i0 := 0) (r := [5]) (by kernel_rfl) ?_
                  refine KAll.cons ?_ (KAll.cons ?_ KAll.nil)
                  · refine KO.op rfl rfl rfl (K.loadOA (mc n a) rfl (get_left (get_left y0)) (by decide) Try.agg87 Try.size87 rfl) ?_
                    refine KA.next (i0 := 5) (r := []) (by kernel_rfl) ?_
                    refine KAll.cons ?_ KAll.nil
                    · refine KO.op rfl rfl rfl (K.appQ1 (cells := cellsI (zl q)) rfl rfl own_get (cellsI_len _) (get_left (List.getElem?_concat_length ..)) rfl (by rw [zl_len]; omega) Try.underlying23 Try.one3) ?_
                      refine KA.next (i0 := 6) (r := []) (by kernel_rfl) ?_
                      refine KAll.cons ?_ KAll.nil
                      · refine KO.op rfl rfl rfl (K.callZ (ds := [.agg (mc n a), intsD (zl (q ++ [p.2]))]) [((p.1 ++ [(⟨[.d (DI (p.2 : Nat))], 0⟩ : VObj)]) ++ [(⟨[], 0⟩ : VObj), ⟨cellsI (zl q), 0⟩]).length] 5 rfl plainTry_54 (map2_deep (own_deep (l := zl (q ++ [p.2])) (new_deep ((p.1 ++ [(⟨[.d (DI (p.2 : Nat))], 0⟩ : VObj)]) ++ [(⟨[], 0⟩ : VObj), ⟨cellsI (zl q), 0⟩]).length (by rw [List.length_set])) (by simp) (by simp [zl_len]))) (wd0_cons ▸ ih p.2 (by omega) hcq)) ?_
                        refine KA.next (i0 := 7) (r := []) (by kernel_rfl) ?_
                        refine KAll.cons ?_ KAll.nil
                        · refine KO.op rfl rfl rfl (K.assign rfl) ?_
                          exact KA.done (by kernel_rfl) ⟨rfl, ((freezeIds_not (by simp)).trans (get_left (set_zero (show (p.1 ++ [(⟨[.d (DI (p.2 : Nat))], 0⟩ : VObj)]).length + 1 ≠ 0 by omega) (get_left (get_left y0))))), (by simp [Go.Vm.look, extK, enterK])⟩
                  · refine KO.op rfl rfl rfl (K.appQ1 (cells := cellsI (zl q)) rfl rfl own_get (cellsI_len _) (get_left (List.getElem?_concat_length ..)) rfl (by rw [zl_len]; omega) Try.underlying23 Try.one3) ?_
                    refine KA.next (i0 := 0) (r := []) (by kernel_rfl) ?_
                    refine KAll.cons ?_ KAll.nil
                    · refine KO.op rfl rfl rfl (K.loadOA (mc n a) rfl (get_left (set_zero (show (p.1 ++ [(⟨[.d (DI (p.2 : Nat))], 0⟩ : VObj)]).length + 1 ≠ 0 by omega) (get_left (get_left y0)))) (by decide) Try.agg87 Try.size87 rfl) ?_
                      refine KA.next (i0 := 6) (r := []) (by kernel_rfl) ?_
                      refine KAll.cons ?_ KAll.nil
                      · refine KO.op rfl rfl rfl (K.callZ (ds := [.agg (mc n a), intsD (zl (q ++ [p.2]))]) [((p.1 ++ [(⟨[.d (DI (p.2 : Nat))], 0⟩ : VObj)]) ++ [(⟨[], 0⟩ : VObj), ⟨cellsI (zl q), 0⟩]).length] 5 rfl plainTry_54 (map2_deep (own_deep (l := zl (q ++ [p.2])) (new_deep ((p.1 ++ [(⟨[.d (DI (p.2 : Nat))], 0⟩ : VObj)]) ++ [(⟨[], 0⟩ : VObj), ⟨cellsI (zl q), 0⟩]).length (by rw [List.length_set])) (by simp) (by simp [zl_len]))) (wd0_cons ▸ ih p.2 (by omega) hcq)) ?_
                        refine KA.next (i0 := 7) (r := []) (by kernel_rfl) ?_
                        refine KAll.cons ?_ KAll.nil
                        · refine KO.op rfl rfl rfl (K.assign rfl) ?_
                          exact KA.done (by kernel_rfl) ⟨rfl, ((freezeIds_not (by simp)).trans (get_left (set_zero (show (p.1 ++ [(⟨[.d (DI (p.2 : Nat))], 0⟩ : VObj)]).length + 1 ≠ 0 by omega) (get_left (get_left y0))))), (by simp [Go.Vm.look, extK, enterK])⟩
          · refine KO.op rfl rfl rfl (K.move rfl) ?_
            refine KA.next (i0 := 0) (r := [1, 4]) (by kernel_rfl) ?_
            refine KAll.cons ?_ (KAll.cons ?_ (KAll.cons ?_ KAll.nil))
            · refine KO.op rfl rfl rfl (K.loadOA (mc n a) rfl y0 (by decide) Try.agg87 Try.size87 rfl) ?_
              refine KA.next (i0 := 1) (r := [4]) (by kernel_rfl) ?_
              refine KAll.cons ?_ (KAll.cons ?_ KAll.nil)
              · refine KO.op rfl rfl rfl (K.move rfl) ?_
                refine KA.next (i0 := 2) (r := [4]) (by kernel_rfl) ?_
                refine KAll.cons ?_ (KAll.cons ?_ KAll.nil)
                · refine KO.op rfl rfl rfl (K.callG (τ := [⟨[], 0⟩, ⟨cellsI (zl q), 0⟩]) rfl plainTry_39 (clone39_ints (wd0_ints q) (by rw [zl_len]; exact fun h => hq (List.length_eq_zero_iff.1 h)) (by rw [zl_len]; omega))) ?_
                  refine KA.next (i0 := 4) (r := []) (by kernel_rfl) ?_
                  refine KAll.cons ?_ KAll.nil
                  · refine KO.op rfl rfl rfl (K.build1' (v := .d (DI (p.2 : Nat))) rfl rfl Try.underlying23 Try.one3) ?_
                    refine KA.next (i0 := 5) (r := []) (by kernel_rfl) ?_
                    refine KAll.cons ?_ KAll.nil
                    · refine KO.op rfl rfl rfl (K.appQ1 (cells := cellsI (zl q)) rfl rfl (get_left own_get) (cellsI_len _) (List.getElem?_concat_length ..) rfl (by rw [zl_len]; omega) Try.underlying23 Try.one3) ?_
                      refine KA.next (i0 := 6) (r := []) (by kernel_rfl) ?_
                      refine KAll.cons ?_ KAll.nil
                      · refine KO.op rfl rfl rfl (K.callZ (ds := [.agg (mc n a), intsD (zl (q ++ [p.2]))]) [((p.1 ++ [(⟨[], 0⟩ : VObj), ⟨cellsI (zl q), 0⟩]) ++ [(⟨[.d (DI (p.2 : Nat))], 0⟩ : VObj)]).length] 5 rfl plainTry_54 (map2_deep (own_deep (l := zl (q ++ [p.2])) (new_deep ((p.1 ++ [(⟨[], 0⟩ : VObj), ⟨cellsI (zl q), 0⟩]) ++ [(⟨[.d (DI (p.2 : Nat))], 0⟩ : VObj)]).length (by rw [List.length_set])) (by simp) (by simp [zl_len]))) (wd0_cons ▸ ih p.2 (by omega) hcq)) ?_
                        refine KA.next (i0 := 7) (r := []) (by kernel_rfl) ?_
                        refine KAll.cons ?_ KAll.nil
                        · refine KO.op rfl rfl rfl (K.assign rfl) ?_
                          exact KA.done (by kernel_rfl) ⟨rfl, ((freezeIds_not (by simp)).trans (get_left (set_zero (show p.1.length + 1 ≠ 0 by omega) (get_left (get_left y0))))), (by simp [Go.Vm.look, extK, enterK])⟩
                · refine KO.op rfl rfl rfl (K.build1' (v := .d (DI (p.2 : Nat))) rfl rfl Try.underlying23 Try.one3) ?_
                  refine KA.next (i0 := 2) (r := []) (by kernel_rfl) ?_
                  refine KAll.cons ?_ KAll.nil
                  · refine KO.op rfl rfl rfl (K.callG (τ := [⟨[], 0⟩, ⟨cellsI (zl q), 0⟩]) rfl plainTry_39 (clone39_ints (wd0_ints q) (by rw [zl_len]; exact fun h => hq (List.length_eq_zero_iff.1 h)) (by rw [zl_len]; omega))) ?_
                    refine KA.next (i0 := 5) (r := []) (by kernel_rfl) ?_
                    refine KAll.cons ?_ KAll.nil
                    · refine KO.op rfl rfl rfl (K.appQ1 (cells := cellsI (zl q)) rfl rfl own_get (cellsI_len _) (get_left (List.getElem?_concat_length ..)) rfl (by rw [zl_len]; omega) Try.underlying23 Try.one3) ?_
                      refine KA.next (i0 := 6) (r := []) (by kernel_rfl) ?_
                      refine KAll.cons ?_ KAll.nil
                      · refine KO.op rfl rfl rfl (K.callZ (ds := [.agg (mc n a), intsD (zl (q ++ [p.2]))]) [((p.1 ++ [(⟨[.d (DI (p.2 : Nat))], 0⟩ : VObj)]) ++ [(⟨[], 0⟩ : VObj), ⟨cellsI (zl q), 0⟩]).length] 5 rfl plainTry_54 (map2_deep (own_deep (l := zl (q ++ [p.2])) (new_deep ((p.1 ++ [(⟨[.d (DI (p.2 : Nat))], 0⟩ : VObj)]) ++ [(⟨[], 0⟩ : VObj), ⟨cellsI (zl q), 0⟩]).length (by rw [List.length_set])) (by simp) (by simp [zl_len]))) (wd0_cons ▸ ih p.2 (by omega) hcq)) ?_
                        refine KA.next (i0 := 7) (r := []) (by kernel_rfl) ?_
                        refine KAll.cons ?_ KAll.nil
                        · refine KO.op rfl rfl rfl (K.assign rfl) ?_
                          exact KA.done (by kernel_rfl) ⟨rfl, ((freezeIds_not (by simp)).trans (get_left (set_zero (show (p.1 ++ [(⟨[.d (DI (p.2 : Nat))], 0⟩ : VObj)]).length + 1 ≠ 0 by omega) (get_left (get_left y0))))), (by simp [Go.Vm.look, extK, enterK])⟩
              · refine KO.op rfl rfl rfl (K.build1' (v := .d (DI (p.2 : Nat))) rfl rfl Try.underlying23 Try.one3) ?_
                refine KA.next (i0 := 1) (r := []) (by kernel_rfl) ?_
                refine KAll.cons ?_ KAll.nil
                · refine KO.op rfl rfl rfl (K.move rfl) ?_
                  refine KA.next (i0 := 2) (r := []) (by kernel_rfl) ?_
                  refine KAll.cons ?_ KAll.nil
                  · refine KO.op rfl rfl rfl (K.callG (τ := [⟨[], 0⟩, ⟨cellsI (zl q), 0⟩]) rfl plainTry_39 (clone39_ints (wd0_ints q) (by rw [zl_len]; exact fun h => hq (List.length_eq_zero_iff.1 h)) (by rw [zl_len]; omega))) ?_
                    refine KA.next (i0 := 5) (r := []) (by kernel_rfl) ?_
                    refine KAll.cons ?_ KAll.nil
                    · refine KO.op rfl rfl rfl (K.appQ1 (cells := cellsI (zl q)) rfl rfl own_get (cellsI_len _) (get_left (List.getElem?_concat_length ..)) rfl (by rw [zl_len]; omega) Try.underlying23 Try.one3) ?_
                      refine KA.next (i0 := 6) (r := []) (by kernel_rfl) ?_
                      refine KAll.cons ?_ KAll.nil
                      · refine KO.op rfl rfl rfl (K.callZ (ds := [.agg (mc n a), intsD (zl (q ++ [p.2]))]) [((p.1 ++ [(⟨[.d (DI (p.2 : Nat))], 0⟩ : VObj)]) ++ [(⟨[], 0⟩ : VObj), ⟨cellsI (zl q), 0⟩]).length] 5 rfl plainTry_54 (map2_deep (own_deep (l := zl (q ++ [p.2])) (new_deep ((p.1 ++ [(⟨[.d (DI (p.2 : Nat))], 0⟩ : VObj)]) ++ [(⟨[], 0⟩ : VObj), ⟨cellsI (zl q), 0⟩]).length (by rw [List.length_set])) (by simp) (by simp [zl_len]))) (wd0_cons ▸ ih p.2 (by omega) hcq)) ?_
                        refine KA.next (i0 := 7) (r := []) (by kernel_rfl) ?_
                        refine KAll.cons ?_ KAll.nil
                        · refine KO.op rfl rfl rfl (K.assign rfl) ?_
                          exact KA.done (by kernel_rfl) ⟨rfl, ((freezeIds_not (by simp)).trans (get_left (set_zero (show (p.1 ++ [(⟨[.d (DI (p.2 : Nat))], 0⟩ : VObj)]).length + 1 ≠ 0 by omega) (get_left (get_left y0))))), (by simp [Go.Vm.look, extK, enterK])⟩
            · refine KO.op rfl rfl rfl (K.move rfl) ?_
              refine KA.next (i0 := 0) (r := [2, 4]) (by kernel_rfl) ?_
              refine KAll.cons ?_ (KAll.cons ?_ (KAll.cons ?_ KAll.nil))
              · refine KO.op rfl rfl rfl (K.loadOA (mc n a) rfl y0 (by decide) Try.agg87 Try.size87 rfl) ?_
                refine KA.next (i0 := 2) (r := [4]) (by kernel_rfl) ?_
                refine KAll.cons ?_ (KAll.cons ?_ KAll.nil)
                · refine KO.op rfl rfl rfl (K.callG (τ := [⟨[], 0⟩, ⟨cellsI (zl q), 0⟩]) rfl plainTry_39 (clone39_ints (wd0_ints q) (by rw [zl_len]; exact fun h => hq (List.length_eq_zero_iff.1 h)) (by rw [zl_len]; omega))) ?_
                  refine KA.next (i0 := 4) (r := []) (by kernel_rfl) ?_
                  refine KAll.cons ?_ KAll.nil
                  · refine KO.op rfl rfl rfl (K.build1' (v := .d (DI (p.2 : Nat))) rfl rfl Try.underlying23 Try.one3) ?_
                    refine KA.next (i0 := 5) (r := []) (by kernel_rfl) ?_
                    refine KAll.cons ?_ KAll.nil
                    · refine KO.op rfl rfl rfl (K.appQ1 (cells := cellsI (zl q)) rfl rfl (get_left own_get) (cellsI_len _) (List.getElem?_concat_length ..) rfl (by rw [zl_len]; omega) Try.underlying23 Try.one3) ?_
                      refine KA.next (i0 := 6) (r := []) (by kernel_rfl) ?_
                      refine KAll.cons ?_ KAll.nil
                      · refine KO.op rfl rfl rfl (K.callZ (ds := [.agg (mc n a), intsD (zl (q ++ [p.2]))]) [((p.1 ++ [(⟨[], 0⟩ : VObj), ⟨cellsI (zl q), 0⟩]) ++ [(⟨[.d (DI (p.2 : Nat))], 0⟩ : VObj)]).length] 5 rfl plainTry_54 (map2_deep (own_deep (l := zl (q ++ [p.2])) (new_deep ((p.1 ++ [(⟨[], 0⟩ : VObj), ⟨cellsI (zl q), 0⟩]) ++ [(⟨[.d (DI (p.2 : Nat))], 0⟩ : VObj)]).length (by rw [List.length_set])) (by simp) (by simp [zl_len]))) (wd0_cons ▸ ih p.2 (by omega) hcq)) ?_
                        refine KA.next (i0 := 7) (r := []) (by kernel_rfl) ?_
                        refine KAll.cons ?_ KAll.nil
                        · refine KO.op rfl rfl rfl (K.assign rfl) ?_
                          exact KA.done (by kernel_rfl) ⟨rfl, ((freezeIds_not (by simp)).trans (get_left (set_zero (show p.1.length + 1 ≠ 0 by omega) (get_left (get_left y0))))), (by simp [Go.Vm.look, extK, enterK])⟩
                · refine KO.op rfl rfl rfl (K.build1' (v := .d (DI (p.2 : Nat))) rfl rfl Try.underlying23 Try.one3) ?_
                  refine KA.next (i0 := 2) (r := []) (by kernel_rfl) ?_
                  refine KAll.cons ?_ KAll.nil
                  · refine KO.op rfl rfl rfl (K.callG (τ := [⟨[], 0⟩, ⟨cellsI (zl q), 0⟩]) rfl plainTry_39 (clone39_ints (wd0_ints q) (by rw [zl_len]; exact fun h => hq (List.length_eq_zero_iff.1 h)) (by rw [zl_len]; omega))) ?_
                    refine KA.next (i0 := 5) (r := []) (by kernel_rfl) ?_
                    refine KAll.cons ?_ KAll.nil
                    · refine KO.op rfl rfl rfl (K.appQ1 (cells := cellsI (zl q)) rfl rfl own_get (cellsI_len _) (get_left (List.getElem?_concat_length ..)) rfl (by rw [zl_len]; omega) Try.underlying23 Try.one3) ?_
                      refine KA.next (i0 := 6) (r := []) (by kernel_rfl) ?_
                      refine KAll.cons ?_ KAll.nil
                      · refine KO.op rfl rfl rfl (K.callZ (ds := [.agg (mc n a), intsD (zl (q ++ [p.2]))]) [((p.1 ++ [(⟨[.d (DI (p.2 : Nat))], 0⟩ : VObj)]) ++ [(⟨[], 0⟩ : VObj), ⟨cellsI (zl q), 0⟩]).length] 5 rfl plainTry_54 (map2_deep (own_deep (l := zl (q ++ [p.2])) (new_deep ((p.1 ++ [(⟨[.d (DI (p.2 : Nat))], 0⟩ : VObj)]) ++ [(⟨[], 0⟩ : VObj), ⟨cellsI (zl q), 0⟩]).length (by rw [List.length_set])) (by simp) (by simp [zl_len]))) (wd0_cons ▸ ih p.2 (by omega) hcq)) ?_
                        refine KA.next (i0 := 7) (r := []) (by kernel_rfl) ?_
                        refine KAll.cons ?_ KAll.nil
                        · refine KO.op rfl rfl rfl (K.assign rfl) ?_
                          exact KA.done (by kernel_rfl) ⟨rfl, ((freezeIds_not (by simp)).trans (get_left (set_zero (show (p.1 ++ [(⟨[.d (DI (p.2 : Nat))], 0⟩ : VObj)]).length + 1 ≠ 0 by omega) (get_left (get_left y0))))), (by simp [Go.Vm.look, extK, enterK])⟩
              · refine KO.op rfl rfl rfl (K.callG (τ := [⟨[], 0⟩, ⟨cellsI (zl q), 0⟩]) rfl plainTry_39 (clone39_ints (wd0_ints q) (by rw [zl_len]; exact fun h => hq (List.length_eq_zero_iff.1 h)) (by rw [zl_len]; omega))) ?_
                refine KA.next (i0 := 0) (r := [4]) (by kernel_rfl) ?_
                refine KAll.cons ?_ (KAll.cons ?_ KAll.nil)
                · refine KO.op rfl rfl rfl (K.loadOA (mc n a) rfl (get_left y0) (by decide) Try.agg87 Try.size87 rfl) ?_
                  refine KA.next (i0 := 4) (r := []) (by kernel_rfl) ?_
                  refine KAll.cons ?_ KAll.nil
                  · refine KO.op rfl rfl rfl (K.build1' (v := .d (DI (p.2 : Nat))) rfl rfl Try.underlying23 Try.one3) ?_
                    refine KA.next (i0 := 5) (r := []) (by kernel_rfl) ?_
                    refine KAll.cons ?_ KAll.nil
                    · refine KO.op rfl rfl rfl (K.appQ1 (cells := cellsI (zl q)) rfl rfl (get_left own_get) (cellsI_len _) (List.getElem?_concat_length ..) rfl (by rw [zl_len]; omega) Try.underlying23 Try.one3) ?_
                      refine KA.next (i0 := 6) (r := []) (by kernel_rfl) ?_
                      refine KAll.cons ?_ KAll.nil
                      · refine KO.op rfl rfl rfl (K.callZ (ds := [.agg (mc n a), intsD (zl (q ++ [p.2]))]) [((p.1 ++ [(⟨[], 0⟩ : VObj), ⟨cellsI (zl q), 0⟩]) ++ [(⟨[.d (DI (p.2 : Nat))], 0⟩ : VObj)]).length] 5 rfl plainTry_54 (map2_deep (own_deep (l := zl (q ++ [p.2])) (new_deep ((p.1 ++ [(⟨[], 0⟩ : VObj), ⟨cellsI (zl q), 0⟩]) ++ [(⟨[.d (DI (p.2 : Nat))], 0⟩ : VObj)]).length (by rw [List.length_set])) (by simp) (by simp [zl_len]))) (wd0_cons ▸ ih p.2 (by omega) hcq)) ?_
                        refine KA.next (i0 := 7) (r := []) (by kernel_rfl) ?_
                        refine KAll.cons ?_ KAll.nil
                        · refine KO.op rfl rfl rfl (K.assign rfl) ?_
                          exact KA.done (by kernel_rfl) ⟨rfl, ((freezeIds_not (by simp)).trans (get_left (set_zero (show p.1.length + 1 ≠ 0 by omega) (get_left (get_left y0))))), (by simp [Go.Vm.look, extK, enterK])⟩
                · refine KO.op rfl rfl rfl (K.build1' (v := .d (DI (p.2 : Nat))) rfl rfl Try.underlying23 Try.one3) ?_
                  refine KA.next (i0 := 0) (r := [5]) (by kernel_rfl) ?_
                  refine KAll.cons ?_ (KAll.cons ?_ KAll.nil)
                  · refine KO.op rfl rfl rfl (K.loadOA (mc n a) rfl (get_left (get_left y0)) (by decide) Try.agg87 Try.size87 rfl) ?_
                    refine KA.next (i0 := 5) (r := []) (by kernel_rfl) ?_
                    refine KAll.cons ?_ KAll.nil
                    · refine KO.op rfl rfl rfl (K.appQ1 (cells := cellsI (zl q)) rfl rfl (get_left own_get) (cellsI_len _) (List.getElem?_concat_length ..) rfl (by rw [zl_len]; omega) Try.underlying23 Try.one3) ?_
                      refine KA.next (i0 := 6) (r := []) (by kernel_rfl) ?_
                      refine KAll.cons ?_ KAll.nil
                      · refine KO.op rfl rfl rfl (K.callZ (ds := [.agg (mc n a), intsD (zl (q ++ [p.2]))]) [((p.1 ++ [(⟨[], 0⟩ : VObj), ⟨cellsI (zl q), 0⟩]) ++ [(⟨[.d (DI (p.2 : Nat))], 0⟩ : VObj)]).length] 5 rfl plainTry_54 (map2_deep (own_deep (l := zl (q ++ [p.2])) (new_deep ((p.1 ++ [(⟨[], 0⟩ : VObj), ⟨cellsI (zl q), 0⟩]) ++ [(⟨[.d (DI (p.2 : Nat))], 0⟩ : VObj)]).length (by rw [List.length_set])) (by simp) (by simp [zl_len]))) (wd0_cons ▸ ih p.2 (by omega) hcq)) ?_
                        refine KA.next (i0 := 7) (r := []) (by kernel_rfl) ?_
                        refine KAll.cons ?_ KAll.nil
                        · refine KO.op rfl rfl rfl (K.assign rfl) ?_
                          exact KA.done (by kernel_rfl) ⟨rfl, ((freezeIds_not (by simp)).trans (get_left (set_zero (show p.1.length + 1 ≠ 0 by omega) (get_left (get_left y0))))), (by simp [Go.Vm.look, extK, enterK])⟩
                  · refine KO.op rfl rfl rfl (K.appQ1 (cells := cellsI (zl q)) rfl rfl (get_left own_get) (cellsI_len _) (List.getElem?_concat_length ..) rfl (by rw [zl_len]; omega) Try.underlying23 Try.one3) ?_
                    refine KA.next (i0 := 0) (r := []) (by kernel_rfl) ?_
                    refine KAll.cons ?_ KAll.nil
                    · refine KO.op rfl rfl rfl (K.loadOA (mc n a) rfl (get_left (set_zero (show p.1.length + 1 ≠ 0 by omega) (get_left (get_left y0)))) (by decide) Try.agg87 Try.size87 rfl) ?_
                      refine KA.next (i0 := 6) (r := []) (by kernel_rfl) ?_
                      refine KAll.cons ?_ KAll.nil
                      · refine KO.op rfl rfl rfl (K.callZ (ds := [.agg (mc n a), intsD (zl (q ++ [p.2]))]) [((p.1 ++ [(⟨[], 0⟩ : VObj), ⟨cellsI (zl q), 0⟩]) ++ [(⟨[.d (DI (p.2 : Nat))], 0⟩ : VObj)]).length] 5 rfl plainTry_54 (map2_deep (own_deep (l := zl (q ++ [p.2])) (new_deep ((p.1 ++ [(⟨[], 0⟩ : VObj), ⟨cellsI (zl q), 0⟩]) ++ [(⟨[.d (DI (p.2 : Nat))], 0⟩ : VObj)]).length (by rw [List.length_set])) (by simp) (by simp [zl_len]))) (wd0_cons ▸ ih p.2 (by omega) hcq)) ?_
                        refine KA.next (i0 := 7) (r := []) (by kernel_rfl) ?_
                        refine KAll.cons ?_ KAll.nil
                        · refine KO.op rfl rfl rfl (K.assign rfl) ?_
                          exact KA.done (by kernel_rfl) ⟨rfl, ((freezeIds_not (by simp)).trans (get_left (set_zero (show p.1.length + 1 ≠ 0 by omega) (get_left (get_left y0))))), (by simp [Go.Vm.look, extK, enterK])⟩
              · refine KO.op rfl rfl rfl (K.build1' (v := .d (DI (p.2 : Nat))) rfl rfl Try.underlying23 Try.one3) ?_
                refine KA.next (i0 := 0) (r := [2]) (by kernel_rfl) ?_
                refine KAll.cons ?_ (KAll.cons ?_ KAll.nil)
                · refine KO.op rfl rfl rfl (K.loadOA (mc n a) rfl (get_left y0) (by decide) Try.agg87 Try.size87 rfl) ?_
                  refine KA.next (i0 := 2) (r := []) (by kernel_rfl) ?_
                  refine KAll.cons ?_ KAll.nil
                  · refine KO.op rfl rfl rfl (K.callG (τ := [⟨[], 0⟩, ⟨cellsI (zl q), 0⟩]) rfl plainTry_39 (clone39_ints (wd0_ints q) (by rw [zl_len]; exact fun h => hq (List.length_eq_zero_iff.1 h)) (by rw [zl_len]; omega))) ?_
                    refine KA.next (i0 := 5) (r := []) (by kernel_rfl) ?_
                    refine KAll.cons ?_ KAll.nil
                    · refine KO.op rfl rfl rfl (K.appQ1 (cells := cellsI (zl q)) rfl rfl own_get (cellsI_len _) (get_left (List.getElem?_concat_length ..)) rfl (by rw [zl_len]; omega) Try.underlying23 Try.one3) ?_
                      refine KA.next (i0 := 6) (r := []) (by kernel_rfl) ?_
                      refine KAll.cons ?_ KAll.nil
                      · refine KO.op rfl rfl rfl (K.callZ (ds := [.agg (mc n a), intsD (zl (q ++ [p.2]))]) [((p.1 ++ [(⟨[.d (DI (p.2 : Nat))], 0⟩ : VObj)]) ++ [(⟨[], 0⟩ : VObj), ⟨cellsI (zl q), 0⟩]).length] 5 rfl plainTry_54 (map2_deep (own_deep (l := zl (q ++ [p.2])) (new_deep ((p.1 ++ [(⟨[.d (DI (p.2 : Nat))], 0⟩ : VObj)]) ++ [(⟨[], 0⟩ : VObj), ⟨cellsI (zl q), 0⟩]).length (by rw [List.length_set])) (by simp) (by simp [zl_len]))) (wd0_cons ▸ ih p.2 (by omega) hcq)) ?_
                        refine KA.next (i0 := 7) (r := []) (by kernel_rfl) ?_
                        refine KAll.cons ?_ KAll.nil
                        · refine KO.op rfl rfl rfl (K.assign rfl) ?_
                          exact KA.done (by kernel_rfl) ⟨rfl, ((freezeIds_not (by simp)).trans (get_left (set_zero (show (p.1 ++ [(⟨[.d (DI (p.2 : Nat))], 0⟩ : VObj)]).length + 1 ≠ 0 by omega) (get_left (get_left y0))))), (by simp [Go.Vm.look, extK, enterK])⟩
                · refine KO.op rfl rfl rfl (K.callG (τ := [⟨[], 0⟩, ⟨cellsI (zl q), 0⟩]) rfl plainTry_39 (clone39_ints (wd0_ints q) (by rw [zl_len]; exact fun h => hq (List.length_eq_zero_iff.1 h)) (by rw [zl_len]; omega))) ?_
                  refine KA.next (i0 := 0) (r := [5]) (by kernel_rfl) ?_
                  refine KAll.cons ?_ (KAll.cons ?_ KAll.nil)
                  · refine KO.op rfl rfl rfl (K.loadOA (mc n a) rfl (get_left (get_left y0)) (by decide) Try.agg87 Try.size87 rfl) ?_
                    refine KA.next (i0 := 5) (r := []) (by kernel_rfl) ?_
                    refine KAll.cons ?_ KAll.nil
                    · refine KO.op rfl rfl rfl (K.appQ1 (cells := cellsI (zl q)) rfl rfl own_get (cellsI_len _) (get_left (List.getElem?_concat_length ..)) rfl (by rw [zl_len]; omega) Try.underlying23 Try.one3) ?_
                      refine KA.next (i0 := 6) (r := []) (by kernel_rfl) ?_
                      refine KAll.cons ?_ KAll.nil
                      · refine KO.op rfl rfl rfl (K.callZ (ds := [.agg (mc n a), intsD (zl (q ++ [p.2]))]) [((p.1 ++ [(⟨[.d (DI (p.2 : Nat))], 0⟩ : VObj)]) ++ [(⟨[], 0⟩ : VObj), ⟨cellsI (zl q), 0⟩]).length] 5 rfl plainTry_54 (map2_deep (own_deep (l := zl (q ++ [p.2])) (new_deep ((p.1 ++ [(⟨[.d (DI (p.2 : Nat))], 0⟩ : VObj)]) ++ [(⟨[], 0⟩ : VObj), ⟨cellsI (zl q), 0⟩]).length (by rw [List.length_set])) (by simp) (by simp [zl_len]))) (wd0_cons ▸ ih p.2 (by omega) hcq)) ?_
                        refine KA.next (i0 := 7) (r := []) (by kernel_rfl) ?_
                        refine KAll.cons ?_ KAll.nil
                        · refine KO.op rfl rfl rfl (K.assign rfl) ?_
                          exact KA.done (by kernel_rfl) ⟨rfl, ((freezeIds_not (by simp)).trans (get_left (set_zero (show (p.1 ++ [(⟨[.d (DI (p.2 : Nat))], 0⟩ : VObj)]).length + 1 ≠ 0 by omega) (get_left (get_left y0))))), (by simp [Go.Vm.look, extK, enterK])⟩
                  · refine KO.op rfl rfl rfl (K.appQ1 (cells := cellsI (zl q)) rfl rfl own_get (cellsI_len _) (get_left (List.getElem?_concat_length ..)) rfl (by rw [zl_len]; omega) Try.underlying23 Try.one3) ?_
                    refine KA.next (i0 := 0) (r := []) (by kernel_rfl) ?_
                    refine KAll.cons ?_ KAll.nil
                    · refine KO.op rfl rfl rfl (K.loadOA (mc n a) rfl (get_left (set_zero (show (p.1 ++ [(⟨[.d (DI (p.2 : Nat))], 0⟩ : VObj)]).length + 1 ≠ 0 by omega) (get_left (get_left y0)))) (by decide) Try.agg87 Try.size87 rfl) ?_
                      refine KA.next (i0 := 6) (r := []) (by kernel_rfl) ?_
                      refine KAll.cons ?_ KAll.nil
                      · refine KO.op rfl rfl rfl (K.callZ (ds := [.agg (mc n a), intsD (zl (q ++ [p.2]))]) [((p.1 ++ [(⟨[.d (DI (p.2 : Nat))], 0⟩ : VObj)]) ++ [(⟨[], 0⟩ : VObj), ⟨cellsI (zl q), 0⟩]).length] 5 rfl plainTry_54 (map2_deep (own_deep (l := zl (q ++ [p.2])) (new_deep ((p.1 ++ [(⟨[.d (DI (p.2 : Nat))], 0⟩ : VObj)]) ++ [(⟨[], 0⟩ : VObj), ⟨cellsI (zl q), 0⟩]).length (by rw [List.length_set])) (by simp) (by simp [zl_len]))) (wd0_cons ▸ ih p.2 (by omega) hcq)) ?_
                        refine KA.next (i0 := 7) (r := []) (by kernel_rfl) ?_
                        refine KAll.cons ?_ KAll.nil
                        · refine KO.op rfl rfl rfl (K.assign rfl) ?_
                          exact KA.done (by kernel_rfl) ⟨rfl, ((freezeIds_not (by simp)).trans (get_left (set_zero (show (p.1 ++ [(⟨[.d (DI (p.2 : Nat))], 0⟩ : VObj)]).length + 1 ≠ 0 by omega) (get_left (get_left y0))))), (by simp [Go.Vm.look, extK, enterK])⟩
            · refine KO.op rfl rfl rfl (K.build1' (v := .d (DI (p.2 : Nat))) rfl rfl Try.underlying23 Try.one3) ?_
              refine KA.next (i0 := 0) (r := [1]) (by kernel_rfl) ?_
              refine KAll.cons ?_ (KAll.cons ?_ KAll.nil)
              · refine KO.op rfl rfl rfl (K.loadOA (mc n a) rfl (get_left y0) (by decide) Try.agg87 Try.size87 rfl) ?_
                refine KA.next (i0 := 1) (r := []) (by kernel_rfl) ?_
                refine KAll.cons ?_ KAll.nil
                · refine KO.op rfl rfl rfl (K.move rfl) ?_
                  refine KA.next (i0 := 2) (r := []) (by kernel_rfl) ?_
                  refine KAll.cons ?_ KAll.nil
                  · refine KO.op rfl rfl rfl (K.callG (τ := [⟨[], 0⟩, ⟨cellsI (zl q), 0⟩]) rfl plainTry_39 (clone39_ints (wd0_ints q) (by rw [zl_len]; exact fun h => hq (List.length_eq_zero_iff.1 h)) (by rw [zl_len]; omega))) ?_
                    refine KA.next (i0 := 5) (r := []) (by kernel_rfl) ?_
                    refine KAll.cons ?_ KAll.nil
                    · refine KO.op rfl rfl rfl (K.appQ1 (cells := cellsI (zl q)) rfl rfl own_get (cellsI_len _) (get_left (List.getElem?_concat_length ..)) rfl (by rw [zl_len]; omega) Try.underlying23 Try.one3) ?_
                      refine KA.next (i0 := 6) (r := []) (by kernel_rfl) ?_
                      refine KAll.cons ?_ KAll.nil
                      · refine KO.op rfl rfl rfl (K.callZ (ds := [.agg (mc n a), intsD (zl (q ++ [p.2]))]) [((p.1 ++ [(⟨[.d (DI (p.2 : Nat))], 0⟩ : VObj)]) ++ [(⟨[], 0⟩ : VObj), ⟨cellsI (zl q), 0⟩]).length] 5 rfl plainTry_54 (map2_deep (own_deep (l := zl (q ++ [p.2])) (new_deep ((p.1 ++ [(⟨[.d (DI (p.2 : Nat))], 0⟩ : VObj)]) ++ [(⟨[], 0⟩ : VObj), ⟨cellsI (zl q), 0⟩]).length (by rw [List.length_set])) (by simp) (by simp [zl_len]))) (wd0_cons ▸ ih p.2 (by omega) hcq)) ?_
                        refine KA.next (i0 := 7) (r := []) (by kernel_rfl) ?_
                        refine KAll.cons ?_ KAll.nil
                        · refine KO.op rfl rfl rfl (K.assign rfl) ?_
                          exact KA.done (by kernel_rfl) ⟨rfl, ((freezeIds_not (by simp)).trans (get_left (set_zero (show (p.1 ++ [(⟨[.d (DI (p.2 : Nat))], 0⟩ : VObj)]).length + 1 ≠ 0 by omega) (get_left (get_left y0))))), (by simp [Go.Vm.look, extK, enterK])⟩
              · refine KO.op rfl rfl rfl (K.move rfl) ?_
                refine KA.next (i0 := 0) (r := [2]) (by kernel_rfl) ?_
                refine KAll.cons ?_ (KAll.cons ?_ KAll.nil)
                · refine KO.op rfl rfl rfl (K.loadOA (mc n a) rfl (get_left y0) (by decide) Try.agg87 Try.size87 rfl) ?_
                  refine KA.next (i0 := 2) (r := []) (by kernel_rfl) ?_
                  refine KAll.cons ?_ KAll.nil
                  · refine KO.op rfl rfl rfl (K.callG (τ := [⟨[], 0⟩, ⟨cellsI (zl q), 0⟩]) rfl plainTry_39 (clone39_ints (wd0_ints q) (by rw [zl_len]; exact fun h => hq (List.length_eq_zero_iff.1 h)) (by rw [zl_len]; omega))) ?_
                    refine KA.next (i0 := 5) (r := []) (by kernel_rfl) ?_
                    refine KAll.cons ?_ KAll.nil
                    · refine KO.op rfl rfl rfl (K.appQ1 (cells := cellsI (zl q)) rfl rfl own_get (cellsI_len _) (get_left (List.getElem?_concat_length ..)) rfl (by rw [zl_len]; omega) Try.underlying23 Try.one3) ?_
                      refine KA.next (i0 := 6) (r := []) (by kernel_rfl) ?_
                      refine KAll.cons ?_ KAll.nil
                      · refine KO.op rfl rfl rfl (K.callZ (ds := [.agg (mc n a), intsD (zl (q ++ [p.2]))]) [((p.1 ++ [(⟨[.d (DI (p.2 : Nat))], 0⟩ : VObj)]) ++ [(⟨[], 0⟩ : VObj), ⟨cellsI (zl q), 0⟩]).length] 5 rfl plainTry_54 (map2_deep (own_deep (l := zl (q ++ [p.2])) (new_deep ((p.1 ++ [(⟨[.d (DI (p.2 : Nat))], 0⟩ : VObj)]) ++ [(⟨[], 0⟩ : VObj), ⟨cellsI (zl q), 0⟩]).length (by rw [List.length_set])) (by simp) (by simp [zl_len]))) (wd0_cons ▸ ih p.2 (by omega) hcq)) ?_
                        refine KA.next (i0 := 7) (r := []) (by kernel_rfl) ?_
                        refine KAll.cons ?_ KAll.nil
                        · refine KO.op rfl rfl rfl (K.assign rfl) ?_
                          exact KA.done (by kernel_rfl) ⟨rfl, ((freezeIds_not (by simp)).trans (get_left (set_zero (show (p.1 ++ [(⟨[.d (DI (p.2 : Nat))], 0⟩ : VObj)]).length + 1 ≠ 0 by omega) (get_left (get_left y0))))), (by simp [Go.Vm.look, extK, enterK])⟩
                · refine KO.op rfl rfl rfl (K.callG (τ := [⟨[], 0⟩, ⟨cellsI (zl q), 0⟩]) rfl plainTry_39 (clone39_ints (wd0_ints q) (by rw [zl_len]; exact fun h => hq (List.length_eq_zero_iff.1 h)) (by rw [zl_len]; omega))) ?_
                  refine KA.next (i0 := 0) (r := [5]) (by kernel_rfl) ?_
                  refine KAll.cons ?_ (KAll.cons ?_ KAll.nil)
                  · refine KO.op rfl rfl rfl (K.loadOA (mc n a) rfl (get_left (get_left y0)) (by decide) Try.agg87 Try.size87 rfl) ?_
                    refine KA.next (i0 := 5) (r := []) (by kernel_rfl) ?_
                    refine KAll.cons ?_ KAll.nil
                    · refine KO.op rfl rfl rfl (K.appQ1 (cells := cellsI (zl q)) rfl rfl own_get (cellsI_len _) (get_left (List.getElem?_concat_length ..)) rfl (by rw [zl_len]; omega) Try.underlying23 Try.one3) ?_
                      refine KA.next (i0 := 6) (r := []) (by kernel_rfl) ?_
                      refine KAll.cons ?_ KAll.nil
                      · refine KO.op rfl rfl rfl (K.callZ (ds := [.agg (mc n a), intsD (zl (q ++ [p.2]))]) [((p.1 ++ [(⟨[.d (DI (p.2 : Nat))], 0⟩ : VObj)]) ++ [(⟨[], 0⟩ : VObj), ⟨cellsI (zl q), 0⟩]).length] 5 rfl plainTry_54 (map2_deep (own_deep (l := zl (q ++ [p.2])) (new_deep ((p.1 ++ [(⟨[.d (DI (p.2 : Nat))], 0⟩ : VObj)]) ++ [(⟨[], 0⟩ : VObj), ⟨cellsI (zl q), 0⟩]).length (by rw [List.length_set])) (by simp) (by simp [zl_len]))) (wd0_cons ▸ ih p.2 (by omega) hcq)) ?_
                        refine KA.next (i0 := 7) (r := []) (by kernel_rfl) ?_
                        refine KAll.cons ?_ KAll.nil
                        · refine KO.op rfl rfl rfl (K.assign rfl) ?_
                          exact KA.done (by kernel_rfl) ⟨rfl, ((freezeIds_not (by simp)).trans (get_left (set_zero (show (p.1 ++ [(⟨[.d (DI (p.2 : Nat))], 0⟩ : VObj)]).length + 1 ≠ 0 by omega) (get_left (get_left y0))))), (by simp [Go.Vm.look, extK, enterK])⟩
                  · refine KO.op rfl rfl rfl (K.appQ1 (cells := cellsI (zl q)) rfl rfl own_get (cellsI_len _) (get_left (List.getElem?_concat_length ..)) rfl (by rw [zl_len]; omega) Try.underlying23 Try.one3) ?_
                    refine KA.next (i0 := 0) (r := []) (by kernel_rfl) ?_
                    refine KAll.cons ?_ KAll.nil
                    · refine KO.op rfl rfl rfl (K.loadOA (mc n a) rfl (get_left (set_zero (show (p.1 ++ [(⟨[.d (DI (p.2 : Nat))], 0⟩ : VObj)]).length + 1 ≠ 0 by omega) (get_left (get_left y0)))) (by decide) Try.agg87 Try.size87 rfl) ?_
                      refine KA.next (i0 := 6) (r := []) (by kernel_rfl) ?_
                      refine KAll.cons ?_ KAll.nil
                      · refine KO.op rfl rfl rfl (K.callZ (ds := [.agg (mc n a), intsD (zl (q ++ [p.2]))]) [((p.1 ++ [(⟨[.d (DI (p.2 : Nat))], 0⟩ : VObj)]) ++ [(⟨[], 0⟩ : VObj), ⟨cellsI (zl q), 0⟩]).length] 5 rfl plainTry_54 (map2_deep (own_deep (l := zl (q ++ [p.2])) (new_deep ((p.1 ++ [(⟨[.d (DI (p.2 : Nat))], 0⟩ : VObj)]) ++ [(⟨[], 0⟩ : VObj), ⟨cellsI (zl q), 0⟩]).length (by rw [List.length_set])) (by simp) (by simp [zl_len]))) (wd0_cons ▸ ih p.2 (by omega) hcq)) ?_
                        refine KA.next (i0 := 7) (r := []) (by kernel_rfl) ?_
                        refine KAll.cons ?_ KAll.nil
                        · refine KO.op rfl rfl rfl (K.assign rfl) ?_
                          exact KA.done (by kernel_rfl) ⟨rfl, ((freezeIds_not (by simp)).trans (get_left (set_zero (show (p.1 ++ [(⟨[.d (DI (p.2 : Nat))], 0⟩ : VObj)]).length + 1 ≠ 0 by omega) (get_left (get_left y0))))), (by simp [Go.Vm.look, extK, enterK])⟩
        rintro e τ k ⟨rfl, y0n, hlk⟩
        refine thenK_n ?_
        refine KC.seq ?_
        refine KC.weaken ?_ hlk
        refine KC.region ?_
        refine KT.step rfl rfl (K.move rfl) ?_
        refine KT.step rfl rfl (K.neqNilD rfl (dfs_sl _ _) Try.underlying23) ?_
        refine KT.nil ?_
        refine thenK_n ?_
        refine KC.cond rfl (fun hc27 => ?_) (fun hc27 => ?_)
        · skip
          rw [Bool.not_eq_true'] at hc27
          refine KC.seq ?_
          refine KC.region ?_
          refine KT.step rfl rfl (K.move rfl) ?_
          refine KT.step rfl rfl (K.assign rfl) ?_
          refine KT.nil ?_
          refine thenK_n ?_
          refine KC.ret ?_
          refine blockK_r ?_
          refine thenK_r ?_
          refine thenK_r ?_
          refine blockK_r ?_
          refine thenK_r ?_
          exact ⟨.inl rfl, _, rfl, fin_d (dfs_hit hrf hnil (by omega) hcq hc27)⟩
        · skip
          rw [Bool.not_eq_false'] at hc27
          refine KC.skip ?_
          refine blockK_n ?_
          refine thenK_n ?_
          refine KC.region ?_
          refine KT.step rfl rfl (K.add rfl rfl (wrap_id (by omega))) ?_
          refine KT.step rfl rfl (K.move rfl) ?_
          refine KT.nil ?_
          refine thenK_n ?_
          refine ⟨(_, p.2 + 1), ⟨y0n, by simp only; omega, dfs_miss hnil (.inr hc27)⟩, by simp only; omega, rfl, by simp [Go.Vm.look, extK]⟩
    · skip
      replace hc14 := of_decide_eq_false hc14
      refine KC.exit ?_
      refine thenK_x ?_
      refine thenK_x ?_
      refine blockK_e ?_
      refine thenK_n ?_
      refine KC.seq ?_
      refine KC.region ?_
      refine KT.step rfl rfl (K.assign rfl) ?_
      refine KT.nil ?_
      refine thenK_n ?_
      refine KC.ret ?_
      have e : p.2 = n := by omega
      rw [e] at hnil
      exact ⟨.inl rfl, _, rfl, fin_d ((dfs_no hrf).trans ((dfsR_sl (fun c => dfG_sl c) n).nil_of hnil))⟩

theorem refut54 {n : Nat} {a : Nat → Nat → Int} (hn : n ≤ 4) (ha : ZgM 5000 (Go.Zn.flo n a)) : ∀ (f : Nat) (q : List Nat), (∀ x ∈ q, x < n) → q.Nodup → n < f + q.length → DeepCall Try.prog 54 [.agg (mc n a), wd0 q] (dfs n a f q)
  | 0, q, h1, h2, h3 => by have := dif_len h1 h2; omega
  | f + 1, q, h1, h2, h3 => by
    have ih : ∀ c, c < n → c ∉ q → DeepCall Try.prog 54 [.agg (mc n a), wd0 (q ++ [c])] (dfs n a f (q ++ [c])) := fun c hc hq => by
      refine refut54 hn ha f (q ++ [c]) (fun x hx => ?_) ?_ (by rw [List.length_append]; simp; omega)
      · rcases List.mem_append.1 hx with h | h
        · exact h1 x h
        · simp at h; omega
      · exact List.nodup_append.2 ⟨h2, by simp, fun x hx y hy e => by simp at hy; subst hy; subst e; exact hq hx⟩
    by_cases hq : q = []
    · subst hq
      exact refut54_nil hn ha ih
    · exact refut54_cons hn ha hq (by have := dif_len h1 h2; omega) ih
def rfD (z : List (List Int)) : DV := dfs z.length (zf z) (z.length + 1) []
def rfE (z : List (List Int)) : Int := if validZ z then (if isNilD (rfD z) then 5 else 0) else 2
def rfR (z : List (List Int)) : DV := if validZ z then rfD z else Dnil
set_option maxRecDepth 10000 in
theorem Refute18 {d : DV} {z : List (List Int)} (hd : Mat d z) (hl : z.length ≤ 9223372036854775807) (hr : ∀ r ∈ z, r.length ≤ 9223372036854775807) : DeepCall Try.prog 18 [d] (.tup [rfR z, DI (rfE z)]) := by
  refine deepCall_K 5 Try.func18 rfl (Nat.le_of_ble_eq_true rfl) fun M W0 => ?_
  refine KC.seq ?_
  refine KC.region ?_
  refine KT.step rfl rfl (K.assign rfl) ?_
  refine KT.step rfl rfl (K.assign rfl) ?_
  refine KT.nil ?_
  refine thenK_n ?_
  refine KC.seq ?_
  refine KC.region ?_
  refine KT.step rfl rfl (K.move rfl) ?_
  refine KT.step rfl rfl (K.call1 rfl plainTry_53 (read53 hd hl hr)) ?_
  refine KT.step rfl rfl (K.move rfl) ?_
  refine KT.step rfl rfl (K.extract rfl rfl) ?_
  refine KT.step rfl rfl (K.extract rfl rfl) ?_
  refine KT.step rfl rfl (K.alloc Try.zero87) ?_
  refine KT.putAll (cs := mcx (rdN z) (rdA z)) rfl rfl rfl rfl rfl rfl rfl rfl Try.size87 ?_
  refine KT.step rfl rfl (K.assign rfl) ?_
  refine KT.nil ?_
  refine thenK_n ?_
  refine KC.seq ?_
  refine KC.seq ?_
  refine KC.region ?_
  refine KT.step rfl rfl (K.move rfl) ?_
  refine KT.step rfl rfl (K.not rfl) ?_
  refine KT.nil ?_
  refine thenK_n ?_
  refine KC.cond rfl (fun hc13 => ?_) (fun hc13 => ?_)
  · skip
    rw [Bool.not_eq_true'] at hc13
    refine KC.seq ?_
    refine KC.region ?_
    refine KT.step rfl rfl (K.assign rfl) ?_
    refine KT.step rfl rfl (K.assign rfl) ?_
    refine KT.nil ?_
    refine thenK_n ?_
    refine KC.ret ?_
    refine thenK_r ?_
    exact ⟨.inl rfl, _, rfl, fin_op (by unfold rfR; rw [hc13]; rfl) (by unfold rfE; rw [hc13]; rfl)⟩
  · skip
    rw [Bool.not_eq_false'] at hc13
    have hv := hc13
    have q1 := rd_pos hv
    have hz4 := (validZ_rows hv).2.1
    rw [q1.1, q1.2]
    refine KC.skip ?_
    refine thenK_n ?_
    refine KC.seq ?_
    refine KC.region ?_
    refine KT.step rfl rfl (K.loadOA (mc (z.length) (zf z)) rfl rfl (by decide) Try.agg87 Try.size87 rfl) ?_
    refine KT.step rfl rfl (K.call2 rfl rfl plainTry_54 (refut54 hz4 (Go.Zn.lim5 (zf_lim hv)) (z.length + 1) [] (by simp) (by simp) (by simp))) ?_
    refine KT.step rfl rfl (K.assign rfl) ?_
    refine KT.nil ?_
    refine thenK_n ?_
    refine KC.seq ?_
    refine KC.seq ?_
    refine KC.region ?_
    refine KT.step rfl rfl (K.move rfl) ?_
    refine KT.step rfl rfl (K.eqNilD rfl (dfs_sl _ _) Try.underlying23) ?_
    refine KT.nil ?_
    refine thenK_n ?_
    refine KC.cond rfl (fun hc17 => ?_) (fun hc17 => ?_)
    · skip
      refine KC.seq ?_
      refine KC.region ?_
      refine KT.step rfl rfl (K.assign rfl) ?_
      refine KT.step rfl rfl (K.assign rfl) ?_
      refine KT.nil ?_
      refine thenK_n ?_
      refine KC.ret ?_
      refine thenK_r ?_
      have hr0 : isNilD (rfD z) = true := hc17
      exact ⟨.inl rfl, _, rfl, fin_op (by unfold rfR; rw [if_pos hv]; exact ((dfs_sl _ _).nil_of hr0).symm) (by unfold rfE; rw [if_pos hv, if_pos hr0])⟩
    · skip
      refine KC.skip ?_
      refine thenK_n ?_
      refine KC.seq ?_
      refine KC.region ?_
      refine KT.step rfl rfl (K.move rfl) ?_
      refine KT.step rfl rfl (K.assign rfl) ?_
      refine KT.step rfl rfl (K.assign rfl) ?_
      refine KT.nil ?_
      refine thenK_n ?_
      refine KC.ret ?_
      have hr0 : isNilD (rfD z) = false := hc17
      exact ⟨.inl rfl, _, rfl, fin_op (by unfold rfR; rw [if_pos hv]; rfl) (by unfold rfE; rw [if_pos hv, hr0]; rfl)⟩

def crB (z : List (List Int)) (l : List Int) : Bool := validZ z && rfB z.length (zf z) l
def crE (z : List (List Int)) : Int := if validZ z then 0 else 2
set_option maxRecDepth 10000 in
theorem CheckRefute19 {d e : DV} {z : List (List Int)} {l : List Int} (hd : Mat d z) (hl : z.length ≤ 9223372036854775807) (hr : ∀ r ∈ z, r.length ≤ 9223372036854775807) (he : Ints e l) (hll : l.length ≤ 9223372036854775807) : DeepCall Try.prog 19 [d, e] (.tup [DB (crB z l), DI (crE z)]) := by
  refine deepCall_K 5 Try.func19 rfl (Nat.le_of_ble_eq_true rfl) fun M W0 => ?_
  refine KC.seq ?_
  refine KC.region ?_
  refine KT.step rfl rfl (K.assign rfl) ?_
  refine KT.step rfl rfl (K.assign rfl) ?_
  refine KT.nil ?_
  refine thenK_n ?_
  refine KC.seq ?_
  refine KC.region ?_
  refine KT.step rfl rfl (K.move rfl) ?_
  refine KT.step rfl rfl (K.call1 rfl plainTry_53 (read53 hd hl hr)) ?_
  refine KT.step rfl rfl (K.move rfl) ?_
  refine KT.step rfl rfl (K.extract rfl rfl) ?_
  refine KT.step rfl rfl (K.extract rfl rfl) ?_
  refine KT.step rfl rfl (K.alloc Try.zero87) ?_
  refine KT.putAll (cs := mcx (rdN z) (rdA z)) rfl rfl rfl rfl rfl rfl rfl rfl Try.size87 ?_
  refine KT.step rfl rfl (K.assign rfl) ?_
  refine KT.nil ?_
  refine thenK_n ?_
  refine KC.seq ?_
  refine KC.seq ?_
  refine KC.region ?_
  refine KT.step rfl rfl (K.move rfl) ?_
  refine KT.step rfl rfl (K.not rfl) ?_
  refine KT.nil ?_
  refine thenK_n ?_
  refine KC.cond rfl (fun hc14 => ?_) (fun hc14 => ?_)
  · skip
    rw [Bool.not_eq_true'] at hc14
    refine KC.seq ?_
    refine KC.region ?_
    refine KT.step rfl rfl (K.assign rfl) ?_
    refine KT.step rfl rfl (K.assign rfl) ?_
    refine KT.nil ?_
    refine thenK_n ?_
    refine KC.ret ?_
    refine thenK_r ?_
    exact ⟨.inl rfl, _, rfl, fin_be (by unfold crB; rw [hc14]; rfl) (by unfold crE; rw [hc14]; rfl)⟩
  · skip
    rw [Bool.not_eq_false'] at hc14
    have hv := hc14
    have q1 := rd_pos hv
    have hz4 := (validZ_rows hv).2.1
    rw [q1.1, q1.2]
    refine KC.skip ?_
    refine thenK_n ?_
    refine KC.seq ?_
    refine KC.region ?_
    refine KT.step rfl rfl (K.loadOA (mc (z.length) (zf z)) rfl rfl (by decide) Try.agg87 Try.size87 rfl) ?_
    refine KT.step rfl rfl (K.move rfl) ?_
    refine KT.step rfl rfl (K.call2 rfl rfl plainTry_55 (refutedBy55 he hll hz4 (Go.Zn.lim5 (zf_lim hv)))) ?_
    refine KT.step rfl rfl (K.assign rfl) ?_
    refine KT.step rfl rfl (K.assign rfl) ?_
    refine KT.nil ?_
    refine thenK_n ?_
    refine KC.ret ?_
    exact ⟨.inl rfl, _, rfl, fin_be (by unfold crB; rw [hv]; rfl) (by unfold crE; rw [hv]; rfl)⟩
end Go.Proofs.Ytjfpeiioddfjcaa

