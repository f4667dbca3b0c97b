import Derived.Test.YtjfpeiioddfjcaaZnY
import Derived.Test.YtjfpeiioddfjcaaZnN2
/-
  Zones: proofs of emptiness.
-/
namespace Go.Proofs.Ytjfpeiioddfjcaa
open Go.Vm Go.Zn
theorem plainTry_95 : plainFn Try.prog 95 = true := by kernel_rfl
theorem plainTry_55 : plainFn Try.prog 55 = true := by kernel_rfl
theorem plainTry_54 : plainFn Try.prog 54 = true := by kernel_rfl
theorem plainTry_18 : plainFn Try.prog 18 = true := by kernel_rfl
theorem plainTry_19 : plainFn Try.prog 19 = true := by kernel_rfl
theorem plainTry_109 : plainFn Try.prog 109 = true := by kernel_rfl
theorem plainTry_94 : plainFn Try.prog 94 = true := by kernel_rfl
set_option maxRecDepth 10000 in
theorem different95 {e : DV} {l : List Int} {n : Nat} (he : Ints e l) (hll : l.length ≤ 9223372036854775807) (hn : n ≤ 4) : DeepCall Try.prog 95 [e, DI (n : Nat)] (DB (difB n l)) := by
  refine deepCall_K 5 Try.func95 rfl (Nat.le_of_ble_eq_true rfl) fun M W0 => ?_
  refine KC.seq ?_
  refine KC.region ?_
  refine KT.step rfl rfl (K.assign rfl) ?_
  refine KT.nil ?_
  refine thenK_n ?_
  refine KC.seq ?_
  refine KC.region ?_
  refine KT.step rfl rfl (K.assign rfl) ?_
  refine KT.nil ?_
  refine thenK_n ?_
  refine KC.seq ?_
  refine KC.seq ?_
  refine KC.region ?_
  refine KT.step rfl rfl (K.move rfl) ?_
  refine KT.step rfl rfl (K.len rfl he Try.underlying23) ?_
  refine KT.step rfl rfl (K.move rfl) ?_
  refine KT.nil ?_
  refine thenK_n ?_
  refine KC.block ?_
  refine KC.loop (fun _ : Nat => []) (fun k => [(0, .d e), (1, .d (DI (n : Nat))), (5, .d (DI (Go.Cy.metN l k : Nat))), (8, .d e), (9, .d (DI (l.length : Nat))), (10, .d (DI (k : Nat)))]) (fun k => k ≤ l.length ∧ (∀ q, q < k → 0 ≤ l.getD q 0 ∧ l.getD q 0 < n) ∧ ∀ q r, q < r → r < k → l.getD q 0 ≠ l.getD r 0) (fun k => l.length - k) 0 ⟨Nat.zero_le _, fun q hq => by omega, fun q r _ h => by omega⟩ rfl (by simp [Go.Vm.look, extK, enterK, Go.Cy.metN]) ?_
  intro k hk
  obtain ⟨hk, hall1, hall2⟩ := hk
  refine KC.seq ?_
  refine KC.region ?_
  refine KT.step rfl rfl (K.lss rfl rfl) ?_
  refine KT.nil ?_
  refine thenK_n ?_
  refine KC.seq ?_
  refine KC.cond rfl (fun hc11 => ?_) (fun hc11 => ?_)
  · skip
    replace hc11 := of_decide_eq_true hc11
    have hkl : k < l.length := by omega
    have gk : l.getD k 0 = l[k] := by simp [hkl]
    refine KC.skip ?_
    refine thenK_n ?_
    refine KC.seq ?_
    refine KC.block ?_
    refine KC.seq ?_
    refine KC.region ?_
    refine KT.idxI rfl rfl rfl (by assumption) rfl (by omega) Try.underlying23 Try.size3 fun cs12 => ?_
    refine KT.step rfl rfl (K.load rfl Try.agg3) ?_
    refine KT.step rfl rfl (K.assign rfl) ?_
    refine KT.nil ?_
    refine thenK_n ?_
    refine KC.seq ?_
    refine KC.seq ?_
    refine KC.region ?_
    refine KT.step rfl rfl (K.move rfl) ?_
    refine KT.step rfl rfl (K.move rfl) ?_
    refine KT.step rfl rfl (K.sub rfl rfl (wrap_id (by omega))) ?_
    refine KT.step rfl rfl (K.call3 rfl rfl rfl plainTry_71 (in71 _ _ _)) ?_
    refine KT.step rfl rfl (K.not rfl) ?_
    refine KT.step rfl rfl (K.move rfl) ?_
    refine KT.bcase (fun hb19 => ?_) (fun hb19 => ?_)
    · skip
      rw [Bool.not_eq_true'] at hb19
      refine KT.skip rfl rfl ?_
      refine KT.skip rfl rfl ?_
      refine KT.skip rfl rfl ?_
      refine KT.skip rfl rfl ?_
      refine KT.skip rfl rfl ?_
      refine KT.step rfl rfl (K.pick rfl (fun _ => rfl) (fun h => by cases h)) ?_
      refine KT.nil ?_
      refine thenK_n ?_
      refine KC.cond rfl (fun hc25 => ?_) (fun hc25 => ?_)
      · skip
        refine KC.seq ?_
        refine KC.region ?_
        refine KT.step rfl rfl (K.assign rfl) ?_
        refine KT.nil ?_
        refine thenK_n ?_
        refine KC.ret ?_
        refine thenK_r ?_
        refine blockK_r ?_
        refine thenK_r ?_
        refine thenK_r ?_
        refine blockK_r ?_
        refine thenK_r ?_
        exact ⟨.inl rfl, _, rfl, fin_b (Bool.eq_false_iff.2 fun h => by
          have := (difB_iff.1 h).1 l[k] (List.getElem_mem hkl)
          rw [decide_eq_true this.1, decide_eq_true (show l[k] ≤ (n : Int) - 1 by omega)] at hb19
          cases hb19)⟩
      · cases hc25
    · skip
      rw [Bool.not_eq_false'] at hb19
      replace hb19 := Bool.and_eq_true_iff.1 hb19
      replace hb19 := And.intro (of_decide_eq_true hb19.1) (of_decide_eq_true hb19.2)
      obtain ⟨x, hx⟩ := Int.eq_ofNat_of_zero_le hb19.1
      simp only [hx] at *
      have hmetN : Go.Cy.metN l k < 2 ^ 63 := Nat.lt_of_lt_of_le (Go.Cy.met_lt (n := n) fun q hq => by have := hall1 q hq; unfold Go.Cy.inN; omega) (Nat.pow_le_pow_right (by decide) (by omega))
      have h2x : 2 ^ x < 2 ^ 63 := Nat.pow_lt_pow_right (by decide) (by omega)
      have hx2 : (l.getD k 0).toNat = x := by rw [gk]; rfl
      have hbit := bitOne (Go.Cy.metN l k) x
      refine KT.step rfl rfl (K.move rfl) ?_
      refine KT.step rfl rfl (K.move rfl) ?_
      refine KT.step rfl rfl (K.shr rfl rfl (by omega) (shrI (by omega))) ?_
      refine KT.step rfl rfl (K.band rfl rfl (show IntKind.i64.wrap (BitVec.ofInt IntKind.i64.bits ((Go.Cy.metN l k / 2 ^ x : Nat) : Int) &&& BitVec.ofInt IntKind.i64.bits (1 : Int)).toNat = ((Go.Cy.metN l k / 2 ^ x &&& 1 : Nat) : Int) from andI (b := 1) (Nat.lt_of_le_of_lt (Nat.div_le_self _ _) hmetN) (by decide))) ?_
      refine KT.step rfl rfl (K.eql rfl rfl) ?_
      refine KT.step rfl rfl (K.pick rfl (fun h => by cases h) (fun _ => rfl)) ?_
      refine KT.nil ?_
      refine thenK_n ?_
      refine KC.cond rfl (fun hc25 => ?_) (fun hc25 => ?_)
      · skip
        replace hc25 := of_decide_eq_true hc25
        have hmet : (Go.Cy.metN l k).testBit x = true := by rw [← hbit]; exact decide_eq_true hc25
        obtain ⟨q, hq1, hq2⟩ := Go.Cy.met_bit.1 hmet
        refine KC.seq ?_
        refine KC.region ?_
        refine KT.step rfl rfl (K.assign rfl) ?_
        refine KT.nil ?_
        refine thenK_n ?_
        refine KC.ret ?_
        refine thenK_r ?_
        refine blockK_r ?_
        refine thenK_r ?_
        refine thenK_r ?_
        refine blockK_r ?_
        refine thenK_r ?_
        exact ⟨.inl rfl, _, rfl, fin_b (Bool.eq_false_iff.2 fun h => by
          have hd := (difB_iff.1 h).2
          have hq3 : q < l.length := by omega
          have := List.pairwise_iff_getElem.1 hd q k hq3 hkl hq1
          have := hall1 q hq1
          have e2 : l[k] = (x : Int) := (show l[k] = l.getD k 0 by simp [hkl]).trans gk
          rw [show l.getD q 0 = l[q] by simp [hq3]] at this hq2
          omega)⟩
      · skip
        replace hc25 := of_decide_eq_false hc25
        have hmet : ¬ (Go.Cy.metN l k).testBit x = true := by rw [← hbit]; simpa using hc25
        have hmk : Go.Cy.metN l (k + 1) = Go.Cy.metN l k ||| 2 ^ x := by simp only [Go.Cy.metN, hx2]
        refine KC.skip ?_
        refine thenK_n ?_
        refine KC.region ?_
        refine KT.step rfl rfl (K.move rfl) ?_
        refine KT.step rfl rfl (K.move rfl) ?_
        refine KT.step rfl rfl (K.shl rfl rfl (by omega) (shlI (by omega))) ?_
        refine KT.step rfl rfl (K.bor rfl rfl (orI hmetN h2x)) ?_
        refine KT.step rfl rfl (K.assign rfl) ?_
        refine KT.nil ?_
        refine blockK_n ?_
        refine thenK_n ?_
        refine KC.region ?_
        refine KT.step rfl rfl (K.add rfl rfl (wrap_id (by omega))) ?_
        refine KT.step rfl rfl (K.move rfl) ?_
        refine KT.nil ?_
        refine thenK_n ?_
        refine ⟨k + 1, ⟨by omega, fun q hq => ?_, fun q r hqr hr => ?_⟩, by omega, rfl, by simp [Go.Vm.look, extK, hmk]⟩
        · by_cases e : q = k
          · subst e; rw [gk]; omega
          · exact hall1 q (by omega)
        · by_cases e : r = k
          · subst e
            intro h
            exact hmet (Go.Cy.met_bit.2 ⟨q, hqr, by rw [h, hx2]⟩)
          · exact hall2 q r hqr (by omega)
  · skip
    replace hc11 := of_decide_eq_false hc11
    refine KC.exit ?_
    refine thenK_x ?_
    refine thenK_x ?_
    refine blockK_e ?_
    refine thenK_n ?_
    refine KC.seq ?_
    refine KC.region ?_
    refine KT.step rfl rfl (K.assign rfl) ?_
    refine KT.nil ?_
    refine thenK_n ?_
    refine KC.ret ?_
    exact ⟨.inl rfl, _, rfl, fin_b (difB_iff.2 ⟨fun x hx => by
      obtain ⟨q, hq, rfl⟩ := List.getElem_of_mem hx
      have := hall1 q (by omega)
      rwa [show l.getD q 0 = l[q] by simp [hq]] at this, List.pairwise_iff_getElem.2 fun i j hi hj hij => by
      have := hall2 i j hij (by omega)
      rwa [show l.getD i 0 = l[i] by simp [hi], show l.getD j 0 = l[j] by simp [hj]] at this⟩)⟩

theorem new_deep {σ : List VObj} {q : List Nat} {c : Nat} (m : Nat) (h : σ.length = m) : (σ ++ [(⟨cellsI (zl q) ++ [.d (DI (c : Nat))], 0⟩ : VObj)])[m]? = some ⟨cellsI (zl (q ++ [c])), 0⟩ := by
  subst h
  rw [List.getElem?_concat_length, zl_snoc]
  simp [cellsI]
theorem zl_get {q : List Nat} {k : Nat} (h : k < (zl q).length) : (zl q)[k] = ((q.getD k 0 : Nat) : Int) := by
  have h' : k < q.length := by rwa [zl_len] at h
  rw [show q.getD k 0 = q[k] by simp [h']]
  simp [zl]
theorem getD_lt {q : List Nat} {n k : Nat} (h : ∀ x ∈ q, x < n) (hk : k < q.length) : q.getD k 0 < n := by
  rw [show q.getD k 0 = q[k] by simp [hk]]
  exact h _ (List.getElem_mem hk)
set_option maxRecDepth 10000 in
theorem refutedBy55 {e : DV} {n : Nat} {a : Nat → Nat → Int} {l : List Int} (he : Ints e l) (hll : l.length ≤ 9223372036854775807) (hn : n ≤ 4) (ha : ZgM 5000 (Go.Zn.flo n a)) : DeepCall Try.prog 55 [.agg (mc n a), e] (DB (rfB n a l)) := by
  refine deepCall_K 5 Try.func55 rfl (Nat.le_of_ble_eq_true rfl) fun M W0 => ?_
  refine KC.seq ?_
  refine KC.region ?_
  refine KT.step rfl rfl (K.box rfl) ?_
  refine KT.step rfl rfl (K.assign rfl) ?_
  refine KT.nil ?_
  refine thenK_n ?_
  refine KC.seq ?_
  refine KC.seq ?_
  refine KC.region ?_
  refine KT.step rfl rfl (K.move rfl) ?_
  refine KT.step rfl rfl (K.fieldAddrO rfl Try.fld87_0 Try.size3) ?_
  refine KT.step rfl rfl (K.loadO rfl rfl (by simp) rfl Try.agg3) ?_
  refine KT.step rfl rfl (K.call2 rfl rfl plainTry_95 (different95 he hll hn)) ?_
  refine KT.step rfl rfl (K.not rfl) ?_
  refine KT.nil ?_
  refine thenK_n ?_
  refine KC.cond rfl (fun hc12 => ?_) (fun hc12 => ?_)
  · skip
    rw [Bool.not_eq_true'] at hc12
    refine KC.seq ?_
    refine KC.region ?_
    refine KT.step rfl rfl (K.assign rfl) ?_
    refine KT.nil ?_
    refine thenK_n ?_
    refine KC.ret ?_
    refine thenK_r ?_
    exact ⟨.inl rfl, _, rfl, fin_b (by unfold rfB; rw [hc12]; rfl)⟩
  · skip
    rw [Bool.not_eq_false'] at hc12
    obtain ⟨q, rfl⟩ := nat_of (difB_iff.1 hc12).1
    obtain ⟨d1, d2⟩ := zl_dif.1 hc12
    have hql := dif_len d1 d2
    have hzq : (zl q).length = q.length := zl_len
    refine KC.skip ?_
    refine thenK_n ?_
    refine KC.seq ?_
    refine KC.region ?_
    refine KT.step rfl rfl (K.loadOA (mc (n) (a)) rfl rfl (by decide) Try.agg87 Try.size87 rfl) ?_
    refine KT.step rfl rfl (K.call1 rfl plainTry_90 (floored90 hn)) ?_
    refine KT.putAll (cs := mcx n (Go.Zn.flo n a)) rfl rfl rfl rfl rfl rfl rfl rfl Try.size87 ?_
    refine KT.nil ?_
    refine thenK_n ?_
    refine KC.seq ?_
    refine KC.region ?_
    refine KT.step rfl rfl (K.assign rfl) ?_
    refine KT.nil ?_
    refine thenK_n ?_
    refine KC.seq ?_
    refine KC.seq ?_
    refine KC.region ?_
    refine KT.step rfl rfl (K.move rfl) ?_
    refine KT.step rfl rfl (K.len rfl he Try.underlying23) ?_
    refine KT.step rfl rfl (K.move rfl) ?_
    refine KT.nil ?_
    refine thenK_n ?_
    refine KC.block ?_
    refine KC.loop (fun _ : Nat => [⟨mcx n (Go.Zn.flo n a), 0⟩]) (fun k => [(1, .d e), (2, .optr 0 0), (5, .d (DI (totP (Go.Zn.flo n a) q k))), (15, .d e), (16, .d (DI ((zl q).length : Nat))), (17, .d (DI (k : Nat)))]) (fun k => k ≤ (zl q).length) (fun k => (zl q).length - k) 0 (Nat.zero_le _) rfl (by simp [Go.Vm.look, extK, enterK, totP]) ?_
    intro k hk
    refine KC.seq ?_
    refine KC.region ?_
    refine KT.step rfl rfl (K.lss rfl rfl) ?_
    refine KT.nil ?_
    refine thenK_n ?_
    refine KC.seq ?_
    refine KC.cond rfl (fun hc18 => ?_) (fun hc18 => ?_)
    · skip
      replace hc18 := of_decide_eq_true hc18
      have hk1 := getD_lt d1 (show k < q.length by omega)
      have hk2 := getD_lt d1 (Nat.mod_lt (k + 1) (show q.length > 0 by omega))
      refine KC.skip ?_
      refine thenK_n ?_
      refine KC.seq ?_
      refine KC.block ?_
      refine KC.seq ?_
      refine KC.region ?_
      refine KT.step rfl rfl (K.move rfl) ?_
      refine KT.idxI rfl rfl rfl (by assumption) rfl (by omega) Try.underlying23 Try.size3 fun cs20 => ?_
      rw [zl_get]
      refine KT.step rfl rfl (K.load rfl Try.agg3) ?_
      refine KT.step rfl rfl (K.assign rfl) ?_
      refine KT.step rfl rfl (K.assign rfl) ?_
      refine KT.nil ?_
      refine thenK_n ?_
      refine KC.draw Try.mixed ?_
      refine KT.step rfl rfl (K.move rfl) ?_
      refine KT.step rfl rfl (K.move rfl) ?_
      refine KT.step rfl rfl (K.move rfl) ?_
      refine KT.step rfl rfl (K.move rfl) ?_
      refine KT.step rfl rfl (K.add rfl rfl (oneN (by omega))) ?_
      refine KT.step rfl rfl (K.move rfl) ?_
      refine KT.step rfl rfl (K.len rfl he Try.underlying23) ?_
      refine KT.step rfl rfl (K.rem rfl rfl (by omega) (show Int.tmod ((k + 1 : Nat) : Int) (((zl q).length : Nat) : Int) = (((k + 1) % (zl q).length : Nat) : Int) from tmodN _ _)) ?_
      refine KT.idxI rfl rfl rfl (by assumption) rfl (Nat.mod_lt _ (by omega)) Try.underlying23 Try.size3 fun cs30 => ?_
      rw [zl_get, zl_len]
      refine KT.step rfl rfl (K.load rfl Try.agg3) ?_
      refine KT.step rfl rfl (K.fieldAddrO rfl Try.fld87_1 Try.size85) ?_
      refine KT.step rfl rfl (K.idxA (m := q.getD k 0) rfl rfl (by omega) Try.underlying85 Try.size84) ?_
      refine KT.step rfl rfl (K.idxA (m := q.getD ((k + 1) % q.length) 0) rfl rfl (by omega) Try.underlying84 Try.size3) ?_
      refine KT.step rfl rfl (K.getM (i := q.getD k 0) (j := q.getD ((k + 1) % q.length) 0) rfl rfl rfl (by omega) (by omega) (by decide) Try.agg3) ?_
      refine KT.step rfl rfl (K.call2 rfl rfl plainTry_91 (sum91 (Lim.mono (totP_good ha k) (by unfold TOP; omega) (by unfold TOP; omega)) (Lim.mono (ha _ _) (by decide) (by decide)))) ?_
      refine KT.step rfl rfl (K.assign rfl) ?_
      refine KT.nil ?_
      refine ⟨by kernel_rfl, ?_⟩
      refine blockK_n ?_
      refine thenK_n ?_
      refine KC.region ?_
      refine KT.step rfl rfl (K.add rfl rfl (wrap_id (by omega))) ?_
      refine KT.step rfl rfl (K.move rfl) ?_
      refine KT.nil ?_
      refine thenK_n ?_
      refine ⟨k + 1, by omega, by omega, rfl, by simp [Go.Vm.look, extK, totP]⟩
    · skip
      replace hc18 := of_decide_eq_false hc18
      refine KC.exit ?_
      refine thenK_x ?_
      refine thenK_x ?_
      refine blockK_e ?_
      refine thenK_n ?_
      refine KC.seq ?_
      refine KC.region ?_
      refine KT.step rfl rfl (K.move rfl) ?_
      refine KT.step rfl rfl (K.lss rfl rfl) ?_
      refine KT.step rfl rfl (K.assign rfl) ?_
      refine KT.nil ?_
      refine thenK_n ?_
      refine KC.ret ?_
      have hke : k = (zl q).length := by omega
      exact ⟨.inl rfl, _, rfl, fin_b (by unfold rfB; rw [hc12, Bool.true_and, zl_nat, ← hke])⟩

theorem none_mem {l : List Int} {v : Int} {i : Nat} (h : ∀ q (hq : q < l.length), q < i → ¬ v = l[q]) (he : l.length ≤ i) : ¬ v ∈ l := fun hm => by
  obtain ⟨q, hq, e⟩ := List.getElem_of_mem hm
  exact h q hq (by omega) e.symm
def ixI (l : List Int) (v : Int) : Int := match l.findIdx? (fun x => v == x) with | some i => i | none => -1
theorem ixI_some {l : List Int} {v : Int} {i : Nat} (hi : i < l.length) (h : ∀ q (hq : q < l.length), q < i → ¬ v = l[q]) (he : v = l[i]) : ixI l v = i := by
  unfold ixI
  rw [List.findIdx?_eq_some_iff_getElem.2 ⟨hi, by simp [he], fun j hj => by have := h j (by omega) hj; simpa using this⟩]
theorem ixI_none {l : List Int} {v : Int} (h : ¬ v ∈ l) : ixI l v = -1 := by
  unfold ixI
  rw [List.findIdx?_eq_none_iff.2 fun x hx => by simp; intro e; subst e; exact h hx]
theorem ixI_mem {l : List Int} {v : Int} : 0 ≤ ixI l v ↔ v ∈ l := by
  by_cases h : v ∈ l
  · refine ⟨fun _ => h, fun _ => ?_⟩
    unfold ixI
    split
    · omega
    · rename_i hn
      have := List.findIdx?_eq_none_iff.1 hn v h
      simp at this
  · rw [ixI_none h]
    exact ⟨fun h0 => by omega, fun h1 => absurd h1 h⟩
set_option maxRecDepth 10000 in
theorem index109 {e : DV} {l : List Int} {v : Int} (he : Ints e l) (hll : l.length ≤ 9223372036854775807) : DeepCall Try.prog 109 [e, DI v] (DI (ixI l v)) := by
  refine deepCall_K 5 Try.func109 rfl (Nat.le_of_ble_eq_true rfl) fun M W0 => ?_
  refine KC.seq ?_
  refine KC.region ?_
  refine KT.step rfl rfl (K.assign rfl) ?_
  refine KT.nil ?_
  refine thenK_n ?_
  refine KC.seq ?_
  refine KC.seq ?_
  refine KC.region ?_
  refine KT.step rfl rfl (K.move rfl) ?_
  refine KT.step rfl rfl (K.len rfl he Try.underlying23) ?_
  refine KT.step rfl rfl (K.move rfl) ?_
  refine KT.nil ?_
  refine thenK_n ?_
  refine KC.block ?_
  refine KC.loop (fun _ : Nat => []) (fun i => [(0, .d e), (1, .d (DI v)), (7, .d (DI (l.length : Nat))), (8, .d (DI (i : Nat)))]) (fun i => i ≤ l.length ∧ ∀ q (hq : q < l.length), q < i → ¬ v = l[q]) (fun i => l.length - i) 0 ⟨Nat.zero_le _, fun q _ h => by omega⟩ rfl (by simp [Go.Vm.look, extK, enterK]) ?_
  intro i hi
  obtain ⟨hi, hall⟩ := hi
  refine KC.seq ?_
  refine KC.region ?_
  refine KT.step rfl rfl (K.lss rfl rfl) ?_
  refine KT.nil ?_
  refine thenK_n ?_
  refine KC.seq ?_
  refine KC.cond rfl (fun hc9 => ?_) (fun hc9 => ?_)
  · skip
    replace hc9 := of_decide_eq_true hc9
    have hil : i < l.length := by omega
    refine KC.skip ?_
    refine thenK_n ?_
    refine KC.seq ?_
    refine KC.block ?_
    refine KC.seq ?_
    refine KC.region ?_
    refine KT.step rfl rfl (K.move rfl) ?_
    refine KT.step rfl rfl (K.assign rfl) ?_
    refine KT.nil ?_
    refine thenK_n ?_
    refine KC.seq ?_
    refine KC.region ?_
    refine KT.step rfl rfl (K.move rfl) ?_
    refine KT.step rfl rfl (K.move rfl) ?_
    refine KT.step rfl rfl (K.move rfl) ?_
    refine KT.idxI rfl rfl rfl (by assumption) rfl (by omega) Try.underlying23 Try.size3 fun cs14 => ?_
    refine KT.step rfl rfl (K.load rfl Try.agg3) ?_
    refine KT.step rfl rfl (K.eql rfl rfl) ?_
    refine KT.nil ?_
    refine thenK_n ?_
    refine KC.cond rfl (fun hc16 => ?_) (fun hc16 => ?_)
    · skip
      replace hc16 := of_decide_eq_true hc16
      refine KC.seq ?_
      refine KC.region ?_
      refine KT.step rfl rfl (K.move rfl) ?_
      refine KT.step rfl rfl (K.assign rfl) ?_
      refine KT.nil ?_
      refine thenK_n ?_
      refine KC.ret ?_
      refine blockK_r ?_
      refine thenK_r ?_
      refine thenK_r ?_
      refine blockK_r ?_
      refine thenK_r ?_
      exact ⟨.inl rfl, _, rfl, fin_d (by rw [ixI_some hil hall hc16])⟩
    · skip
      replace hc16 := of_decide_eq_false hc16
      refine KC.skip ?_
      refine blockK_n ?_
      refine thenK_n ?_
      refine KC.region ?_
      refine KT.step rfl rfl (K.add rfl rfl (wrap_id (by omega))) ?_
      refine KT.step rfl rfl (K.move rfl) ?_
      refine KT.nil ?_
      refine thenK_n ?_
      refine ⟨i + 1, ⟨by omega, fun q hq h => ?_⟩, by omega, rfl, by simp [Go.Vm.look, extK]⟩
      by_cases e : q = i
      · subst e; exact hc16
      · exact hall q hq (by omega)
  · skip
    replace hc9 := of_decide_eq_false hc9
    refine KC.exit ?_
    refine thenK_x ?_
    refine thenK_x ?_
    refine blockK_e ?_
    refine thenK_n ?_
    refine KC.seq ?_
    refine KC.region ?_
    refine KT.step rfl rfl (K.assign rfl) ?_
    refine KT.nil ?_
    refine thenK_n ?_
    refine KC.ret ?_
    exact ⟨.inl rfl, _, rfl, fin_d (by rw [ixI_none (none_mem hall (by omega))])⟩
set_option maxRecDepth 10000 in
theorem contains94 {e : DV} {l : List Int} {v : Int} (he : Ints e l) (hll : l.length ≤ 9223372036854775807) : DeepCall Try.prog 94 [e, DI v] (DB (decide (v ∈ l))) := by
  refine deepCall_K 5 Try.func94 rfl (Nat.le_of_ble_eq_true rfl) fun M W0 => ?_
  refine KC.seq ?_
  refine KC.region ?_
  refine KT.step rfl rfl (K.assign rfl) ?_
  refine KT.nil ?_
  refine thenK_n ?_
  refine KC.seq ?_
  refine KC.region ?_
  refine KT.step rfl rfl (K.move rfl) ?_
  refine KT.step rfl rfl (K.move rfl) ?_
  refine KT.step rfl rfl (K.call2 rfl rfl plainTry_109 (index109 he hll)) ?_
  refine KT.step rfl rfl (K.geq rfl rfl) ?_
  refine KT.step rfl rfl (K.assign rfl) ?_
  refine KT.nil ?_
  refine thenK_n ?_
  refine KC.ret ?_
  exact ⟨.inl rfl, _, rfl, fin_b (decide_eq_decide.2 ixI_mem.symm)⟩
end Go.Proofs.Ytjfpeiioddfjcaa

