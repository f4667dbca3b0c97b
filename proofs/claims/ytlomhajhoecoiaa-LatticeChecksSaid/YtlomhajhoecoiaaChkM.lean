/-
  CONTRACTS for LatticeChecks: products and diagonals of the program.
-/
import Derived.Test.YtlomhajhoecoiaaChkL
import Derived.Test.YtlomhajhoecoiaaLatE
namespace Go.Proofs.Ytlomhajhoecoiaa
open Go.Vm Go.Big Go.Det
theorem plainTry_97 : plainFn Try.prog 97 = true := by kernel_rfl
theorem plainTry_99 : plainFn Try.prog 99 = true := by kernel_rfl
theorem plainTry_27 : plainFn Try.prog 27 = true := by kernel_rfl
theorem plainTry_55 : plainFn Try.prog 55 = true := by kernel_rfl

def prodF (a b : List (List Int)) (n i j : Nat) : Int := dotF (at0 (a.getD i [])) (at0 (col b j)) b.length
theorem cols_at {b : List (List Int)} {n j : Nat} (hj : j < n) : (cols b n)[j]'(by rw [cols_len]; exact hj) = col b j := by simp [cols]
set_option maxRecDepth 10000 in
theorem product97 {d e : DV} {a b : List (List Int)} {n : Nat} (hd : Mat d a) (he : Mat e b) (ha : ∀ r ∈ a, r.length = b.length) (hb : ∀ r ∈ b, r.length = n) (hb0 : 0 < b.length) (hal : a.length ≤ 1000) (hbl : b.length ≤ 1000) (hn : n ≤ 1000) : DeepCall Try.prog 97 [d, e] (genD a.length n (prodF a b n)) := by
  have hra : ∀ i, (hi : i < a.length) → a[i].length = b.length := fun i hi => ha _ (List.getElem_mem hi)
  have hrb : ∀ i, (hi : i < b.length) → b[i].length = n := fun i hi => hb _ (List.getElem_mem hi)
  refine deepCall_K 5 Try.func97 rfl (Nat.le_of_ble_eq_true rfl) fun M W0 => ?_
  refine KC.seq ?_
  refine KC.region ?_
  refine KT.step rfl rfl (K.assign rfl) ?_
  refine KT.nil ?_
  refine thenK_n ?_
  refine KC.seq ?_
  refine KC.region ?_
  refine KT.step rfl rfl (K.move rfl) ?_
  refine KT.step rfl rfl (K.move rfl) ?_
  refine KT.idx rfl rfl rfl he rfl hb0 Try.underlying22 Try.size35 fun c13 cs13 hq13 => ?_
  refine KT.step rfl rfl (K.load rfl Try.agg35) ?_
  refine KT.step rfl rfl (K.len rfl hq13 Try.underlying35) ?_
  rw [hrb 0 hb0]
  refine KT.step rfl rfl (K.call2 rfl rfl plainTry_93 (transposed93 he (by omega) (by omega) (fun r h => by rw [hb r h]; exact Nat.le_refl _))) ?_
  refine KT.step rfl rfl (K.assign rfl) ?_
  refine KT.nil ?_
  refine thenK_n ?_
  refine KC.seq ?_
  refine KC.region ?_
  refine KT.step rfl rfl (K.move rfl) ?_
  refine KT.step rfl rfl (K.len rfl hd Try.underlying22) ?_
  refine KT.step rfl rfl (K.make rfl rfl (Nat.le_refl _) (by omega) Try.underlying22 Try.one35) ?_
  refine KT.step rfl rfl (K.assign rfl) ?_
  refine KT.nil ?_
  refine thenK_n ?_
  refine KC.seq ?_
  refine KC.seq ?_
  refine KC.region ?_
  refine KT.step rfl rfl (K.move rfl) ?_
  refine KT.step rfl rfl (K.len rfl hd Try.underlying22) ?_
  refine KT.step rfl rfl (K.move rfl) ?_
  refine KT.nil ?_
  refine thenK_n ?_
  refine KC.block ?_
  refine KC.loop (fun i => sgP a.length n (prodF a b n) i) (fun i => [(5, .d (transD b n)), (6, .osl 0 0 a.length 1 a.length true), (20, .d d), (21, .d (DI a.length)), (22, .d (DI (i : Int)))]) (fun i => i ≤ a.length) (fun i => a.length - i) 0 (Nat.zero_le _) (by rw [sgP_zero]; rfl) (by simp [Go.Vm.look, extK, enterK]) ?_
  intro i hi
  refine KC.seq ?_
  refine KC.region ?_
  refine KT.step rfl rfl (K.lss rfl rfl) ?_
  refine KT.nil ?_
  refine thenK_n ?_
  refine KC.seq ?_
  refine KC.cond rfl (fun hc23 => ?_) (fun hc23 => ?_)
  · skip
    replace hc23 := of_decide_eq_true hc23
    have hil : i < a.length := by omega
    refine KC.skip ?_
    refine thenK_n ?_
    refine KC.seq ?_
    refine KC.block ?_
    refine KC.seq ?_
    refine KC.region ?_
    refine KT.step rfl rfl (K.move rfl) ?_
    refine KT.idx rfl rfl rfl hd rfl hil Try.underlying22 Try.size35 fun c25 cs25 hq25 => ?_
    refine KT.step rfl rfl (K.load rfl Try.agg35) ?_
    refine KT.step rfl rfl (K.assign rfl) ?_
    refine KT.step rfl rfl (K.assign rfl) ?_
    refine KT.nil ?_
    refine thenK_n ?_
    refine KC.seq ?_
    refine KC.region ?_
    refine KT.step rfl rfl (K.move rfl) ?_
    refine KT.step rfl rfl (K.move rfl) ?_
    refine KT.step rfl rfl (K.move rfl) ?_
    refine KT.step rfl rfl (K.len rfl (transD_mat b n) Try.underlying22) ?_
    rw [cols_len]
    refine KT.step rfl rfl (K.make rfl rfl (Nat.le_refl _) (by omega) Try.underlying35 Try.one3) ?_
    refine KT.step rfl rfl (K.idxO rfl rfl (by omega) Try.underlying22 Try.size35) ?_
    refine KT.step rfl rfl (K.storeO rfl rfl rfl (by rw [updL_len]; omega) rfl rfl Try.size35) ?_
    refine KT.nil ?_
    refine thenK_n ?_
    refine KC.seq ?_
    refine KC.region ?_
    refine KT.step rfl rfl (K.move rfl) ?_
    refine KT.step rfl rfl (K.len rfl (transD_mat b n) Try.underlying22) ?_
    rw [cols_len]
    refine KT.step rfl rfl (K.move rfl) ?_
    refine KT.nil ?_
    refine thenK_n ?_
    refine KC.block ?_
    refine KC.loop (fun j => sgQ a.length n (prodF a b n) i j) (fun j => [(5, .d (transD b n)), (6, .osl 0 0 a.length 1 a.length true), (7, .d (DI (i : Int))), (8, .d c25), (20, .d d), (21, .d (DI a.length)), (22, .d (DI (i : Int))), (33, .d (transD b n)), (34, .d (DI n)), (35, .d (DI (j : Int)))]) (fun j => j ≤ n) (fun j => n - j) 0 (Nat.zero_le _) (sgP_start hil) (by simp [Go.Vm.look, extK, enterK]) ?_
    intro j hj
    refine KC.seq ?_
    refine KC.region ?_
    refine KT.step rfl rfl (K.lss rfl rfl) ?_
    refine KT.nil ?_
    refine thenK_n ?_
    refine KC.seq ?_
    refine KC.cond rfl (fun hc36 => ?_) (fun hc36 => ?_)
    · skip
      replace hc36 := of_decide_eq_true hc36
      have hjn : j < n := by omega
      refine KC.skip ?_
      refine thenK_n ?_
      refine KC.seq ?_
      refine KC.block ?_
      refine KC.seq ?_
      refine KC.region ?_
      refine KT.step rfl rfl (K.move rfl) ?_
      refine KT.idx rfl rfl rfl (transD_mat b n) rfl (by rw [cols_len]; omega) Try.underlying22 Try.size35 fun c38 cs38 hq38 => ?_
      refine KT.step rfl rfl (K.load rfl Try.agg35) ?_
      refine KT.step rfl rfl (K.assign rfl) ?_
      refine KT.step rfl rfl (K.assign rfl) ?_
      refine KT.nil ?_
      refine thenK_n ?_
      refine KC.draw Try.mixed ?_
      refine KT.step rfl rfl (K.move rfl) ?_
      refine KT.step rfl rfl (K.move rfl) ?_
      refine KT.step rfl rfl (K.idxO rfl rfl (by omega) Try.underlying22 Try.size35) ?_
      refine KT.step rfl rfl (K.loadO rfl rfl (by simp) (oslF_get hil) Try.agg35) ?_
      refine KT.step rfl rfl (K.move rfl) ?_
      refine KT.step rfl rfl (K.move rfl) ?_
      rw [cols_at hjn] at hq38
      have hdot := dot75 hq25 hq38 (by rw [hra i hil, col_len]; exact Nat.le_refl _) (by rw [hra i hil]; omega)
      rw [hra i hil, show at0 a[i] = at0 (a.getD i []) by simp [hil]] at hdot
      refine KT.step rfl rfl (K.move rfl) ?_
      refine KT.step rfl rfl (K.call2 rfl rfl plainTry_75 (hdot)) ?_
      refine KT.step rfl rfl (K.idxO rfl rfl (by omega) Try.underlying35 Try.size3) ?_
      refine KT.step rfl rfl (K.storeO rfl rfl (sgQ_row i j) (by rw [rowC_len]; omega) rfl rfl Try.size3) ?_
      refine KT.nil ?_
      refine ⟨by kernel_rfl, ?_⟩
      refine blockK_n ?_
      refine thenK_n ?_
      refine KC.region ?_
      refine KT.step rfl rfl (K.add rfl rfl (wrap_id (by omega))) ?_
      refine KT.step rfl rfl (K.move rfl) ?_
      refine KT.nil ?_
      refine thenK_n ?_
      refine ⟨j + 1, by omega, by omega, sgQ_step hjn rfl, by simp [Go.Vm.look, extK]⟩
    · skip
      replace hc36 := of_decide_eq_false hc36
      obtain rfl : j = n := by omega
      refine KC.exit ?_
      refine thenK_x ?_
      refine thenK_x ?_
      refine blockK_e ?_
      refine blockK_n ?_
      refine thenK_n ?_
      refine KC.region ?_
      refine KT.step rfl rfl (K.add rfl rfl (wrap_id (by omega))) ?_
      refine KT.step rfl rfl (K.move rfl) ?_
      refine KT.nil ?_
      refine thenK_n ?_
      refine ⟨i + 1, by omega, by omega, sgQ_end i, by simp [Go.Vm.look, extK]⟩
  · skip
    replace hc23 := of_decide_eq_false hc23
    obtain rfl : i = a.length := by omega
    refine KC.exit ?_
    refine thenK_x ?_
    refine thenK_x ?_
    refine blockK_e ?_
    refine thenK_n ?_
    refine KC.seq ?_
    refine KC.region ?_
    refine KT.step rfl rfl (K.move rfl) ?_
    refine KT.step rfl rfl (K.assign rfl) ?_
    refine KT.nil ?_
    refine thenK_n ?_
    refine KC.ret ?_
    exact ⟨.inl rfl, _, rfl, gen_fin⟩

def wantF (s : List Int) (i j : Nat) : Int := if i = j then s.getD i 0 else 0
noncomputable def diagB (p v : List (List Int)) (s : List Int) (n : Nat) : Bool := @decide (∀ i, i < p.length → ∀ j, j < n → dotZ (at0' (p.getD i [])) (at0' (col v j)) v.length = wantF s i j) (Classical.propDecidable _)
theorem dotZ_bd {f g : Nat → Int} {A C : Nat} : ∀ n, (∀ k, k < n → (f k).natAbs ≤ A) → (∀ k, k < n → (g k).natAbs ≤ C) → (dotZ f g n).natAbs ≤ n * (A * C)
  | 0, _, _ => by simp [dotZ]
  | n + 1, hf, hg => by
    have ih := dotZ_bd n (fun k hk => hf k (by omega)) (fun k hk => hg k (by omega))
    have h1 := hf n (by omega)
    have h2 := hg n (by omega)
    have h3 : (f n * g n).natAbs ≤ A * C := by rw [Int.natAbs_mul]; exact Nat.mul_le_mul h1 h2
    have h4 := abs_add (dotZ f g n) (f n * g n)
    simp only [dotZ]
    rw [Nat.succ_mul]
    omega
set_option maxRecDepth 10000 in
theorem isDiagonal99 {d e f : DV} {p v : List (List Int)} {s : List Int} {n : Nat} (hd : Mat d p) (he : Mat e v) (hf : Ints f s) (hp : ∀ r ∈ p, r.length = v.length) (hv : ∀ r ∈ v, r.length = n) (hvn : v.length = n) (hpl : p.length ≤ 1000) (hn : n ≤ 1000) (hs : ∀ i, i < p.length → i < n → i < s.length)
    (bp : ∀ r ∈ p, ∀ x ∈ r, x.natAbs ≤ 2 ^ 62) (bv : Ent (2 ^ 40) v) (bs : ∀ x ∈ s, -9223372036854775808 ≤ x ∧ x ≤ 9223372036854775807) : DeepCall Try.prog 99 [d, e, f] (DB (diagB p v s n)) := by
  have hrp : ∀ i, (hi : i < p.length) → p[i].length = v.length := fun i hi => hp _ (List.getElem_mem hi)
  have hcol : ∀ j, ∀ x ∈ col v j, x.natAbs ≤ 2 ^ 40 := fun j x hx => by
    obtain ⟨r, hr, rfl⟩ := List.mem_map.1 hx
    exact getD_bd (bv r hr) j
  refine deepCall_K 5 Try.func99 rfl (Nat.le_of_ble_eq_true rfl) fun M W0 => ?_
  refine KC.seq ?_
  refine KC.region ?_
  refine KT.step rfl rfl (K.assign rfl) ?_
  refine KT.nil ?_
  refine thenK_n ?_
  refine KC.seq ?_
  refine KC.seq ?_
  refine KC.region ?_
  refine KT.step rfl rfl (K.move rfl) ?_
  refine KT.step rfl rfl (K.len rfl hd Try.underlying22) ?_
  refine KT.step rfl rfl (K.move rfl) ?_
  refine KT.nil ?_
  refine thenK_n ?_
  refine KC.block ?_
  refine KC.loop (fun _ : Nat => []) (fun i => [(0, .d d), (1, .d e), (2, .d f), (12, .d d), (13, .d (DI p.length)), (14, .d (DI (i : Int)))]) (fun i => i ≤ p.length ∧ ∀ k, k < i → ∀ j, j < n → dotZ (at0' (p.getD k [])) (at0' (col v j)) v.length = wantF s k j) (fun i => p.length - i) 0 ⟨Nat.zero_le _, by simp⟩ rfl (by simp [Go.Vm.look, extK, enterK]) ?_
  intro i hi
  obtain ⟨hi, hall⟩ := hi
  refine KC.seq ?_
  refine KC.region ?_
  refine KT.step rfl rfl (K.lss rfl rfl) ?_
  refine KT.nil ?_
  refine thenK_n ?_
  refine KC.seq ?_
  refine KC.cond rfl (fun hc15 => ?_) (fun hc15 => ?_)
  · skip
    replace hc15 := of_decide_eq_true hc15
    have hil : i < p.length := by omega
    refine KC.skip ?_
    refine thenK_n ?_
    refine KC.seq ?_
    refine KC.block ?_
    refine KC.seq ?_
    refine KC.region ?_
    refine KT.step rfl rfl (K.move rfl) ?_
    refine KT.idx rfl rfl rfl hd rfl hil Try.underlying22 Try.size35 fun c17 cs17 hq17 => ?_
    refine KT.step rfl rfl (K.load rfl Try.agg35) ?_
    refine KT.step rfl rfl (K.assign rfl) ?_
    refine KT.step rfl rfl (K.assign rfl) ?_
    refine KT.nil ?_
    refine thenK_n ?_
    refine KC.seq ?_
    refine KC.region ?_
    refine KT.step rfl rfl (K.move rfl) ?_
    refine KT.step rfl rfl (K.move rfl) ?_
    refine KT.step rfl rfl (K.len rfl he Try.underlying22) ?_
    rw [hvn]
    refine KT.step rfl rfl (K.call2 rfl rfl plainTry_93 (transposed93 (n := n) he (by omega) (by omega) (fun r h => by rw [hv r h]; exact Nat.le_refl _))) ?_
    refine KT.step rfl rfl (K.len rfl (transD_mat v n) Try.underlying22) ?_
    rw [cols_len]
    refine KT.step rfl rfl (K.move rfl) ?_
    refine KT.nil ?_
    refine thenK_n ?_
    refine KC.block ?_
    refine KC.loop (fun _ : Nat => []) (fun j => [(0, .d d), (1, .d e), (2, .d f), (7, .d (DI (i : Int))), (8, .d c17), (12, .d d), (13, .d (DI p.length)), (14, .d (DI (i : Int))), (22, .d (transD v n)), (23, .d (DI n)), (24, .d (DI (j : Int)))]) (fun j => j ≤ n ∧ ∀ q, q < j → dotZ (at0' (p.getD i [])) (at0' (col v q)) v.length = wantF s i q) (fun j => n - j) 0 ⟨Nat.zero_le _, by simp⟩ rfl (by simp [Go.Vm.look, extK, enterK]) ?_
    intro j hj
    obtain ⟨hj, hin⟩ := hj
    refine KC.seq ?_
    refine KC.region ?_
    refine KT.step rfl rfl (K.lss rfl rfl) ?_
    refine KT.nil ?_
    refine thenK_n ?_
    refine KC.seq ?_
    refine KC.cond rfl (fun hc25 => ?_) (fun hc25 => ?_)
    · skip
      replace hc25 := of_decide_eq_true hc25
      have hjn : j < n := by omega
      refine KC.skip ?_
      refine thenK_n ?_
      refine KC.seq ?_
      refine KC.block ?_
      refine KC.seq ?_
      refine KC.region ?_
      refine KT.step rfl rfl (K.move rfl) ?_
      refine KT.idx rfl rfl rfl (transD_mat v n) rfl (by rw [cols_len]; omega) Try.underlying22 Try.size35 fun c27 cs27 hq27 => ?_
      rw [cols_at hjn] at hq27
      refine KT.step rfl rfl (K.load rfl Try.agg35) ?_
      refine KT.step rfl rfl (K.assign rfl) ?_
      refine KT.step rfl rfl (K.assign rfl) ?_
      refine KT.nil ?_
      refine thenK_n ?_
      refine KC.seq ?_
      refine KC.region ?_
      refine KT.step rfl rfl (K.assign rfl) ?_
      refine KT.nil ?_
      refine thenK_n ?_
      refine KC.seq ?_
      refine KC.seq ?_
      refine KC.region ?_
      refine KT.step rfl rfl (K.move rfl) ?_
      refine KT.step rfl rfl (K.move rfl) ?_
      refine KT.step rfl rfl (K.eql rfl rfl) ?_
      refine KT.nil ?_
      refine thenK_n ?_
      refine KC.cond rfl (fun hc31 => ?_) (fun hc31 => ?_)
      · skip
        replace hc31 := of_decide_eq_true hc31
        have hij : i = j := by omega
        have his : i < s.length := hs i hil (by omega)
        have hw := bs s[i] (List.getElem_mem his)
        have hwant : wantF s i j = s[i] := by simp [wantF, hij, show j < s.length by omega]
        refine KC.region ?_
        refine KT.step rfl rfl (K.move rfl) ?_
        refine KT.step rfl rfl (K.move rfl) ?_
        refine KT.idxI rfl rfl rfl hf rfl his Try.underlying35 Try.size3 fun cs34 => ?_
        refine KT.step rfl rfl (K.load rfl Try.agg3) ?_
        refine KT.step rfl rfl (K.assign rfl) ?_
        refine KT.nil ?_
        refine thenK_n ?_
        refine KC.seq ?_
        refine KC.region ?_
        have hdot := longDot113 hq17 hq27 (by rw [hrp i hil, col_len]; exact Nat.le_refl _) (by rw [hrp i hil]; omega) (fun x hx => by have := bp _ (List.getElem_mem hil) x hx; omega) (fun x hx => by have := hcol j x hx; omega)
        rw [hrp i hil, show at0' p[i] = at0' (p.getD i []) by simp [hil]] at hdot
        have hbd : (dotZ (at0' (p.getD i [])) (at0' (col v j)) v.length).natAbs < 2 ^ 255 := by
          refine Nat.lt_of_le_of_lt (dotZ_bd (A := 2 ^ 62) (C := 2 ^ 40) v.length (fun k hk => ?_) (fun k hk => getD_bd (hcol j) k)) ?_
          · rw [show p.getD i [] = p[i] by simp [hil]]; exact getD_bd (bp _ (List.getElem_mem hil)) k
          · refine Nat.lt_of_le_of_lt (Nat.mul_le_mul_right _ (show v.length ≤ 1000 by omega)) (by decide)
        refine KT.step rfl rfl (K.move rfl) ?_
        refine KT.step rfl rfl (K.move rfl) ?_
        refine KT.step rfl rfl (K.call2 rfl rfl plainTry_113 (hdot)) ?_
        refine KT.step rfl rfl (K.move rfl) ?_
        refine KT.step rfl rfl (K.call1 rfl plainTry_112 (longOf112 hw.1 hw.2)) ?_
        refine KT.step rfl rfl (K.longNeq rfl rfl hbd (by omega)) ?_
        refine KT.nil ?_
        refine thenK_n ?_
        refine KC.cond rfl (fun hc41 => ?_) (fun hc41 => ?_)
        · skip
          refine KC.seq ?_
          refine KC.region ?_
          refine KT.step rfl rfl (K.assign rfl) ?_
          refine KT.nil ?_
          refine thenK_n ?_
          refine KC.ret ?_
          refine blockK_r ?_
          refine thenK_r ?_
          refine thenK_r ?_
          refine blockK_r ?_
          refine blockK_r ?_
          refine thenK_r ?_
          refine thenK_r ?_
          refine blockK_r ?_
          refine thenK_r ?_
          refine ⟨.inl rfl, _, rfl, fin_b ?_⟩
          unfold diagB
          refine @decide_eq_false _ (Classical.propDecidable _) fun h => ?_
          have g := h i hil j hjn
          rw [hwant] at g
          exact absurd g (by simpa using hc41)
        · skip
          refine KC.skip ?_
          refine blockK_n ?_
          refine thenK_n ?_
          refine KC.region ?_
          refine KT.step rfl rfl (K.add rfl rfl (wrap_id (by omega))) ?_
          refine KT.step rfl rfl (K.move rfl) ?_
          refine KT.nil ?_
          refine thenK_n ?_
          refine ⟨j + 1, ⟨by omega, fun q hq => ?_⟩, by omega, rfl, by simp [Go.Vm.look, extK]⟩
          by_cases e : q < j
          · exact hin q e
          · obtain rfl : q = j := by omega
            rw [hwant]
            simpa using hc41
      · skip
        replace hc31 := of_decide_eq_false hc31
        have hij : ¬ i = j := by omega
        have hw : -9223372036854775808 ≤ (0 : Int) ∧ (0 : Int) ≤ 9223372036854775807 := by omega
        have hwant : wantF s i j = 0 := by simp [wantF, hij]
        refine KC.skip ?_
        refine thenK_n ?_
        refine KC.seq ?_
        refine KC.region ?_
        have hdot := longDot113 hq17 hq27 (by rw [hrp i hil, col_len]; exact Nat.le_refl _) (by rw [hrp i hil]; omega) (fun x hx => by have := bp _ (List.getElem_mem hil) x hx; omega) (fun x hx => by have := hcol j x hx; omega)
        rw [hrp i hil, show at0' p[i] = at0' (p.getD i []) by simp [hil]] at hdot
        have hbd : (dotZ (at0' (p.getD i [])) (at0' (col v j)) v.length).natAbs < 2 ^ 255 := by
          refine Nat.lt_of_le_of_lt (dotZ_bd (A := 2 ^ 62) (C := 2 ^ 40) v.length (fun k hk => ?_) (fun k hk => getD_bd (hcol j) k)) ?_
          · rw [show p.getD i [] = p[i] by simp [hil]]; exact getD_bd (bp _ (List.getElem_mem hil)) k
          · refine Nat.lt_of_le_of_lt (Nat.mul_le_mul_right _ (show v.length ≤ 1000 by omega)) (by decide)
        refine KT.step rfl rfl (K.move rfl) ?_
        refine KT.step rfl rfl (K.move rfl) ?_
        refine KT.step rfl rfl (K.call2 rfl rfl plainTry_113 (hdot)) ?_
        refine KT.step rfl rfl (K.move rfl) ?_
        refine KT.step rfl rfl (K.call1 rfl plainTry_112 (longOf112 hw.1 hw.2)) ?_
        refine KT.step rfl rfl (K.longNeq rfl rfl hbd (by omega)) ?_
        refine KT.nil ?_
        refine thenK_n ?_
        refine KC.cond rfl (fun hc41 => ?_) (fun hc41 => ?_)
        · skip
          refine KC.seq ?_
          refine KC.region ?_
          refine KT.step rfl rfl (K.assign rfl) ?_
          refine KT.nil ?_
          refine thenK_n ?_
          refine KC.ret ?_
          refine blockK_r ?_
          refine thenK_r ?_
          refine thenK_r ?_
          refine blockK_r ?_
          refine blockK_r ?_
          refine thenK_r ?_
          refine thenK_r ?_
          refine blockK_r ?_
          refine thenK_r ?_
          refine ⟨.inl rfl, _, rfl, fin_b ?_⟩
          unfold diagB
          refine @decide_eq_false _ (Classical.propDecidable _) fun h => ?_
          have g := h i hil j hjn
          rw [hwant] at g
          exact absurd g (by simpa using hc41)
        · skip
          refine KC.skip ?_
          refine blockK_n ?_
          refine thenK_n ?_
          refine KC.region ?_
          refine KT.step rfl rfl (K.add rfl rfl (wrap_id (by omega))) ?_
          refine KT.step rfl rfl (K.move rfl) ?_
          refine KT.nil ?_
          refine thenK_n ?_
          refine ⟨j + 1, ⟨by omega, fun q hq => ?_⟩, by omega, rfl, by simp [Go.Vm.look, extK]⟩
          by_cases e : q < j
          · exact hin q e
          · obtain rfl : q = j := by omega
            rw [hwant]
            simpa using hc41
    · skip
      replace hc25 := of_decide_eq_false hc25
      obtain rfl : j = n := by omega
      refine KC.exit ?_
      refine thenK_x ?_
      refine thenK_x ?_
      refine blockK_e ?_
      refine blockK_n ?_
      refine thenK_n ?_
      refine KC.region ?_
      refine KT.step rfl rfl (K.add rfl rfl (wrap_id (by omega))) ?_
      refine KT.step rfl rfl (K.move rfl) ?_
      refine KT.nil ?_
      refine thenK_n ?_
      refine ⟨i + 1, ⟨by omega, fun k hk => ?_⟩, by omega, rfl, by simp [Go.Vm.look, extK]⟩
      by_cases e : k < i
      · rw [hvn] at hall
        exact hall k e
      · obtain rfl : k = i := by omega
        rw [hvn] at hin
        exact hin
  · skip
    replace hc15 := of_decide_eq_false hc15
    obtain rfl : i = p.length := by omega
    refine KC.exit ?_
    refine thenK_x ?_
    refine thenK_x ?_
    refine blockK_e ?_
    refine thenK_n ?_
    refine KC.seq ?_
    refine KC.region ?_
    refine KT.step rfl rfl (K.assign rfl) ?_
    refine KT.nil ?_
    refine thenK_n ?_
    refine KC.ret ?_
    refine ⟨.inl rfl, _, rfl, fin_b ?_⟩
    unfold diagB
    exact @decide_eq_true _ (Classical.propDecidable _) hall
end Go.Proofs.Ytlomhajhoecoiaa
