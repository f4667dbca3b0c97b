import Derived.Test.YthbnnffmhnjpjaaCyB
/-
  Times: products, powers, ways.
-/
namespace Go.Proofs.Ythbnnffmhnjpjaa
open Go.Vm Go.Cy
theorem plainTry_86 : plainFn Try.prog 86 = true := by kernel_rfl
theorem plainTry_48 : plainFn Try.prog 48 = true := by kernel_rfl
theorem plainTry_53 : plainFn Try.prog 53 = true := by kernel_rfl
theorem plainTry_92 : plainFn Try.prog 92 = true := by kernel_rfl
theorem plainTry_59 : plainFn Try.prog 59 = true := by kernel_rfl

theorem greatest60_own' {σ : List VObj} {id md n : Nat} {l : List Int} {lo : Nat} {ex : Bool} (hn : l.length = n) (ho : σ[id]? = some ⟨icells l, md⟩) (hm : md < 2) (hl : n ≤ 1073741824) : OwnCall Try.prog 60 σ [.osl id 0 n 1 lo ex] σ (.d (DI (gre l))) := by
  subst hn; exact greatest60_own ho hm hl
theorem good_bd {b x : Int} (h : Cy.Good b x) (hb : b ≤ 1000000000000) : -2000000000000 ≤ x ∧ x ≤ 2000000000000 := by
  rcases h with rfl | h
  · unfold Nv; omega
  · omega
/-- The row of sums of a product. -/
def sumL (n : Nat) (a b : Nat → Nat → Int) (i j : Nat) : List Int := (List.range n).map fun k => aft (a i k) (b k j)
def sumX (n : Nat) (a b : Nat → Nat → Int) (i j : Nat) (k : Nat) : XV := .d (DI (aft (a i k) (b k j)))
theorem sumX_cells (n : Nat) (a b : Nat → Nat → Int) (i j : Nat) : (List.range n).map (sumX n a b i j) = icells (sumL n a b i j) := by simp [icells, sumL, sumX, Function.comp_def]
theorem get_range {n i : Nat} {f : Nat → Int} (h : i < ((List.range n).map f).length) : ((List.range n).map f)[i] = f i := by simp
set_option maxRecDepth 10000 in
theorem prod1_86 {d e : DV} {n i j : Nat} {a b : Nat → Nat → Int} {old : Nat → XV} {τ : List VObj} (hd : Mat d (genM n n a)) (he : Mat e (genM n n b)) (hn : n ≤ 1000) (ha : GoodM 1000000000000 a) (hb : GoodM 1000000000000 b) (hi : i < n) (hj : j < n) :
    OwnCall Try.prog 86 ([⟨[.d d], 0⟩, ⟨[.d e], 0⟩, ⟨(List.range n).map old, 0⟩, ⟨[.osl 2 0 n 1 n true], 0⟩] ++ τ) [.d (DI (i : Nat)), .d (DI (j : Nat)), .optr 3 0, .optr 0 0, .optr 1 0] ([⟨[.d d], 0⟩, ⟨[.d e], 0⟩, ⟨(List.range n).map (sumX n a b i j), 0⟩, ⟨[.osl 2 0 n 1 n true], 0⟩] ++ τ) (.d (DI (prodI n a b i j))) := by
  refine ownCall_K Try.func86 rfl (Nat.le_of_ble_eq_true rfl) fun M W0 => ?_
  refine KC.seq ?_
  refine KC.region ?_
  refine KT.step rfl rfl (K.assign rfl) ?_
  refine KT.nil ?_
  refine thenK_n ?_
  refine KC.seq ?_
  refine KC.seq ?_
  refine KC.region ?_
  refine KT.step rfl rfl (K.loadO rfl rfl (by simp) rfl Try.agg33) ?_
  refine KT.step rfl rfl (K.lenO rfl Try.underlying33) ?_
  refine KT.step rfl rfl (K.move rfl) ?_
  refine KT.nil ?_
  refine thenK_n ?_
  refine KC.block ?_
  refine KC.loop (fun k : Nat => [⟨[.d d], 0⟩, ⟨[.d e], 0⟩, ⟨mixL n (sumX n a b i j) old k, 0⟩, ⟨[.osl 2 0 n 1 n true], 0⟩] ++ τ) (fun k => [(0, .d (DI (i : Nat))), (1, .d (DI (j : Nat))), (2, .optr 3 0), (3, .optr 0 0), (4, .optr 1 0), (10, .d (DI (n : Nat))), (11, .d (DI (k : Nat)))]) (fun k => k ≤ n) (fun k => n - k) 0 (Nat.zero_le _) (by rw [mixL_zero]) (by simp [Go.Vm.look, extK, enterK]) ?_
  intro k hk
  refine KC.seq ?_
  refine KC.region ?_
  refine KT.step rfl rfl (K.lss rfl rfl) ?_
  refine KT.nil ?_
  refine thenK_n ?_
  refine KC.seq ?_
  refine KC.cond rfl (fun hc12 => ?_) (fun hc12 => ?_)
  · skip
    replace hc12 := of_decide_eq_true hc12
    refine KC.skip ?_
    refine thenK_n ?_
    refine KC.seq ?_
    refine KC.block ?_
    refine KC.seq ?_
    refine KC.region ?_
    refine KT.step rfl rfl (K.move rfl) ?_
    refine KT.step rfl rfl (K.assign rfl) ?_
    refine KT.nil ?_
    refine thenK_n ?_
    refine KC.draw Try.mixed ?_
    refine KT.step rfl rfl (K.loadO rfl rfl (by simp) rfl Try.agg33) ?_
    refine KT.step rfl rfl (K.move rfl) ?_
    refine KT.step rfl rfl (K.loadO rfl rfl (by simp) rfl Try.agg22) ?_
    refine KT.step rfl rfl (K.move rfl) ?_
    refine KT.idx rfl rfl rfl (by assumption) rfl (by rw [genM_len]; omega) Try.underlying22 Try.size33 fun c18 cs18 hq18 => ?_
    rw [genM_row] at hq18
    refine KT.step rfl rfl (K.load rfl Try.agg33) ?_
    refine KT.step rfl rfl (K.move rfl) ?_
    refine KT.idxI rfl rfl rfl (by assumption) rfl (by simp; omega) Try.underlying33 Try.size3 fun cs21 => ?_
    rw [get_range]
    refine KT.step rfl rfl (K.load rfl Try.agg3) ?_
    refine KT.step rfl rfl (K.loadO rfl rfl (by simp) rfl Try.agg22) ?_
    refine KT.step rfl rfl (K.move rfl) ?_
    refine KT.idx rfl rfl rfl (by assumption) rfl (by rw [genM_len]; omega) Try.underlying22 Try.size33 fun c25 cs25 hq25 => ?_
    rw [genM_row] at hq25
    refine KT.step rfl rfl (K.load rfl Try.agg33) ?_
    refine KT.step rfl rfl (K.move rfl) ?_
    refine KT.idxI rfl rfl rfl (by assumption) rfl (by simp; omega) Try.underlying33 Try.size3 fun cs28 => ?_
    rw [get_range]
    refine KT.step rfl rfl (K.load rfl Try.agg3) ?_
    refine KT.step rfl rfl (K.call2 rfl rfl plainTry_87 (after87 (good_bd (ha i k) (Int.le_refl _)) (good_bd (hb k j) (Int.le_refl _)))) ?_
    refine KT.step rfl rfl (K.idxO rfl rfl (by omega) Try.underlying33 Try.size3) ?_
    refine KT.step rfl rfl (K.storeO rfl rfl (show (_ : List VObj)[2]? = some ⟨mixL n (sumX n a b i j) old k, 0⟩ from rfl) (by rw [mixL_len]; omega) rfl rfl Try.size3) ?_
    refine KT.nil ?_
    refine ⟨by kernel_rfl, ?_⟩
    refine blockK_n ?_
    refine thenK_n ?_
    refine KC.region ?_
    refine KT.step rfl rfl (K.add rfl rfl (wrap_id (by omega))) ?_
    refine KT.step rfl rfl (K.move rfl) ?_
    refine KT.nil ?_
    refine thenK_n ?_
    refine ⟨k + 1, by omega, by omega, ?_, by simp [Go.Vm.look, extK]⟩
    rw [← mixL_set (f := sumX n a b i j) (old := old) (show k < n by omega)]; rfl
  · skip
    replace hc12 := of_decide_eq_false hc12
    refine KC.exit ?_
    refine thenK_x ?_
    refine thenK_x ?_
    refine blockK_e ?_
    refine thenK_n ?_
    refine KC.seq ?_
    refine KC.region ?_
    refine KT.step rfl rfl (K.loadO rfl rfl (by simp) rfl Try.agg33) ?_
    have hkn : k = n := by omega
    subst hkn
    rw [mixL_full]
    refine KT.step rfl rfl (K.callO rfl plainTry_60 (greatest60_own' (id := 2) (md := 0) (l := sumL k a b i j) (by simp [sumL]) (by rw [← sumX_cells]; rfl) (by simp) (by omega))) ?_
    refine KT.step rfl rfl (K.assign rfl) ?_
    refine KT.nil ?_
    refine thenK_n ?_
    refine KC.ret ?_
    exact ⟨.inl rfl, rfl, rfl⟩

def pfP (n : Nat) (a b : Nat → Nat → Int) (d e : DV) : Nat → List VObj
  | 0 => [⟨[.d d], 0⟩, ⟨[.d e], 0⟩, ⟨(List.range n).map fun _ => .d (.lit (.int .i64 0)), 0⟩, ⟨[.osl 2 0 n 1 n true], 0⟩]
  | t + 1 => [⟨[.d d], 0⟩, ⟨[.d e], 0⟩, ⟨(List.range n).map (sumX n a b (t / n) (t % n)), 0⟩, ⟨[.osl 2 0 n 1 n true], 0⟩]
theorem pfP_len (n : Nat) (a b : Nat → Nat → Int) (d e : DV) (t : Nat) : (pfP n a b d e t).length = 4 := by cases t <;> rfl
theorem divmod {n i j : Nat} (hj : j < n) : (i * n + j) / n = i ∧ (i * n + j) % n = j := by
  rw [Nat.mul_comm i n]
  exact ⟨by rw [Nat.mul_add_div (by omega), Nat.div_eq_of_lt hj]; rfl, by rw [Nat.mul_add_mod, Nat.mod_eq_of_lt hj]⟩
set_option maxRecDepth 10000 in
theorem product48 {d e : DV} {n : Nat} {a b : Nat → Nat → Int} (hd : Mat d (genM n n a)) (he : Mat e (genM n n b)) (h1 : 1 ≤ n) (hn : n ≤ 1000) (ha : GoodM 1000000000000 a) (hb : GoodM 1000000000000 b) :
    DeepCall Try.prog 48 [d, e] (genD n n (prodI n a b)) := by
  refine deepCall_K 5 Try.func48 rfl (Nat.le_of_ble_eq_true rfl) fun M W0 => ?_
  refine KC.seq ?_
  refine KC.region ?_
  refine KT.step rfl rfl (K.box rfl) ?_
  rw [(SlD.of hd).cells]
  refine KT.step rfl rfl (K.box rfl) ?_
  try rw [(SlD.of he).cells]
  refine KT.step rfl rfl (K.assign rfl) ?_
  refine KT.nil ?_
  refine thenK_n ?_
  refine KC.seq ?_
  refine KC.region ?_
  refine KT.step rfl rfl (K.loadO rfl rfl (by simp) rfl Try.agg22) ?_
  refine KT.step rfl rfl (K.len rfl hd Try.underlying22) ?_
  rw [genM_len]
  refine KT.step rfl rfl (K.make rfl rfl (Nat.le_refl _) (by omega) Try.underlying33 Try.one3) ?_
  refine KT.step rfl rfl (K.alloc Try.one33.zero) ?_
  refine KT.step rfl rfl (K.storeO rfl rfl rfl Nat.zero_lt_one rfl rfl Try.size33) ?_
  refine KT.nil ?_
  refine thenK_n ?_
  refine KC.seq ?_
  refine KC.region ?_
  refine KT.step rfl rfl (K.loadO rfl rfl (by simp) rfl Try.agg22) ?_
  refine KT.step rfl rfl (K.len rfl hd Try.underlying22) ?_
  rw [genM_len]
  have hpf : ([⟨[.d d], 0⟩, ⟨[.d e], 0⟩, ⟨List.replicate n (.d (.lit (.int .i64 0))), 0⟩, ⟨[.osl 2 0 n 1 n true], 0⟩] : List VObj) = pfP n a b d e 0 := by
    have : (List.range n).map (fun _ => XV.d (.lit (.int .i64 0))) = List.replicate n (.d (.lit (.int .i64 0))) := by rw [List.map_const', List.length_range]
    rw [pfP, this]
  refine KT.step (x := .fn (.func 86) [] [.optr 3 0, .optr 0 0, .optr 1 0]) rfl rfl (K.makeF (m := 0) rfl rfl rfl rfl) ?_
  refine KT.step rfl rfl (K.callO (xs := [.d (DI (n : Nat)), .fn (.func 86) [] [.optr 3 0, .optr 0 0, .optr 1 0]]) rfl plainTry_85 (by
    have := build85_own (N := n) (L := 4) (f := prodI n a b) (fv := .fn (.func 86) [] [.optr 3 0, .optr 0 0, .optr 1 0]) (fid := 86) (first := []) (caps := [.optr 3 0, .optr 0 0, .optr 1 0]) (pf := pfP n a b d e) hn rfl plainTry_86 (pfP_len n a b d e) (fun i j hi hj τ => by
      obtain ⟨g1, g2⟩ := divmod (i := i) hj
      have key : pfP n a b d e (i * n + j + 1) = [⟨[.d d], 0⟩, ⟨[.d e], 0⟩, ⟨(List.range n).map (sumX n a b i j), 0⟩, ⟨[.osl 2 0 n 1 n true], 0⟩] := by rw [pfP, g1, g2]
      rw [key]
      cases i * n + j with
      | zero => exact prod1_86 hd he hn ha hb hi hj
      | succ t => exact prod1_86 hd he hn ha hb hi hj)
    rw [← hpf] at this
    exact this)) ?_
  try rw [(SlD.of he).cells]
  refine KT.step rfl rfl (K.assign rfl) ?_
  refine KT.nil ?_
  refine thenK_n ?_
  refine KC.ret ?_
  exact ⟨.inl rfl, _, rfl, gP_fin (pfP_len n a b d e _)⟩

theorem genS_good {n : Nat} {b : Int} {a : Nat → Nat → Int} (ha : GoodM b a) (hb : 0 ≤ b) (hs : Sup n (DM a)) {k : Nat} (h : (k : Int) * b ≤ 1000000000000) : GoodM 1000000000000 (sqI n a k) := by
  rw [sq_pw ha hb hs k h]; exact fun i j => (pw_good ha hb k i j).mono h
theorem quoN (k : Nat) : Int.tdiv (k : Int) 2 = ((k / 2 : Nat) : Int) := by rw [Int.tdiv_eq_ediv_of_nonneg (by omega)]; omega
theorem remN (k : Nat) : Int.tmod (k : Int) 2 = ((k % 2 : Nat) : Int) := by rw [Int.tmod_eq_emod_of_nonneg (by omega)]; omega
set_option maxRecDepth 10000 in
theorem power53_step {d : DV} {n : Nat} {a : Nat → Nat → Int} {k : Nat} (hd : Mat d (genM n n a)) (h1 : 1 ≤ n) (hn : n ≤ 1000) (hk : k ≤ 1000000) (ha : GoodM 1000000000000 a) (hg : GoodM 1000000000000 (sqI n a (k / 2))) (hg2 : GoodM 1000000000000 (prodI n (sqI n a (k / 2)) (sqI n a (k / 2))))
    (ih : k ≠ 0 → DeepCall Try.prog 53 [d, DI ((k / 2 : Nat) : Int)] (genD n n (sqI n a (k / 2)))) : DeepCall Try.prog 53 [d, DI (k : Nat)] (genD n n (sqI n a k)) := by
  refine deepCall_K 5 Try.func53 rfl (Nat.le_of_ble_eq_true rfl) fun M W0 => ?_
  refine KC.seq ?_
  refine KC.region ?_
  refine KT.step rfl rfl (K.assign rfl) ?_
  refine KT.nil ?_
  refine thenK_n ?_
  refine KC.seq ?_
  refine KC.seq ?_
  refine KC.region ?_
  refine KT.step rfl rfl (K.move rfl) ?_
  refine KT.step rfl rfl (K.eql rfl rfl) ?_
  refine KT.nil ?_
  refine thenK_n ?_
  refine KC.cond rfl (fun hc8 => ?_) (fun hc8 => ?_)
  · skip
    replace hc8 := of_decide_eq_true hc8
    refine KC.seq ?_
    refine KC.region ?_
    refine KT.step rfl rfl (K.move rfl) ?_
    refine KT.step rfl rfl (K.len rfl hd Try.underlying22) ?_
    rw [genM_len]
    refine KT.step rfl rfl (K.call (ds := [DI (n : Nat), .fn (.func 88) [] []]) rfl plainTry_85 (build85 hn plainTry_88 fun i j hi hj => one88 hi)) ?_
    refine KT.step rfl rfl (K.assign rfl) ?_
    refine KT.nil ?_
    refine thenK_n ?_
    refine KC.ret ?_
    refine thenK_r ?_
    exact ⟨.inl rfl, _, rfl, fin_d (by rw [show k = 0 by omega, sqI_zero])⟩
  · skip
    replace hc8 := of_decide_eq_false hc8
    refine KC.skip ?_
    refine thenK_n ?_
    refine KC.seq ?_
    refine KC.region ?_
    refine KT.step rfl rfl (K.move rfl) ?_
    refine KT.step rfl rfl (K.move rfl) ?_
    refine KT.step rfl rfl (K.quo rfl rfl (by omega) (show IntKind.i64.wrap (Int.tdiv (k : Int) 2) = ((k / 2 : Nat) : Int) from by rw [quoN]; exact wrap_id (by omega))) ?_
    refine KT.step rfl rfl (K.call2 rfl rfl plainTry_53 (ih (fun h => hc8 (by rw [h]; rfl)))) ?_
    refine KT.step rfl rfl (K.assign rfl) ?_
    refine KT.nil ?_
    refine thenK_n ?_
    refine KC.seq ?_
    refine KC.region ?_
    refine KT.step rfl rfl (K.move rfl) ?_
    refine KT.step rfl rfl (K.move rfl) ?_
    refine KT.step rfl rfl (K.call2 rfl rfl plainTry_48 (product48 genD_mat genD_mat h1 hn hg hg)) ?_
    refine KT.step rfl rfl (K.assign rfl) ?_
    refine KT.nil ?_
    refine thenK_n ?_
    refine KC.seq ?_
    refine KC.seq ?_
    refine KC.region ?_
    refine KT.step rfl rfl (K.move rfl) ?_
    refine KT.step rfl rfl (K.rem rfl rfl (by omega) (remN k)) ?_
    refine KT.step rfl rfl (K.eql rfl rfl) ?_
    refine KT.nil ?_
    refine thenK_n ?_
    refine KC.cond rfl (fun hc21 => ?_) (fun hc21 => ?_)
    · skip
      replace hc21 := of_decide_eq_true hc21
      refine KC.region ?_
      refine KT.step rfl rfl (K.move rfl) ?_
      refine KT.step rfl rfl (K.move rfl) ?_
      refine KT.step rfl rfl (K.call2 rfl rfl plainTry_48 (product48 genD_mat hd h1 hn hg2 ha)) ?_
      refine KT.step rfl rfl (K.assign rfl) ?_
      refine KT.nil ?_
      refine thenK_n ?_
      refine KC.seq ?_
      refine KC.region ?_
      refine KT.step rfl rfl (K.move rfl) ?_
      refine KT.step rfl rfl (K.assign rfl) ?_
      refine KT.nil ?_
      refine thenK_n ?_
      refine KC.ret ?_
      exact ⟨.inl rfl, _, rfl, fin_d (by rw [sqI_odd (show k % 2 = 1 by omega)])⟩
    · skip
      replace hc21 := of_decide_eq_false hc21
      refine KC.skip ?_
      refine thenK_n ?_
      refine KC.seq ?_
      refine KC.region ?_
      refine KT.step rfl rfl (K.move rfl) ?_
      refine KT.step rfl rfl (K.assign rfl) ?_
      refine KT.nil ?_
      refine thenK_n ?_
      refine KC.ret ?_
      exact ⟨.inl rfl, _, rfl, fin_d (by rw [sqI_even (by omega) (show ¬ k % 2 = 1 by omega)])⟩

theorem power53 {d : DV} {n : Nat} {a : Nat → Nat → Int} {b : Int} (hd : Mat d (genM n n a)) (h1 : 1 ≤ n) (hn : n ≤ 1000) (ha : GoodM b a) (hb : 0 ≤ b) (hs : Sup n (DM a)) (k : Nat) (hk : k ≤ 1000000) (hkb : (k : Int) * b ≤ 1000000000000) (hbb : b ≤ 1000000000000) :
    DeepCall Try.prog 53 [d, DI (k : Nat)] (genD n n (pwI n a k)) := by
  rw [← sq_pw ha hb hs k hkb]
  induction k using Nat.strongRecOn with
  | _ k ih =>
    have h0 : ((k / 2 : Nat) : Int) * b ≤ (k : Int) * b := Int.mul_le_mul_of_nonneg_right (by omega) hb
    have h2 : ((k / 2 : Nat) : Int) * b + ((k / 2 : Nat) : Int) * b ≤ (k : Int) * b := by
      rw [← Int.add_mul]; exact Int.mul_le_mul_of_nonneg_right (by omega) hb
    have hg := sq_pw ha hb hs (k / 2) (by omega)
    refine power53_step hd h1 hn hk (fun i j => (ha i j).mono hbb) (genS_good ha hb hs (by omega)) ?_ (fun h => ih (k / 2) (by omega) (by omega) (by omega))
    rw [hg]
    exact fun i j => (prod_good (pw_good ha hb _) (pw_good ha hb _) i j).mono (by omega)
end Go.Proofs.Ythbnnffmhnjpjaa

