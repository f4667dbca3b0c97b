/-
  CONTRACTS for LatticeChecks: products of the reference.
-/
import Derived.Test.YtlomhajhoecoiaaChkN
namespace Go.Proofs.Ytlomhajhoecoiaa
open Go.Vm Go.Big Go.Det
theorem plainTry_53 : plainFn Try.prog 53 = true := by kernel_rfl
theorem plainTry_54 : plainFn Try.prog 54 = true := by kernel_rfl

def termQ (u a v : List (List Int)) (i j p q : Nat) : Int := (u.getD i []).getD p 0 * ((a.getD p []).getD q 0 * (v.getD q []).getD j 0)
def totQ (u a v : List (List Int)) (n i j p : Nat) : Int := sumZ (fun p => sumZ (termQ u a v i j p) n) p
noncomputable def refP (u a v w : List (List Int)) (n N : Nat) : Bool := @decide (∀ i, i < u.length → ∀ j, j < N → totQ u a v n i j a.length = (w.getD i []).getD j 0) (Classical.propDecidable _)
theorem termQ_bd {u a v : List (List Int)} (bu : Ent (2 ^ 40) u) (ba : Ent 20 a) (bv : Ent (2 ^ 40) v) (i j p q : Nat) : (termQ u a v i j p q).natAbs ≤ 2 ^ 40 * (20 * 2 ^ 40) := by
  unfold termQ
  rw [Int.natAbs_mul, Int.natAbs_mul]
  exact Nat.mul_le_mul (bu.get i p) (Nat.mul_le_mul (ba.get p q) (bv.get q j))
theorem totQ_bd {u a v : List (List Int)} (bu : Ent (2 ^ 40) u) (ba : Ent 20 a) (bv : Ent (2 ^ 40) v) (n i j p p' q : Nat) (hn : n ≤ 5) (hp : p ≤ 5) (hq : q ≤ 5) : (totQ u a v n i j p + sumZ (termQ u a v i j p') q).natAbs < B ^ 30 := by
  have h1 := sumZ_bd (f := termQ u a v i j p') q fun k _ => termQ_bd bu ba bv i j p' k
  have h2 := sumZ_bd (f := fun p => sumZ (termQ u a v i j p) n) (c := 5 * (2 ^ 40 * (20 * 2 ^ 40))) p fun k _ =>
    Nat.le_trans (sumZ_bd (f := termQ u a v i j k) n fun l _ => termQ_bd bu ba bv i j k l) (Nat.mul_le_mul_right _ hn)
  have h3 : q * (2 ^ 40 * (20 * 2 ^ 40)) ≤ 5 * (2 ^ 40 * (20 * 2 ^ 40)) := Nat.mul_le_mul_right _ hq
  have h4 : p * (5 * (2 ^ 40 * (20 * 2 ^ 40))) ≤ 5 * (5 * (2 ^ 40 * (20 * 2 ^ 40))) := Nat.mul_le_mul_right _ hp
  have h5 := abs_add (totQ u a v n i j p) (sumZ (termQ u a v i j p') q)
  refine Nat.lt_of_le_of_lt (m := 30 * (2 ^ 40 * (20 * 2 ^ 40))) ?_ (by decide)
  unfold totQ at h5 ⊢
  omega
structure AccI (σ : List VObj) (id : Nat) (neg : Bool) (m : DV) (z : Int) : Prop where
  ob : σ[id]? = some ⟨[.d (DB neg), .d m], 0⟩
  big : BigZ (.agg [DB neg, m]) z
  sl : SlD m
set_option maxRecDepth 10000 in
theorem product53 {du da dv dw : DV} {u a v w : List (List Int)} {n N : Nat} (hu : Mat du u) (ha : Mat da a) (hv : Mat dv v) (hw : Mat dw w) (ru : ∀ r ∈ u, r.length = a.length) (ra : ∀ r ∈ a, r.length = n) (rv : ∀ r ∈ v, r.length = N) (rw' : ∀ r ∈ w, r.length = N) (hvl : v.length = n) (hwl : w.length = u.length)
    (hul : u.length ≤ 5) (hal : a.length ≤ 5) (hn0 : 0 < n) (hn : n ≤ 5) (hN : N ≤ 5) (bu : Ent (2 ^ 40) u) (ba : Ent 20 a) (bv : Ent (2 ^ 40) v) (bw : ∀ r ∈ w, ∀ x ∈ r, -9223372036854775808 ≤ x ∧ x ≤ 9223372036854775807) : DeepCall Try.prog 53 [du, da, dv, dw] (DB (refP u a v w n N)) := by
  have hru : ∀ i, (hi : i < u.length) → u[i].length = a.length := fun i hi => ru _ (List.getElem_mem hi)
  have hra : ∀ i, (hi : i < a.length) → a[i].length = n := fun i hi => ra _ (List.getElem_mem hi)
  have hrv : ∀ i, (hi : i < v.length) → v[i].length = N := fun i hi => rv _ (List.getElem_mem hi)
  have hrw : ∀ i, (hi : i < w.length) → w[i].length = N := fun i hi => rw' _ (List.getElem_mem hi)
  have hv0 : 0 < v.length := by omega
  obtain ⟨r0, c0, b0⟩ := numberZ (n := 0) (by decide) (by decide)
  obtain ⟨n0, m0, rfl, s0⟩ := big_shape b0
  refine deepCall_K 5 Try.func53 rfl (Nat.le_of_ble_eq_true rfl) fun M W0 => ?_
  refine KC.seq ?_
  refine KC.region ?_
  refine KT.step rfl rfl (K.assign rfl) ?_
  refine KT.nil ?_
  refine thenK_n ?_
  refine KC.seq ?_
  refine KC.seq ?_
  refine KC.region ?_
  refine KT.step rfl rfl (K.move rfl) ?_
  refine KT.step rfl rfl (K.len rfl hu Try.underlying22) ?_
  refine KT.step rfl rfl (K.move rfl) ?_
  refine KT.nil ?_
  refine thenK_n ?_
  refine KC.block ?_
  refine KC.loop (fun s : List VObj × Nat => s.1) (fun s => [(0, .d du), (1, .d da), (2, .d dv), (3, .d dw), (17, .d du), (18, .d (DI u.length)), (19, .d (DI (s.2 : Nat)))]) (fun s => s.2 ≤ u.length ∧ ∀ k, k < s.2 → ∀ j, j < N → totQ u a v n k j a.length = (w.getD k []).getD j 0) (fun s => u.length - s.2) ([], 0) ⟨Nat.zero_le _, by simp⟩ rfl (by simp [Go.Vm.look, extK, enterK]) ?_
  intro s hs
  obtain ⟨σ0, i⟩ := s
  obtain ⟨hi, hall⟩ := hs
  simp only at hi hall ⊢
  refine KC.seq ?_
  refine KC.region ?_
  refine KT.step rfl rfl (K.lss rfl rfl) ?_
  refine KT.nil ?_
  refine thenK_n ?_
  refine KC.seq ?_
  refine KC.cond rfl (fun hc20 => ?_) (fun hc20 => ?_)
  · skip
    replace hc20 := of_decide_eq_true hc20
    have hil : i < u.length := by omega
    refine KC.skip ?_
    refine thenK_n ?_
    refine KC.seq ?_
    refine KC.block ?_
    refine KC.seq ?_
    refine KC.region ?_
    refine KT.step rfl rfl (K.move rfl) ?_
    refine KT.idx rfl rfl rfl hu rfl hil Try.underlying22 Try.size35 fun c22 cs22 hq22 => ?_
    refine KT.step rfl rfl (K.load rfl Try.agg35) ?_
    refine KT.step rfl rfl (K.assign rfl) ?_
    refine KT.step rfl rfl (K.assign rfl) ?_
    refine KT.nil ?_
    refine thenK_n ?_
    refine KC.seq ?_
    refine KC.region ?_
    refine KT.step rfl rfl (K.move rfl) ?_
    refine KT.idx rfl rfl rfl hv rfl hv0 Try.underlying22 Try.size35 fun c25 cs25 hq25 => ?_
    refine KT.step rfl rfl (K.load rfl Try.agg35) ?_
    refine KT.step rfl rfl (K.len rfl hq25 Try.underlying35) ?_
    rw [hrv 0 hv0]
    refine KT.step rfl rfl (K.move rfl) ?_
    refine KT.nil ?_
    refine thenK_n ?_
    refine KC.block ?_
    refine KC.loop (fun s : List VObj × Nat => s.1) (fun s => [(0, .d du), (1, .d da), (2, .d dv), (3, .d dw), (9, .d (DI (i : Int))), (10, .d c22), (17, .d du), (18, .d (DI u.length)), (19, .d (DI (i : Int))), (27, .d (DI (N : Int))), (28, .d (DI (s.2 : Nat)))]) (fun s => s.2 ≤ N ∧ ∀ j, j < s.2 → totQ u a v n i j a.length = (w.getD i []).getD j 0) (fun s => N - s.2) (σ0, 0) ⟨Nat.zero_le _, by simp⟩ rfl (by simp [Go.Vm.look, extK, enterK]) ?_
    intro s hs
    obtain ⟨σ1, j⟩ := s
    obtain ⟨hj, hin⟩ := hs
    simp only at hj hin ⊢
    refine KC.seq ?_
    refine KC.region ?_
    refine KT.step rfl rfl (K.lss rfl rfl) ?_
    refine KT.nil ?_
    refine thenK_n ?_
    refine KC.seq ?_
    refine KC.cond rfl (fun hc29 => ?_) (fun hc29 => ?_)
    · skip
      replace hc29 := of_decide_eq_true hc29
      have hjn : j < N := by omega
      refine KC.skip ?_
      refine thenK_n ?_
      refine KC.seq ?_
      refine KC.block ?_
      refine KC.seq ?_
      refine KC.region ?_
      refine KT.step rfl rfl (K.move rfl) ?_
      refine KT.step rfl rfl (K.assign rfl) ?_
      refine KT.nil ?_
      refine thenK_n ?_
      refine KC.seq ?_
      refine KC.region ?_
      refine KT.step rfl rfl (K.call1 rfl plainTry_86 (c0)) ?_
      refine KT.step rfl rfl (K.alloc Try.zero87) ?_
      refine KT.storeH (cs := [.d (DB n0), .d m0]) rfl rfl rfl rfl (List.getElem?_concat_length ..) rfl (by simp [Value.cells]) (by simp only [List.all_cons, s0.one]; rfl) Try.size87 fun σ5 l5 u5 v5 => ?_
      rw [show splice (List.map (fun v => XV.d (DV.lit v)) (Value.agg #[.bool false, .slice none 0 0]).cells.toList) 0 [XV.d (DB n0), .d m0] = [.d (DB n0), .d m0] from rfl] at u5
      refine KT.nil ?_
      refine thenK_n ?_
      refine KC.seq ?_
      refine KC.seq ?_
      refine KC.region ?_
      refine KT.step rfl rfl (K.move rfl) ?_
      refine KT.step rfl rfl (K.len rfl hq22 Try.underlying35) ?_
      rw [hru i hil]
      refine KT.step rfl rfl (K.move rfl) ?_
      refine KT.nil ?_
      refine thenK_n ?_
      refine KC.block ?_
      refine KC.loop (fun s : List VObj × Bool × DV × Nat => s.1) (fun s => [(0, .d du), (1, .d da), (2, .d dv), (3, .d dw), (9, .d (DI (i : Int))), (10, .d c22), (11, .d (DI (j : Int))), (12, .optr σ1.length 0), (17, .d du), (18, .d (DI u.length)), (19, .d (DI (i : Int))), (27, .d (DI (N : Int))), (28, .d (DI (j : Int))), (32, .d c22), (33, .d (DI a.length)), (34, .d (DI (s.2.2.2 : Nat)))]) (fun s => s.2.2.2 ≤ a.length ∧ AccI s.1 σ1.length s.2.1 s.2.2.1 (totQ u a v n i j s.2.2.2 + sumZ (termQ u a v i j s.2.2.2) 0)) (fun s => a.length - s.2.2.2) (σ5, n0, m0, 0) ⟨Nat.zero_le _, u5, b0, s0⟩ rfl (by simp [Go.Vm.look, extK, enterK]) ?_
      intro s hs
      obtain ⟨σ2, ng, mg, p⟩ := s
      obtain ⟨hp, acc⟩ := hs
      simp only at hp acc ⊢
      refine KC.seq ?_
      refine KC.region ?_
      refine KT.step rfl rfl (K.lss rfl rfl) ?_
      refine KT.nil ?_
      refine thenK_n ?_
      refine KC.seq ?_
      refine KC.cond rfl (fun hc35 => ?_) (fun hc35 => ?_)
      · skip
        replace hc35 := of_decide_eq_true hc35
        have hpl : p < a.length := by omega
        refine KC.skip ?_
        refine thenK_n ?_
        refine KC.seq ?_
        refine KC.block ?_
        refine KC.seq ?_
        refine KC.region ?_
        refine KT.step rfl rfl (K.move rfl) ?_
        refine KT.idxI rfl rfl rfl hq22 rfl (show p < u[i].length by rw [hru i hil]; omega) Try.underlying35 Try.size3 fun cs37 => ?_
        refine KT.step rfl rfl (K.load rfl Try.agg3) ?_
        refine KT.step rfl rfl (K.assign rfl) ?_
        refine KT.step rfl rfl (K.assign rfl) ?_
        refine KT.nil ?_
        refine thenK_n ?_
        refine KC.seq ?_
        refine KC.region ?_
        refine KT.step rfl rfl (K.move rfl) ?_
        refine KT.step rfl rfl (K.move rfl) ?_
        refine KT.idx rfl rfl rfl ha rfl hpl Try.underlying22 Try.size35 fun c41 cs41 hq41 => ?_
        refine KT.step rfl rfl (K.load rfl Try.agg35) ?_
        refine KT.step rfl rfl (K.len rfl hq41 Try.underlying35) ?_
        rw [hra p hpl]
        refine KT.step rfl rfl (K.move rfl) ?_
        refine KT.nil ?_
        refine thenK_n ?_
        refine KC.block ?_
        have hbp := bu.get i p
        refine KC.loop (fun s : List VObj × Bool × DV × Nat => s.1) (fun s => [(0, .d du), (1, .d da), (2, .d dv), (3, .d dw), (9, .d (DI (i : Int))), (10, .d c22), (11, .d (DI (j : Int))), (12, .optr σ1.length 0), (13, .d (DI (p : Int))), (14, .d (DI (u[i][p]'(by rw [hru i hil]; omega)))), (17, .d du), (18, .d (DI u.length)), (19, .d (DI (i : Int))), (27, .d (DI (N : Int))), (28, .d (DI (j : Int))), (32, .d c22), (33, .d (DI a.length)), (34, .d (DI (p : Int))), (42, .d c41), (43, .d (DI (n : Int))), (44, .d (DI (s.2.2.2 : Nat)))]) (fun s => s.2.2.2 ≤ n ∧ AccI s.1 σ1.length s.2.1 s.2.2.1 (totQ u a v n i j p + sumZ (termQ u a v i j p) s.2.2.2)) (fun s => n - s.2.2.2) (σ2, ng, mg, 0) ⟨Nat.zero_le _, acc⟩ rfl (by simp [Go.Vm.look, extK, enterK]) ?_
        clear acc ng mg
        intro s hs
        obtain ⟨σ3, ng, mg, q⟩ := s
        obtain ⟨hq, acc⟩ := hs
        simp only at hq acc ⊢
        refine KC.seq ?_
        refine KC.region ?_
        refine KT.step rfl rfl (K.lss rfl rfl) ?_
        refine KT.nil ?_
        refine thenK_n ?_
        refine KC.seq ?_
        refine KC.cond rfl (fun hc45 => ?_) (fun hc45 => ?_)
        · skip
          replace hc45 := of_decide_eq_true hc45
          have hqn : q < n := by omega
          have hqv : q < v.length := by omega
          have x1 : (u.getD i []).getD p 0 = u[i][p]'(by rw [hru i hil]; omega) := by
            rw [show u.getD i [] = u[i] by simp [hil]]
            simp [show p < u[i].length by rw [hru i hil]; omega]
          have x2 : (a.getD p []).getD q 0 = a[p][q]'(by rw [hra p hpl]; omega) := by
            rw [show a.getD p [] = a[p] by simp [hpl]]
            simp [show q < a[p].length by rw [hra p hpl]; omega]
          have x3 : (v.getD q []).getD j 0 = v[q][j]'(by rw [hrv q hqv]; omega) := by
            rw [show v.getD q [] = v[q] by simp [hqv]]
            simp [show j < v[q].length by rw [hrv q hqv]; omega]
          have y1 := bu.get i p
          have y2 := ba.get p q
          have y3 := bv.get q j
          have y4 := termQ_bd bu ba bv i j p q
          have y5 : ((a.getD p []).getD q 0 * (v.getD q []).getD j 0).natAbs ≤ 20 * 2 ^ 40 := by rw [Int.natAbs_mul]; exact Nat.mul_le_mul y2 y3
          unfold termQ at y4
          rw [x1, x2, x3] at y4
          rw [x2, x3] at y5
          rw [x1] at y1
          rw [x2] at y2
          rw [x3] at y3
          obtain ⟨r1, c1, d1⟩ := numberZ (n := u[i][p]'(by rw [hru i hil]; omega)) (by omega) (by omega)
          obtain ⟨r2, c2, d2⟩ := numberZ (n := a[p][q]'(by rw [hra p hpl]; omega)) (by omega) (by omega)
          obtain ⟨r3, c3, d3⟩ := numberZ (n := v[q][j]'(by rw [hrv q hqv]; omega)) (by omega) (by omega)
          obtain ⟨r4, c4, d4⟩ := timesZc d2 d3 (Nat.lt_of_le_of_lt y2 (by decide)) (Nat.lt_of_le_of_lt y3 (by decide))
          obtain ⟨r5, c5, d5⟩ := timesZc d1 d4 (Nat.lt_of_le_of_lt y1 (by decide)) (Nat.lt_of_le_of_lt y5 (by decide))
          obtain ⟨r6, c6, d6⟩ := sumZc acc.big d5 (totQ_bd bu ba bv n i j p p q hn (by omega) (by omega)) (Nat.lt_of_le_of_lt y4 (by decide))
          obtain ⟨n6, m6, rfl, s6⟩ := big_shape d6
          refine KC.skip ?_
          refine thenK_n ?_
          refine KC.seq ?_
          refine KC.block ?_
          refine KC.seq ?_
          refine KC.region ?_
          refine KT.step rfl rfl (K.move rfl) ?_
          refine KT.idxI rfl rfl rfl hq41 rfl (show q < a[p].length by rw [hra p hpl]; omega) Try.underlying35 Try.size3 fun cs47 => ?_
          refine KT.step rfl rfl (K.load rfl Try.agg3) ?_
          refine KT.step rfl rfl (K.assign rfl) ?_
          refine KT.step rfl rfl (K.assign rfl) ?_
          refine KT.nil ?_
          refine thenK_n ?_
          refine KC.draw Try.mixed ?_
          refine KT.step rfl rfl (K.loadOAgg (m := 2) rfl acc.ob (by simp) Try.agg87 Try.size87 (by simp)) ?_
          refine KT.step rfl rfl (K.move rfl) ?_
          refine KT.step rfl rfl (K.call1 rfl plainTry_86 (c1)) ?_
          refine KT.step rfl rfl (K.move rfl) ?_
          refine KT.step rfl rfl (K.call1 rfl plainTry_86 (c2)) ?_
          refine KT.step rfl rfl (K.move rfl) ?_
          refine KT.step rfl rfl (K.move rfl) ?_
          refine KT.idx rfl rfl rfl hv rfl hqv Try.underlying22 Try.size35 fun c56 cs56 hq56 => ?_
          refine KT.step rfl rfl (K.load rfl Try.agg35) ?_
          refine KT.step rfl rfl (K.move rfl) ?_
          refine KT.idxI rfl rfl rfl hq56 rfl (show j < v[q].length by rw [hrv q hqv]; omega) Try.underlying35 Try.size3 fun cs59 => ?_
          refine KT.step rfl rfl (K.load rfl Try.agg3) ?_
          refine KT.step rfl rfl (K.call1 rfl plainTry_86 (c3)) ?_
          refine KT.step rfl rfl (K.call2 rfl rfl plainTry_88 (c4)) ?_
          refine KT.step rfl rfl (K.call2 rfl rfl plainTry_88 (c5)) ?_
          refine KT.step rfl rfl (K.call2 rfl rfl plainTry_87 (c6)) ?_
          refine KT.storeH (cs := [.d (DB n6), .d m6]) rfl rfl rfl rfl acc.ob rfl (by simp) (by simp only [List.all_cons, s6.one]; rfl) Try.size87 fun σ7 l7 u7 v7 => ?_
          rw [show splice [XV.d (DB ng), .d mg] 0 [XV.d (DB n6), .d m6] = [.d (DB n6), .d m6] from rfl] at u7
          refine KT.nil ?_
          refine ⟨by kernel_rfl, ?_⟩
          refine blockK_n ?_
          refine thenK_n ?_
          refine KC.region ?_
          refine KT.step rfl rfl (K.add rfl rfl (wrap_id (by omega))) ?_
          refine KT.step rfl rfl (K.move rfl) ?_
          refine KT.nil ?_
          refine thenK_n ?_
          refine ⟨(σ7, n6, m6, q + 1), ⟨by simp only; omega, u7, ?_, s6⟩, by simp only; omega, rfl, by simp [Go.Vm.look, extK]⟩
          have e : totQ u a v n i j p + sumZ (termQ u a v i j p) (q + 1) = (totQ u a v n i j p + sumZ (termQ u a v i j p) q) + u[i][p]'(by rw [hru i hil]; omega) * (a[p][q]'(by rw [hra p hpl]; omega) * v[q][j]'(by rw [hrv q hqv]; omega)) := by
            simp only [sumZ, termQ]
            rw [x1, x2, x3]
            omega
          simp only
          rw [e]
          exact d6
        · skip
          replace hc45 := of_decide_eq_false hc45
          obtain rfl : q = n := by omega
          refine KC.exit ?_
          refine thenK_x ?_
          refine thenK_x ?_
          refine blockK_e ?_
          refine blockK_n ?_
          refine thenK_n ?_
          refine KC.region ?_
          refine KT.step rfl rfl (K.add rfl rfl (wrap_id (by omega))) ?_
          refine KT.step rfl rfl (K.move rfl) ?_
          refine KT.nil ?_
          refine thenK_n ?_
          refine ⟨(σ3, ng, mg, p + 1), ⟨by simp only; omega, acc.ob, ?_, acc.sl⟩, by simp only; omega, rfl, by simp [Go.Vm.look, extK]⟩
          have h := acc.big
          simp only [totQ, sumZ, Int.add_zero] at h ⊢
          exact h
      · skip
        replace hc35 := of_decide_eq_false hc35
        have hpe : p = a.length := by omega
        have hbd := totQ_bd bu ba bv n i j p p 0 hn (by omega) (by omega)
        have hwx := bw w[i] (List.getElem_mem (by omega)) (w[i][j]'(by rw [hrw i (by omega)]; omega)) (List.getElem_mem _)
        have hwij : (w.getD i []).getD j 0 = w[i][j]'(by rw [hrw i (by omega)]; omega) := by
          rw [show w.getD i [] = w[i] by simp [show i < w.length by omega]]
          simp [show j < w[i].length by rw [hrw i (by omega)]; omega]
        have totZ : totQ u a v n i j a.length = totQ u a v n i j p + sumZ (termQ u a v i j p) 0 := by simp [hpe, sumZ]
        refine KC.exit ?_
        refine thenK_x ?_
        refine thenK_x ?_
        refine blockK_e ?_
        refine thenK_n ?_
        refine KC.seq ?_
        refine KC.draw Try.mixed ?_
        refine KT.step rfl rfl (K.loadOAgg (m := 2) rfl acc.ob (by simp) Try.agg87 Try.size87 (by simp)) ?_
        refine KT.step rfl rfl (K.move rfl) ?_
        refine KT.step rfl rfl (K.move rfl) ?_
        refine KT.idx rfl rfl rfl hw rfl (show i < w.length by omega) Try.underlying22 Try.size35 fun c70 cs70 hq70 => ?_
        refine KT.step rfl rfl (K.load rfl Try.agg35) ?_
        refine KT.step rfl rfl (K.move rfl) ?_
        refine KT.idxI rfl rfl rfl hq70 rfl (show j < w[i].length by rw [hrw i (by omega)]; omega) Try.underlying35 Try.size3 fun cs73 => ?_
        refine KT.step rfl rfl (K.load rfl Try.agg3) ?_
        refine KT.step rfl rfl (K.call2 rfl rfl plainTry_85 (equalZ acc.big hbd hwx.1 hwx.2)) ?_
        refine KT.step rfl rfl (K.not rfl) ?_
        refine KT.nil ?_
        refine ⟨by kernel_rfl, ?_⟩
        refine thenK_n ?_
        refine KC.cond rfl (fun hc76 => ?_) (fun hc76 => ?_)
        · skip
          refine KC.seq ?_
          refine KC.region ?_
          refine KT.step rfl rfl (K.assign rfl) ?_
          refine KT.nil ?_
          refine thenK_n ?_
          refine KC.ret ?_
          refine blockK_r ?_
          refine thenK_r ?_
          refine thenK_r ?_
          refine blockK_r ?_
          refine blockK_r ?_
          refine thenK_r ?_
          refine thenK_r ?_
          refine blockK_r ?_
          refine thenK_r ?_
          refine ⟨.inl rfl, _, rfl, fin_b ?_⟩
          unfold refP
          refine @decide_eq_false _ (Classical.propDecidable _) fun h => ?_
          have g := h i hil j hjn
          rw [hwij, totZ] at g
          exact absurd g (by simpa using hc76)
        · skip
          refine KC.skip ?_
          refine blockK_n ?_
          refine thenK_n ?_
          refine KC.region ?_
          refine KT.step rfl rfl (K.add rfl rfl (wrap_id (by omega))) ?_
          refine KT.step rfl rfl (K.move rfl) ?_
          refine KT.nil ?_
          refine thenK_n ?_
          refine ⟨(σ2, j + 1), ⟨by simp only; omega, fun k hk => ?_⟩, by simp only; omega, rfl, by simp [Go.Vm.look, extK]⟩
          by_cases e : k < j
          · exact hin k e
          · obtain rfl : k = j := by simp only at hk; omega
            rw [hwij, totZ]
            simpa using hc76
    · skip
      replace hc29 := of_decide_eq_false hc29
      obtain rfl : j = N := by omega
      refine KC.exit ?_
      refine thenK_x ?_
      refine thenK_x ?_
      refine blockK_e ?_
      refine blockK_n ?_
      refine thenK_n ?_
      refine KC.region ?_
      refine KT.step rfl rfl (K.add rfl rfl (wrap_id (by omega))) ?_
      refine KT.step rfl rfl (K.move rfl) ?_
      refine KT.nil ?_
      refine thenK_n ?_
      refine ⟨(σ1, i + 1), ⟨by simp only; omega, fun k hk => ?_⟩, by simp only; omega, rfl, by simp [Go.Vm.look, extK]⟩
      by_cases e : k < i
      · exact hall k e
      · obtain rfl : k = i := by simp only at hk; omega
        exact hin
  · skip
    replace hc20 := of_decide_eq_false hc20
    obtain rfl : i = u.length := by omega
    refine KC.exit ?_
    refine thenK_x ?_
    refine thenK_x ?_
    refine blockK_e ?_
    refine thenK_n ?_
    refine KC.seq ?_
    refine KC.region ?_
    refine KT.step rfl rfl (K.assign rfl) ?_
    refine KT.nil ?_
    refine thenK_n ?_
    refine KC.ret ?_
    refine ⟨.inl rfl, _, rfl, fin_b ?_⟩
    unfold refP
    exact @decide_eq_true _ (Classical.propDecidable _) hall
end Go.Proofs.Ytlomhajhoecoiaa
