/-
  CONTRACTS for LatticeChecks: Hermite forms.
-/
import Derived.Test.YtlomhajhoecoiaaChkJ
namespace Go.Proofs.Ytlomhajhoecoiaa
open Go.Vm Go.Big Go.Det
theorem plainTry_95 : plainFn Try.prog 95 = true := by kernel_rfl
theorem plainTry_52 : plainFn Try.prog 52 = true := by kernel_rfl

def LF (m : List (List Int)) (i : Nat) : Nat := leadN (m.getD i [])
def EF (m : List (List Int)) (i p : Nat) : Int := (m.getD i []).getD p 0
theorem LF_at {m : List (List Int)} {i : Nat} (h : i < m.length) : LF m i = leadN m[i] := by simp [LF, h]
theorem EF_at {m : List (List Int)} {i p : Nat} (h : i < m.length) (hp : p < m[i].length) : m[i][p] = EF m i p := by simp [EF, h, hp]
theorem lead_ne : ∀ (l : List Int), leadN l < l.length → l.getD (leadN l) 0 ≠ 0
  | [], h => by simp at h
  | x :: l, h => by
    simp only [leadN] at h ⊢
    split
    · rename_i e
      rw [if_pos e] at h
      simpa using lead_ne l (by simpa using h)
    · rename_i e
      simpa using e
theorem lead_zero : ∀ (l : List Int) (p : Nat), p < leadN l → l.getD p 0 = 0
  | [], p, h => by simp
  | x :: l, p, h => by
    simp only [leadN] at h
    split at h
    · rename_i e
      cases p with
      | zero => simpa using e
      | succ p => simpa using lead_zero l p (by omega)
    · omega
noncomputable def hermB (m : List (List Int)) (n : Nat) : Bool := @decide (∀ i, i < m.length → PivP (LF m) (EF m) n i) (Classical.propDecidable _)
noncomputable def formB (m : List (List Int)) (n : Nat) : Bool := @decide (∀ i, i < m.length → PivF (LF m) (EF m) n m.length i) (Classical.propDecidable _)
theorem herm_same {m : List (List Int)} {n : Nat} (h : ∀ r ∈ m, r.length = n) : hermB m n = formB m n := by
  have g : ∀ i, (hi : i < m.length) → m[i].length = n := fun i hi => h _ (List.getElem_mem hi)
  unfold hermB formB
  exact decide_eq_decide.2 (piv_same (fun i hi => by rw [LF_at hi, ← g i hi]; exact lead_le _)
    (fun i hi hl => by
      have := lead_ne m[i] (by rw [g i hi]; rw [LF_at hi] at hl; exact hl)
      simpa [LF, EF, hi] using this)
    (fun i hi p hp => by
      have := lead_zero m[i] p (by rw [LF_at hi] at hp; exact hp)
      simpa [EF, hi] using this))
def lastI (m : List (List Int)) (i : Nat) : Int := if i = 0 then -1 else (LF m (i - 1) : Int)
set_option maxRecDepth 10000 in
theorem isHermite95 {d : DV} {m : List (List Int)} {n : Nat} (hd : Mat d m) (hr : ∀ row ∈ m, row.length = n) (h0 : 0 < m.length) (hl : m.length ≤ 1000) (hn : n ≤ 1000) : DeepCall Try.prog 95 [d] (DB (hermB m n)) := by
  have hrow : ∀ i, (hi : i < m.length) → m[i].length = n := fun i hi => hr _ (List.getElem_mem hi)
  refine deepCall_K 5 Try.func95 rfl (Nat.le_of_ble_eq_true rfl) fun M W0 => ?_
  refine KC.seq ?_
  refine KC.region ?_
  refine KT.step rfl rfl (K.assign rfl) ?_
  refine KT.nil ?_
  refine thenK_n ?_
  refine KC.seq ?_
  refine KC.region ?_
  refine KT.step rfl rfl (K.move rfl) ?_
  refine KT.idx rfl rfl rfl hd rfl h0 Try.underlying22 Try.size35 fun c11 cs11 hq11 => ?_
  refine KT.step rfl rfl (K.load rfl Try.agg35) ?_
  refine KT.step rfl rfl (K.len rfl hq11 Try.underlying35) ?_
  refine KT.step rfl rfl (K.assign rfl) ?_
  refine KT.nil ?_
  refine thenK_n ?_
  refine KC.seq ?_
  refine KC.region ?_
  refine KT.step rfl rfl (K.assign rfl) ?_
  refine KT.nil ?_
  refine thenK_n ?_
  refine KC.seq ?_
  refine KC.seq ?_
  refine KC.region ?_
  rw [hrow 0 h0]
  refine KT.step rfl rfl (K.move rfl) ?_
  refine KT.step rfl rfl (K.len rfl hd Try.underlying22) ?_
  refine KT.step rfl rfl (K.move rfl) ?_
  refine KT.nil ?_
  refine thenK_n ?_
  refine KC.block ?_
  refine KC.loop (fun _ : Nat => []) (fun i => [(0, .d d), (3, .d (DI (n : Int))), (4, .d (DI (lastI m i))), (14, .d d), (15, .d (DI m.length)), (16, .d (DI (i : Int)))]) (fun i => i ≤ m.length ∧ ∀ k, k < i → PivP (LF m) (EF m) n k) (fun i => m.length - i) 0 ⟨Nat.zero_le _, by simp⟩ rfl (by simp [Go.Vm.look, extK, enterK, lastI]) ?_
  intro i hi
  obtain ⟨hi, hall⟩ := hi
  refine KC.seq ?_
  refine KC.region ?_
  refine KT.step rfl rfl (K.lss rfl rfl) ?_
  refine KT.nil ?_
  refine thenK_n ?_
  refine KC.seq ?_
  refine KC.cond rfl (fun hc17 => ?_) (fun hc17 => ?_)
  · skip
    replace hc17 := of_decide_eq_true hc17
    have hil : i < m.length := by omega
    refine KC.skip ?_
    refine thenK_n ?_
    refine KC.seq ?_
    refine KC.block ?_
    refine KC.seq ?_
    refine KC.region ?_
    refine KT.step rfl rfl (K.move rfl) ?_
    refine KT.idx rfl rfl rfl hd rfl hil Try.underlying22 Try.size35 fun c19 cs19 hq19 => ?_
    refine KT.step rfl rfl (K.load rfl Try.agg35) ?_
    refine KT.step rfl rfl (K.assign rfl) ?_
    refine KT.step rfl rfl (K.assign rfl) ?_
    refine KT.nil ?_
    refine thenK_n ?_
    refine KC.seq ?_
    refine KC.region ?_
    refine KT.step rfl rfl (K.move rfl) ?_
    refine KT.step rfl rfl (K.call1 rfl plainTry_70 ((show DeepCall Try.prog 70 [c19] (DI (LF m i : Int)) from by rw [LF_at hil]; exact lead70 hq19 (by rw [hrow i hil]; omega)))) ?_
    refine KT.step rfl rfl (K.assign rfl) ?_
    refine KT.nil ?_
    refine thenK_n ?_
    refine KC.seq ?_
    refine KC.seq ?_
    refine KC.region ?_
    refine KT.step rfl rfl (K.move rfl) ?_
    refine KT.step rfl rfl (K.move rfl) ?_
    refine KT.step rfl rfl (K.eql rfl rfl) ?_
    refine KT.nil ?_
    refine thenK_n ?_
    refine KC.cond rfl (fun hc25 => ?_) (fun hc25 => ?_)
    · skip
      replace hc25 := of_decide_eq_true hc25
      have hLn : LF m i = n := by omega
      refine KC.seq ?_
      refine KC.region ?_
      refine KT.step rfl rfl (K.move rfl) ?_
      refine KT.step rfl rfl (K.assign rfl) ?_
      refine KT.nil ?_
      refine thenK_n ?_
      refine KC.exit ?_
      refine thenK_x ?_
      refine blockK_e ?_
      refine thenK_n ?_
      refine KC.region ?_
      refine KT.step rfl rfl (K.add rfl rfl (wrap_id (by omega))) ?_
      refine KT.step rfl rfl (K.move rfl) ?_
      refine KT.nil ?_
      refine thenK_n ?_
      refine ⟨i + 1, ⟨by omega, fun k hk => ?_⟩, by omega, rfl, ?_⟩
      · by_cases e : k < i
        · exact hall k e
        · obtain rfl : k = i := by omega
          first
            | exact .inl hLn
            | exact .inr ⟨hlast, hpos, hin⟩
      · have : lastI m (i + 1) = (LF m i : Int) := by simp [lastI]
        rw [this]
        first
          | (simp [Go.Vm.look, extK]; done)
          | (simp [Go.Vm.look, extK]; omega)
    · skip
      replace hc25 := of_decide_eq_false hc25
      have hLn : LF m i < n := by have := lead_le m[i]; rw [hrow i hil, ← LF_at hil] at this; omega
      have e1 : m[i][LF m i]'(by rw [hrow i hil]; omega) = EF m i (LF m i) := EF_at hil _
      refine KC.skip ?_
      refine thenK_n ?_
      refine KC.seq ?_
      refine KC.seq ?_
      refine KC.region ?_
      refine KT.step rfl rfl (K.move rfl) ?_
      refine KT.step rfl rfl (K.move rfl) ?_
      refine KT.step rfl rfl (K.leq rfl rfl) ?_
      refine KT.step rfl rfl (K.move rfl) ?_
      refine KT.bcase (fun hb30 => ?_) (fun hb30 => ?_)
      · skip
        replace hb30 := of_decide_eq_true hb30
        refine KT.skip rfl rfl ?_
        refine KT.skip rfl rfl ?_
        refine KT.skip rfl rfl ?_
        refine KT.skip rfl rfl ?_
        refine KT.skip rfl rfl ?_
        refine KT.step rfl rfl (K.pick rfl (fun _ => rfl) (fun h => by cases h)) ?_
        refine KT.nil ?_
        refine thenK_n ?_
        refine KC.cond rfl (fun hc36 => ?_) (fun hc36 => ?_)
        · skip
          refine KC.seq ?_
          refine KC.region ?_
          refine KT.step rfl rfl (K.assign rfl) ?_
          refine KT.nil ?_
          refine thenK_n ?_
          refine KC.ret ?_
          refine thenK_r ?_
          refine blockK_r ?_
          refine thenK_r ?_
          refine thenK_r ?_
          refine blockK_r ?_
          refine thenK_r ?_
          refine ⟨.inl rfl, _, rfl, fin_b ?_⟩
          unfold hermB
          refine @decide_eq_false _ (Classical.propDecidable _) fun h => ?_
          have g := (h i hil).resolve_left (by omega)
          have g1 := g.1
          unfold lastI at hb30
          split at hb30 <;> omega
        · cases hc36
      · skip
        replace hb30 := of_decide_eq_false hb30
        refine KT.step rfl rfl (K.move rfl) ?_
        refine KT.step rfl rfl (K.move rfl) ?_
        refine KT.idxI rfl rfl rfl hq19 rfl (show LF m i < m[i].length by rw [hrow i hil]; omega) Try.underlying35 Try.size3 fun cs33 => ?_
        refine KT.step rfl rfl (K.load rfl Try.agg3) ?_
        refine KT.step rfl rfl (K.lss rfl rfl) ?_
        refine KT.step rfl rfl (K.pick rfl (fun h => by cases h) (fun _ => rfl)) ?_
        refine KT.nil ?_
        refine thenK_n ?_
        refine KC.cond rfl (fun hc36 => ?_) (fun hc36 => ?_)
        · skip
          refine KC.seq ?_
          refine KC.region ?_
          refine KT.step rfl rfl (K.assign rfl) ?_
          refine KT.nil ?_
          refine thenK_n ?_
          refine KC.ret ?_
          refine thenK_r ?_
          refine blockK_r ?_
          refine thenK_r ?_
          refine thenK_r ?_
          refine blockK_r ?_
          refine thenK_r ?_
          refine ⟨.inl rfl, _, rfl, fin_b ?_⟩
          unfold hermB
          refine @decide_eq_false _ (Classical.propDecidable _) fun h => ?_
          have g := (h i hil).resolve_left (by omega)
          have g2 := g.2.1
          have h36 := of_decide_eq_true hc36
          omega
        · skip
          have h36 := of_decide_eq_false hc36
          have hpos : 0 ≤ EF m i (LF m i) := by omega
          have hlast : i = 0 ∨ LF m (i - 1) < LF m i := by unfold lastI at hb30; split at hb30 <;> omega
          refine KC.skip ?_
          refine thenK_n ?_
          refine KC.seq ?_
          refine KC.seq ?_
          refine KC.region ?_
          refine KT.step rfl rfl (K.move rfl) ?_
          refine KT.step rfl rfl (K.move rfl) ?_
          refine KT.step rfl rfl (K.takeV (m := i) rfl hd rfl (by omega) Try.underlying22 Try.size35) ?_
          refine KT.step rfl rfl (K.len rfl (takeV_vec hd (m := i) (by omega)) Try.underlying22) ?_
          refine KT.step rfl rfl (K.move rfl) ?_
          refine KT.nil ?_
          refine thenK_n ?_
          refine KC.block ?_
          refine KC.loop (fun _ : Nat => []) (fun k => [(0, .d d), (3, .d (DI (n : Int))), (5, .d (DI (i : Int))), (6, .d c19), (7, .d (DI (LF m i : Int))), (14, .d d), (15, .d (DI m.length)), (16, .d (DI (i : Int))), (39, .d (takeV i d)), (40, .d (DI ((m.take i).length : Int))), (41, .d (DI (k : Int)))]) (fun k => k ≤ i ∧ ∀ q, q < k → 0 ≤ EF m q (LF m i) ∧ EF m q (LF m i) < EF m i (LF m i)) (fun k => i - k) 0 ⟨Nat.zero_le _, by simp⟩ rfl (by simp [Go.Vm.look, extK, enterK]) ?_
          intro k hk
          obtain ⟨hk, hin⟩ := hk
          refine KC.seq ?_
          refine KC.region ?_
          refine KT.step rfl rfl (K.lss rfl rfl) ?_
          refine KT.nil ?_
          refine thenK_n ?_
          refine KC.seq ?_
          refine KC.cond rfl (fun hc42 => ?_) (fun hc42 => ?_)
          · skip
            replace hc42 := of_decide_eq_true hc42
            have hki : k < i := by simp at hc42; omega
            have hkm : k < m.length := by omega
            have hcell : (m.take i)[k]'(by simp; omega) = m[k] := by simp
            have e2 : m[k][LF m i]'(by rw [hrow k hkm]; omega) = EF m k (LF m i) := EF_at hkm _
            refine KC.skip ?_
            refine thenK_n ?_
            refine KC.seq ?_
            refine KC.block ?_
            refine KC.seq ?_
            refine KC.region ?_
            refine KT.idx rfl rfl rfl (takeV_vec hd (m := i) (by omega)) rfl (by simp; omega) Try.underlying22 Try.size35 fun c43 cs43 hq43 => ?_
            refine KT.step rfl rfl (K.load rfl Try.agg35) ?_
            refine KT.step rfl rfl (K.assign rfl) ?_
            refine KT.nil ?_
            refine thenK_n ?_
            refine KC.seq ?_
            refine KC.draw Try.mixed ?_
            replace hq43 : Ints c43 m[k] := by simpa using hq43
            refine KT.step rfl rfl (K.move rfl) ?_
            refine KT.step rfl rfl (K.move rfl) ?_
            refine KT.idxI rfl rfl rfl hq43 rfl (show LF m i < m[k].length by rw [hrow k hkm]; omega) Try.underlying35 Try.size3 fun cs47 => ?_
            refine KT.step rfl rfl (K.load rfl Try.agg3) ?_
            refine KT.step rfl rfl (K.lss rfl rfl) ?_
            refine KT.step rfl rfl (K.move rfl) ?_
            refine KT.bcase (fun hb50 => ?_) (fun hb50 => ?_)
            · skip
              replace hb50 := of_decide_eq_true hb50
              refine KT.skip rfl rfl ?_
              refine KT.skip rfl rfl ?_
              refine KT.skip rfl rfl ?_
              refine KT.skip rfl rfl ?_
              refine KT.skip rfl rfl ?_
              refine KT.skip rfl rfl ?_
              refine KT.skip rfl rfl ?_
              refine KT.skip rfl rfl ?_
              refine KT.skip rfl rfl ?_
              refine KT.step rfl rfl (K.pick rfl (fun _ => rfl) (fun h => by cases h)) ?_
              refine KT.nil ?_
              refine ⟨by kernel_rfl, ?_⟩
              refine thenK_n ?_
              refine KC.cond rfl (fun hc60 => ?_) (fun hc60 => ?_)
              · skip
                refine KC.seq ?_
                refine KC.region ?_
                refine KT.step rfl rfl (K.assign rfl) ?_
                refine KT.nil ?_
                refine thenK_n ?_
                refine KC.ret ?_
                refine blockK_r ?_
                refine thenK_r ?_
                refine thenK_r ?_
                refine blockK_r ?_
                refine thenK_r ?_
                refine blockK_r ?_
                refine thenK_r ?_
                refine thenK_r ?_
                refine blockK_r ?_
                refine thenK_r ?_
                refine ⟨.inl rfl, _, rfl, fin_b ?_⟩
                unfold hermB
                refine @decide_eq_false _ (Classical.propDecidable _) fun h => ?_
                have g := (h i hil).resolve_left (by omega)
                have g3 := g.2.2 k hki
                skip
                omega
              · cases hc60
            · skip
              replace hb50 := of_decide_eq_false hb50
              refine KT.step rfl rfl (K.move rfl) ?_
              refine KT.step rfl rfl (K.move rfl) ?_
              refine KT.idxI rfl rfl rfl hq43 rfl (show LF m i < m[k].length by rw [hrow k hkm]; omega) Try.underlying35 Try.size3 fun cs53 => ?_
              refine KT.step rfl rfl (K.load rfl Try.agg3) ?_
              refine KT.step rfl rfl (K.move rfl) ?_
              refine KT.step rfl rfl (K.move rfl) ?_
              refine KT.idxI rfl rfl rfl hq19 rfl (show LF m i < m[i].length by rw [hrow i hil]; omega) Try.underlying35 Try.size3 fun cs57 => ?_
              refine KT.step rfl rfl (K.load rfl Try.agg3) ?_
              refine KT.step rfl rfl (K.geq rfl rfl) ?_
              refine KT.step rfl rfl (K.pick rfl (fun h => by cases h) (fun _ => rfl)) ?_
              refine KT.nil ?_
              refine ⟨by kernel_rfl, ?_⟩
              refine thenK_n ?_
              refine KC.cond rfl (fun hc60 => ?_) (fun hc60 => ?_)
              · skip
                refine KC.seq ?_
                refine KC.region ?_
                refine KT.step rfl rfl (K.assign rfl) ?_
                refine KT.nil ?_
                refine thenK_n ?_
                refine KC.ret ?_
                refine blockK_r ?_
                refine thenK_r ?_
                refine thenK_r ?_
                refine blockK_r ?_
                refine thenK_r ?_
                refine blockK_r ?_
                refine thenK_r ?_
                refine thenK_r ?_
                refine blockK_r ?_
                refine thenK_r ?_
                refine ⟨.inl rfl, _, rfl, fin_b ?_⟩
                unfold hermB
                refine @decide_eq_false _ (Classical.propDecidable _) fun h => ?_
                have g := (h i hil).resolve_left (by omega)
                have g3 := g.2.2 k hki
                have h60 := of_decide_eq_true hc60
                omega
              · skip
                refine KC.skip ?_
                refine blockK_n ?_
                refine thenK_n ?_
                refine KC.region ?_
                refine KT.step rfl rfl (K.add rfl rfl (wrap_id (by omega))) ?_
                refine KT.step rfl rfl (K.move rfl) ?_
                refine KT.nil ?_
                refine thenK_n ?_
                refine ⟨k + 1, ⟨by omega, fun q hq => ?_⟩, by omega, rfl, by simp [Go.Vm.look, extK]⟩
                by_cases e : q < k
                · exact hin q e
                · obtain rfl : q = k := by omega
                  have h60 := of_decide_eq_false hc60
                  exact ⟨by omega, by omega⟩
          · skip
            replace hc42 := of_decide_eq_false hc42
            obtain rfl : i = k := by simp at hc42; omega
            refine KC.exit ?_
            refine thenK_x ?_
            refine thenK_x ?_
            refine blockK_e ?_
            refine thenK_n ?_
            refine KC.region ?_
            refine KT.step rfl rfl (K.move rfl) ?_
            refine KT.step rfl rfl (K.assign rfl) ?_
            refine KT.nil ?_
            refine blockK_n ?_
            refine thenK_n ?_
            refine KC.region ?_
            refine KT.step rfl rfl (K.add rfl rfl (wrap_id (by omega))) ?_
            refine KT.step rfl rfl (K.move rfl) ?_
            refine KT.nil ?_
            refine thenK_n ?_
            refine ⟨i + 1, ⟨by omega, fun k hk => ?_⟩, by omega, rfl, ?_⟩
            · by_cases e : k < i
              · exact hall k e
              · obtain rfl : k = i := by omega
                first
                  | exact .inl hLn
                  | exact .inr ⟨hlast, hpos, hin⟩
            · have : lastI m (i + 1) = (LF m i : Int) := by simp [lastI]
              rw [this]
              first
                | (simp [Go.Vm.look, extK]; done)
                | (simp [Go.Vm.look, extK]; omega)
  · skip
    replace hc17 := of_decide_eq_false hc17
    obtain rfl : i = m.length := by omega
    refine KC.exit ?_
    refine thenK_x ?_
    refine thenK_x ?_
    refine blockK_e ?_
    refine thenK_n ?_
    refine KC.seq ?_
    refine KC.region ?_
    refine KT.step rfl rfl (K.assign rfl) ?_
    refine KT.nil ?_
    refine thenK_n ?_
    refine KC.ret ?_
    refine ⟨.inl rfl, _, rfl, fin_b ?_⟩
    unfold hermB
    exact @decide_eq_true _ (Classical.propDecidable _) hall
set_option maxHeartbeats 4000000 in
set_option maxRecDepth 10000 in
theorem form52 {d : DV} {m : List (List Int)} {n : Nat} (hd : Mat d m) (hr : ∀ row ∈ m, row.length = n) (h0 : 0 < m.length) (hl : m.length ≤ 1000) (hn : n ≤ 1000) : DeepCall Try.prog 52 [d] (DB (formB m n)) := by
  have hrow : ∀ i, (hi : i < m.length) → m[i].length = n := fun i hi => hr _ (List.getElem_mem hi)
  refine deepCall_K 5 Try.func52 rfl (Nat.le_of_ble_eq_true rfl) fun M W0 => ?_
  refine KC.seq ?_
  refine KC.region ?_
  refine KT.step rfl rfl (K.assign rfl) ?_
  refine KT.nil ?_
  refine thenK_n ?_
  refine KC.seq ?_
  refine KC.region ?_
  refine KT.step rfl rfl (K.move rfl) ?_
  refine KT.idx rfl rfl rfl hd rfl h0 Try.underlying22 Try.size35 fun c9 cs9 hq9 => ?_
  refine KT.step rfl rfl (K.load rfl Try.agg35) ?_
  refine KT.step rfl rfl (K.len rfl hq9 Try.underlying35) ?_
  refine KT.step rfl rfl (K.assign rfl) ?_
  refine KT.nil ?_
  refine thenK_n ?_
  refine KC.seq ?_
  refine KC.seq ?_
  refine KC.region ?_
  rw [hrow 0 h0]
  refine KT.step rfl rfl (K.move rfl) ?_
  refine KT.step rfl rfl (K.len rfl hd Try.underlying22) ?_
  refine KT.step rfl rfl (K.move rfl) ?_
  refine KT.nil ?_
  refine thenK_n ?_
  refine KC.block ?_
  refine KC.loop (fun _ : Nat => []) (fun i => [(0, .d d), (3, .d (DI (n : Int))), (12, .d d), (13, .d (DI m.length)), (14, .d (DI (i : Int)))]) (fun i => i ≤ m.length ∧ ∀ k, k < i → PivF (LF m) (EF m) n m.length k) (fun i => m.length - i) 0 ⟨Nat.zero_le _, by simp⟩ rfl (by simp [Go.Vm.look, extK, enterK]) ?_
  intro i hi
  obtain ⟨hi, hall⟩ := hi
  refine KC.seq ?_
  refine KC.region ?_
  refine KT.step rfl rfl (K.lss rfl rfl) ?_
  refine KT.nil ?_
  refine thenK_n ?_
  refine KC.seq ?_
  refine KC.cond rfl (fun hc15 => ?_) (fun hc15 => ?_)
  · skip
    replace hc15 := of_decide_eq_true hc15
    have hil : i < m.length := by omega
    refine KC.skip ?_
    refine thenK_n ?_
    refine KC.seq ?_
    refine KC.block ?_
    refine KC.seq ?_
    refine KC.region ?_
    refine KT.step rfl rfl (K.move rfl) ?_
    refine KT.idx rfl rfl rfl hd rfl hil Try.underlying22 Try.size35 fun c17 cs17 hq17 => ?_
    refine KT.step rfl rfl (K.load rfl Try.agg35) ?_
    refine KT.step rfl rfl (K.assign rfl) ?_
    refine KT.step rfl rfl (K.assign rfl) ?_
    refine KT.nil ?_
    refine thenK_n ?_
    refine KC.seq ?_
    refine KC.region ?_
    refine KT.step rfl rfl (K.move rfl) ?_
    refine KT.step rfl rfl (K.call1 rfl plainTry_57 ((show DeepCall Try.prog 57 [c17] (DI (LF m i : Int)) from by rw [LF_at hil]; exact lead57 hq17 (by rw [hrow i hil]; omega)))) ?_
    refine KT.step rfl rfl (K.assign rfl) ?_
    refine KT.nil ?_
    refine thenK_n ?_
    refine KC.seq ?_
    refine KC.seq ?_
    refine KC.region ?_
    refine KT.step rfl rfl (K.move rfl) ?_
    refine KT.step rfl rfl (K.gtr rfl rfl) ?_
    refine KT.step rfl rfl (K.move rfl) ?_
    refine KT.bcase (fun hb23 => ?_) (fun hb23 => ?_)
    · skip
      replace hb23 := of_decide_eq_true hb23
      refine KT.step rfl rfl (K.move rfl) ?_
      refine KT.step rfl rfl (K.move rfl) ?_
      refine KT.step rfl rfl (K.lss rfl rfl) ?_
      refine KT.step rfl rfl (K.pick rfl (fun _ => rfl) (fun h => by cases h)) ?_
      refine KT.step rfl rfl (K.move rfl) ?_
      refine KT.bcase (fun hb28 => ?_) (fun hb28 => ?_)
      · skip
        replace hb28 := of_decide_eq_true hb28
        refine KT.step rfl rfl (K.move rfl) ?_
        refine KT.step rfl rfl (K.move rfl) ?_
        refine KT.step rfl rfl (K.move rfl) ?_
        refine KT.step rfl rfl (K.sub rfl rfl (show IntKind.i64.wrap ((i : Int) - 1) = ((i - 1 : Nat) : Int) from by rw [wrap_id (by omega)]; omega)) ?_
        refine KT.idx rfl rfl rfl hd rfl (show i - 1 < m.length by omega) Try.underlying22 Try.size35 fun c33 cs33 hq33 => ?_
        refine KT.step rfl rfl (K.load rfl Try.agg35) ?_
        refine KT.step rfl rfl (K.call1 rfl plainTry_57 ((show DeepCall Try.prog 57 [c33] (DI (LF m (i - 1) : Int)) from by rw [LF_at (show i - 1 < m.length by omega)]; exact lead57 hq33 (by rw [hrow _ (by omega)]; omega)))) ?_
        refine KT.step rfl rfl (K.leq rfl rfl) ?_
        refine KT.step rfl rfl (K.pick rfl (fun _ => rfl) (fun h => by cases h)) ?_
        refine KT.step rfl rfl (K.move rfl) ?_
        refine KT.bcase (fun hb38 => ?_) (fun hb38 => ?_)
        · skip
          replace hb38 := of_decide_eq_true hb38
          refine KT.skip rfl rfl ?_
          refine KT.skip rfl rfl ?_
          refine KT.skip rfl rfl ?_
          refine KT.skip rfl rfl ?_
          refine KT.skip rfl rfl ?_
          refine KT.skip rfl rfl ?_
          refine KT.skip rfl rfl ?_
          refine KT.skip rfl rfl ?_
          refine KT.skip rfl rfl ?_
          refine KT.skip rfl rfl ?_
          refine KT.step rfl rfl (K.pick rfl (fun _ => rfl) (fun h => by cases h)) ?_
          refine KT.nil ?_
          refine thenK_n ?_
          refine KC.cond rfl (fun hc49 => ?_) (fun hc49 => ?_)
          · skip
            refine KC.seq ?_
            refine KC.region ?_
            refine KT.step rfl rfl (K.assign rfl) ?_
            refine KT.nil ?_
            refine thenK_n ?_
            refine KC.ret ?_
            refine thenK_r ?_
            refine blockK_r ?_
            refine thenK_r ?_
            refine thenK_r ?_
            refine blockK_r ?_
            refine thenK_r ?_
            refine ⟨.inl rfl, _, rfl, fin_b ?_⟩
            unfold formB
            refine @decide_eq_false _ (Classical.propDecidable _) fun h => ?_
            obtain ⟨g1, g2, g3, g4⟩ := h i hil
            clear hall
            clear g3
            first
              | omega
              | (have e1 := EF_at (p := LF m i) hil (by rw [hrow i hil]; omega)
                 have h49 := of_decide_eq_true hc49
                 omega)
          · cases hc49
        · skip
          replace hb38 := of_decide_eq_false hb38
          refine KT.step rfl rfl (K.move rfl) ?_
          refine KT.step rfl rfl (K.move rfl) ?_
          refine KT.step rfl rfl (K.lss rfl rfl) ?_
          refine KT.step rfl rfl (K.move rfl) ?_
          refine KT.bcase (fun hb42 => ?_) (fun hb42 => ?_)
          · skip
            replace hb42 := of_decide_eq_true hb42
            refine KT.step rfl rfl (K.move rfl) ?_
            refine KT.step rfl rfl (K.move rfl) ?_
            refine KT.idxI rfl rfl rfl hq17 rfl (show LF m i < m[i].length by rw [hrow i hil]; omega) Try.underlying35 Try.size3 fun cs45 => ?_
            refine KT.step rfl rfl (K.load rfl Try.agg3) ?_
            refine KT.step rfl rfl (K.lss rfl rfl) ?_
            refine KT.step rfl rfl (K.pick rfl (fun _ => rfl) (fun h => by cases h)) ?_
            refine KT.step rfl rfl (K.pick rfl (fun h => by cases h) (fun _ => rfl)) ?_
            refine KT.nil ?_
            refine thenK_n ?_
            refine KC.cond rfl (fun hc49 => ?_) (fun hc49 => ?_)
            · skip
              refine KC.seq ?_
              refine KC.region ?_
              refine KT.step rfl rfl (K.assign rfl) ?_
              refine KT.nil ?_
              refine thenK_n ?_
              refine KC.ret ?_
              refine thenK_r ?_
              refine blockK_r ?_
              refine thenK_r ?_
              refine thenK_r ?_
              refine blockK_r ?_
              refine thenK_r ?_
              refine ⟨.inl rfl, _, rfl, fin_b ?_⟩
              unfold formB
              refine @decide_eq_false _ (Classical.propDecidable _) fun h => ?_
              obtain ⟨g1, g2, g3, g4⟩ := h i hil
              clear hall
              clear g3
              first
                | omega
                | (have e1 := EF_at (p := LF m i) hil (by rw [hrow i hil]; omega)
                   have h49 := of_decide_eq_true hc49
                   omega)
            · skip
              refine KC.skip ?_
              refine thenK_n ?_
              refine KC.seq ?_
              refine KC.seq ?_
              refine KC.region ?_
              refine KT.step rfl rfl (K.move rfl) ?_
              refine KT.step rfl rfl (K.len rfl hd Try.underlying22) ?_
              refine KT.step rfl rfl (K.move rfl) ?_
              refine KT.nil ?_
              refine thenK_n ?_
              refine KC.block ?_
              have h12 : ¬ (0 < i ∧ LF m i < n ∧ LF m i ≤ LF m (i - 1)) ∧ ¬ (LF m i < n ∧ EF m i (LF m i) < 1) := by
                have e1 : ∀ hp : LF m i < n, m[i][LF m i]'(by rw [hrow i hil]; exact hp) = EF m i (LF m i) := fun hp => EF_at hil _
                constructor
                · omega
                · first
                    | omega
                    | (have h49 := of_decide_eq_false hc49
                       have := e1 (by omega)
                       omega)
              refine KC.loop (fun _ : Nat => []) (fun k => [(0, .d d), (3, .d (DI (n : Int))), (4, .d (DI (i : Int))), (5, .d c17), (6, .d (DI (LF m i : Int))), (12, .d d), (13, .d (DI m.length)), (14, .d (DI (i : Int))), (50, .d d), (51, .d (DI (m.length : Int))), (52, .d (DI (k : Int)))]) (fun k => k ≤ m.length ∧ ∀ q, q < k → ¬ (LF m i < n ∧ ((i < q ∧ EF m q (LF m i) ≠ 0) ∨ (q < i ∧ (EF m q (LF m i) < 0 ∨ EF m i (LF m i) ≤ EF m q (LF m i)))))) (fun k => m.length - k) 0 ⟨Nat.zero_le _, by simp⟩ rfl (by simp [Go.Vm.look, extK, enterK]) ?_
              intro k hk
              obtain ⟨hk, hin⟩ := hk
              refine KC.seq ?_
              refine KC.region ?_
              refine KT.step rfl rfl (K.lss rfl rfl) ?_
              refine KT.nil ?_
              refine thenK_n ?_
              refine KC.seq ?_
              refine KC.cond rfl (fun hc53 => ?_) (fun hc53 => ?_)
              · skip
                replace hc53 := of_decide_eq_true hc53
                have hkm : k < m.length := by omega
                have e1 : ∀ hp : LF m i < n, m[i][LF m i]'(by rw [hrow i hil]; exact hp) = EF m i (LF m i) := fun hp => EF_at hil _
                have e2 : ∀ hp : LF m i < n, m[k][LF m i]'(by rw [hrow k hkm]; exact hp) = EF m k (LF m i) := fun hp => EF_at hkm _
                refine KC.skip ?_
                refine thenK_n ?_
                refine KC.seq ?_
                refine KC.block ?_
                refine KC.seq ?_
                refine KC.region ?_
                refine KT.step rfl rfl (K.move rfl) ?_
                refine KT.step rfl rfl (K.assign rfl) ?_
                refine KT.nil ?_
                refine thenK_n ?_
                refine KC.seq ?_
                refine KC.draw Try.mixed ?_
                refine KT.step rfl rfl (K.move rfl) ?_
                refine KT.step rfl rfl (K.move rfl) ?_
                refine KT.step rfl rfl (K.lss rfl rfl) ?_
                refine KT.step rfl rfl (K.move rfl) ?_
                refine KT.bcase (fun hb58 => ?_) (fun hb58 => ?_)
                · skip
                  replace hb58 := of_decide_eq_true hb58
                  refine KT.step rfl rfl (K.move rfl) ?_
                  refine KT.step rfl rfl (K.move rfl) ?_
                  refine KT.step rfl rfl (K.gtr rfl rfl) ?_
                  refine KT.step rfl rfl (K.move rfl) ?_
                  refine KT.bcase (fun hb62 => ?_) (fun hb62 => ?_)
                  · skip
                    replace hb62 := of_decide_eq_true hb62
                    refine KT.step rfl rfl (K.move rfl) ?_
                    refine KT.step rfl rfl (K.move rfl) ?_
                    refine KT.idx rfl rfl rfl hd rfl hkm Try.underlying22 Try.size35 fun c65 cs65 hq65 => ?_
                    refine KT.step rfl rfl (K.load rfl Try.agg35) ?_
                    refine KT.step rfl rfl (K.move rfl) ?_
                    refine KT.idxI rfl rfl rfl hq65 rfl (show LF m i < m[k].length by rw [hrow k hkm]; omega) Try.underlying35 Try.size3 fun cs68 => ?_
                    refine KT.step rfl rfl (K.load rfl Try.agg3) ?_
                    refine KT.step rfl rfl (K.neq rfl rfl) ?_
                    refine KT.step rfl rfl (K.pick rfl (fun _ => rfl) (fun h => by cases h)) ?_
                    refine KT.step rfl rfl (K.move rfl) ?_
                    refine KT.bcase (fun hb72 => ?_) (fun hb72 => ?_)
                    · skip
                      replace hb72 := of_decide_eq_true hb72
                      refine KT.skip rfl rfl ?_
                      refine KT.skip rfl rfl ?_
                      refine KT.skip rfl rfl ?_
                      refine KT.skip rfl rfl ?_
                      refine KT.skip rfl rfl ?_
                      refine KT.skip rfl rfl ?_
                      refine KT.skip rfl rfl ?_
                      refine KT.skip rfl rfl ?_
                      refine KT.skip rfl rfl ?_
                      refine KT.skip rfl rfl ?_
                      refine KT.skip rfl rfl ?_
                      refine KT.skip rfl rfl ?_
                      refine KT.skip rfl rfl ?_
                      refine KT.skip rfl rfl ?_
                      refine KT.skip rfl rfl ?_
                      refine KT.skip rfl rfl ?_
                      refine KT.skip rfl rfl ?_
                      refine KT.skip rfl rfl ?_
                      refine KT.skip rfl rfl ?_
                      refine KT.skip rfl rfl ?_
                      refine KT.skip rfl rfl ?_
                      refine KT.skip rfl rfl ?_
                      refine KT.skip rfl rfl ?_
                      refine KT.skip rfl rfl ?_
                      refine KT.skip rfl rfl ?_
                      refine KT.skip rfl rfl ?_
                      refine KT.skip rfl rfl ?_
                      refine KT.step rfl rfl (K.pick rfl (fun _ => rfl) (fun h => by cases h)) ?_
                      refine KT.step rfl rfl (K.pick rfl (fun _ => rfl) (fun h => by cases h)) ?_
                      refine KT.nil ?_
                      refine ⟨by kernel_rfl, ?_⟩
                      refine thenK_n ?_
                      refine KC.cond rfl (fun hc101 => ?_) (fun hc101 => ?_)
                      · skip
                        refine KC.seq ?_
                        refine KC.region ?_
                        refine KT.step rfl rfl (K.assign rfl) ?_
                        refine KT.nil ?_
                        refine thenK_n ?_
                        refine KC.ret ?_
                        refine blockK_r ?_
                        refine thenK_r ?_
                        refine thenK_r ?_
                        refine blockK_r ?_
                        refine thenK_r ?_
                        refine blockK_r ?_
                        refine thenK_r ?_
                        refine thenK_r ?_
                        refine blockK_r ?_
                        refine thenK_r ?_
                        refine ⟨.inl rfl, _, rfl, fin_b ?_⟩
                        unfold formB
                        refine @decide_eq_false _ (Classical.propDecidable _) fun h => ?_
                        obtain ⟨g1, g2, g3, g4⟩ := h i hil
                        clear hall
                        have g := g3 k hkm
                        clear g3 hin
                        have e1 := e1 (by omega)
                        have e2 := e2 (by omega)
                        first
                          | omega
                          | (have h101 := of_decide_eq_true hc101; omega)
                      · cases hc101
                    · skip
                      replace hb72 := of_decide_eq_false hb72
                      refine KT.step rfl rfl (K.move rfl) ?_
                      refine KT.step rfl rfl (K.move rfl) ?_
                      refine KT.step rfl rfl (K.lss rfl rfl) ?_
                      refine KT.step rfl rfl (K.move rfl) ?_
                      refine KT.bcase (fun hb76 => ?_) (fun hb76 => ?_)
                      · skip
                        replace hb76 := of_decide_eq_true hb76
                        refine KT.step rfl rfl (K.move rfl) ?_
                        refine KT.step rfl rfl (K.move rfl) ?_
                        refine KT.idx rfl rfl rfl hd rfl hkm Try.underlying22 Try.size35 fun c79 cs79 hq79 => ?_
                        refine KT.step rfl rfl (K.load rfl Try.agg35) ?_
                        refine KT.step rfl rfl (K.move rfl) ?_
                        refine KT.idxI rfl rfl rfl hq79 rfl (show LF m i < m[k].length by rw [hrow k hkm]; omega) Try.underlying35 Try.size3 fun cs82 => ?_
                        refine KT.step rfl rfl (K.load rfl Try.agg3) ?_
                        refine KT.step rfl rfl (K.lss rfl rfl) ?_
                        refine KT.step rfl rfl (K.move rfl) ?_
                        refine KT.bcase (fun hb85 => ?_) (fun hb85 => ?_)
                        · skip
                          replace hb85 := of_decide_eq_true hb85
                          refine KT.skip rfl rfl ?_
                          refine KT.skip rfl rfl ?_
                          refine KT.skip rfl rfl ?_
                          refine KT.skip rfl rfl ?_
                          refine KT.skip rfl rfl ?_
                          refine KT.skip rfl rfl ?_
                          refine KT.skip rfl rfl ?_
                          refine KT.skip rfl rfl ?_
                          refine KT.skip rfl rfl ?_
                          refine KT.skip rfl rfl ?_
                          refine KT.skip rfl rfl ?_
                          refine KT.skip rfl rfl ?_
                          refine KT.step rfl rfl (K.pick rfl (fun _ => rfl) (fun h => by cases h)) ?_
                          refine KT.step rfl rfl (K.pick rfl (fun _ => rfl) (fun h => by cases h)) ?_
                          refine KT.step rfl rfl (K.pick rfl (fun h => by cases h) (fun _ => rfl)) ?_
                          refine KT.step rfl rfl (K.pick rfl (fun _ => rfl) (fun h => by cases h)) ?_
                          refine KT.nil ?_
                          refine ⟨by kernel_rfl, ?_⟩
                          refine thenK_n ?_
                          refine KC.cond rfl (fun hc101 => ?_) (fun hc101 => ?_)
                          · skip
                            refine KC.seq ?_
                            refine KC.region ?_
                            refine KT.step rfl rfl (K.assign rfl) ?_
                            refine KT.nil ?_
                            refine thenK_n ?_
                            refine KC.ret ?_
                            refine blockK_r ?_
                            refine thenK_r ?_
                            refine thenK_r ?_
                            refine blockK_r ?_
                            refine thenK_r ?_
                            refine blockK_r ?_
                            refine thenK_r ?_
                            refine thenK_r ?_
                            refine blockK_r ?_
                            refine thenK_r ?_
                            refine ⟨.inl rfl, _, rfl, fin_b ?_⟩
                            unfold formB
                            refine @decide_eq_false _ (Classical.propDecidable _) fun h => ?_
                            obtain ⟨g1, g2, g3, g4⟩ := h i hil
                            clear hall
                            have g := g3 k hkm
                            clear g3 hin
                            have e1 := e1 (by omega)
                            have e2 := e2 (by omega)
                            first
                              | omega
                              | (have h101 := of_decide_eq_true hc101; omega)
                          · cases hc101
                        · skip
                          replace hb85 := of_decide_eq_false hb85
                          refine KT.step rfl rfl (K.move rfl) ?_
                          refine KT.step rfl rfl (K.move rfl) ?_
                          refine KT.idx rfl rfl rfl hd rfl hkm Try.underlying22 Try.size35 fun c88 cs88 hq88 => ?_
                          refine KT.step rfl rfl (K.load rfl Try.agg35) ?_
                          refine KT.step rfl rfl (K.move rfl) ?_
                          refine KT.idxI rfl rfl rfl hq88 rfl (show LF m i < m[k].length by rw [hrow k hkm]; omega) Try.underlying35 Try.size3 fun cs91 => ?_
                          refine KT.step rfl rfl (K.load rfl Try.agg3) ?_
                          refine KT.step rfl rfl (K.move rfl) ?_
                          refine KT.step rfl rfl (K.move rfl) ?_
                          refine KT.idxI rfl rfl rfl hq17 rfl (show LF m i < m[i].length by rw [hrow i hil]; omega) Try.underlying35 Try.size3 fun cs95 => ?_
                          refine KT.step rfl rfl (K.load rfl Try.agg3) ?_
                          refine KT.step rfl rfl (K.geq rfl rfl) ?_
                          refine KT.step rfl rfl (K.pick rfl (fun h => by cases h) (fun _ => rfl)) ?_
                          refine KT.step rfl rfl (K.pick rfl (fun _ => rfl) (fun h => by cases h)) ?_
                          refine KT.step rfl rfl (K.pick rfl (fun h => by cases h) (fun _ => rfl)) ?_
                          refine KT.step rfl rfl (K.pick rfl (fun _ => rfl) (fun h => by cases h)) ?_
                          refine KT.nil ?_
                          refine ⟨by kernel_rfl, ?_⟩
                          refine thenK_n ?_
                          refine KC.cond rfl (fun hc101 => ?_) (fun hc101 => ?_)
                          · skip
                            refine KC.seq ?_
                            refine KC.region ?_
                            refine KT.step rfl rfl (K.assign rfl) ?_
                            refine KT.nil ?_
                            refine thenK_n ?_
                            refine KC.ret ?_
                            refine blockK_r ?_
                            refine thenK_r ?_
                            refine thenK_r ?_
                            refine blockK_r ?_
                            refine thenK_r ?_
                            refine blockK_r ?_
                            refine thenK_r ?_
                            refine thenK_r ?_
                            refine blockK_r ?_
                            refine thenK_r ?_
                            refine ⟨.inl rfl, _, rfl, fin_b ?_⟩
                            unfold formB
                            refine @decide_eq_false _ (Classical.propDecidable _) fun h => ?_
                            obtain ⟨g1, g2, g3, g4⟩ := h i hil
                            clear hall
                            have g := g3 k hkm
                            clear g3 hin
                            have e1 := e1 (by omega)
                            have e2 := e2 (by omega)
                            first
                              | omega
                              | (have h101 := of_decide_eq_true hc101; omega)
                          · skip
                            refine KC.skip ?_
                            refine blockK_n ?_
                            refine thenK_n ?_
                            refine KC.region ?_
                            refine KT.step rfl rfl (K.add rfl rfl (wrap_id (by omega))) ?_
                            refine KT.step rfl rfl (K.move rfl) ?_
                            refine KT.nil ?_
                            refine thenK_n ?_
                            refine ⟨k + 1, ⟨by omega, fun q hq => ?_⟩, by omega, rfl, by simp [Go.Vm.look, extK]⟩
                            by_cases e : q < k
                            · exact hin q e
                            · obtain rfl : q = k := by omega
                              clear hall hin
                              first
                                | omega
                                | (have := e1 (by omega)
                                   have := e2 (by omega)
                                   omega)
                                | (have h101 := of_decide_eq_false hc101
                                   have := e1 (by omega)
                                   have := e2 (by omega)
                                   omega)
                      · skip
                        replace hb76 := of_decide_eq_false hb76
                        refine KT.skip rfl rfl ?_
                        refine KT.skip rfl rfl ?_
                        refine KT.skip rfl rfl ?_
                        refine KT.skip rfl rfl ?_
                        refine KT.skip rfl rfl ?_
                        refine KT.skip rfl rfl ?_
                        refine KT.skip rfl rfl ?_
                        refine KT.skip rfl rfl ?_
                        refine KT.skip rfl rfl ?_
                        refine KT.skip rfl rfl ?_
                        refine KT.skip rfl rfl ?_
                        refine KT.skip rfl rfl ?_
                        refine KT.skip rfl rfl ?_
                        refine KT.skip rfl rfl ?_
                        refine KT.skip rfl rfl ?_
                        refine KT.skip rfl rfl ?_
                        refine KT.skip rfl rfl ?_
                        refine KT.skip rfl rfl ?_
                        refine KT.skip rfl rfl ?_
                        refine KT.skip rfl rfl ?_
                        refine KT.skip rfl rfl ?_
                        refine KT.skip rfl rfl ?_
                        refine KT.step rfl rfl (K.pick rfl (fun h => by cases h) (fun _ => rfl)) ?_
                        refine KT.step rfl rfl (K.pick rfl (fun h => by cases h) (fun _ => rfl)) ?_
                        refine KT.step rfl rfl (K.pick rfl (fun _ => rfl) (fun h => by cases h)) ?_
                        refine KT.nil ?_
                        refine ⟨by kernel_rfl, ?_⟩
                        refine thenK_n ?_
                        refine KC.cond rfl (fun hc101 => ?_) (fun hc101 => ?_)
                        · cases hc101
                        · skip
                          refine KC.skip ?_
                          refine blockK_n ?_
                          refine thenK_n ?_
                          refine KC.region ?_
                          refine KT.step rfl rfl (K.add rfl rfl (wrap_id (by omega))) ?_
                          refine KT.step rfl rfl (K.move rfl) ?_
                          refine KT.nil ?_
                          refine thenK_n ?_
                          refine ⟨k + 1, ⟨by omega, fun q hq => ?_⟩, by omega, rfl, by simp [Go.Vm.look, extK]⟩
                          by_cases e : q < k
                          · exact hin q e
                          · obtain rfl : q = k := by omega
                            clear hall hin
                            first
                              | omega
                              | (have := e1 (by omega)
                                 have := e2 (by omega)
                                 omega)
                              | (have h101 := of_decide_eq_false hc101
                                 have := e1 (by omega)
                                 have := e2 (by omega)
                                 omega)
                  · skip
                    replace hb62 := of_decide_eq_false hb62
                    refine KT.skip rfl rfl ?_
                    refine KT.skip rfl rfl ?_
                    refine KT.skip rfl rfl ?_
                    refine KT.skip rfl rfl ?_
                    refine KT.skip rfl rfl ?_
                    refine KT.skip rfl rfl ?_
                    refine KT.skip rfl rfl ?_
                    refine KT.skip rfl rfl ?_
                    refine KT.step rfl rfl (K.pick rfl (fun h => by cases h) (fun _ => rfl)) ?_
                    refine KT.step rfl rfl (K.move rfl) ?_
                    refine KT.step rfl rfl (K.move rfl) ?_
                    refine KT.step rfl rfl (K.move rfl) ?_
                    refine KT.step rfl rfl (K.lss rfl rfl) ?_
                    refine KT.step rfl rfl (K.move rfl) ?_
                    refine KT.bcase (fun hb76 => ?_) (fun hb76 => ?_)
                    · skip
                      replace hb76 := of_decide_eq_true hb76
                      refine KT.step rfl rfl (K.move rfl) ?_
                      refine KT.step rfl rfl (K.move rfl) ?_
                      refine KT.idx rfl rfl rfl hd rfl hkm Try.underlying22 Try.size35 fun c79 cs79 hq79 => ?_
                      refine KT.step rfl rfl (K.load rfl Try.agg35) ?_
                      refine KT.step rfl rfl (K.move rfl) ?_
                      refine KT.idxI rfl rfl rfl hq79 rfl (show LF m i < m[k].length by rw [hrow k hkm]; omega) Try.underlying35 Try.size3 fun cs82 => ?_
                      refine KT.step rfl rfl (K.load rfl Try.agg3) ?_
                      refine KT.step rfl rfl (K.lss rfl rfl) ?_
                      refine KT.step rfl rfl (K.move rfl) ?_
                      refine KT.bcase (fun hb85 => ?_) (fun hb85 => ?_)
                      · skip
                        replace hb85 := of_decide_eq_true hb85
                        refine KT.skip rfl rfl ?_
                        refine KT.skip rfl rfl ?_
                        refine KT.skip rfl rfl ?_
                        refine KT.skip rfl rfl ?_
                        refine KT.skip rfl rfl ?_
                        refine KT.skip rfl rfl ?_
                        refine KT.skip rfl rfl ?_
                        refine KT.skip rfl rfl ?_
                        refine KT.skip rfl rfl ?_
                        refine KT.skip rfl rfl ?_
                        refine KT.skip rfl rfl ?_
                        refine KT.skip rfl rfl ?_
                        refine KT.step rfl rfl (K.pick rfl (fun _ => rfl) (fun h => by cases h)) ?_
                        refine KT.step rfl rfl (K.pick rfl (fun _ => rfl) (fun h => by cases h)) ?_
                        refine KT.step rfl rfl (K.pick rfl (fun h => by cases h) (fun _ => rfl)) ?_
                        refine KT.step rfl rfl (K.pick rfl (fun _ => rfl) (fun h => by cases h)) ?_
                        refine KT.nil ?_
                        refine ⟨by kernel_rfl, ?_⟩
                        refine thenK_n ?_
                        refine KC.cond rfl (fun hc101 => ?_) (fun hc101 => ?_)
                        · skip
                          refine KC.seq ?_
                          refine KC.region ?_
                          refine KT.step rfl rfl (K.assign rfl) ?_
                          refine KT.nil ?_
                          refine thenK_n ?_
                          refine KC.ret ?_
                          refine blockK_r ?_
                          refine thenK_r ?_
                          refine thenK_r ?_
                          refine blockK_r ?_
                          refine thenK_r ?_
                          refine blockK_r ?_
                          refine thenK_r ?_
                          refine thenK_r ?_
                          refine blockK_r ?_
                          refine thenK_r ?_
                          refine ⟨.inl rfl, _, rfl, fin_b ?_⟩
                          unfold formB
                          refine @decide_eq_false _ (Classical.propDecidable _) fun h => ?_
                          obtain ⟨g1, g2, g3, g4⟩ := h i hil
                          clear hall
                          have g := g3 k hkm
                          clear g3 hin
                          have e1 := e1 (by omega)
                          have e2 := e2 (by omega)
                          first
                            | omega
                            | (have h101 := of_decide_eq_true hc101; omega)
                        · cases hc101
                      · skip
                        replace hb85 := of_decide_eq_false hb85
                        refine KT.step rfl rfl (K.move rfl) ?_
                        refine KT.step rfl rfl (K.move rfl) ?_
                        refine KT.idx rfl rfl rfl hd rfl hkm Try.underlying22 Try.size35 fun c88 cs88 hq88 => ?_
                        refine KT.step rfl rfl (K.load rfl Try.agg35) ?_
                        refine KT.step rfl rfl (K.move rfl) ?_
                        refine KT.idxI rfl rfl rfl hq88 rfl (show LF m i < m[k].length by rw [hrow k hkm]; omega) Try.underlying35 Try.size3 fun cs91 => ?_
                        refine KT.step rfl rfl (K.load rfl Try.agg3) ?_
                        refine KT.step rfl rfl (K.move rfl) ?_
                        refine KT.step rfl rfl (K.move rfl) ?_
                        refine KT.idxI rfl rfl rfl hq17 rfl (show LF m i < m[i].length by rw [hrow i hil]; omega) Try.underlying35 Try.size3 fun cs95 => ?_
                        refine KT.step rfl rfl (K.load rfl Try.agg3) ?_
                        refine KT.step rfl rfl (K.geq rfl rfl) ?_
                        refine KT.step rfl rfl (K.pick rfl (fun h => by cases h) (fun _ => rfl)) ?_
                        refine KT.step rfl rfl (K.pick rfl (fun _ => rfl) (fun h => by cases h)) ?_
                        refine KT.step rfl rfl (K.pick rfl (fun h => by cases h) (fun _ => rfl)) ?_
                        refine KT.step rfl rfl (K.pick rfl (fun _ => rfl) (fun h => by cases h)) ?_
                        refine KT.nil ?_
                        refine ⟨by kernel_rfl, ?_⟩
                        refine thenK_n ?_
                        refine KC.cond rfl (fun hc101 => ?_) (fun hc101 => ?_)
                        · skip
                          refine KC.seq ?_
                          refine KC.region ?_
                          refine KT.step rfl rfl (K.assign rfl) ?_
                          refine KT.nil ?_
                          refine thenK_n ?_
                          refine KC.ret ?_
                          refine blockK_r ?_
                          refine thenK_r ?_
                          refine thenK_r ?_
                          refine blockK_r ?_
                          refine thenK_r ?_
                          refine blockK_r ?_
                          refine thenK_r ?_
                          refine thenK_r ?_
                          refine blockK_r ?_
                          refine thenK_r ?_
                          refine ⟨.inl rfl, _, rfl, fin_b ?_⟩
                          unfold formB
                          refine @decide_eq_false _ (Classical.propDecidable _) fun h => ?_
                          obtain ⟨g1, g2, g3, g4⟩ := h i hil
                          clear hall
                          have g := g3 k hkm
                          clear g3 hin
                          have e1 := e1 (by omega)
                          have e2 := e2 (by omega)
                          first
                            | omega
                            | (have h101 := of_decide_eq_true hc101; omega)
                        · skip
                          refine KC.skip ?_
                          refine blockK_n ?_
                          refine thenK_n ?_
                          refine KC.region ?_
                          refine KT.step rfl rfl (K.add rfl rfl (wrap_id (by omega))) ?_
                          refine KT.step rfl rfl (K.move rfl) ?_
                          refine KT.nil ?_
                          refine thenK_n ?_
                          refine ⟨k + 1, ⟨by omega, fun q hq => ?_⟩, by omega, rfl, by simp [Go.Vm.look, extK]⟩
                          by_cases e : q < k
                          · exact hin q e
                          · obtain rfl : q = k := by omega
                            clear hall hin
                            first
                              | omega
                              | (have := e1 (by omega)
                                 have := e2 (by omega)
                                 omega)
                              | (have h101 := of_decide_eq_false hc101
                                 have := e1 (by omega)
                                 have := e2 (by omega)
                                 omega)
                    · skip
                      replace hb76 := of_decide_eq_false hb76
                      refine KT.skip rfl rfl ?_
                      refine KT.skip rfl rfl ?_
                      refine KT.skip rfl rfl ?_
                      refine KT.skip rfl rfl ?_
                      refine KT.skip rfl rfl ?_
                      refine KT.skip rfl rfl ?_
                      refine KT.skip rfl rfl ?_
                      refine KT.skip rfl rfl ?_
                      refine KT.skip rfl rfl ?_
                      refine KT.skip rfl rfl ?_
                      refine KT.skip rfl rfl ?_
                      refine KT.skip rfl rfl ?_
                      refine KT.skip rfl rfl ?_
                      refine KT.skip rfl rfl ?_
                      refine KT.skip rfl rfl ?_
                      refine KT.skip rfl rfl ?_
                      refine KT.skip rfl rfl ?_
                      refine KT.skip rfl rfl ?_
                      refine KT.skip rfl rfl ?_
                      refine KT.skip rfl rfl ?_
                      refine KT.skip rfl rfl ?_
                      refine KT.skip rfl rfl ?_
                      refine KT.step rfl rfl (K.pick rfl (fun h => by cases h) (fun _ => rfl)) ?_
                      refine KT.step rfl rfl (K.pick rfl (fun h => by cases h) (fun _ => rfl)) ?_
                      refine KT.step rfl rfl (K.pick rfl (fun _ => rfl) (fun h => by cases h)) ?_
                      refine KT.nil ?_
                      refine ⟨by kernel_rfl, ?_⟩
                      refine thenK_n ?_
                      refine KC.cond rfl (fun hc101 => ?_) (fun hc101 => ?_)
                      · cases hc101
                      · skip
                        refine KC.skip ?_
                        refine blockK_n ?_
                        refine thenK_n ?_
                        refine KC.region ?_
                        refine KT.step rfl rfl (K.add rfl rfl (wrap_id (by omega))) ?_
                        refine KT.step rfl rfl (K.move rfl) ?_
                        refine KT.nil ?_
                        refine thenK_n ?_
                        refine ⟨k + 1, ⟨by omega, fun q hq => ?_⟩, by omega, rfl, by simp [Go.Vm.look, extK]⟩
                        by_cases e : q < k
                        · exact hin q e
                        · obtain rfl : q = k := by omega
                          clear hall hin
                          first
                            | omega
                            | (have := e1 (by omega)
                               have := e2 (by omega)
                               omega)
                            | (have h101 := of_decide_eq_false hc101
                               have := e1 (by omega)
                               have := e2 (by omega)
                               omega)
                · skip
                  replace hb58 := of_decide_eq_false hb58
                  refine KT.skip rfl rfl ?_
                  refine KT.skip rfl rfl ?_
                  refine KT.skip rfl rfl ?_
                  refine KT.skip rfl rfl ?_
                  refine KT.skip rfl rfl ?_
                  refine KT.skip rfl rfl ?_
                  refine KT.skip rfl rfl ?_
                  refine KT.skip rfl rfl ?_
                  refine KT.skip rfl rfl ?_
                  refine KT.skip rfl rfl ?_
                  refine KT.skip rfl rfl ?_
                  refine KT.skip rfl rfl ?_
                  refine KT.skip rfl rfl ?_
                  refine KT.skip rfl rfl ?_
                  refine KT.skip rfl rfl ?_
                  refine KT.skip rfl rfl ?_
                  refine KT.skip rfl rfl ?_
                  refine KT.skip rfl rfl ?_
                  refine KT.skip rfl rfl ?_
                  refine KT.skip rfl rfl ?_
                  refine KT.skip rfl rfl ?_
                  refine KT.skip rfl rfl ?_
                  refine KT.skip rfl rfl ?_
                  refine KT.skip rfl rfl ?_
                  refine KT.skip rfl rfl ?_
                  refine KT.skip rfl rfl ?_
                  refine KT.skip rfl rfl ?_
                  refine KT.skip rfl rfl ?_
                  refine KT.skip rfl rfl ?_
                  refine KT.skip rfl rfl ?_
                  refine KT.skip rfl rfl ?_
                  refine KT.skip rfl rfl ?_
                  refine KT.skip rfl rfl ?_
                  refine KT.skip rfl rfl ?_
                  refine KT.skip rfl rfl ?_
                  refine KT.skip rfl rfl ?_
                  refine KT.skip rfl rfl ?_
                  refine KT.skip rfl rfl ?_
                  refine KT.skip rfl rfl ?_
                  refine KT.skip rfl rfl ?_
                  refine KT.skip rfl rfl ?_
                  refine KT.skip rfl rfl ?_
                  refine KT.step rfl rfl (K.pick rfl (fun h => by cases h) (fun _ => rfl)) ?_
                  refine KT.nil ?_
                  refine ⟨by kernel_rfl, ?_⟩
                  refine thenK_n ?_
                  refine KC.cond rfl (fun hc101 => ?_) (fun hc101 => ?_)
                  · cases hc101
                  · skip
                    refine KC.skip ?_
                    refine blockK_n ?_
                    refine thenK_n ?_
                    refine KC.region ?_
                    refine KT.step rfl rfl (K.add rfl rfl (wrap_id (by omega))) ?_
                    refine KT.step rfl rfl (K.move rfl) ?_
                    refine KT.nil ?_
                    refine thenK_n ?_
                    refine ⟨k + 1, ⟨by omega, fun q hq => ?_⟩, by omega, rfl, by simp [Go.Vm.look, extK]⟩
                    by_cases e : q < k
                    · exact hin q e
                    · obtain rfl : q = k := by omega
                      clear hall hin
                      first
                        | omega
                        | (have := e1 (by omega)
                           have := e2 (by omega)
                           omega)
                        | (have h101 := of_decide_eq_false hc101
                           have := e1 (by omega)
                           have := e2 (by omega)
                           omega)
              · skip
                replace hc53 := of_decide_eq_false hc53
                obtain rfl : k = m.length := by omega
                refine KC.exit ?_
                refine thenK_x ?_
                refine thenK_x ?_
                refine blockK_e ?_
                refine thenK_n ?_
                refine KC.seq ?_
                refine KC.region ?_
                refine KT.step rfl rfl (K.move rfl) ?_
                refine KT.step rfl rfl (K.move rfl) ?_
                refine KT.step rfl rfl (K.eql rfl rfl) ?_
                refine KT.step rfl rfl (K.move rfl) ?_
                refine KT.bcase (fun hb106 => ?_) (fun hb106 => ?_)
                · skip
                  replace hb106 := of_decide_eq_true hb106
                  refine KT.step rfl rfl (K.move rfl) ?_
                  refine KT.step rfl rfl (K.add rfl rfl (show IntKind.i64.wrap ((i : Int) + 1) = ((i + 1 : Nat) : Int) from by rw [wrap_id (by omega)]; omega)) ?_
                  refine KT.step rfl rfl (K.move rfl) ?_
                  refine KT.step rfl rfl (K.len rfl hd Try.underlying22) ?_
                  refine KT.step rfl rfl (K.lss rfl rfl) ?_
                  refine KT.step rfl rfl (K.pick rfl (fun _ => rfl) (fun h => by cases h)) ?_
                  refine KT.step rfl rfl (K.move rfl) ?_
                  refine KT.bcase (fun hb113 => ?_) (fun hb113 => ?_)
                  · skip
                    replace hb113 := of_decide_eq_true hb113
                    refine KT.step rfl rfl (K.move rfl) ?_
                    refine KT.step rfl rfl (K.move rfl) ?_
                    refine KT.step rfl rfl (K.add rfl rfl (show IntKind.i64.wrap ((i : Int) + 1) = ((i + 1 : Nat) : Int) from by rw [wrap_id (by omega)]; omega)) ?_
                    refine KT.idx rfl rfl rfl hd rfl (show i + 1 < m.length by omega) Try.underlying22 Try.size35 fun c117 cs117 hq117 => ?_
                    refine KT.step rfl rfl (K.load rfl Try.agg35) ?_
                    refine KT.step rfl rfl (K.call1 rfl plainTry_57 ((show DeepCall Try.prog 57 [c117] (DI (LF m (i + 1) : Int)) from by rw [LF_at (show i + 1 < m.length by omega)]; exact lead57 hq117 (by rw [hrow _ (by omega)]; omega)))) ?_
                    refine KT.step rfl rfl (K.move rfl) ?_
                    refine KT.step rfl rfl (K.lss rfl rfl) ?_
                    refine KT.step rfl rfl (K.pick rfl (fun _ => rfl) (fun h => by cases h)) ?_
                    refine KT.nil ?_
                    refine thenK_n ?_
                    refine KC.cond rfl (fun hc122 => ?_) (fun hc122 => ?_)
                    · skip
                      refine KC.seq ?_
                      refine KC.region ?_
                      refine KT.step rfl rfl (K.assign rfl) ?_
                      refine KT.nil ?_
                      refine thenK_n ?_
                      refine KC.ret ?_
                      refine blockK_r ?_
                      refine thenK_r ?_
                      refine thenK_r ?_
                      refine blockK_r ?_
                      refine thenK_r ?_
                      refine ⟨.inl rfl, _, rfl, fin_b ?_⟩
                      unfold formB
                      refine @decide_eq_false _ (Classical.propDecidable _) fun h => ?_
                      obtain ⟨g1, g2, g3, g4⟩ := h i hil
                      clear hall
                      have g := h12
                      clear g3 hin
                      first
                        | omega
                        | (have h122 := of_decide_eq_true hc122; omega)
                    · skip
                      refine KC.skip ?_
                      refine blockK_n ?_
                      refine thenK_n ?_
                      refine KC.region ?_
                      refine KT.step rfl rfl (K.add rfl rfl (wrap_id (by omega))) ?_
                      refine KT.step rfl rfl (K.move rfl) ?_
                      refine KT.nil ?_
                      refine thenK_n ?_
                      refine ⟨i + 1, ⟨by omega, fun k hk => ?_⟩, by omega, rfl, by simp [Go.Vm.look, extK]⟩
                      by_cases e : k < i
                      · exact hall k e
                      · obtain rfl : k = i := by omega
                        refine ⟨h12.1, h12.2, hin, ?_⟩
                        first
                          | omega
                          | (have h122 := of_decide_eq_false hc122; omega)
                  · skip
                    replace hb113 := of_decide_eq_false hb113
                    refine KT.skip rfl rfl ?_
                    refine KT.skip rfl rfl ?_
                    refine KT.skip rfl rfl ?_
                    refine KT.skip rfl rfl ?_
                    refine KT.skip rfl rfl ?_
                    refine KT.skip rfl rfl ?_
                    refine KT.skip rfl rfl ?_
                    refine KT.skip rfl rfl ?_
                    refine KT.step rfl rfl (K.pick rfl (fun h => by cases h) (fun _ => rfl)) ?_
                    refine KT.nil ?_
                    refine thenK_n ?_
                    refine KC.cond rfl (fun hc122 => ?_) (fun hc122 => ?_)
                    · cases hc122
                    · skip
                      refine KC.skip ?_
                      refine blockK_n ?_
                      refine thenK_n ?_
                      refine KC.region ?_
                      refine KT.step rfl rfl (K.add rfl rfl (wrap_id (by omega))) ?_
                      refine KT.step rfl rfl (K.move rfl) ?_
                      refine KT.nil ?_
                      refine thenK_n ?_
                      refine ⟨i + 1, ⟨by omega, fun k hk => ?_⟩, by omega, rfl, by simp [Go.Vm.look, extK]⟩
                      by_cases e : k < i
                      · exact hall k e
                      · obtain rfl : k = i := by omega
                        refine ⟨h12.1, h12.2, hin, ?_⟩
                        first
                          | omega
                          | (have h122 := of_decide_eq_false hc122; omega)
                · skip
                  replace hb106 := of_decide_eq_false hb106
                  refine KT.skip rfl rfl ?_
                  refine KT.skip rfl rfl ?_
                  refine KT.skip rfl rfl ?_
                  refine KT.skip rfl rfl ?_
                  refine KT.skip rfl rfl ?_
                  refine KT.step rfl rfl (K.pick rfl (fun h => by cases h) (fun _ => rfl)) ?_
                  refine KT.step rfl rfl (K.move rfl) ?_
                  refine KT.skip rfl rfl ?_
                  refine KT.skip rfl rfl ?_
                  refine KT.skip rfl rfl ?_
                  refine KT.skip rfl rfl ?_
                  refine KT.skip rfl rfl ?_
                  refine KT.skip rfl rfl ?_
                  refine KT.skip rfl rfl ?_
                  refine KT.skip rfl rfl ?_
                  refine KT.step rfl rfl (K.pick rfl (fun h => by cases h) (fun _ => rfl)) ?_
                  refine KT.nil ?_
                  refine thenK_n ?_
                  refine KC.cond rfl (fun hc122 => ?_) (fun hc122 => ?_)
                  · cases hc122
                  · skip
                    refine KC.skip ?_
                    refine blockK_n ?_
                    refine thenK_n ?_
                    refine KC.region ?_
                    refine KT.step rfl rfl (K.add rfl rfl (wrap_id (by omega))) ?_
                    refine KT.step rfl rfl (K.move rfl) ?_
                    refine KT.nil ?_
                    refine thenK_n ?_
                    refine ⟨i + 1, ⟨by omega, fun k hk => ?_⟩, by omega, rfl, by simp [Go.Vm.look, extK]⟩
                    by_cases e : k < i
                    · exact hall k e
                    · obtain rfl : k = i := by omega
                      refine ⟨h12.1, h12.2, hin, ?_⟩
                      first
                        | omega
                        | (have h122 := of_decide_eq_false hc122; omega)
          · skip
            exfalso; have := of_decide_eq_false hb42; omega
      · skip
        replace hb28 := of_decide_eq_false hb28
        refine KT.skip rfl rfl ?_
        refine KT.skip rfl rfl ?_
        refine KT.skip rfl rfl ?_
        refine KT.skip rfl rfl ?_
        refine KT.skip rfl rfl ?_
        refine KT.skip rfl rfl ?_
        refine KT.skip rfl rfl ?_
        refine KT.skip rfl rfl ?_
        refine KT.step rfl rfl (K.pick rfl (fun h => by cases h) (fun _ => rfl)) ?_
        refine KT.step rfl rfl (K.move rfl) ?_
        refine KT.step rfl rfl (K.move rfl) ?_
        refine KT.step rfl rfl (K.move rfl) ?_
        refine KT.step rfl rfl (K.lss rfl rfl) ?_
        refine KT.step rfl rfl (K.move rfl) ?_
        refine KT.bcase (fun hb42 => ?_) (fun hb42 => ?_)
        · skip
          exfalso; have := of_decide_eq_true hb42; omega
        · skip
          replace hb42 := of_decide_eq_false hb42
          refine KT.skip rfl rfl ?_
          refine KT.skip rfl rfl ?_
          refine KT.skip rfl rfl ?_
          refine KT.skip rfl rfl ?_
          refine KT.skip rfl rfl ?_
          refine KT.step rfl rfl (K.pick rfl (fun h => by cases h) (fun _ => rfl)) ?_
          refine KT.step rfl rfl (K.pick rfl (fun h => by cases h) (fun _ => rfl)) ?_
          refine KT.nil ?_
          refine thenK_n ?_
          refine KC.cond rfl (fun hc49 => ?_) (fun hc49 => ?_)
          · cases hc49
          · skip
            refine KC.skip ?_
            refine thenK_n ?_
            refine KC.seq ?_
            refine KC.seq ?_
            refine KC.region ?_
            refine KT.step rfl rfl (K.move rfl) ?_
            refine KT.step rfl rfl (K.len rfl hd Try.underlying22) ?_
            refine KT.step rfl rfl (K.move rfl) ?_
            refine KT.nil ?_
            refine thenK_n ?_
            refine KC.block ?_
            have h12 : ¬ (0 < i ∧ LF m i < n ∧ LF m i ≤ LF m (i - 1)) ∧ ¬ (LF m i < n ∧ EF m i (LF m i) < 1) := by
              have e1 : ∀ hp : LF m i < n, m[i][LF m i]'(by rw [hrow i hil]; exact hp) = EF m i (LF m i) := fun hp => EF_at hil _
              constructor
              · omega
              · first
                  | omega
                  | (have h49 := of_decide_eq_false hc49
                     have := e1 (by omega)
                     omega)
            refine KC.loop (fun _ : Nat => []) (fun k => [(0, .d d), (3, .d (DI (n : Int))), (4, .d (DI (i : Int))), (5, .d c17), (6, .d (DI (LF m i : Int))), (12, .d d), (13, .d (DI m.length)), (14, .d (DI (i : Int))), (50, .d d), (51, .d (DI (m.length : Int))), (52, .d (DI (k : Int)))]) (fun k => k ≤ m.length ∧ ∀ q, q < k → ¬ (LF m i < n ∧ ((i < q ∧ EF m q (LF m i) ≠ 0) ∨ (q < i ∧ (EF m q (LF m i) < 0 ∨ EF m i (LF m i) ≤ EF m q (LF m i)))))) (fun k => m.length - k) 0 ⟨Nat.zero_le _, by simp⟩ rfl (by simp [Go.Vm.look, extK, enterK]) ?_
            intro k hk
            obtain ⟨hk, hin⟩ := hk
            refine KC.seq ?_
            refine KC.region ?_
            refine KT.step rfl rfl (K.lss rfl rfl) ?_
            refine KT.nil ?_
            refine thenK_n ?_
            refine KC.seq ?_
            refine KC.cond rfl (fun hc53 => ?_) (fun hc53 => ?_)
            · skip
              replace hc53 := of_decide_eq_true hc53
              have hkm : k < m.length := by omega
              have e1 : ∀ hp : LF m i < n, m[i][LF m i]'(by rw [hrow i hil]; exact hp) = EF m i (LF m i) := fun hp => EF_at hil _
              have e2 : ∀ hp : LF m i < n, m[k][LF m i]'(by rw [hrow k hkm]; exact hp) = EF m k (LF m i) := fun hp => EF_at hkm _
              refine KC.skip ?_
              refine thenK_n ?_
              refine KC.seq ?_
              refine KC.block ?_
              refine KC.seq ?_
              refine KC.region ?_
              refine KT.step rfl rfl (K.move rfl) ?_
              refine KT.step rfl rfl (K.assign rfl) ?_
              refine KT.nil ?_
              refine thenK_n ?_
              refine KC.seq ?_
              refine KC.draw Try.mixed ?_
              refine KT.step rfl rfl (K.move rfl) ?_
              refine KT.step rfl rfl (K.move rfl) ?_
              refine KT.step rfl rfl (K.lss rfl rfl) ?_
              refine KT.step rfl rfl (K.move rfl) ?_
              refine KT.bcase (fun hb58 => ?_) (fun hb58 => ?_)
              · skip
                replace hb58 := of_decide_eq_true hb58
                refine KT.step rfl rfl (K.move rfl) ?_
                refine KT.step rfl rfl (K.move rfl) ?_
                refine KT.step rfl rfl (K.gtr rfl rfl) ?_
                refine KT.step rfl rfl (K.move rfl) ?_
                refine KT.bcase (fun hb62 => ?_) (fun hb62 => ?_)
                · skip
                  replace hb62 := of_decide_eq_true hb62
                  refine KT.step rfl rfl (K.move rfl) ?_
                  refine KT.step rfl rfl (K.move rfl) ?_
                  refine KT.idx rfl rfl rfl hd rfl hkm Try.underlying22 Try.size35 fun c65 cs65 hq65 => ?_
                  refine KT.step rfl rfl (K.load rfl Try.agg35) ?_
                  refine KT.step rfl rfl (K.move rfl) ?_
                  refine KT.idxI rfl rfl rfl hq65 rfl (show LF m i < m[k].length by rw [hrow k hkm]; omega) Try.underlying35 Try.size3 fun cs68 => ?_
                  refine KT.step rfl rfl (K.load rfl Try.agg3) ?_
                  refine KT.step rfl rfl (K.neq rfl rfl) ?_
                  refine KT.step rfl rfl (K.pick rfl (fun _ => rfl) (fun h => by cases h)) ?_
                  refine KT.step rfl rfl (K.move rfl) ?_
                  refine KT.bcase (fun hb72 => ?_) (fun hb72 => ?_)
                  · skip
                    replace hb72 := of_decide_eq_true hb72
                    refine KT.skip rfl rfl ?_
                    refine KT.skip rfl rfl ?_
                    refine KT.skip rfl rfl ?_
                    refine KT.skip rfl rfl ?_
                    refine KT.skip rfl rfl ?_
                    refine KT.skip rfl rfl ?_
                    refine KT.skip rfl rfl ?_
                    refine KT.skip rfl rfl ?_
                    refine KT.skip rfl rfl ?_
                    refine KT.skip rfl rfl ?_
                    refine KT.skip rfl rfl ?_
                    refine KT.skip rfl rfl ?_
                    refine KT.skip rfl rfl ?_
                    refine KT.skip rfl rfl ?_
                    refine KT.skip rfl rfl ?_
                    refine KT.skip rfl rfl ?_
                    refine KT.skip rfl rfl ?_
                    refine KT.skip rfl rfl ?_
                    refine KT.skip rfl rfl ?_
                    refine KT.skip rfl rfl ?_
                    refine KT.skip rfl rfl ?_
                    refine KT.skip rfl rfl ?_
                    refine KT.skip rfl rfl ?_
                    refine KT.skip rfl rfl ?_
                    refine KT.skip rfl rfl ?_
                    refine KT.skip rfl rfl ?_
                    refine KT.skip rfl rfl ?_
                    refine KT.step rfl rfl (K.pick rfl (fun _ => rfl) (fun h => by cases h)) ?_
                    refine KT.step rfl rfl (K.pick rfl (fun _ => rfl) (fun h => by cases h)) ?_
                    refine KT.nil ?_
                    refine ⟨by kernel_rfl, ?_⟩
                    refine thenK_n ?_
                    refine KC.cond rfl (fun hc101 => ?_) (fun hc101 => ?_)
                    · skip
                      refine KC.seq ?_
                      refine KC.region ?_
                      refine KT.step rfl rfl (K.assign rfl) ?_
                      refine KT.nil ?_
                      refine thenK_n ?_
                      refine KC.ret ?_
                      refine blockK_r ?_
                      refine thenK_r ?_
                      refine thenK_r ?_
                      refine blockK_r ?_
                      refine thenK_r ?_
                      refine blockK_r ?_
                      refine thenK_r ?_
                      refine thenK_r ?_
                      refine blockK_r ?_
                      refine thenK_r ?_
                      refine ⟨.inl rfl, _, rfl, fin_b ?_⟩
                      unfold formB
                      refine @decide_eq_false _ (Classical.propDecidable _) fun h => ?_
                      obtain ⟨g1, g2, g3, g4⟩ := h i hil
                      clear hall
                      have g := g3 k hkm
                      clear g3 hin
                      have e1 := e1 (by omega)
                      have e2 := e2 (by omega)
                      first
                        | omega
                        | (have h101 := of_decide_eq_true hc101; omega)
                    · cases hc101
                  · skip
                    replace hb72 := of_decide_eq_false hb72
                    refine KT.step rfl rfl (K.move rfl) ?_
                    refine KT.step rfl rfl (K.move rfl) ?_
                    refine KT.step rfl rfl (K.lss rfl rfl) ?_
                    refine KT.step rfl rfl (K.move rfl) ?_
                    refine KT.bcase (fun hb76 => ?_) (fun hb76 => ?_)
                    · skip
                      replace hb76 := of_decide_eq_true hb76
                      refine KT.step rfl rfl (K.move rfl) ?_
                      refine KT.step rfl rfl (K.move rfl) ?_
                      refine KT.idx rfl rfl rfl hd rfl hkm Try.underlying22 Try.size35 fun c79 cs79 hq79 => ?_
                      refine KT.step rfl rfl (K.load rfl Try.agg35) ?_
                      refine KT.step rfl rfl (K.move rfl) ?_
                      refine KT.idxI rfl rfl rfl hq79 rfl (show LF m i < m[k].length by rw [hrow k hkm]; omega) Try.underlying35 Try.size3 fun cs82 => ?_
                      refine KT.step rfl rfl (K.load rfl Try.agg3) ?_
                      refine KT.step rfl rfl (K.lss rfl rfl) ?_
                      refine KT.step rfl rfl (K.move rfl) ?_
                      refine KT.bcase (fun hb85 => ?_) (fun hb85 => ?_)
                      · skip
                        replace hb85 := of_decide_eq_true hb85
                        refine KT.skip rfl rfl ?_
                        refine KT.skip rfl rfl ?_
                        refine KT.skip rfl rfl ?_
                        refine KT.skip rfl rfl ?_
                        refine KT.skip rfl rfl ?_
                        refine KT.skip rfl rfl ?_
                        refine KT.skip rfl rfl ?_
                        refine KT.skip rfl rfl ?_
                        refine KT.skip rfl rfl ?_
                        refine KT.skip rfl rfl ?_
                        refine KT.skip rfl rfl ?_
                        refine KT.skip rfl rfl ?_
                        refine KT.step rfl rfl (K.pick rfl (fun _ => rfl) (fun h => by cases h)) ?_
                        refine KT.step rfl rfl (K.pick rfl (fun _ => rfl) (fun h => by cases h)) ?_
                        refine KT.step rfl rfl (K.pick rfl (fun h => by cases h) (fun _ => rfl)) ?_
                        refine KT.step rfl rfl (K.pick rfl (fun _ => rfl) (fun h => by cases h)) ?_
                        refine KT.nil ?_
                        refine ⟨by kernel_rfl, ?_⟩
                        refine thenK_n ?_
                        refine KC.cond rfl (fun hc101 => ?_) (fun hc101 => ?_)
                        · skip
                          refine KC.seq ?_
                          refine KC.region ?_
                          refine KT.step rfl rfl (K.assign rfl) ?_
                          refine KT.nil ?_
                          refine thenK_n ?_
                          refine KC.ret ?_
                          refine blockK_r ?_
                          refine thenK_r ?_
                          refine thenK_r ?_
                          refine blockK_r ?_
                          refine thenK_r ?_
                          refine blockK_r ?_
                          refine thenK_r ?_
                          refine thenK_r ?_
                          refine blockK_r ?_
                          refine thenK_r ?_
                          refine ⟨.inl rfl, _, rfl, fin_b ?_⟩
                          unfold formB
                          refine @decide_eq_false _ (Classical.propDecidable _) fun h => ?_
                          obtain ⟨g1, g2, g3, g4⟩ := h i hil
                          clear hall
                          have g := g3 k hkm
                          clear g3 hin
                          have e1 := e1 (by omega)
                          have e2 := e2 (by omega)
                          first
                            | omega
                            | (have h101 := of_decide_eq_true hc101; omega)
                        · cases hc101
                      · skip
                        replace hb85 := of_decide_eq_false hb85
                        refine KT.step rfl rfl (K.move rfl) ?_
                        refine KT.step rfl rfl (K.move rfl) ?_
                        refine KT.idx rfl rfl rfl hd rfl hkm Try.underlying22 Try.size35 fun c88 cs88 hq88 => ?_
                        refine KT.step rfl rfl (K.load rfl Try.agg35) ?_
                        refine KT.step rfl rfl (K.move rfl) ?_
                        refine KT.idxI rfl rfl rfl hq88 rfl (show LF m i < m[k].length by rw [hrow k hkm]; omega) Try.underlying35 Try.size3 fun cs91 => ?_
                        refine KT.step rfl rfl (K.load rfl Try.agg3) ?_
                        refine KT.step rfl rfl (K.move rfl) ?_
                        refine KT.step rfl rfl (K.move rfl) ?_
                        refine KT.idxI rfl rfl rfl hq17 rfl (show LF m i < m[i].length by rw [hrow i hil]; omega) Try.underlying35 Try.size3 fun cs95 => ?_
                        refine KT.step rfl rfl (K.load rfl Try.agg3) ?_
                        refine KT.step rfl rfl (K.geq rfl rfl) ?_
                        refine KT.step rfl rfl (K.pick rfl (fun h => by cases h) (fun _ => rfl)) ?_
                        refine KT.step rfl rfl (K.pick rfl (fun _ => rfl) (fun h => by cases h)) ?_
                        refine KT.step rfl rfl (K.pick rfl (fun h => by cases h) (fun _ => rfl)) ?_
                        refine KT.step rfl rfl (K.pick rfl (fun _ => rfl) (fun h => by cases h)) ?_
                        refine KT.nil ?_
                        refine ⟨by kernel_rfl, ?_⟩
                        refine thenK_n ?_
                        refine KC.cond rfl (fun hc101 => ?_) (fun hc101 => ?_)
                        · skip
                          refine KC.seq ?_
                          refine KC.region ?_
                          refine KT.step rfl rfl (K.assign rfl) ?_
                          refine KT.nil ?_
                          refine thenK_n ?_
                          refine KC.ret ?_
                          refine blockK_r ?_
                          refine thenK_r ?_
                          refine thenK_r ?_
                          refine blockK_r ?_
                          refine thenK_r ?_
                          refine blockK_r ?_
                          refine thenK_r ?_
                          refine thenK_r ?_
                          refine blockK_r ?_
                          refine thenK_r ?_
                          refine ⟨.inl rfl, _, rfl, fin_b ?_⟩
                          unfold formB
                          refine @decide_eq_false _ (Classical.propDecidable _) fun h => ?_
                          obtain ⟨g1, g2, g3, g4⟩ := h i hil
                          clear hall
                          have g := g3 k hkm
                          clear g3 hin
                          have e1 := e1 (by omega)
                          have e2 := e2 (by omega)
                          first
                            | omega
                            | (have h101 := of_decide_eq_true hc101; omega)
                        · skip
                          refine KC.skip ?_
                          refine blockK_n ?_
                          refine thenK_n ?_
                          refine KC.region ?_
                          refine KT.step rfl rfl (K.add rfl rfl (wrap_id (by omega))) ?_
                          refine KT.step rfl rfl (K.move rfl) ?_
                          refine KT.nil ?_
                          refine thenK_n ?_
                          refine ⟨k + 1, ⟨by omega, fun q hq => ?_⟩, by omega, rfl, by simp [Go.Vm.look, extK]⟩
                          by_cases e : q < k
                          · exact hin q e
                          · obtain rfl : q = k := by omega
                            clear hall hin
                            first
                              | omega
                              | (have := e1 (by omega)
                                 have := e2 (by omega)
                                 omega)
                              | (have h101 := of_decide_eq_false hc101
                                 have := e1 (by omega)
                                 have := e2 (by omega)
                                 omega)
                    · skip
                      replace hb76 := of_decide_eq_false hb76
                      refine KT.skip rfl rfl ?_
                      refine KT.skip rfl rfl ?_
                      refine KT.skip rfl rfl ?_
                      refine KT.skip rfl rfl ?_
                      refine KT.skip rfl rfl ?_
                      refine KT.skip rfl rfl ?_
                      refine KT.skip rfl rfl ?_
                      refine KT.skip rfl rfl ?_
                      refine KT.skip rfl rfl ?_
                      refine KT.skip rfl rfl ?_
                      refine KT.skip rfl rfl ?_
                      refine KT.skip rfl rfl ?_
                      refine KT.skip rfl rfl ?_
                      refine KT.skip rfl rfl ?_
                      refine KT.skip rfl rfl ?_
                      refine KT.skip rfl rfl ?_
                      refine KT.skip rfl rfl ?_
                      refine KT.skip rfl rfl ?_
                      refine KT.skip rfl rfl ?_
                      refine KT.skip rfl rfl ?_
                      refine KT.skip rfl rfl ?_
                      refine KT.skip rfl rfl ?_
                      refine KT.step rfl rfl (K.pick rfl (fun h => by cases h) (fun _ => rfl)) ?_
                      refine KT.step rfl rfl (K.pick rfl (fun h => by cases h) (fun _ => rfl)) ?_
                      refine KT.step rfl rfl (K.pick rfl (fun _ => rfl) (fun h => by cases h)) ?_
                      refine KT.nil ?_
                      refine ⟨by kernel_rfl, ?_⟩
                      refine thenK_n ?_
                      refine KC.cond rfl (fun hc101 => ?_) (fun hc101 => ?_)
                      · cases hc101
                      · skip
                        refine KC.skip ?_
                        refine blockK_n ?_
                        refine thenK_n ?_
                        refine KC.region ?_
                        refine KT.step rfl rfl (K.add rfl rfl (wrap_id (by omega))) ?_
                        refine KT.step rfl rfl (K.move rfl) ?_
                        refine KT.nil ?_
                        refine thenK_n ?_
                        refine ⟨k + 1, ⟨by omega, fun q hq => ?_⟩, by omega, rfl, by simp [Go.Vm.look, extK]⟩
                        by_cases e : q < k
                        · exact hin q e
                        · obtain rfl : q = k := by omega
                          clear hall hin
                          first
                            | omega
                            | (have := e1 (by omega)
                               have := e2 (by omega)
                               omega)
                            | (have h101 := of_decide_eq_false hc101
                               have := e1 (by omega)
                               have := e2 (by omega)
                               omega)
                · skip
                  replace hb62 := of_decide_eq_false hb62
                  refine KT.skip rfl rfl ?_
                  refine KT.skip rfl rfl ?_
                  refine KT.skip rfl rfl ?_
                  refine KT.skip rfl rfl ?_
                  refine KT.skip rfl rfl ?_
                  refine KT.skip rfl rfl ?_
                  refine KT.skip rfl rfl ?_
                  refine KT.skip rfl rfl ?_
                  refine KT.step rfl rfl (K.pick rfl (fun h => by cases h) (fun _ => rfl)) ?_
                  refine KT.step rfl rfl (K.move rfl) ?_
                  refine KT.step rfl rfl (K.move rfl) ?_
                  refine KT.step rfl rfl (K.move rfl) ?_
                  refine KT.step rfl rfl (K.lss rfl rfl) ?_
                  refine KT.step rfl rfl (K.move rfl) ?_
                  refine KT.bcase (fun hb76 => ?_) (fun hb76 => ?_)
                  · skip
                    replace hb76 := of_decide_eq_true hb76
                    refine KT.step rfl rfl (K.move rfl) ?_
                    refine KT.step rfl rfl (K.move rfl) ?_
                    refine KT.idx rfl rfl rfl hd rfl hkm Try.underlying22 Try.size35 fun c79 cs79 hq79 => ?_
                    refine KT.step rfl rfl (K.load rfl Try.agg35) ?_
                    refine KT.step rfl rfl (K.move rfl) ?_
                    refine KT.idxI rfl rfl rfl hq79 rfl (show LF m i < m[k].length by rw [hrow k hkm]; omega) Try.underlying35 Try.size3 fun cs82 => ?_
                    refine KT.step rfl rfl (K.load rfl Try.agg3) ?_
                    refine KT.step rfl rfl (K.lss rfl rfl) ?_
                    refine KT.step rfl rfl (K.move rfl) ?_
                    refine KT.bcase (fun hb85 => ?_) (fun hb85 => ?_)
                    · skip
                      replace hb85 := of_decide_eq_true hb85
                      refine KT.skip rfl rfl ?_
                      refine KT.skip rfl rfl ?_
                      refine KT.skip rfl rfl ?_
                      refine KT.skip rfl rfl ?_
                      refine KT.skip rfl rfl ?_
                      refine KT.skip rfl rfl ?_
                      refine KT.skip rfl rfl ?_
                      refine KT.skip rfl rfl ?_
                      refine KT.skip rfl rfl ?_
                      refine KT.skip rfl rfl ?_
                      refine KT.skip rfl rfl ?_
                      refine KT.skip rfl rfl ?_
                      refine KT.step rfl rfl (K.pick rfl (fun _ => rfl) (fun h => by cases h)) ?_
                      refine KT.step rfl rfl (K.pick rfl (fun _ => rfl) (fun h => by cases h)) ?_
                      refine KT.step rfl rfl (K.pick rfl (fun h => by cases h) (fun _ => rfl)) ?_
                      refine KT.step rfl rfl (K.pick rfl (fun _ => rfl) (fun h => by cases h)) ?_
                      refine KT.nil ?_
                      refine ⟨by kernel_rfl, ?_⟩
                      refine thenK_n ?_
                      refine KC.cond rfl (fun hc101 => ?_) (fun hc101 => ?_)
                      · skip
                        refine KC.seq ?_
                        refine KC.region ?_
                        refine KT.step rfl rfl (K.assign rfl) ?_
                        refine KT.nil ?_
                        refine thenK_n ?_
                        refine KC.ret ?_
                        refine blockK_r ?_
                        refine thenK_r ?_
                        refine thenK_r ?_
                        refine blockK_r ?_
                        refine thenK_r ?_
                        refine blockK_r ?_
                        refine thenK_r ?_
                        refine thenK_r ?_
                        refine blockK_r ?_
                        refine thenK_r ?_
                        refine ⟨.inl rfl, _, rfl, fin_b ?_⟩
                        unfold formB
                        refine @decide_eq_false _ (Classical.propDecidable _) fun h => ?_
                        obtain ⟨g1, g2, g3, g4⟩ := h i hil
                        clear hall
                        have g := g3 k hkm
                        clear g3 hin
                        have e1 := e1 (by omega)
                        have e2 := e2 (by omega)
                        first
                          | omega
                          | (have h101 := of_decide_eq_true hc101; omega)
                      · cases hc101
                    · skip
                      replace hb85 := of_decide_eq_false hb85
                      refine KT.step rfl rfl (K.move rfl) ?_
                      refine KT.step rfl rfl (K.move rfl) ?_
                      refine KT.idx rfl rfl rfl hd rfl hkm Try.underlying22 Try.size35 fun c88 cs88 hq88 => ?_
                      refine KT.step rfl rfl (K.load rfl Try.agg35) ?_
                      refine KT.step rfl rfl (K.move rfl) ?_
                      refine KT.idxI rfl rfl rfl hq88 rfl (show LF m i < m[k].length by rw [hrow k hkm]; omega) Try.underlying35 Try.size3 fun cs91 => ?_
                      refine KT.step rfl rfl (K.load rfl Try.agg3) ?_
                      refine KT.step rfl rfl (K.move rfl) ?_
                      refine KT.step rfl rfl (K.move rfl) ?_
                      refine KT.idxI rfl rfl rfl hq17 rfl (show LF m i < m[i].length by rw [hrow i hil]; omega) Try.underlying35 Try.size3 fun cs95 => ?_
                      refine KT.step rfl rfl (K.load rfl Try.agg3) ?_
                      refine KT.step rfl rfl (K.geq rfl rfl) ?_
                      refine KT.step rfl rfl (K.pick rfl (fun h => by cases h) (fun _ => rfl)) ?_
                      refine KT.step rfl rfl (K.pick rfl (fun _ => rfl) (fun h => by cases h)) ?_
                      refine KT.step rfl rfl (K.pick rfl (fun h => by cases h) (fun _ => rfl)) ?_
                      refine KT.step rfl rfl (K.pick rfl (fun _ => rfl) (fun h => by cases h)) ?_
                      refine KT.nil ?_
                      refine ⟨by kernel_rfl, ?_⟩
                      refine thenK_n ?_
                      refine KC.cond rfl (fun hc101 => ?_) (fun hc101 => ?_)
                      · skip
                        refine KC.seq ?_
                        refine KC.region ?_
                        refine KT.step rfl rfl (K.assign rfl) ?_
                        refine KT.nil ?_
                        refine thenK_n ?_
                        refine KC.ret ?_
                        refine blockK_r ?_
                        refine thenK_r ?_
                        refine thenK_r ?_
                        refine blockK_r ?_
                        refine thenK_r ?_
                        refine blockK_r ?_
                        refine thenK_r ?_
                        refine thenK_r ?_
                        refine blockK_r ?_
                        refine thenK_r ?_
                        refine ⟨.inl rfl, _, rfl, fin_b ?_⟩
                        unfold formB
                        refine @decide_eq_false _ (Classical.propDecidable _) fun h => ?_
                        obtain ⟨g1, g2, g3, g4⟩ := h i hil
                        clear hall
                        have g := g3 k hkm
                        clear g3 hin
                        have e1 := e1 (by omega)
                        have e2 := e2 (by omega)
                        first
                          | omega
                          | (have h101 := of_decide_eq_true hc101; omega)
                      · skip
                        refine KC.skip ?_
                        refine blockK_n ?_
                        refine thenK_n ?_
                        refine KC.region ?_
                        refine KT.step rfl rfl (K.add rfl rfl (wrap_id (by omega))) ?_
                        refine KT.step rfl rfl (K.move rfl) ?_
                        refine KT.nil ?_
                        refine thenK_n ?_
                        refine ⟨k + 1, ⟨by omega, fun q hq => ?_⟩, by omega, rfl, by simp [Go.Vm.look, extK]⟩
                        by_cases e : q < k
                        · exact hin q e
                        · obtain rfl : q = k := by omega
                          clear hall hin
                          first
                            | omega
                            | (have := e1 (by omega)
                               have := e2 (by omega)
                               omega)
                            | (have h101 := of_decide_eq_false hc101
                               have := e1 (by omega)
                               have := e2 (by omega)
                               omega)
                  · skip
                    replace hb76 := of_decide_eq_false hb76
                    refine KT.skip rfl rfl ?_
                    refine KT.skip rfl rfl ?_
                    refine KT.skip rfl rfl ?_
                    refine KT.skip rfl rfl ?_
                    refine KT.skip rfl rfl ?_
                    refine KT.skip rfl rfl ?_
                    refine KT.skip rfl rfl ?_
                    refine KT.skip rfl rfl ?_
                    refine KT.skip rfl rfl ?_
                    refine KT.skip rfl rfl ?_
                    refine KT.skip rfl rfl ?_
                    refine KT.skip rfl rfl ?_
                    refine KT.skip rfl rfl ?_
                    refine KT.skip rfl rfl ?_
                    refine KT.skip rfl rfl ?_
                    refine KT.skip rfl rfl ?_
                    refine KT.skip rfl rfl ?_
                    refine KT.skip rfl rfl ?_
                    refine KT.skip rfl rfl ?_
                    refine KT.skip rfl rfl ?_
                    refine KT.skip rfl rfl ?_
                    refine KT.skip rfl rfl ?_
                    refine KT.step rfl rfl (K.pick rfl (fun h => by cases h) (fun _ => rfl)) ?_
                    refine KT.step rfl rfl (K.pick rfl (fun h => by cases h) (fun _ => rfl)) ?_
                    refine KT.step rfl rfl (K.pick rfl (fun _ => rfl) (fun h => by cases h)) ?_
                    refine KT.nil ?_
                    refine ⟨by kernel_rfl, ?_⟩
                    refine thenK_n ?_
                    refine KC.cond rfl (fun hc101 => ?_) (fun hc101 => ?_)
                    · cases hc101
                    · skip
                      refine KC.skip ?_
                      refine blockK_n ?_
                      refine thenK_n ?_
                      refine KC.region ?_
                      refine KT.step rfl rfl (K.add rfl rfl (wrap_id (by omega))) ?_
                      refine KT.step rfl rfl (K.move rfl) ?_
                      refine KT.nil ?_
                      refine thenK_n ?_
                      refine ⟨k + 1, ⟨by omega, fun q hq => ?_⟩, by omega, rfl, by simp [Go.Vm.look, extK]⟩
                      by_cases e : q < k
                      · exact hin q e
                      · obtain rfl : q = k := by omega
                        clear hall hin
                        first
                          | omega
                          | (have := e1 (by omega)
                             have := e2 (by omega)
                             omega)
                          | (have h101 := of_decide_eq_false hc101
                             have := e1 (by omega)
                             have := e2 (by omega)
                             omega)
              · skip
                replace hb58 := of_decide_eq_false hb58
                refine KT.skip rfl rfl ?_
                refine KT.skip rfl rfl ?_
                refine KT.skip rfl rfl ?_
                refine KT.skip rfl rfl ?_
                refine KT.skip rfl rfl ?_
                refine KT.skip rfl rfl ?_
                refine KT.skip rfl rfl ?_
                refine KT.skip rfl rfl ?_
                refine KT.skip rfl rfl ?_
                refine KT.skip rfl rfl ?_
                refine KT.skip rfl rfl ?_
                refine KT.skip rfl rfl ?_
                refine KT.skip rfl rfl ?_
                refine KT.skip rfl rfl ?_
                refine KT.skip rfl rfl ?_
                refine KT.skip rfl rfl ?_
                refine KT.skip rfl rfl ?_
                refine KT.skip rfl rfl ?_
                refine KT.skip rfl rfl ?_
                refine KT.skip rfl rfl ?_
                refine KT.skip rfl rfl ?_
                refine KT.skip rfl rfl ?_
                refine KT.skip rfl rfl ?_
                refine KT.skip rfl rfl ?_
                refine KT.skip rfl rfl ?_
                refine KT.skip rfl rfl ?_
                refine KT.skip rfl rfl ?_
                refine KT.skip rfl rfl ?_
                refine KT.skip rfl rfl ?_
                refine KT.skip rfl rfl ?_
                refine KT.skip rfl rfl ?_
                refine KT.skip rfl rfl ?_
                refine KT.skip rfl rfl ?_
                refine KT.skip rfl rfl ?_
                refine KT.skip rfl rfl ?_
                refine KT.skip rfl rfl ?_
                refine KT.skip rfl rfl ?_
                refine KT.skip rfl rfl ?_
                refine KT.skip rfl rfl ?_
                refine KT.skip rfl rfl ?_
                refine KT.skip rfl rfl ?_
                refine KT.skip rfl rfl ?_
                refine KT.step rfl rfl (K.pick rfl (fun h => by cases h) (fun _ => rfl)) ?_
                refine KT.nil ?_
                refine ⟨by kernel_rfl, ?_⟩
                refine thenK_n ?_
                refine KC.cond rfl (fun hc101 => ?_) (fun hc101 => ?_)
                · cases hc101
                · skip
                  refine KC.skip ?_
                  refine blockK_n ?_
                  refine thenK_n ?_
                  refine KC.region ?_
                  refine KT.step rfl rfl (K.add rfl rfl (wrap_id (by omega))) ?_
                  refine KT.step rfl rfl (K.move rfl) ?_
                  refine KT.nil ?_
                  refine thenK_n ?_
                  refine ⟨k + 1, ⟨by omega, fun q hq => ?_⟩, by omega, rfl, by simp [Go.Vm.look, extK]⟩
                  by_cases e : q < k
                  · exact hin q e
                  · obtain rfl : q = k := by omega
                    clear hall hin
                    first
                      | omega
                      | (have := e1 (by omega)
                         have := e2 (by omega)
                         omega)
                      | (have h101 := of_decide_eq_false hc101
                         have := e1 (by omega)
                         have := e2 (by omega)
                         omega)
            · skip
              replace hc53 := of_decide_eq_false hc53
              obtain rfl : k = m.length := by omega
              refine KC.exit ?_
              refine thenK_x ?_
              refine thenK_x ?_
              refine blockK_e ?_
              refine thenK_n ?_
              refine KC.seq ?_
              refine KC.region ?_
              refine KT.step rfl rfl (K.move rfl) ?_
              refine KT.step rfl rfl (K.move rfl) ?_
              refine KT.step rfl rfl (K.eql rfl rfl) ?_
              refine KT.step rfl rfl (K.move rfl) ?_
              refine KT.bcase (fun hb106 => ?_) (fun hb106 => ?_)
              · skip
                replace hb106 := of_decide_eq_true hb106
                refine KT.step rfl rfl (K.move rfl) ?_
                refine KT.step rfl rfl (K.add rfl rfl (show IntKind.i64.wrap ((i : Int) + 1) = ((i + 1 : Nat) : Int) from by rw [wrap_id (by omega)]; omega)) ?_
                refine KT.step rfl rfl (K.move rfl) ?_
                refine KT.step rfl rfl (K.len rfl hd Try.underlying22) ?_
                refine KT.step rfl rfl (K.lss rfl rfl) ?_
                refine KT.step rfl rfl (K.pick rfl (fun _ => rfl) (fun h => by cases h)) ?_
                refine KT.step rfl rfl (K.move rfl) ?_
                refine KT.bcase (fun hb113 => ?_) (fun hb113 => ?_)
                · skip
                  replace hb113 := of_decide_eq_true hb113
                  refine KT.step rfl rfl (K.move rfl) ?_
                  refine KT.step rfl rfl (K.move rfl) ?_
                  refine KT.step rfl rfl (K.add rfl rfl (show IntKind.i64.wrap ((i : Int) + 1) = ((i + 1 : Nat) : Int) from by rw [wrap_id (by omega)]; omega)) ?_
                  refine KT.idx rfl rfl rfl hd rfl (show i + 1 < m.length by omega) Try.underlying22 Try.size35 fun c117 cs117 hq117 => ?_
                  refine KT.step rfl rfl (K.load rfl Try.agg35) ?_
                  refine KT.step rfl rfl (K.call1 rfl plainTry_57 ((show DeepCall Try.prog 57 [c117] (DI (LF m (i + 1) : Int)) from by rw [LF_at (show i + 1 < m.length by omega)]; exact lead57 hq117 (by rw [hrow _ (by omega)]; omega)))) ?_
                  refine KT.step rfl rfl (K.move rfl) ?_
                  refine KT.step rfl rfl (K.lss rfl rfl) ?_
                  refine KT.step rfl rfl (K.pick rfl (fun _ => rfl) (fun h => by cases h)) ?_
                  refine KT.nil ?_
                  refine thenK_n ?_
                  refine KC.cond rfl (fun hc122 => ?_) (fun hc122 => ?_)
                  · skip
                    refine KC.seq ?_
                    refine KC.region ?_
                    refine KT.step rfl rfl (K.assign rfl) ?_
                    refine KT.nil ?_
                    refine thenK_n ?_
                    refine KC.ret ?_
                    refine blockK_r ?_
                    refine thenK_r ?_
                    refine thenK_r ?_
                    refine blockK_r ?_
                    refine thenK_r ?_
                    refine ⟨.inl rfl, _, rfl, fin_b ?_⟩
                    unfold formB
                    refine @decide_eq_false _ (Classical.propDecidable _) fun h => ?_
                    obtain ⟨g1, g2, g3, g4⟩ := h i hil
                    clear hall
                    have g := h12
                    clear g3 hin
                    first
                      | omega
                      | (have h122 := of_decide_eq_true hc122; omega)
                  · skip
                    refine KC.skip ?_
                    refine blockK_n ?_
                    refine thenK_n ?_
                    refine KC.region ?_
                    refine KT.step rfl rfl (K.add rfl rfl (wrap_id (by omega))) ?_
                    refine KT.step rfl rfl (K.move rfl) ?_
                    refine KT.nil ?_
                    refine thenK_n ?_
                    refine ⟨i + 1, ⟨by omega, fun k hk => ?_⟩, by omega, rfl, by simp [Go.Vm.look, extK]⟩
                    by_cases e : k < i
                    · exact hall k e
                    · obtain rfl : k = i := by omega
                      refine ⟨h12.1, h12.2, hin, ?_⟩
                      first
                        | omega
                        | (have h122 := of_decide_eq_false hc122; omega)
                · skip
                  replace hb113 := of_decide_eq_false hb113
                  refine KT.skip rfl rfl ?_
                  refine KT.skip rfl rfl ?_
                  refine KT.skip rfl rfl ?_
                  refine KT.skip rfl rfl ?_
                  refine KT.skip rfl rfl ?_
                  refine KT.skip rfl rfl ?_
                  refine KT.skip rfl rfl ?_
                  refine KT.skip rfl rfl ?_
                  refine KT.step rfl rfl (K.pick rfl (fun h => by cases h) (fun _ => rfl)) ?_
                  refine KT.nil ?_
                  refine thenK_n ?_
                  refine KC.cond rfl (fun hc122 => ?_) (fun hc122 => ?_)
                  · cases hc122
                  · skip
                    refine KC.skip ?_
                    refine blockK_n ?_
                    refine thenK_n ?_
                    refine KC.region ?_
                    refine KT.step rfl rfl (K.add rfl rfl (wrap_id (by omega))) ?_
                    refine KT.step rfl rfl (K.move rfl) ?_
                    refine KT.nil ?_
                    refine thenK_n ?_
                    refine ⟨i + 1, ⟨by omega, fun k hk => ?_⟩, by omega, rfl, by simp [Go.Vm.look, extK]⟩
                    by_cases e : k < i
                    · exact hall k e
                    · obtain rfl : k = i := by omega
                      refine ⟨h12.1, h12.2, hin, ?_⟩
                      first
                        | omega
                        | (have h122 := of_decide_eq_false hc122; omega)
              · skip
                replace hb106 := of_decide_eq_false hb106
                refine KT.skip rfl rfl ?_
                refine KT.skip rfl rfl ?_
                refine KT.skip rfl rfl ?_
                refine KT.skip rfl rfl ?_
                refine KT.skip rfl rfl ?_
                refine KT.step rfl rfl (K.pick rfl (fun h => by cases h) (fun _ => rfl)) ?_
                refine KT.step rfl rfl (K.move rfl) ?_
                refine KT.skip rfl rfl ?_
                refine KT.skip rfl rfl ?_
                refine KT.skip rfl rfl ?_
                refine KT.skip rfl rfl ?_
                refine KT.skip rfl rfl ?_
                refine KT.skip rfl rfl ?_
                refine KT.skip rfl rfl ?_
                refine KT.skip rfl rfl ?_
                refine KT.step rfl rfl (K.pick rfl (fun h => by cases h) (fun _ => rfl)) ?_
                refine KT.nil ?_
                refine thenK_n ?_
                refine KC.cond rfl (fun hc122 => ?_) (fun hc122 => ?_)
                · cases hc122
                · skip
                  refine KC.skip ?_
                  refine blockK_n ?_
                  refine thenK_n ?_
                  refine KC.region ?_
                  refine KT.step rfl rfl (K.add rfl rfl (wrap_id (by omega))) ?_
                  refine KT.step rfl rfl (K.move rfl) ?_
                  refine KT.nil ?_
                  refine thenK_n ?_
                  refine ⟨i + 1, ⟨by omega, fun k hk => ?_⟩, by omega, rfl, by simp [Go.Vm.look, extK]⟩
                  by_cases e : k < i
                  · exact hall k e
                  · obtain rfl : k = i := by omega
                    refine ⟨h12.1, h12.2, hin, ?_⟩
                    first
                      | omega
                      | (have h122 := of_decide_eq_false hc122; omega)
    · skip
      replace hb23 := of_decide_eq_false hb23
      refine KT.skip rfl rfl ?_
      refine KT.skip rfl rfl ?_
      refine KT.skip rfl rfl ?_
      refine KT.step rfl rfl (K.pick rfl (fun h => by cases h) (fun _ => rfl)) ?_
      refine KT.step rfl rfl (K.move rfl) ?_
      refine KT.skip rfl rfl ?_
      refine KT.skip rfl rfl ?_
      refine KT.skip rfl rfl ?_
      refine KT.skip rfl rfl ?_
      refine KT.skip rfl rfl ?_
      refine KT.skip rfl rfl ?_
      refine KT.skip rfl rfl ?_
      refine KT.skip rfl rfl ?_
      refine KT.step rfl rfl (K.pick rfl (fun h => by cases h) (fun _ => rfl)) ?_
      refine KT.step rfl rfl (K.move rfl) ?_
      refine KT.step rfl rfl (K.move rfl) ?_
      refine KT.step rfl rfl (K.move rfl) ?_
      refine KT.step rfl rfl (K.lss rfl rfl) ?_
      refine KT.step rfl rfl (K.move rfl) ?_
      refine KT.bcase (fun hb42 => ?_) (fun hb42 => ?_)
      · skip
        replace hb42 := of_decide_eq_true hb42
        refine KT.step rfl rfl (K.move rfl) ?_
        refine KT.step rfl rfl (K.move rfl) ?_
        refine KT.idxI rfl rfl rfl hq17 rfl (show LF m i < m[i].length by rw [hrow i hil]; omega) Try.underlying35 Try.size3 fun cs45 => ?_
        refine KT.step rfl rfl (K.load rfl Try.agg3) ?_
        refine KT.step rfl rfl (K.lss rfl rfl) ?_
        refine KT.step rfl rfl (K.pick rfl (fun _ => rfl) (fun h => by cases h)) ?_
        refine KT.step rfl rfl (K.pick rfl (fun h => by cases h) (fun _ => rfl)) ?_
        refine KT.nil ?_
        refine thenK_n ?_
        refine KC.cond rfl (fun hc49 => ?_) (fun hc49 => ?_)
        · skip
          refine KC.seq ?_
          refine KC.region ?_
          refine KT.step rfl rfl (K.assign rfl) ?_
          refine KT.nil ?_
          refine thenK_n ?_
          refine KC.ret ?_
          refine thenK_r ?_
          refine blockK_r ?_
          refine thenK_r ?_
          refine thenK_r ?_
          refine blockK_r ?_
          refine thenK_r ?_
          refine ⟨.inl rfl, _, rfl, fin_b ?_⟩
          unfold formB
          refine @decide_eq_false _ (Classical.propDecidable _) fun h => ?_
          obtain ⟨g1, g2, g3, g4⟩ := h i hil
          clear hall
          clear g3
          first
            | omega
            | (have e1 := EF_at (p := LF m i) hil (by rw [hrow i hil]; omega)
               have h49 := of_decide_eq_true hc49
               omega)
        · skip
          refine KC.skip ?_
          refine thenK_n ?_
          refine KC.seq ?_
          refine KC.seq ?_
          refine KC.region ?_
          refine KT.step rfl rfl (K.move rfl) ?_
          refine KT.step rfl rfl (K.len rfl hd Try.underlying22) ?_
          refine KT.step rfl rfl (K.move rfl) ?_
          refine KT.nil ?_
          refine thenK_n ?_
          refine KC.block ?_
          have h12 : ¬ (0 < i ∧ LF m i < n ∧ LF m i ≤ LF m (i - 1)) ∧ ¬ (LF m i < n ∧ EF m i (LF m i) < 1) := by
            have e1 : ∀ hp : LF m i < n, m[i][LF m i]'(by rw [hrow i hil]; exact hp) = EF m i (LF m i) := fun hp => EF_at hil _
            constructor
            · omega
            · first
                | omega
                | (have h49 := of_decide_eq_false hc49
                   have := e1 (by omega)
                   omega)
          refine KC.loop (fun _ : Nat => []) (fun k => [(0, .d d), (3, .d (DI (n : Int))), (4, .d (DI (i : Int))), (5, .d c17), (6, .d (DI (LF m i : Int))), (12, .d d), (13, .d (DI m.length)), (14, .d (DI (i : Int))), (50, .d d), (51, .d (DI (m.length : Int))), (52, .d (DI (k : Int)))]) (fun k => k ≤ m.length ∧ ∀ q, q < k → ¬ (LF m i < n ∧ ((i < q ∧ EF m q (LF m i) ≠ 0) ∨ (q < i ∧ (EF m q (LF m i) < 0 ∨ EF m i (LF m i) ≤ EF m q (LF m i)))))) (fun k => m.length - k) 0 ⟨Nat.zero_le _, by simp⟩ rfl (by simp [Go.Vm.look, extK, enterK]) ?_
          intro k hk
          obtain ⟨hk, hin⟩ := hk
          refine KC.seq ?_
          refine KC.region ?_
          refine KT.step rfl rfl (K.lss rfl rfl) ?_
          refine KT.nil ?_
          refine thenK_n ?_
          refine KC.seq ?_
          refine KC.cond rfl (fun hc53 => ?_) (fun hc53 => ?_)
          · skip
            replace hc53 := of_decide_eq_true hc53
            have hkm : k < m.length := by omega
            have e1 : ∀ hp : LF m i < n, m[i][LF m i]'(by rw [hrow i hil]; exact hp) = EF m i (LF m i) := fun hp => EF_at hil _
            have e2 : ∀ hp : LF m i < n, m[k][LF m i]'(by rw [hrow k hkm]; exact hp) = EF m k (LF m i) := fun hp => EF_at hkm _
            refine KC.skip ?_
            refine thenK_n ?_
            refine KC.seq ?_
            refine KC.block ?_
            refine KC.seq ?_
            refine KC.region ?_
            refine KT.step rfl rfl (K.move rfl) ?_
            refine KT.step rfl rfl (K.assign rfl) ?_
            refine KT.nil ?_
            refine thenK_n ?_
            refine KC.seq ?_
            refine KC.draw Try.mixed ?_
            refine KT.step rfl rfl (K.move rfl) ?_
            refine KT.step rfl rfl (K.move rfl) ?_
            refine KT.step rfl rfl (K.lss rfl rfl) ?_
            refine KT.step rfl rfl (K.move rfl) ?_
            refine KT.bcase (fun hb58 => ?_) (fun hb58 => ?_)
            · skip
              replace hb58 := of_decide_eq_true hb58
              refine KT.step rfl rfl (K.move rfl) ?_
              refine KT.step rfl rfl (K.move rfl) ?_
              refine KT.step rfl rfl (K.gtr rfl rfl) ?_
              refine KT.step rfl rfl (K.move rfl) ?_
              refine KT.bcase (fun hb62 => ?_) (fun hb62 => ?_)
              · skip
                replace hb62 := of_decide_eq_true hb62
                refine KT.step rfl rfl (K.move rfl) ?_
                refine KT.step rfl rfl (K.move rfl) ?_
                refine KT.idx rfl rfl rfl hd rfl hkm Try.underlying22 Try.size35 fun c65 cs65 hq65 => ?_
                refine KT.step rfl rfl (K.load rfl Try.agg35) ?_
                refine KT.step rfl rfl (K.move rfl) ?_
                refine KT.idxI rfl rfl rfl hq65 rfl (show LF m i < m[k].length by rw [hrow k hkm]; omega) Try.underlying35 Try.size3 fun cs68 => ?_
                refine KT.step rfl rfl (K.load rfl Try.agg3) ?_
                refine KT.step rfl rfl (K.neq rfl rfl) ?_
                refine KT.step rfl rfl (K.pick rfl (fun _ => rfl) (fun h => by cases h)) ?_
                refine KT.step rfl rfl (K.move rfl) ?_
                refine KT.bcase (fun hb72 => ?_) (fun hb72 => ?_)
                · skip
                  replace hb72 := of_decide_eq_true hb72
                  refine KT.skip rfl rfl ?_
                  refine KT.skip rfl rfl ?_
                  refine KT.skip rfl rfl ?_
                  refine KT.skip rfl rfl ?_
                  refine KT.skip rfl rfl ?_
                  refine KT.skip rfl rfl ?_
                  refine KT.skip rfl rfl ?_
                  refine KT.skip rfl rfl ?_
                  refine KT.skip rfl rfl ?_
                  refine KT.skip rfl rfl ?_
                  refine KT.skip rfl rfl ?_
                  refine KT.skip rfl rfl ?_
                  refine KT.skip rfl rfl ?_
                  refine KT.skip rfl rfl ?_
                  refine KT.skip rfl rfl ?_
                  refine KT.skip rfl rfl ?_
                  refine KT.skip rfl rfl ?_
                  refine KT.skip rfl rfl ?_
                  refine KT.skip rfl rfl ?_
                  refine KT.skip rfl rfl ?_
                  refine KT.skip rfl rfl ?_
                  refine KT.skip rfl rfl ?_
                  refine KT.skip rfl rfl ?_
                  refine KT.skip rfl rfl ?_
                  refine KT.skip rfl rfl ?_
                  refine KT.skip rfl rfl ?_
                  refine KT.skip rfl rfl ?_
                  refine KT.step rfl rfl (K.pick rfl (fun _ => rfl) (fun h => by cases h)) ?_
                  refine KT.step rfl rfl (K.pick rfl (fun _ => rfl) (fun h => by cases h)) ?_
                  refine KT.nil ?_
                  refine ⟨by kernel_rfl, ?_⟩
                  refine thenK_n ?_
                  refine KC.cond rfl (fun hc101 => ?_) (fun hc101 => ?_)
                  · skip
                    refine KC.seq ?_
                    refine KC.region ?_
                    refine KT.step rfl rfl (K.assign rfl) ?_
                    refine KT.nil ?_
                    refine thenK_n ?_
                    refine KC.ret ?_
                    refine blockK_r ?_
                    refine thenK_r ?_
                    refine thenK_r ?_
                    refine blockK_r ?_
                    refine thenK_r ?_
                    refine blockK_r ?_
                    refine thenK_r ?_
                    refine thenK_r ?_
                    refine blockK_r ?_
                    refine thenK_r ?_
                    refine ⟨.inl rfl, _, rfl, fin_b ?_⟩
                    unfold formB
                    refine @decide_eq_false _ (Classical.propDecidable _) fun h => ?_
                    obtain ⟨g1, g2, g3, g4⟩ := h i hil
                    clear hall
                    have g := g3 k hkm
                    clear g3 hin
                    have e1 := e1 (by omega)
                    have e2 := e2 (by omega)
                    first
                      | omega
                      | (have h101 := of_decide_eq_true hc101; omega)
                  · cases hc101
                · skip
                  replace hb72 := of_decide_eq_false hb72
                  refine KT.step rfl rfl (K.move rfl) ?_
                  refine KT.step rfl rfl (K.move rfl) ?_
                  refine KT.step rfl rfl (K.lss rfl rfl) ?_
                  refine KT.step rfl rfl (K.move rfl) ?_
                  refine KT.bcase (fun hb76 => ?_) (fun hb76 => ?_)
                  · skip
                    replace hb76 := of_decide_eq_true hb76
                    refine KT.step rfl rfl (K.move rfl) ?_
                    refine KT.step rfl rfl (K.move rfl) ?_
                    refine KT.idx rfl rfl rfl hd rfl hkm Try.underlying22 Try.size35 fun c79 cs79 hq79 => ?_
                    refine KT.step rfl rfl (K.load rfl Try.agg35) ?_
                    refine KT.step rfl rfl (K.move rfl) ?_
                    refine KT.idxI rfl rfl rfl hq79 rfl (show LF m i < m[k].length by rw [hrow k hkm]; omega) Try.underlying35 Try.size3 fun cs82 => ?_
                    refine KT.step rfl rfl (K.load rfl Try.agg3) ?_
                    refine KT.step rfl rfl (K.lss rfl rfl) ?_
                    refine KT.step rfl rfl (K.move rfl) ?_
                    refine KT.bcase (fun hb85 => ?_) (fun hb85 => ?_)
                    · skip
                      replace hb85 := of_decide_eq_true hb85
                      refine KT.skip rfl rfl ?_
                      refine KT.skip rfl rfl ?_
                      refine KT.skip rfl rfl ?_
                      refine KT.skip rfl rfl ?_
                      refine KT.skip rfl rfl ?_
                      refine KT.skip rfl rfl ?_
                      refine KT.skip rfl rfl ?_
                      refine KT.skip rfl rfl ?_
                      refine KT.skip rfl rfl ?_
                      refine KT.skip rfl rfl ?_
                      refine KT.skip rfl rfl ?_
                      refine KT.skip rfl rfl ?_
                      refine KT.step rfl rfl (K.pick rfl (fun _ => rfl) (fun h => by cases h)) ?_
                      refine KT.step rfl rfl (K.pick rfl (fun _ => rfl) (fun h => by cases h)) ?_
                      refine KT.step rfl rfl (K.pick rfl (fun h => by cases h) (fun _ => rfl)) ?_
                      refine KT.step rfl rfl (K.pick rfl (fun _ => rfl) (fun h => by cases h)) ?_
                      refine KT.nil ?_
                      refine ⟨by kernel_rfl, ?_⟩
                      refine thenK_n ?_
                      refine KC.cond rfl (fun hc101 => ?_) (fun hc101 => ?_)
                      · skip
                        refine KC.seq ?_
                        refine KC.region ?_
                        refine KT.step rfl rfl (K.assign rfl) ?_
                        refine KT.nil ?_
                        refine thenK_n ?_
                        refine KC.ret ?_
                        refine blockK_r ?_
                        refine thenK_r ?_
                        refine thenK_r ?_
                        refine blockK_r ?_
                        refine thenK_r ?_
                        refine blockK_r ?_
                        refine thenK_r ?_
                        refine thenK_r ?_
                        refine blockK_r ?_
                        refine thenK_r ?_
                        refine ⟨.inl rfl, _, rfl, fin_b ?_⟩
                        unfold formB
                        refine @decide_eq_false _ (Classical.propDecidable _) fun h => ?_
                        obtain ⟨g1, g2, g3, g4⟩ := h i hil
                        clear hall
                        have g := g3 k hkm
                        clear g3 hin
                        have e1 := e1 (by omega)
                        have e2 := e2 (by omega)
                        first
                          | omega
                          | (have h101 := of_decide_eq_true hc101; omega)
                      · cases hc101
                    · skip
                      replace hb85 := of_decide_eq_false hb85
                      refine KT.step rfl rfl (K.move rfl) ?_
                      refine KT.step rfl rfl (K.move rfl) ?_
                      refine KT.idx rfl rfl rfl hd rfl hkm Try.underlying22 Try.size35 fun c88 cs88 hq88 => ?_
                      refine KT.step rfl rfl (K.load rfl Try.agg35) ?_
                      refine KT.step rfl rfl (K.move rfl) ?_
                      refine KT.idxI rfl rfl rfl hq88 rfl (show LF m i < m[k].length by rw [hrow k hkm]; omega) Try.underlying35 Try.size3 fun cs91 => ?_
                      refine KT.step rfl rfl (K.load rfl Try.agg3) ?_
                      refine KT.step rfl rfl (K.move rfl) ?_
                      refine KT.step rfl rfl (K.move rfl) ?_
                      refine KT.idxI rfl rfl rfl hq17 rfl (show LF m i < m[i].length by rw [hrow i hil]; omega) Try.underlying35 Try.size3 fun cs95 => ?_
                      refine KT.step rfl rfl (K.load rfl Try.agg3) ?_
                      refine KT.step rfl rfl (K.geq rfl rfl) ?_
                      refine KT.step rfl rfl (K.pick rfl (fun h => by cases h) (fun _ => rfl)) ?_
                      refine KT.step rfl rfl (K.pick rfl (fun _ => rfl) (fun h => by cases h)) ?_
                      refine KT.step rfl rfl (K.pick rfl (fun h => by cases h) (fun _ => rfl)) ?_
                      refine KT.step rfl rfl (K.pick rfl (fun _ => rfl) (fun h => by cases h)) ?_
                      refine KT.nil ?_
                      refine ⟨by kernel_rfl, ?_⟩
                      refine thenK_n ?_
                      refine KC.cond rfl (fun hc101 => ?_) (fun hc101 => ?_)
                      · skip
                        refine KC.seq ?_
                        refine KC.region ?_
                        refine KT.step rfl rfl (K.assign rfl) ?_
                        refine KT.nil ?_
                        refine thenK_n ?_
                        refine KC.ret ?_
                        refine blockK_r ?_
                        refine thenK_r ?_
                        refine thenK_r ?_
                        refine blockK_r ?_
                        refine thenK_r ?_
                        refine blockK_r ?_
                        refine thenK_r ?_
                        refine thenK_r ?_
                        refine blockK_r ?_
                        refine thenK_r ?_
                        refine ⟨.inl rfl, _, rfl, fin_b ?_⟩
                        unfold formB
                        refine @decide_eq_false _ (Classical.propDecidable _) fun h => ?_
                        obtain ⟨g1, g2, g3, g4⟩ := h i hil
                        clear hall
                        have g := g3 k hkm
                        clear g3 hin
                        have e1 := e1 (by omega)
                        have e2 := e2 (by omega)
                        first
                          | omega
                          | (have h101 := of_decide_eq_true hc101; omega)
                      · skip
                        refine KC.skip ?_
                        refine blockK_n ?_
                        refine thenK_n ?_
                        refine KC.region ?_
                        refine KT.step rfl rfl (K.add rfl rfl (wrap_id (by omega))) ?_
                        refine KT.step rfl rfl (K.move rfl) ?_
                        refine KT.nil ?_
                        refine thenK_n ?_
                        refine ⟨k + 1, ⟨by omega, fun q hq => ?_⟩, by omega, rfl, by simp [Go.Vm.look, extK]⟩
                        by_cases e : q < k
                        · exact hin q e
                        · obtain rfl : q = k := by omega
                          clear hall hin
                          first
                            | omega
                            | (have := e1 (by omega)
                               have := e2 (by omega)
                               omega)
                            | (have h101 := of_decide_eq_false hc101
                               have := e1 (by omega)
                               have := e2 (by omega)
                               omega)
                  · skip
                    replace hb76 := of_decide_eq_false hb76
                    refine KT.skip rfl rfl ?_
                    refine KT.skip rfl rfl ?_
                    refine KT.skip rfl rfl ?_
                    refine KT.skip rfl rfl ?_
                    refine KT.skip rfl rfl ?_
                    refine KT.skip rfl rfl ?_
                    refine KT.skip rfl rfl ?_
                    refine KT.skip rfl rfl ?_
                    refine KT.skip rfl rfl ?_
                    refine KT.skip rfl rfl ?_
                    refine KT.skip rfl rfl ?_
                    refine KT.skip rfl rfl ?_
                    refine KT.skip rfl rfl ?_
                    refine KT.skip rfl rfl ?_
                    refine KT.skip rfl rfl ?_
                    refine KT.skip rfl rfl ?_
                    refine KT.skip rfl rfl ?_
                    refine KT.skip rfl rfl ?_
                    refine KT.skip rfl rfl ?_
                    refine KT.skip rfl rfl ?_
                    refine KT.skip rfl rfl ?_
                    refine KT.skip rfl rfl ?_
                    refine KT.step rfl rfl (K.pick rfl (fun h => by cases h) (fun _ => rfl)) ?_
                    refine KT.step rfl rfl (K.pick rfl (fun h => by cases h) (fun _ => rfl)) ?_
                    refine KT.step rfl rfl (K.pick rfl (fun _ => rfl) (fun h => by cases h)) ?_
                    refine KT.nil ?_
                    refine ⟨by kernel_rfl, ?_⟩
                    refine thenK_n ?_
                    refine KC.cond rfl (fun hc101 => ?_) (fun hc101 => ?_)
                    · cases hc101
                    · skip
                      refine KC.skip ?_
                      refine blockK_n ?_
                      refine thenK_n ?_
                      refine KC.region ?_
                      refine KT.step rfl rfl (K.add rfl rfl (wrap_id (by omega))) ?_
                      refine KT.step rfl rfl (K.move rfl) ?_
                      refine KT.nil ?_
                      refine thenK_n ?_
                      refine ⟨k + 1, ⟨by omega, fun q hq => ?_⟩, by omega, rfl, by simp [Go.Vm.look, extK]⟩
                      by_cases e : q < k
                      · exact hin q e
                      · obtain rfl : q = k := by omega
                        clear hall hin
                        first
                          | omega
                          | (have := e1 (by omega)
                             have := e2 (by omega)
                             omega)
                          | (have h101 := of_decide_eq_false hc101
                             have := e1 (by omega)
                             have := e2 (by omega)
                             omega)
              · skip
                replace hb62 := of_decide_eq_false hb62
                refine KT.skip rfl rfl ?_
                refine KT.skip rfl rfl ?_
                refine KT.skip rfl rfl ?_
                refine KT.skip rfl rfl ?_
                refine KT.skip rfl rfl ?_
                refine KT.skip rfl rfl ?_
                refine KT.skip rfl rfl ?_
                refine KT.skip rfl rfl ?_
                refine KT.step rfl rfl (K.pick rfl (fun h => by cases h) (fun _ => rfl)) ?_
                refine KT.step rfl rfl (K.move rfl) ?_
                refine KT.step rfl rfl (K.move rfl) ?_
                refine KT.step rfl rfl (K.move rfl) ?_
                refine KT.step rfl rfl (K.lss rfl rfl) ?_
                refine KT.step rfl rfl (K.move rfl) ?_
                refine KT.bcase (fun hb76 => ?_) (fun hb76 => ?_)
                · skip
                  replace hb76 := of_decide_eq_true hb76
                  refine KT.step rfl rfl (K.move rfl) ?_
                  refine KT.step rfl rfl (K.move rfl) ?_
                  refine KT.idx rfl rfl rfl hd rfl hkm Try.underlying22 Try.size35 fun c79 cs79 hq79 => ?_
                  refine KT.step rfl rfl (K.load rfl Try.agg35) ?_
                  refine KT.step rfl rfl (K.move rfl) ?_
                  refine KT.idxI rfl rfl rfl hq79 rfl (show LF m i < m[k].length by rw [hrow k hkm]; omega) Try.underlying35 Try.size3 fun cs82 => ?_
                  refine KT.step rfl rfl (K.load rfl Try.agg3) ?_
                  refine KT.step rfl rfl (K.lss rfl rfl) ?_
                  refine KT.step rfl rfl (K.move rfl) ?_
                  refine KT.bcase (fun hb85 => ?_) (fun hb85 => ?_)
                  · skip
                    replace hb85 := of_decide_eq_true hb85
                    refine KT.skip rfl rfl ?_
                    refine KT.skip rfl rfl ?_
                    refine KT.skip rfl rfl ?_
                    refine KT.skip rfl rfl ?_
                    refine KT.skip rfl rfl ?_
                    refine KT.skip rfl rfl ?_
                    refine KT.skip rfl rfl ?_
                    refine KT.skip rfl rfl ?_
                    refine KT.skip rfl rfl ?_
                    refine KT.skip rfl rfl ?_
                    refine KT.skip rfl rfl ?_
                    refine KT.skip rfl rfl ?_
                    refine KT.step rfl rfl (K.pick rfl (fun _ => rfl) (fun h => by cases h)) ?_
                    refine KT.step rfl rfl (K.pick rfl (fun _ => rfl) (fun h => by cases h)) ?_
                    refine KT.step rfl rfl (K.pick rfl (fun h => by cases h) (fun _ => rfl)) ?_
                    refine KT.step rfl rfl (K.pick rfl (fun _ => rfl) (fun h => by cases h)) ?_
                    refine KT.nil ?_
                    refine ⟨by kernel_rfl, ?_⟩
                    refine thenK_n ?_
                    refine KC.cond rfl (fun hc101 => ?_) (fun hc101 => ?_)
                    · skip
                      refine KC.seq ?_
                      refine KC.region ?_
                      refine KT.step rfl rfl (K.assign rfl) ?_
                      refine KT.nil ?_
                      refine thenK_n ?_
                      refine KC.ret ?_
                      refine blockK_r ?_
                      refine thenK_r ?_
                      refine thenK_r ?_
                      refine blockK_r ?_
                      refine thenK_r ?_
                      refine blockK_r ?_
                      refine thenK_r ?_
                      refine thenK_r ?_
                      refine blockK_r ?_
                      refine thenK_r ?_
                      refine ⟨.inl rfl, _, rfl, fin_b ?_⟩
                      unfold formB
                      refine @decide_eq_false _ (Classical.propDecidable _) fun h => ?_
                      obtain ⟨g1, g2, g3, g4⟩ := h i hil
                      clear hall
                      have g := g3 k hkm
                      clear g3 hin
                      have e1 := e1 (by omega)
                      have e2 := e2 (by omega)
                      first
                        | omega
                        | (have h101 := of_decide_eq_true hc101; omega)
                    · cases hc101
                  · skip
                    replace hb85 := of_decide_eq_false hb85
                    refine KT.step rfl rfl (K.move rfl) ?_
                    refine KT.step rfl rfl (K.move rfl) ?_
                    refine KT.idx rfl rfl rfl hd rfl hkm Try.underlying22 Try.size35 fun c88 cs88 hq88 => ?_
                    refine KT.step rfl rfl (K.load rfl Try.agg35) ?_
                    refine KT.step rfl rfl (K.move rfl) ?_
                    refine KT.idxI rfl rfl rfl hq88 rfl (show LF m i < m[k].length by rw [hrow k hkm]; omega) Try.underlying35 Try.size3 fun cs91 => ?_
                    refine KT.step rfl rfl (K.load rfl Try.agg3) ?_
                    refine KT.step rfl rfl (K.move rfl) ?_
                    refine KT.step rfl rfl (K.move rfl) ?_
                    refine KT.idxI rfl rfl rfl hq17 rfl (show LF m i < m[i].length by rw [hrow i hil]; omega) Try.underlying35 Try.size3 fun cs95 => ?_
                    refine KT.step rfl rfl (K.load rfl Try.agg3) ?_
                    refine KT.step rfl rfl (K.geq rfl rfl) ?_
                    refine KT.step rfl rfl (K.pick rfl (fun h => by cases h) (fun _ => rfl)) ?_
                    refine KT.step rfl rfl (K.pick rfl (fun _ => rfl) (fun h => by cases h)) ?_
                    refine KT.step rfl rfl (K.pick rfl (fun h => by cases h) (fun _ => rfl)) ?_
                    refine KT.step rfl rfl (K.pick rfl (fun _ => rfl) (fun h => by cases h)) ?_
                    refine KT.nil ?_
                    refine ⟨by kernel_rfl, ?_⟩
                    refine thenK_n ?_
                    refine KC.cond rfl (fun hc101 => ?_) (fun hc101 => ?_)
                    · skip
                      refine KC.seq ?_
                      refine KC.region ?_
                      refine KT.step rfl rfl (K.assign rfl) ?_
                      refine KT.nil ?_
                      refine thenK_n ?_
                      refine KC.ret ?_
                      refine blockK_r ?_
                      refine thenK_r ?_
                      refine thenK_r ?_
                      refine blockK_r ?_
                      refine thenK_r ?_
                      refine blockK_r ?_
                      refine thenK_r ?_
                      refine thenK_r ?_
                      refine blockK_r ?_
                      refine thenK_r ?_
                      refine ⟨.inl rfl, _, rfl, fin_b ?_⟩
                      unfold formB
                      refine @decide_eq_false _ (Classical.propDecidable _) fun h => ?_
                      obtain ⟨g1, g2, g3, g4⟩ := h i hil
                      clear hall
                      have g := g3 k hkm
                      clear g3 hin
                      have e1 := e1 (by omega)
                      have e2 := e2 (by omega)
                      first
                        | omega
                        | (have h101 := of_decide_eq_true hc101; omega)
                    · skip
                      refine KC.skip ?_
                      refine blockK_n ?_
                      refine thenK_n ?_
                      refine KC.region ?_
                      refine KT.step rfl rfl (K.add rfl rfl (wrap_id (by omega))) ?_
                      refine KT.step rfl rfl (K.move rfl) ?_
                      refine KT.nil ?_
                      refine thenK_n ?_
                      refine ⟨k + 1, ⟨by omega, fun q hq => ?_⟩, by omega, rfl, by simp [Go.Vm.look, extK]⟩
                      by_cases e : q < k
                      · exact hin q e
                      · obtain rfl : q = k := by omega
                        clear hall hin
                        first
                          | omega
                          | (have := e1 (by omega)
                             have := e2 (by omega)
                             omega)
                          | (have h101 := of_decide_eq_false hc101
                             have := e1 (by omega)
                             have := e2 (by omega)
                             omega)
                · skip
                  replace hb76 := of_decide_eq_false hb76
                  refine KT.skip rfl rfl ?_
                  refine KT.skip rfl rfl ?_
                  refine KT.skip rfl rfl ?_
                  refine KT.skip rfl rfl ?_
                  refine KT.skip rfl rfl ?_
                  refine KT.skip rfl rfl ?_
                  refine KT.skip rfl rfl ?_
                  refine KT.skip rfl rfl ?_
                  refine KT.skip rfl rfl ?_
                  refine KT.skip rfl rfl ?_
                  refine KT.skip rfl rfl ?_
                  refine KT.skip rfl rfl ?_
                  refine KT.skip rfl rfl ?_
                  refine KT.skip rfl rfl ?_
                  refine KT.skip rfl rfl ?_
                  refine KT.skip rfl rfl ?_
                  refine KT.skip rfl rfl ?_
                  refine KT.skip rfl rfl ?_
                  refine KT.skip rfl rfl ?_
                  refine KT.skip rfl rfl ?_
                  refine KT.skip rfl rfl ?_
                  refine KT.skip rfl rfl ?_
                  refine KT.step rfl rfl (K.pick rfl (fun h => by cases h) (fun _ => rfl)) ?_
                  refine KT.step rfl rfl (K.pick rfl (fun h => by cases h) (fun _ => rfl)) ?_
                  refine KT.step rfl rfl (K.pick rfl (fun _ => rfl) (fun h => by cases h)) ?_
                  refine KT.nil ?_
                  refine ⟨by kernel_rfl, ?_⟩
                  refine thenK_n ?_
                  refine KC.cond rfl (fun hc101 => ?_) (fun hc101 => ?_)
                  · cases hc101
                  · skip
                    refine KC.skip ?_
                    refine blockK_n ?_
                    refine thenK_n ?_
                    refine KC.region ?_
                    refine KT.step rfl rfl (K.add rfl rfl (wrap_id (by omega))) ?_
                    refine KT.step rfl rfl (K.move rfl) ?_
                    refine KT.nil ?_
                    refine thenK_n ?_
                    refine ⟨k + 1, ⟨by omega, fun q hq => ?_⟩, by omega, rfl, by simp [Go.Vm.look, extK]⟩
                    by_cases e : q < k
                    · exact hin q e
                    · obtain rfl : q = k := by omega
                      clear hall hin
                      first
                        | omega
                        | (have := e1 (by omega)
                           have := e2 (by omega)
                           omega)
                        | (have h101 := of_decide_eq_false hc101
                           have := e1 (by omega)
                           have := e2 (by omega)
                           omega)
            · skip
              replace hb58 := of_decide_eq_false hb58
              refine KT.skip rfl rfl ?_
              refine KT.skip rfl rfl ?_
              refine KT.skip rfl rfl ?_
              refine KT.skip rfl rfl ?_
              refine KT.skip rfl rfl ?_
              refine KT.skip rfl rfl ?_
              refine KT.skip rfl rfl ?_
              refine KT.skip rfl rfl ?_
              refine KT.skip rfl rfl ?_
              refine KT.skip rfl rfl ?_
              refine KT.skip rfl rfl ?_
              refine KT.skip rfl rfl ?_
              refine KT.skip rfl rfl ?_
              refine KT.skip rfl rfl ?_
              refine KT.skip rfl rfl ?_
              refine KT.skip rfl rfl ?_
              refine KT.skip rfl rfl ?_
              refine KT.skip rfl rfl ?_
              refine KT.skip rfl rfl ?_
              refine KT.skip rfl rfl ?_
              refine KT.skip rfl rfl ?_
              refine KT.skip rfl rfl ?_
              refine KT.skip rfl rfl ?_
              refine KT.skip rfl rfl ?_
              refine KT.skip rfl rfl ?_
              refine KT.skip rfl rfl ?_
              refine KT.skip rfl rfl ?_
              refine KT.skip rfl rfl ?_
              refine KT.skip rfl rfl ?_
              refine KT.skip rfl rfl ?_
              refine KT.skip rfl rfl ?_
              refine KT.skip rfl rfl ?_
              refine KT.skip rfl rfl ?_
              refine KT.skip rfl rfl ?_
              refine KT.skip rfl rfl ?_
              refine KT.skip rfl rfl ?_
              refine KT.skip rfl rfl ?_
              refine KT.skip rfl rfl ?_
              refine KT.skip rfl rfl ?_
              refine KT.skip rfl rfl ?_
              refine KT.skip rfl rfl ?_
              refine KT.skip rfl rfl ?_
              refine KT.step rfl rfl (K.pick rfl (fun h => by cases h) (fun _ => rfl)) ?_
              refine KT.nil ?_
              refine ⟨by kernel_rfl, ?_⟩
              refine thenK_n ?_
              refine KC.cond rfl (fun hc101 => ?_) (fun hc101 => ?_)
              · cases hc101
              · skip
                refine KC.skip ?_
                refine blockK_n ?_
                refine thenK_n ?_
                refine KC.region ?_
                refine KT.step rfl rfl (K.add rfl rfl (wrap_id (by omega))) ?_
                refine KT.step rfl rfl (K.move rfl) ?_
                refine KT.nil ?_
                refine thenK_n ?_
                refine ⟨k + 1, ⟨by omega, fun q hq => ?_⟩, by omega, rfl, by simp [Go.Vm.look, extK]⟩
                by_cases e : q < k
                · exact hin q e
                · obtain rfl : q = k := by omega
                  clear hall hin
                  first
                    | omega
                    | (have := e1 (by omega)
                       have := e2 (by omega)
                       omega)
                    | (have h101 := of_decide_eq_false hc101
                       have := e1 (by omega)
                       have := e2 (by omega)
                       omega)
          · skip
            replace hc53 := of_decide_eq_false hc53
            obtain rfl : k = m.length := by omega
            refine KC.exit ?_
            refine thenK_x ?_
            refine thenK_x ?_
            refine blockK_e ?_
            refine thenK_n ?_
            refine KC.seq ?_
            refine KC.region ?_
            refine KT.step rfl rfl (K.move rfl) ?_
            refine KT.step rfl rfl (K.move rfl) ?_
            refine KT.step rfl rfl (K.eql rfl rfl) ?_
            refine KT.step rfl rfl (K.move rfl) ?_
            refine KT.bcase (fun hb106 => ?_) (fun hb106 => ?_)
            · skip
              replace hb106 := of_decide_eq_true hb106
              refine KT.step rfl rfl (K.move rfl) ?_
              refine KT.step rfl rfl (K.add rfl rfl (show IntKind.i64.wrap ((i : Int) + 1) = ((i + 1 : Nat) : Int) from by rw [wrap_id (by omega)]; omega)) ?_
              refine KT.step rfl rfl (K.move rfl) ?_
              refine KT.step rfl rfl (K.len rfl hd Try.underlying22) ?_
              refine KT.step rfl rfl (K.lss rfl rfl) ?_
              refine KT.step rfl rfl (K.pick rfl (fun _ => rfl) (fun h => by cases h)) ?_
              refine KT.step rfl rfl (K.move rfl) ?_
              refine KT.bcase (fun hb113 => ?_) (fun hb113 => ?_)
              · skip
                replace hb113 := of_decide_eq_true hb113
                refine KT.step rfl rfl (K.move rfl) ?_
                refine KT.step rfl rfl (K.move rfl) ?_
                refine KT.step rfl rfl (K.add rfl rfl (show IntKind.i64.wrap ((i : Int) + 1) = ((i + 1 : Nat) : Int) from by rw [wrap_id (by omega)]; omega)) ?_
                refine KT.idx rfl rfl rfl hd rfl (show i + 1 < m.length by omega) Try.underlying22 Try.size35 fun c117 cs117 hq117 => ?_
                refine KT.step rfl rfl (K.load rfl Try.agg35) ?_
                refine KT.step rfl rfl (K.call1 rfl plainTry_57 ((show DeepCall Try.prog 57 [c117] (DI (LF m (i + 1) : Int)) from by rw [LF_at (show i + 1 < m.length by omega)]; exact lead57 hq117 (by rw [hrow _ (by omega)]; omega)))) ?_
                refine KT.step rfl rfl (K.move rfl) ?_
                refine KT.step rfl rfl (K.lss rfl rfl) ?_
                refine KT.step rfl rfl (K.pick rfl (fun _ => rfl) (fun h => by cases h)) ?_
                refine KT.nil ?_
                refine thenK_n ?_
                refine KC.cond rfl (fun hc122 => ?_) (fun hc122 => ?_)
                · skip
                  refine KC.seq ?_
                  refine KC.region ?_
                  refine KT.step rfl rfl (K.assign rfl) ?_
                  refine KT.nil ?_
                  refine thenK_n ?_
                  refine KC.ret ?_
                  refine blockK_r ?_
                  refine thenK_r ?_
                  refine thenK_r ?_
                  refine blockK_r ?_
                  refine thenK_r ?_
                  refine ⟨.inl rfl, _, rfl, fin_b ?_⟩
                  unfold formB
                  refine @decide_eq_false _ (Classical.propDecidable _) fun h => ?_
                  obtain ⟨g1, g2, g3, g4⟩ := h i hil
                  clear hall
                  have g := h12
                  clear g3 hin
                  first
                    | omega
                    | (have h122 := of_decide_eq_true hc122; omega)
                · skip
                  refine KC.skip ?_
                  refine blockK_n ?_
                  refine thenK_n ?_
                  refine KC.region ?_
                  refine KT.step rfl rfl (K.add rfl rfl (wrap_id (by omega))) ?_
                  refine KT.step rfl rfl (K.move rfl) ?_
                  refine KT.nil ?_
                  refine thenK_n ?_
                  refine ⟨i + 1, ⟨by omega, fun k hk => ?_⟩, by omega, rfl, by simp [Go.Vm.look, extK]⟩
                  by_cases e : k < i
                  · exact hall k e
                  · obtain rfl : k = i := by omega
                    refine ⟨h12.1, h12.2, hin, ?_⟩
                    first
                      | omega
                      | (have h122 := of_decide_eq_false hc122; omega)
              · skip
                replace hb113 := of_decide_eq_false hb113
                refine KT.skip rfl rfl ?_
                refine KT.skip rfl rfl ?_
                refine KT.skip rfl rfl ?_
                refine KT.skip rfl rfl ?_
                refine KT.skip rfl rfl ?_
                refine KT.skip rfl rfl ?_
                refine KT.skip rfl rfl ?_
                refine KT.skip rfl rfl ?_
                refine KT.step rfl rfl (K.pick rfl (fun h => by cases h) (fun _ => rfl)) ?_
                refine KT.nil ?_
                refine thenK_n ?_
                refine KC.cond rfl (fun hc122 => ?_) (fun hc122 => ?_)
                · cases hc122
                · skip
                  refine KC.skip ?_
                  refine blockK_n ?_
                  refine thenK_n ?_
                  refine KC.region ?_
                  refine KT.step rfl rfl (K.add rfl rfl (wrap_id (by omega))) ?_
                  refine KT.step rfl rfl (K.move rfl) ?_
                  refine KT.nil ?_
                  refine thenK_n ?_
                  refine ⟨i + 1, ⟨by omega, fun k hk => ?_⟩, by omega, rfl, by simp [Go.Vm.look, extK]⟩
                  by_cases e : k < i
                  · exact hall k e
                  · obtain rfl : k = i := by omega
                    refine ⟨h12.1, h12.2, hin, ?_⟩
                    first
                      | omega
                      | (have h122 := of_decide_eq_false hc122; omega)
            · skip
              replace hb106 := of_decide_eq_false hb106
              refine KT.skip rfl rfl ?_
              refine KT.skip rfl rfl ?_
              refine KT.skip rfl rfl ?_
              refine KT.skip rfl rfl ?_
              refine KT.skip rfl rfl ?_
              refine KT.step rfl rfl (K.pick rfl (fun h => by cases h) (fun _ => rfl)) ?_
              refine KT.step rfl rfl (K.move rfl) ?_
              refine KT.skip rfl rfl ?_
              refine KT.skip rfl rfl ?_
              refine KT.skip rfl rfl ?_
              refine KT.skip rfl rfl ?_
              refine KT.skip rfl rfl ?_
              refine KT.skip rfl rfl ?_
              refine KT.skip rfl rfl ?_
              refine KT.skip rfl rfl ?_
              refine KT.step rfl rfl (K.pick rfl (fun h => by cases h) (fun _ => rfl)) ?_
              refine KT.nil ?_
              refine thenK_n ?_
              refine KC.cond rfl (fun hc122 => ?_) (fun hc122 => ?_)
              · cases hc122
              · skip
                refine KC.skip ?_
                refine blockK_n ?_
                refine thenK_n ?_
                refine KC.region ?_
                refine KT.step rfl rfl (K.add rfl rfl (wrap_id (by omega))) ?_
                refine KT.step rfl rfl (K.move rfl) ?_
                refine KT.nil ?_
                refine thenK_n ?_
                refine ⟨i + 1, ⟨by omega, fun k hk => ?_⟩, by omega, rfl, by simp [Go.Vm.look, extK]⟩
                by_cases e : k < i
                · exact hall k e
                · obtain rfl : k = i := by omega
                  refine ⟨h12.1, h12.2, hin, ?_⟩
                  first
                    | omega
                    | (have h122 := of_decide_eq_false hc122; omega)
      · skip
        replace hb42 := of_decide_eq_false hb42
        refine KT.skip rfl rfl ?_
        refine KT.skip rfl rfl ?_
        refine KT.skip rfl rfl ?_
        refine KT.skip rfl rfl ?_
        refine KT.skip rfl rfl ?_
        refine KT.step rfl rfl (K.pick rfl (fun h => by cases h) (fun _ => rfl)) ?_
        refine KT.step rfl rfl (K.pick rfl (fun h => by cases h) (fun _ => rfl)) ?_
        refine KT.nil ?_
        refine thenK_n ?_
        refine KC.cond rfl (fun hc49 => ?_) (fun hc49 => ?_)
        · cases hc49
        · skip
          refine KC.skip ?_
          refine thenK_n ?_
          refine KC.seq ?_
          refine KC.seq ?_
          refine KC.region ?_
          refine KT.step rfl rfl (K.move rfl) ?_
          refine KT.step rfl rfl (K.len rfl hd Try.underlying22) ?_
          refine KT.step rfl rfl (K.move rfl) ?_
          refine KT.nil ?_
          refine thenK_n ?_
          refine KC.block ?_
          have h12 : ¬ (0 < i ∧ LF m i < n ∧ LF m i ≤ LF m (i - 1)) ∧ ¬ (LF m i < n ∧ EF m i (LF m i) < 1) := by
            have e1 : ∀ hp : LF m i < n, m[i][LF m i]'(by rw [hrow i hil]; exact hp) = EF m i (LF m i) := fun hp => EF_at hil _
            constructor
            · omega
            · first
                | omega
                | (have h49 := of_decide_eq_false hc49
                   have := e1 (by omega)
                   omega)
          refine KC.loop (fun _ : Nat => []) (fun k => [(0, .d d), (3, .d (DI (n : Int))), (4, .d (DI (i : Int))), (5, .d c17), (6, .d (DI (LF m i : Int))), (12, .d d), (13, .d (DI m.length)), (14, .d (DI (i : Int))), (50, .d d), (51, .d (DI (m.length : Int))), (52, .d (DI (k : Int)))]) (fun k => k ≤ m.length ∧ ∀ q, q < k → ¬ (LF m i < n ∧ ((i < q ∧ EF m q (LF m i) ≠ 0) ∨ (q < i ∧ (EF m q (LF m i) < 0 ∨ EF m i (LF m i) ≤ EF m q (LF m i)))))) (fun k => m.length - k) 0 ⟨Nat.zero_le _, by simp⟩ rfl (by simp [Go.Vm.look, extK, enterK]) ?_
          intro k hk
          obtain ⟨hk, hin⟩ := hk
          refine KC.seq ?_
          refine KC.region ?_
          refine KT.step rfl rfl (K.lss rfl rfl) ?_
          refine KT.nil ?_
          refine thenK_n ?_
          refine KC.seq ?_
          refine KC.cond rfl (fun hc53 => ?_) (fun hc53 => ?_)
          · skip
            replace hc53 := of_decide_eq_true hc53
            have hkm : k < m.length := by omega
            have e1 : ∀ hp : LF m i < n, m[i][LF m i]'(by rw [hrow i hil]; exact hp) = EF m i (LF m i) := fun hp => EF_at hil _
            have e2 : ∀ hp : LF m i < n, m[k][LF m i]'(by rw [hrow k hkm]; exact hp) = EF m k (LF m i) := fun hp => EF_at hkm _
            refine KC.skip ?_
            refine thenK_n ?_
            refine KC.seq ?_
            refine KC.block ?_
            refine KC.seq ?_
            refine KC.region ?_
            refine KT.step rfl rfl (K.move rfl) ?_
            refine KT.step rfl rfl (K.assign rfl) ?_
            refine KT.nil ?_
            refine thenK_n ?_
            refine KC.seq ?_
            refine KC.draw Try.mixed ?_
            refine KT.step rfl rfl (K.move rfl) ?_
            refine KT.step rfl rfl (K.move rfl) ?_
            refine KT.step rfl rfl (K.lss rfl rfl) ?_
            refine KT.step rfl rfl (K.move rfl) ?_
            refine KT.bcase (fun hb58 => ?_) (fun hb58 => ?_)
            · skip
              replace hb58 := of_decide_eq_true hb58
              refine KT.step rfl rfl (K.move rfl) ?_
              refine KT.step rfl rfl (K.move rfl) ?_
              refine KT.step rfl rfl (K.gtr rfl rfl) ?_
              refine KT.step rfl rfl (K.move rfl) ?_
              refine KT.bcase (fun hb62 => ?_) (fun hb62 => ?_)
              · skip
                replace hb62 := of_decide_eq_true hb62
                refine KT.step rfl rfl (K.move rfl) ?_
                refine KT.step rfl rfl (K.move rfl) ?_
                refine KT.idx rfl rfl rfl hd rfl hkm Try.underlying22 Try.size35 fun c65 cs65 hq65 => ?_
                refine KT.step rfl rfl (K.load rfl Try.agg35) ?_
                refine KT.step rfl rfl (K.move rfl) ?_
                refine KT.idxI rfl rfl rfl hq65 rfl (show LF m i < m[k].length by rw [hrow k hkm]; omega) Try.underlying35 Try.size3 fun cs68 => ?_
                refine KT.step rfl rfl (K.load rfl Try.agg3) ?_
                refine KT.step rfl rfl (K.neq rfl rfl) ?_
                refine KT.step rfl rfl (K.pick rfl (fun _ => rfl) (fun h => by cases h)) ?_
                refine KT.step rfl rfl (K.move rfl) ?_
                refine KT.bcase (fun hb72 => ?_) (fun hb72 => ?_)
                · skip
                  replace hb72 := of_decide_eq_true hb72
                  refine KT.skip rfl rfl ?_
                  refine KT.skip rfl rfl ?_
                  refine KT.skip rfl rfl ?_
                  refine KT.skip rfl rfl ?_
                  refine KT.skip rfl rfl ?_
                  refine KT.skip rfl rfl ?_
                  refine KT.skip rfl rfl ?_
                  refine KT.skip rfl rfl ?_
                  refine KT.skip rfl rfl ?_
                  refine KT.skip rfl rfl ?_
                  refine KT.skip rfl rfl ?_
                  refine KT.skip rfl rfl ?_
                  refine KT.skip rfl rfl ?_
                  refine KT.skip rfl rfl ?_
                  refine KT.skip rfl rfl ?_
                  refine KT.skip rfl rfl ?_
                  refine KT.skip rfl rfl ?_
                  refine KT.skip rfl rfl ?_
                  refine KT.skip rfl rfl ?_
                  refine KT.skip rfl rfl ?_
                  refine KT.skip rfl rfl ?_
                  refine KT.skip rfl rfl ?_
                  refine KT.skip rfl rfl ?_
                  refine KT.skip rfl rfl ?_
                  refine KT.skip rfl rfl ?_
                  refine KT.skip rfl rfl ?_
                  refine KT.skip rfl rfl ?_
                  refine KT.step rfl rfl (K.pick rfl (fun _ => rfl) (fun h => by cases h)) ?_
                  refine KT.step rfl rfl (K.pick rfl (fun _ => rfl) (fun h => by cases h)) ?_
                  refine KT.nil ?_
                  refine ⟨by kernel_rfl, ?_⟩
                  refine thenK_n ?_
                  refine KC.cond rfl (fun hc101 => ?_) (fun hc101 => ?_)
                  · skip
                    refine KC.seq ?_
                    refine KC.region ?_
                    refine KT.step rfl rfl (K.assign rfl) ?_
                    refine KT.nil ?_
                    refine thenK_n ?_
                    refine KC.ret ?_
                    refine blockK_r ?_
                    refine thenK_r ?_
                    refine thenK_r ?_
                    refine blockK_r ?_
                    refine thenK_r ?_
                    refine blockK_r ?_
                    refine thenK_r ?_
                    refine thenK_r ?_
                    refine blockK_r ?_
                    refine thenK_r ?_
                    refine ⟨.inl rfl, _, rfl, fin_b ?_⟩
                    unfold formB
                    refine @decide_eq_false _ (Classical.propDecidable _) fun h => ?_
                    obtain ⟨g1, g2, g3, g4⟩ := h i hil
                    clear hall
                    have g := g3 k hkm
                    clear g3 hin
                    have e1 := e1 (by omega)
                    have e2 := e2 (by omega)
                    first
                      | omega
                      | (have h101 := of_decide_eq_true hc101; omega)
                  · cases hc101
                · skip
                  replace hb72 := of_decide_eq_false hb72
                  refine KT.step rfl rfl (K.move rfl) ?_
                  refine KT.step rfl rfl (K.move rfl) ?_
                  refine KT.step rfl rfl (K.lss rfl rfl) ?_
                  refine KT.step rfl rfl (K.move rfl) ?_
                  refine KT.bcase (fun hb76 => ?_) (fun hb76 => ?_)
                  · skip
                    replace hb76 := of_decide_eq_true hb76
                    refine KT.step rfl rfl (K.move rfl) ?_
                    refine KT.step rfl rfl (K.move rfl) ?_
                    refine KT.idx rfl rfl rfl hd rfl hkm Try.underlying22 Try.size35 fun c79 cs79 hq79 => ?_
                    refine KT.step rfl rfl (K.load rfl Try.agg35) ?_
                    refine KT.step rfl rfl (K.move rfl) ?_
                    refine KT.idxI rfl rfl rfl hq79 rfl (show LF m i < m[k].length by rw [hrow k hkm]; omega) Try.underlying35 Try.size3 fun cs82 => ?_
                    refine KT.step rfl rfl (K.load rfl Try.agg3) ?_
                    refine KT.step rfl rfl (K.lss rfl rfl) ?_
                    refine KT.step rfl rfl (K.move rfl) ?_
                    refine KT.bcase (fun hb85 => ?_) (fun hb85 => ?_)
                    · skip
                      replace hb85 := of_decide_eq_true hb85
                      refine KT.skip rfl rfl ?_
                      refine KT.skip rfl rfl ?_
                      refine KT.skip rfl rfl ?_
                      refine KT.skip rfl rfl ?_
                      refine KT.skip rfl rfl ?_
                      refine KT.skip rfl rfl ?_
                      refine KT.skip rfl rfl ?_
                      refine KT.skip rfl rfl ?_
                      refine KT.skip rfl rfl ?_
                      refine KT.skip rfl rfl ?_
                      refine KT.skip rfl rfl ?_
                      refine KT.skip rfl rfl ?_
                      refine KT.step rfl rfl (K.pick rfl (fun _ => rfl) (fun h => by cases h)) ?_
                      refine KT.step rfl rfl (K.pick rfl (fun _ => rfl) (fun h => by cases h)) ?_
                      refine KT.step rfl rfl (K.pick rfl (fun h => by cases h) (fun _ => rfl)) ?_
                      refine KT.step rfl rfl (K.pick rfl (fun _ => rfl) (fun h => by cases h)) ?_
                      refine KT.nil ?_
                      refine ⟨by kernel_rfl, ?_⟩
                      refine thenK_n ?_
                      refine KC.cond rfl (fun hc101 => ?_) (fun hc101 => ?_)
                      · skip
                        refine KC.seq ?_
                        refine KC.region ?_
                        refine KT.step rfl rfl (K.assign rfl) ?_
                        refine KT.nil ?_
                        refine thenK_n ?_
                        refine KC.ret ?_
                        refine blockK_r ?_
                        refine thenK_r ?_
                        refine thenK_r ?_
                        refine blockK_r ?_
                        refine thenK_r ?_
                        refine blockK_r ?_
                        refine thenK_r ?_
                        refine thenK_r ?_
                        refine blockK_r ?_
                        refine thenK_r ?_
                        refine ⟨.inl rfl, _, rfl, fin_b ?_⟩
                        unfold formB
                        refine @decide_eq_false _ (Classical.propDecidable _) fun h => ?_
                        obtain ⟨g1, g2, g3, g4⟩ := h i hil
                        clear hall
                        have g := g3 k hkm
                        clear g3 hin
                        have e1 := e1 (by omega)
                        have e2 := e2 (by omega)
                        first
                          | omega
                          | (have h101 := of_decide_eq_true hc101; omega)
                      · cases hc101
                    · skip
                      replace hb85 := of_decide_eq_false hb85
                      refine KT.step rfl rfl (K.move rfl) ?_
                      refine KT.step rfl rfl (K.move rfl) ?_
                      refine KT.idx rfl rfl rfl hd rfl hkm Try.underlying22 Try.size35 fun c88 cs88 hq88 => ?_
                      refine KT.step rfl rfl (K.load rfl Try.agg35) ?_
                      refine KT.step rfl rfl (K.move rfl) ?_
                      refine KT.idxI rfl rfl rfl hq88 rfl (show LF m i < m[k].length by rw [hrow k hkm]; omega) Try.underlying35 Try.size3 fun cs91 => ?_
                      refine KT.step rfl rfl (K.load rfl Try.agg3) ?_
                      refine KT.step rfl rfl (K.move rfl) ?_
                      refine KT.step rfl rfl (K.move rfl) ?_
                      refine KT.idxI rfl rfl rfl hq17 rfl (show LF m i < m[i].length by rw [hrow i hil]; omega) Try.underlying35 Try.size3 fun cs95 => ?_
                      refine KT.step rfl rfl (K.load rfl Try.agg3) ?_
                      refine KT.step rfl rfl (K.geq rfl rfl) ?_
                      refine KT.step rfl rfl (K.pick rfl (fun h => by cases h) (fun _ => rfl)) ?_
                      refine KT.step rfl rfl (K.pick rfl (fun _ => rfl) (fun h => by cases h)) ?_
                      refine KT.step rfl rfl (K.pick rfl (fun h => by cases h) (fun _ => rfl)) ?_
                      refine KT.step rfl rfl (K.pick rfl (fun _ => rfl) (fun h => by cases h)) ?_
                      refine KT.nil ?_
                      refine ⟨by kernel_rfl, ?_⟩
                      refine thenK_n ?_
                      refine KC.cond rfl (fun hc101 => ?_) (fun hc101 => ?_)
                      · skip
                        refine KC.seq ?_
                        refine KC.region ?_
                        refine KT.step rfl rfl (K.assign rfl) ?_
                        refine KT.nil ?_
                        refine thenK_n ?_
                        refine KC.ret ?_
                        refine blockK_r ?_
                        refine thenK_r ?_
                        refine thenK_r ?_
                        refine blockK_r ?_
                        refine thenK_r ?_
                        refine blockK_r ?_
                        refine thenK_r ?_
                        refine thenK_r ?_
                        refine blockK_r ?_
                        refine thenK_r ?_
                        refine ⟨.inl rfl, _, rfl, fin_b ?_⟩
                        unfold formB
                        refine @decide_eq_false _ (Classical.propDecidable _) fun h => ?_
                        obtain ⟨g1, g2, g3, g4⟩ := h i hil
                        clear hall
                        have g := g3 k hkm
                        clear g3 hin
                        have e1 := e1 (by omega)
                        have e2 := e2 (by omega)
                        first
                          | omega
                          | (have h101 := of_decide_eq_true hc101; omega)
                      · skip
                        refine KC.skip ?_
                        refine blockK_n ?_
                        refine thenK_n ?_
                        refine KC.region ?_
                        refine KT.step rfl rfl (K.add rfl rfl (wrap_id (by omega))) ?_
                        refine KT.step rfl rfl (K.move rfl) ?_
                        refine KT.nil ?_
                        refine thenK_n ?_
                        refine ⟨k + 1, ⟨by omega, fun q hq => ?_⟩, by omega, rfl, by simp [Go.Vm.look, extK]⟩
                        by_cases e : q < k
                        · exact hin q e
                        · obtain rfl : q = k := by omega
                          clear hall hin
                          first
                            | omega
                            | (have := e1 (by omega)
                               have := e2 (by omega)
                               omega)
                            | (have h101 := of_decide_eq_false hc101
                               have := e1 (by omega)
                               have := e2 (by omega)
                               omega)
                  · skip
                    replace hb76 := of_decide_eq_false hb76
                    refine KT.skip rfl rfl ?_
                    refine KT.skip rfl rfl ?_
                    refine KT.skip rfl rfl ?_
                    refine KT.skip rfl rfl ?_
                    refine KT.skip rfl rfl ?_
                    refine KT.skip rfl rfl ?_
                    refine KT.skip rfl rfl ?_
                    refine KT.skip rfl rfl ?_
                    refine KT.skip rfl rfl ?_
                    refine KT.skip rfl rfl ?_
                    refine KT.skip rfl rfl ?_
                    refine KT.skip rfl rfl ?_
                    refine KT.skip rfl rfl ?_
                    refine KT.skip rfl rfl ?_
                    refine KT.skip rfl rfl ?_
                    refine KT.skip rfl rfl ?_
                    refine KT.skip rfl rfl ?_
                    refine KT.skip rfl rfl ?_
                    refine KT.skip rfl rfl ?_
                    refine KT.skip rfl rfl ?_
                    refine KT.skip rfl rfl ?_
                    refine KT.skip rfl rfl ?_
                    refine KT.step rfl rfl (K.pick rfl (fun h => by cases h) (fun _ => rfl)) ?_
                    refine KT.step rfl rfl (K.pick rfl (fun h => by cases h) (fun _ => rfl)) ?_
                    refine KT.step rfl rfl (K.pick rfl (fun _ => rfl) (fun h => by cases h)) ?_
                    refine KT.nil ?_
                    refine ⟨by kernel_rfl, ?_⟩
                    refine thenK_n ?_
                    refine KC.cond rfl (fun hc101 => ?_) (fun hc101 => ?_)
                    · cases hc101
                    · skip
                      refine KC.skip ?_
                      refine blockK_n ?_
                      refine thenK_n ?_
                      refine KC.region ?_
                      refine KT.step rfl rfl (K.add rfl rfl (wrap_id (by omega))) ?_
                      refine KT.step rfl rfl (K.move rfl) ?_
                      refine KT.nil ?_
                      refine thenK_n ?_
                      refine ⟨k + 1, ⟨by omega, fun q hq => ?_⟩, by omega, rfl, by simp [Go.Vm.look, extK]⟩
                      by_cases e : q < k
                      · exact hin q e
                      · obtain rfl : q = k := by omega
                        clear hall hin
                        first
                          | omega
                          | (have := e1 (by omega)
                             have := e2 (by omega)
                             omega)
                          | (have h101 := of_decide_eq_false hc101
                             have := e1 (by omega)
                             have := e2 (by omega)
                             omega)
              · skip
                replace hb62 := of_decide_eq_false hb62
                refine KT.skip rfl rfl ?_
                refine KT.skip rfl rfl ?_
                refine KT.skip rfl rfl ?_
                refine KT.skip rfl rfl ?_
                refine KT.skip rfl rfl ?_
                refine KT.skip rfl rfl ?_
                refine KT.skip rfl rfl ?_
                refine KT.skip rfl rfl ?_
                refine KT.step rfl rfl (K.pick rfl (fun h => by cases h) (fun _ => rfl)) ?_
                refine KT.step rfl rfl (K.move rfl) ?_
                refine KT.step rfl rfl (K.move rfl) ?_
                refine KT.step rfl rfl (K.move rfl) ?_
                refine KT.step rfl rfl (K.lss rfl rfl) ?_
                refine KT.step rfl rfl (K.move rfl) ?_
                refine KT.bcase (fun hb76 => ?_) (fun hb76 => ?_)
                · skip
                  replace hb76 := of_decide_eq_true hb76
                  refine KT.step rfl rfl (K.move rfl) ?_
                  refine KT.step rfl rfl (K.move rfl) ?_
                  refine KT.idx rfl rfl rfl hd rfl hkm Try.underlying22 Try.size35 fun c79 cs79 hq79 => ?_
                  refine KT.step rfl rfl (K.load rfl Try.agg35) ?_
                  refine KT.step rfl rfl (K.move rfl) ?_
                  refine KT.idxI rfl rfl rfl hq79 rfl (show LF m i < m[k].length by rw [hrow k hkm]; omega) Try.underlying35 Try.size3 fun cs82 => ?_
                  refine KT.step rfl rfl (K.load rfl Try.agg3) ?_
                  refine KT.step rfl rfl (K.lss rfl rfl) ?_
                  refine KT.step rfl rfl (K.move rfl) ?_
                  refine KT.bcase (fun hb85 => ?_) (fun hb85 => ?_)
                  · skip
                    replace hb85 := of_decide_eq_true hb85
                    refine KT.skip rfl rfl ?_
                    refine KT.skip rfl rfl ?_
                    refine KT.skip rfl rfl ?_
                    refine KT.skip rfl rfl ?_
                    refine KT.skip rfl rfl ?_
                    refine KT.skip rfl rfl ?_
                    refine KT.skip rfl rfl ?_
                    refine KT.skip rfl rfl ?_
                    refine KT.skip rfl rfl ?_
                    refine KT.skip rfl rfl ?_
                    refine KT.skip rfl rfl ?_
                    refine KT.skip rfl rfl ?_
                    refine KT.step rfl rfl (K.pick rfl (fun _ => rfl) (fun h => by cases h)) ?_
                    refine KT.step rfl rfl (K.pick rfl (fun _ => rfl) (fun h => by cases h)) ?_
                    refine KT.step rfl rfl (K.pick rfl (fun h => by cases h) (fun _ => rfl)) ?_
                    refine KT.step rfl rfl (K.pick rfl (fun _ => rfl) (fun h => by cases h)) ?_
                    refine KT.nil ?_
                    refine ⟨by kernel_rfl, ?_⟩
                    refine thenK_n ?_
                    refine KC.cond rfl (fun hc101 => ?_) (fun hc101 => ?_)
                    · skip
                      refine KC.seq ?_
                      refine KC.region ?_
                      refine KT.step rfl rfl (K.assign rfl) ?_
                      refine KT.nil ?_
                      refine thenK_n ?_
                      refine KC.ret ?_
                      refine blockK_r ?_
                      refine thenK_r ?_
                      refine thenK_r ?_
                      refine blockK_r ?_
                      refine thenK_r ?_
                      refine blockK_r ?_
                      refine thenK_r ?_
                      refine thenK_r ?_
                      refine blockK_r ?_
                      refine thenK_r ?_
                      refine ⟨.inl rfl, _, rfl, fin_b ?_⟩
                      unfold formB
                      refine @decide_eq_false _ (Classical.propDecidable _) fun h => ?_
                      obtain ⟨g1, g2, g3, g4⟩ := h i hil
                      clear hall
                      have g := g3 k hkm
                      clear g3 hin
                      have e1 := e1 (by omega)
                      have e2 := e2 (by omega)
                      first
                        | omega
                        | (have h101 := of_decide_eq_true hc101; omega)
                    · cases hc101
                  · skip
                    replace hb85 := of_decide_eq_false hb85
                    refine KT.step rfl rfl (K.move rfl) ?_
                    refine KT.step rfl rfl (K.move rfl) ?_
                    refine KT.idx rfl rfl rfl hd rfl hkm Try.underlying22 Try.size35 fun c88 cs88 hq88 => ?_
                    refine KT.step rfl rfl (K.load rfl Try.agg35) ?_
                    refine KT.step rfl rfl (K.move rfl) ?_
                    refine KT.idxI rfl rfl rfl hq88 rfl (show LF m i < m[k].length by rw [hrow k hkm]; omega) Try.underlying35 Try.size3 fun cs91 => ?_
                    refine KT.step rfl rfl (K.load rfl Try.agg3) ?_
                    refine KT.step rfl rfl (K.move rfl) ?_
                    refine KT.step rfl rfl (K.move rfl) ?_
                    refine KT.idxI rfl rfl rfl hq17 rfl (show LF m i < m[i].length by rw [hrow i hil]; omega) Try.underlying35 Try.size3 fun cs95 => ?_
                    refine KT.step rfl rfl (K.load rfl Try.agg3) ?_
                    refine KT.step rfl rfl (K.geq rfl rfl) ?_
                    refine KT.step rfl rfl (K.pick rfl (fun h => by cases h) (fun _ => rfl)) ?_
                    refine KT.step rfl rfl (K.pick rfl (fun _ => rfl) (fun h => by cases h)) ?_
                    refine KT.step rfl rfl (K.pick rfl (fun h => by cases h) (fun _ => rfl)) ?_
                    refine KT.step rfl rfl (K.pick rfl (fun _ => rfl) (fun h => by cases h)) ?_
                    refine KT.nil ?_
                    refine ⟨by kernel_rfl, ?_⟩
                    refine thenK_n ?_
                    refine KC.cond rfl (fun hc101 => ?_) (fun hc101 => ?_)
                    · skip
                      refine KC.seq ?_
                      refine KC.region ?_
                      refine KT.step rfl rfl (K.assign rfl) ?_
                      refine KT.nil ?_
                      refine thenK_n ?_
                      refine KC.ret ?_
                      refine blockK_r ?_
                      refine thenK_r ?_
                      refine thenK_r ?_
                      refine blockK_r ?_
                      refine thenK_r ?_
                      refine blockK_r ?_
                      refine thenK_r ?_
                      refine thenK_r ?_
                      refine blockK_r ?_
                      refine thenK_r ?_
                      refine ⟨.inl rfl, _, rfl, fin_b ?_⟩
                      unfold formB
                      refine @decide_eq_false _ (Classical.propDecidable _) fun h => ?_
                      obtain ⟨g1, g2, g3, g4⟩ := h i hil
                      clear hall
                      have g := g3 k hkm
                      clear g3 hin
                      have e1 := e1 (by omega)
                      have e2 := e2 (by omega)
                      first
                        | omega
                        | (have h101 := of_decide_eq_true hc101; omega)
                    · skip
                      refine KC.skip ?_
                      refine blockK_n ?_
                      refine thenK_n ?_
                      refine KC.region ?_
                      refine KT.step rfl rfl (K.add rfl rfl (wrap_id (by omega))) ?_
                      refine KT.step rfl rfl (K.move rfl) ?_
                      refine KT.nil ?_
                      refine thenK_n ?_
                      refine ⟨k + 1, ⟨by omega, fun q hq => ?_⟩, by omega, rfl, by simp [Go.Vm.look, extK]⟩
                      by_cases e : q < k
                      · exact hin q e
                      · obtain rfl : q = k := by omega
                        clear hall hin
                        first
                          | omega
                          | (have := e1 (by omega)
                             have := e2 (by omega)
                             omega)
                          | (have h101 := of_decide_eq_false hc101
                             have := e1 (by omega)
                             have := e2 (by omega)
                             omega)
                · skip
                  replace hb76 := of_decide_eq_false hb76
                  refine KT.skip rfl rfl ?_
                  refine KT.skip rfl rfl ?_
                  refine KT.skip rfl rfl ?_
                  refine KT.skip rfl rfl ?_
                  refine KT.skip rfl rfl ?_
                  refine KT.skip rfl rfl ?_
                  refine KT.skip rfl rfl ?_
                  refine KT.skip rfl rfl ?_
                  refine KT.skip rfl rfl ?_
                  refine KT.skip rfl rfl ?_
                  refine KT.skip rfl rfl ?_
                  refine KT.skip rfl rfl ?_
                  refine KT.skip rfl rfl ?_
                  refine KT.skip rfl rfl ?_
                  refine KT.skip rfl rfl ?_
                  refine KT.skip rfl rfl ?_
                  refine KT.skip rfl rfl ?_
                  refine KT.skip rfl rfl ?_
                  refine KT.skip rfl rfl ?_
                  refine KT.skip rfl rfl ?_
                  refine KT.skip rfl rfl ?_
                  refine KT.skip rfl rfl ?_
                  refine KT.step rfl rfl (K.pick rfl (fun h => by cases h) (fun _ => rfl)) ?_
                  refine KT.step rfl rfl (K.pick rfl (fun h => by cases h) (fun _ => rfl)) ?_
                  refine KT.step rfl rfl (K.pick rfl (fun _ => rfl) (fun h => by cases h)) ?_
                  refine KT.nil ?_
                  refine ⟨by kernel_rfl, ?_⟩
                  refine thenK_n ?_
                  refine KC.cond rfl (fun hc101 => ?_) (fun hc101 => ?_)
                  · cases hc101
                  · skip
                    refine KC.skip ?_
                    refine blockK_n ?_
                    refine thenK_n ?_
                    refine KC.region ?_
                    refine KT.step rfl rfl (K.add rfl rfl (wrap_id (by omega))) ?_
                    refine KT.step rfl rfl (K.move rfl) ?_
                    refine KT.nil ?_
                    refine thenK_n ?_
                    refine ⟨k + 1, ⟨by omega, fun q hq => ?_⟩, by omega, rfl, by simp [Go.Vm.look, extK]⟩
                    by_cases e : q < k
                    · exact hin q e
                    · obtain rfl : q = k := by omega
                      clear hall hin
                      first
                        | omega
                        | (have := e1 (by omega)
                           have := e2 (by omega)
                           omega)
                        | (have h101 := of_decide_eq_false hc101
                           have := e1 (by omega)
                           have := e2 (by omega)
                           omega)
            · skip
              replace hb58 := of_decide_eq_false hb58
              refine KT.skip rfl rfl ?_
              refine KT.skip rfl rfl ?_
              refine KT.skip rfl rfl ?_
              refine KT.skip rfl rfl ?_
              refine KT.skip rfl rfl ?_
              refine KT.skip rfl rfl ?_
              refine KT.skip rfl rfl ?_
              refine KT.skip rfl rfl ?_
              refine KT.skip rfl rfl ?_
              refine KT.skip rfl rfl ?_
              refine KT.skip rfl rfl ?_
              refine KT.skip rfl rfl ?_
              refine KT.skip rfl rfl ?_
              refine KT.skip rfl rfl ?_
              refine KT.skip rfl rfl ?_
              refine KT.skip rfl rfl ?_
              refine KT.skip rfl rfl ?_
              refine KT.skip rfl rfl ?_
              refine KT.skip rfl rfl ?_
              refine KT.skip rfl rfl ?_
              refine KT.skip rfl rfl ?_
              refine KT.skip rfl rfl ?_
              refine KT.skip rfl rfl ?_
              refine KT.skip rfl rfl ?_
              refine KT.skip rfl rfl ?_
              refine KT.skip rfl rfl ?_
              refine KT.skip rfl rfl ?_
              refine KT.skip rfl rfl ?_
              refine KT.skip rfl rfl ?_
              refine KT.skip rfl rfl ?_
              refine KT.skip rfl rfl ?_
              refine KT.skip rfl rfl ?_
              refine KT.skip rfl rfl ?_
              refine KT.skip rfl rfl ?_
              refine KT.skip rfl rfl ?_
              refine KT.skip rfl rfl ?_
              refine KT.skip rfl rfl ?_
              refine KT.skip rfl rfl ?_
              refine KT.skip rfl rfl ?_
              refine KT.skip rfl rfl ?_
              refine KT.skip rfl rfl ?_
              refine KT.skip rfl rfl ?_
              refine KT.step rfl rfl (K.pick rfl (fun h => by cases h) (fun _ => rfl)) ?_
              refine KT.nil ?_
              refine ⟨by kernel_rfl, ?_⟩
              refine thenK_n ?_
              refine KC.cond rfl (fun hc101 => ?_) (fun hc101 => ?_)
              · cases hc101
              · skip
                refine KC.skip ?_
                refine blockK_n ?_
                refine thenK_n ?_
                refine KC.region ?_
                refine KT.step rfl rfl (K.add rfl rfl (wrap_id (by omega))) ?_
                refine KT.step rfl rfl (K.move rfl) ?_
                refine KT.nil ?_
                refine thenK_n ?_
                refine ⟨k + 1, ⟨by omega, fun q hq => ?_⟩, by omega, rfl, by simp [Go.Vm.look, extK]⟩
                by_cases e : q < k
                · exact hin q e
                · obtain rfl : q = k := by omega
                  clear hall hin
                  first
                    | omega
                    | (have := e1 (by omega)
                       have := e2 (by omega)
                       omega)
                    | (have h101 := of_decide_eq_false hc101
                       have := e1 (by omega)
                       have := e2 (by omega)
                       omega)
          · skip
            replace hc53 := of_decide_eq_false hc53
            obtain rfl : k = m.length := by omega
            refine KC.exit ?_
            refine thenK_x ?_
            refine thenK_x ?_
            refine blockK_e ?_
            refine thenK_n ?_
            refine KC.seq ?_
            refine KC.region ?_
            refine KT.step rfl rfl (K.move rfl) ?_
            refine KT.step rfl rfl (K.move rfl) ?_
            refine KT.step rfl rfl (K.eql rfl rfl) ?_
            refine KT.step rfl rfl (K.move rfl) ?_
            refine KT.bcase (fun hb106 => ?_) (fun hb106 => ?_)
            · skip
              replace hb106 := of_decide_eq_true hb106
              refine KT.step rfl rfl (K.move rfl) ?_
              refine KT.step rfl rfl (K.add rfl rfl (show IntKind.i64.wrap ((i : Int) + 1) = ((i + 1 : Nat) : Int) from by rw [wrap_id (by omega)]; omega)) ?_
              refine KT.step rfl rfl (K.move rfl) ?_
              refine KT.step rfl rfl (K.len rfl hd Try.underlying22) ?_
              refine KT.step rfl rfl (K.lss rfl rfl) ?_
              refine KT.step rfl rfl (K.pick rfl (fun _ => rfl) (fun h => by cases h)) ?_
              refine KT.step rfl rfl (K.move rfl) ?_
              refine KT.bcase (fun hb113 => ?_) (fun hb113 => ?_)
              · skip
                replace hb113 := of_decide_eq_true hb113
                refine KT.step rfl rfl (K.move rfl) ?_
                refine KT.step rfl rfl (K.move rfl) ?_
                refine KT.step rfl rfl (K.add rfl rfl (show IntKind.i64.wrap ((i : Int) + 1) = ((i + 1 : Nat) : Int) from by rw [wrap_id (by omega)]; omega)) ?_
                refine KT.idx rfl rfl rfl hd rfl (show i + 1 < m.length by omega) Try.underlying22 Try.size35 fun c117 cs117 hq117 => ?_
                refine KT.step rfl rfl (K.load rfl Try.agg35) ?_
                refine KT.step rfl rfl (K.call1 rfl plainTry_57 ((show DeepCall Try.prog 57 [c117] (DI (LF m (i + 1) : Int)) from by rw [LF_at (show i + 1 < m.length by omega)]; exact lead57 hq117 (by rw [hrow _ (by omega)]; omega)))) ?_
                refine KT.step rfl rfl (K.move rfl) ?_
                refine KT.step rfl rfl (K.lss rfl rfl) ?_
                refine KT.step rfl rfl (K.pick rfl (fun _ => rfl) (fun h => by cases h)) ?_
                refine KT.nil ?_
                refine thenK_n ?_
                refine KC.cond rfl (fun hc122 => ?_) (fun hc122 => ?_)
                · skip
                  refine KC.seq ?_
                  refine KC.region ?_
                  refine KT.step rfl rfl (K.assign rfl) ?_
                  refine KT.nil ?_
                  refine thenK_n ?_
                  refine KC.ret ?_
                  refine blockK_r ?_
                  refine thenK_r ?_
                  refine thenK_r ?_
                  refine blockK_r ?_
                  refine thenK_r ?_
                  refine ⟨.inl rfl, _, rfl, fin_b ?_⟩
                  unfold formB
                  refine @decide_eq_false _ (Classical.propDecidable _) fun h => ?_
                  obtain ⟨g1, g2, g3, g4⟩ := h i hil
                  clear hall
                  have g := h12
                  clear g3 hin
                  first
                    | omega
                    | (have h122 := of_decide_eq_true hc122; omega)
                · skip
                  refine KC.skip ?_
                  refine blockK_n ?_
                  refine thenK_n ?_
                  refine KC.region ?_
                  refine KT.step rfl rfl (K.add rfl rfl (wrap_id (by omega))) ?_
                  refine KT.step rfl rfl (K.move rfl) ?_
                  refine KT.nil ?_
                  refine thenK_n ?_
                  refine ⟨i + 1, ⟨by omega, fun k hk => ?_⟩, by omega, rfl, by simp [Go.Vm.look, extK]⟩
                  by_cases e : k < i
                  · exact hall k e
                  · obtain rfl : k = i := by omega
                    refine ⟨h12.1, h12.2, hin, ?_⟩
                    first
                      | omega
                      | (have h122 := of_decide_eq_false hc122; omega)
              · skip
                replace hb113 := of_decide_eq_false hb113
                refine KT.skip rfl rfl ?_
                refine KT.skip rfl rfl ?_
                refine KT.skip rfl rfl ?_
                refine KT.skip rfl rfl ?_
                refine KT.skip rfl rfl ?_
                refine KT.skip rfl rfl ?_
                refine KT.skip rfl rfl ?_
                refine KT.skip rfl rfl ?_
                refine KT.step rfl rfl (K.pick rfl (fun h => by cases h) (fun _ => rfl)) ?_
                refine KT.nil ?_
                refine thenK_n ?_
                refine KC.cond rfl (fun hc122 => ?_) (fun hc122 => ?_)
                · cases hc122
                · skip
                  refine KC.skip ?_
                  refine blockK_n ?_
                  refine thenK_n ?_
                  refine KC.region ?_
                  refine KT.step rfl rfl (K.add rfl rfl (wrap_id (by omega))) ?_
                  refine KT.step rfl rfl (K.move rfl) ?_
                  refine KT.nil ?_
                  refine thenK_n ?_
                  refine ⟨i + 1, ⟨by omega, fun k hk => ?_⟩, by omega, rfl, by simp [Go.Vm.look, extK]⟩
                  by_cases e : k < i
                  · exact hall k e
                  · obtain rfl : k = i := by omega
                    refine ⟨h12.1, h12.2, hin, ?_⟩
                    first
                      | omega
                      | (have h122 := of_decide_eq_false hc122; omega)
            · skip
              replace hb106 := of_decide_eq_false hb106
              refine KT.skip rfl rfl ?_
              refine KT.skip rfl rfl ?_
              refine KT.skip rfl rfl ?_
              refine KT.skip rfl rfl ?_
              refine KT.skip rfl rfl ?_
              refine KT.step rfl rfl (K.pick rfl (fun h => by cases h) (fun _ => rfl)) ?_
              refine KT.step rfl rfl (K.move rfl) ?_
              refine KT.skip rfl rfl ?_
              refine KT.skip rfl rfl ?_
              refine KT.skip rfl rfl ?_
              refine KT.skip rfl rfl ?_
              refine KT.skip rfl rfl ?_
              refine KT.skip rfl rfl ?_
              refine KT.skip rfl rfl ?_
              refine KT.skip rfl rfl ?_
              refine KT.step rfl rfl (K.pick rfl (fun h => by cases h) (fun _ => rfl)) ?_
              refine KT.nil ?_
              refine thenK_n ?_
              refine KC.cond rfl (fun hc122 => ?_) (fun hc122 => ?_)
              · cases hc122
              · skip
                refine KC.skip ?_
                refine blockK_n ?_
                refine thenK_n ?_
                refine KC.region ?_
                refine KT.step rfl rfl (K.add rfl rfl (wrap_id (by omega))) ?_
                refine KT.step rfl rfl (K.move rfl) ?_
                refine KT.nil ?_
                refine thenK_n ?_
                refine ⟨i + 1, ⟨by omega, fun k hk => ?_⟩, by omega, rfl, by simp [Go.Vm.look, extK]⟩
                by_cases e : k < i
                · exact hall k e
                · obtain rfl : k = i := by omega
                  refine ⟨h12.1, h12.2, hin, ?_⟩
                  first
                    | omega
                    | (have h122 := of_decide_eq_false hc122; omega)
  · skip
    replace hc15 := of_decide_eq_false hc15
    obtain rfl : i = m.length := by omega
    refine KC.exit ?_
    refine thenK_x ?_
    refine thenK_x ?_
    refine blockK_e ?_
    refine thenK_n ?_
    refine KC.seq ?_
    refine KC.region ?_
    refine KT.step rfl rfl (K.assign rfl) ?_
    refine KT.nil ?_
    refine thenK_n ?_
    refine KC.ret ?_
    refine ⟨.inl rfl, _, rfl, fin_b ?_⟩
    unfold formB
    exact @decide_eq_true _ (Classical.propDecidable _) hall
end Go.Proofs.Ytlomhajhoecoiaa
