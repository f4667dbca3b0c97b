import Derived.Test.YtocgjopmlhpjdaaNtV
import Derived.Test.YtocgjopmlhpjdaaNtWq
/-
  Nets: fireable, Live of the program.
-/
namespace Go.Proofs.Ytocgjopmlhpjdaa
open Go.Vm Go.RowKit Go.Nt Go.Ht
theorem plainTry_65 : plainFn Try.prog 65 = true := by kernel_rfl
theorem plainTry_66 : plainFn Try.prog 66 = true := by kernel_rfl
theorem plainTry_64 : plainFn Try.prog 64 = true := by kernel_rfl
theorem plainTry_89 : plainFn Try.prog 89 = true := by kernel_rfl
theorem plainTry_30 : plainFn Try.prog 30 = true := by kernel_rfl
theorem natsX_get {S : List Nat} {i : Nat} (h : i < S.length) : (natsX S)[0 + i]? = some (.d (DI ((S[i] : Nat) : Int))) := by
  rw [Nat.zero_add]; unfold natsX; rw [List.getElem?_map, List.getElem?_eq_getElem h]; rfl
theorem natsX_set {S : List Nat} {i x : Nat} : (natsX S).set (0 + i) (.d (DI (x : Nat))) = natsX (S.set i x) := by
  rw [Nat.zero_add]; unfold natsX; rw [List.map_set]
theorem natsX_len (S : List Nat) : (natsX S).length = S.length := by simp [natsX]
theorem natsX_zero (n : Nat) : List.replicate n (XV.d (.lit (.int .i64 0))) = natsX (List.replicate n 0) := by unfold natsX; rw [List.map_replicate]; rfl
theorem pow_le6 {T : Nat} (h : T ≤ 6) : 2 ^ T ≤ 2 ^ 6 := Nat.pow_le_pow_right (by decide) h
set_option maxHeartbeats 4000000 in
set_option maxRecDepth 10000 in
theorem fireable65 {fs : List Ent} {N : List (List (Nat × Nat))} {T : Nat} {R : List Nat} (hl : fs.length ≤ 100000) (hT : T ≤ 6) (hN : N.length = fs.length) (hNl : ∀ i (h : i < N.length), N[i].length ≤ 1000) (hOk : OkN T N) (hRl : R.length = N.length) (hR : ∀ i, i < N.length → ∀ t, (R.getD i 0).testBit t = true ↔ CanN N t i) :
    DeepCall Try.prog 65 [grD fs N] (.sl (R.map fun n => DI (n : Nat)) R.length (some R.length)) := by
  have h26 := pow_le6 hT
  refine deepCall_K 6 Try.func65 rfl (Nat.le_of_ble_eq_true rfl) fun M W0 => ?_
  refine KC.seq ?_
  refine KC.region ?_
  refine KT.step rfl rfl (K.box rfl) ?_
  refine KT.step rfl rfl (K.assign rfl) ?_
  refine KT.nil ?_
  refine thenK_n ?_
  refine KC.seq ?_
  refine KC.region ?_
  refine KT.step rfl rfl (K.fieldAddrO rfl Try.fld71_0 Try.size62) ?_
  refine KT.step rfl rfl (K.loadO (y := .d (flV (fun m => w6 (tk m)) (marks fs))) rfl rfl (by simp) rfl Try.agg62) ?_
  refine KT.step rfl rfl (K.lenF (k := 6) (f := fun m => w6 (tk m)) (ks := marks fs) rfl (flV_ok (k := 6) (marks fs)) Try.underlying62) ?_
  rw [marks_len]
  refine KT.step rfl rfl (K.make (m := fs.length) (c := fs.length) rfl rfl (Nat.le_refl _) (by omega) Try.underlying23 Try.one3) ?_
  refine KT.step rfl rfl (K.assign rfl) ?_
  refine KT.nil ?_
  refine thenK_n ?_
  refine KC.seq ?_
  refine KC.seq ?_
  refine KC.region ?_
  refine KT.step rfl rfl (K.assign rfl) ?_
  refine KT.nil ?_
  refine thenK_n ?_
  refine KC.block ?_
  refine KC.loop (fun p : List VObj × List Nat × Bool => p.1) (fun p => [(1, .optr 0 0), (3, .osl 1 0 fs.length 1 fs.length true), (4, .d (DB p.2.2))]) (fun p => (p.1[0]? = some ⟨[.d (flV (fun m => w6 (tk m)) (marks fs)), .d (.mp ((idxM (marks fs)).map (·.1)) ((List.range fs.length).map fun i => DI ((i : Nat) : Int))), .d (flV fdE fs), .d (.sl (N.map (flV arE)) N.length none)], 0⟩ ∧ p.1[1]? = some ⟨natsX p.2.1, 0⟩) ∧ SetI N T p.2.1 ∧ (p.2.2 = false → ∀ i, i < N.length → ClosS N p.2.1 i)) (fun p => if p.2.2 then 1 + mu T p.2.1 else 0) (_, List.replicate fs.length 0, true) ⟨⟨rfl, by rw [← natsX_zero]; rfl⟩, by rw [← hN]; exact SetI.start N T, (fun h => by cases h)⟩ rfl (by simp [Go.Vm.look, extK, enterK]) ?_
  intro p hp
  obtain ⟨σ0, Q0, ch0⟩ := p
  obtain ⟨⟨h0, h1⟩, hq0, hcl0⟩ := hp
  simp only at h0 h1 hq0 hcl0 ⊢
  refine KC.seq ?_
  refine KC.seq ?_
  refine KC.region ?_
  refine KT.step rfl rfl (K.move rfl) ?_
  refine KT.nil ?_
  refine thenK_n ?_
  refine KC.cond rfl (fun hc13 => ?_) (fun hc13 => ?_)
  · skip
    refine KC.skip ?_
    refine thenK_n ?_
    refine KC.block ?_
    refine KC.seq ?_
    refine KC.region ?_
    refine KT.step rfl rfl (K.assign rfl) ?_
    refine KT.nil ?_
    refine thenK_n ?_
    refine KC.seq ?_
    refine KC.region ?_
    refine KT.step rfl rfl (K.move rfl) ?_
    refine KT.step rfl rfl (K.lenO rfl Try.underlying23) ?_
    refine KT.step rfl rfl (K.sub rfl rfl (wrap_id (by omega))) ?_
    refine KT.step rfl rfl (K.assign rfl) ?_
    refine KT.nil ?_
    refine thenK_n ?_
    refine KC.block ?_
    refine KC.loop (fun p : List VObj × List Nat × Bool × Nat => p.1) (fun p => [(1, .optr 0 0), (3, .osl 1 0 fs.length 1 fs.length true), (4, .d (DB p.2.2.1)), (5, .d (DI (((p.2.2.2 : Nat) : Int) - 1)))]) (fun p => (p.1[0]? = some ⟨[.d (flV (fun m => w6 (tk m)) (marks fs)), .d (.mp ((idxM (marks fs)).map (·.1)) ((List.range fs.length).map fun i => DI ((i : Nat) : Int))), .d (flV fdE fs), .d (.sl (N.map (flV arE)) N.length none)], 0⟩ ∧ p.1[1]? = some ⟨natsX p.2.1, 0⟩) ∧ SetI N T p.2.1 ∧ p.2.2.2 ≤ fs.length ∧ (p.2.2.1 = true → mu T p.2.1 < mu T Q0) ∧ mu T p.2.1 ≤ mu T Q0 ∧ (p.2.2.1 = false → ∀ i, p.2.2.2 ≤ i → i < N.length → ClosS N p.2.1 i)) (fun p => p.2.2.2) (σ0, Q0, false, fs.length) ⟨⟨h0, h1⟩, hq0, Nat.le_refl _, (fun h => by cases h), Nat.le_refl _, fun _ i h1 h2 => by simp only at h1; omega⟩ rfl (by simp [Go.Vm.look, extK, enterK]) ?_
    intro p hp
    obtain ⟨σ1, Q, ch, k⟩ := p
    obtain ⟨⟨h0, h1⟩, hq, hk, hm, hm2, hcl⟩ := hp
    simp only at h0 h1 hq hk hm hm2 hcl ⊢
    refine KC.seq ?_
    refine KC.seq ?_
    refine KC.region ?_
    refine KT.step rfl rfl (K.move rfl) ?_
    refine KT.step rfl rfl (K.geq rfl rfl) ?_
    refine KT.nil ?_
    refine thenK_n ?_
    refine KC.cond rfl (fun hc18 => ?_) (fun hc18 => ?_)
    · skip
      replace hc18 := of_decide_eq_true hc18
      obtain ⟨i, rfl⟩ : ∃ i, k = i + 1 := ⟨k - 1, by omega⟩
      rw [show (((i + 1 : Nat) : Int) - 1) = ((i : Nat) : Int) from by omega]
      have hil : i < fs.length := by omega
      have hiN : i < N.length := by omega
      have hNli := hNl i hiN
      have hiQ : i < Q.length := by rw [hq.len]; omega
      have hNi : N.getD i [] = N[i] := by rw [List.getD_eq_getElem?_getD, List.getElem?_eq_getElem hiN]; rfl
      have hQi := getD_lt hiQ
      refine KC.skip ?_
      refine thenK_n ?_
      refine KC.seq ?_
      refine KC.block ?_
      refine KC.seq ?_
      refine KC.region ?_
      refine KT.step rfl rfl (K.move rfl) ?_
      refine KT.step rfl rfl (K.move rfl) ?_
      refine KT.step rfl rfl (K.idxO (m := i) rfl rfl hil Try.underlying23 Try.size3) ?_
      refine KT.step rfl rfl (K.loadO (y := .d (DI (Q[i] : Nat))) rfl h1 (by simp) (natsX_get hiQ) Try.agg3) ?_
      refine KT.step rfl rfl (K.assign rfl) ?_
      refine KT.nil ?_
      refine thenK_n ?_
      refine KC.seq ?_
      refine KC.seq ?_
      refine KC.region ?_
      refine KT.step rfl rfl (K.fieldAddrO rfl Try.fld71_3 Try.size69) ?_
      refine KT.step rfl rfl (K.loadO (y := .d (.sl (N.map (flV arE)) N.length none)) rfl h0 (by simp) rfl Try.agg69) ?_
      refine KT.step rfl rfl (K.move rfl) ?_
      refine KT.step rfl rfl (K.idxDK (k := 1) (m := i) rfl rfl hiN Try.underlying69 Try.size68) ?_
      rw [show (N.map (flV arE)).drop (i * 1) = flV arE N[i] :: (N.map (flV arE)).drop (i + 1) from by rw [Nat.mul_one, List.drop_eq_getElem_cons (by rw [List.length_map]; omega), List.getElem_map]]
      refine KT.step rfl rfl (K.load rfl Try.agg68) ?_
      refine KT.step rfl rfl (K.lenF (k := 2) (f := arE) (ks := N[i]) rfl (flV_ok (k := 2) N[i]) Try.underlying68) ?_
      refine KT.step rfl rfl (K.move rfl) ?_
      refine KT.nil ?_
      refine thenK_n ?_
      refine KC.block ?_
      refine KC.loop (fun p : List VObj × Nat => p.1) (fun p => [(1, .optr 0 0), (3, .osl 1 0 fs.length 1 fs.length true), (4, .d (DB ch)), (5, .d (DI (i : Nat))), (6, .d (DI (accS Q (N[i].take p.2) Q[i] : Nat))), (29, .d (flV arE N[i])), (30, .d (DI (N[i].length : Nat))), (31, .d (DI (p.2 : Nat)))]) (fun p => p.2 ≤ N[i].length ∧ p.1[0]? = some ⟨[.d (flV (fun m => w6 (tk m)) (marks fs)), .d (.mp ((idxM (marks fs)).map (·.1)) ((List.range fs.length).map fun i => DI ((i : Nat) : Int))), .d (flV fdE fs), .d (.sl (N.map (flV arE)) N.length none)], 0⟩ ∧ p.1[1]? = some ⟨natsX Q, 0⟩) (fun p => N[i].length - p.2) (σ1, 0) ⟨Nat.zero_le _, h0, h1⟩ rfl (by simp [Go.Vm.look, extK, enterK, accS]) ?_
      intro p hp
      obtain ⟨σ2, j⟩ := p
      obtain ⟨hj, k0, k1⟩ := hp
      simp only at hj k0 k1 ⊢
      refine KC.seq ?_
      refine KC.region ?_
      refine KT.step rfl rfl (K.lss rfl rfl) ?_
      refine KT.nil ?_
      refine thenK_n ?_
      refine KC.seq ?_
      refine KC.cond rfl (fun hc32 => ?_) (fun hc32 => ?_)
      · skip
        replace hc32 := of_decide_eq_true hc32
        have hjl : j < N[i].length := by omega
        obtain ⟨ha1, ha2⟩ := hOk i N[i][j] (by rw [hNi]; exact List.getElem_mem hjl)
        have hjQ : N[i][j].2 < Q.length := by rw [hq.len]; exact ha2
        have hb1 : 2 ^ N[i][j].1 < 2 ^ 63 := Nat.pow_lt_pow_right (by decide) (by omega)
        have hb2 : Q[N[i][j].2] < 2 ^ 63 := by have := hq.lt _ (List.getElem_mem hjQ); omega
        have hb3 : accS Q (N[i].take j) Q[i] < 2 ^ 63 := by have := accS_lt hq.lt (l := N[i].take j) (s := Q[i]) (fun a ha => (hOk i a (by rw [hNi]; exact List.mem_of_mem_take ha)).1) (hq.lt _ (List.getElem_mem hiQ)); omega
        have hb4 := Nat.or_lt_two_pow hb1 hb2
        refine KC.skip ?_
        refine thenK_n ?_
        refine KC.seq ?_
        refine KC.block ?_
        refine KC.seq ?_
        refine KC.region ?_
        refine KT.step rfl rfl (K.idxF (k := 2) (f := arE) (m := j) (fun _ => rfl) rfl (flV_ok N[i]) rfl hjl Try.underlying68 Try.size115) ?_
        refine KT.step rfl rfl (K.loadFl (m := 2) rfl rfl Try.agg115 Try.size115) ?_
        refine KT.step rfl rfl (K.alloc Try.zero115) ?_
        refine KT.putAll (cs := [.d (DI (N[i][j].1 : Nat)), .d (DI (N[i][j].2 : Nat))]) rfl rfl rfl rfl (List.getElem?_concat_length ..) rfl rfl rfl Try.size115 ?_
        have hlt0 := obj_lt k0
        have hlt1 := obj_lt k1
        obtain ⟨σ3, hσ3, gm, tk3, tl3⟩ := obj_put (List.getElem?_concat_length ..) ⟨[.d (DI (N[i][j].1 : Nat)), .d (DI (N[i][j].2 : Nat))], 0⟩
        rw [hσ3]
        have k0 := (tk3 0 (by omega)).trans (obj_left k0)
        have k1 := (tk3 1 (by omega)).trans (obj_left k1)
        refine KT.nil ?_
        refine thenK_n ?_
        refine KC.draw Try.mixed ?_
        refine KT.step rfl rfl (K.move rfl) ?_
        refine KT.step rfl rfl (K.fieldAddrO rfl Try.fld115_0 Try.size3) ?_
        refine KT.step rfl rfl (K.loadO (y := .d (DI (N[i][j].1 : Nat))) rfl gm (by simp) rfl Try.agg3) ?_
        refine KT.step rfl rfl (K.shl rfl rfl (by omega) (shlI (by omega))) ?_
        refine KT.step rfl rfl (K.move rfl) ?_
        refine KT.step rfl rfl (K.fieldAddrO rfl Try.fld115_1 Try.size3) ?_
        refine KT.step rfl rfl (K.loadO (y := .d (DI (N[i][j].2 : Nat))) rfl gm (by simp) rfl Try.agg3) ?_
        refine KT.step rfl rfl (K.idxO (m := N[i][j].2) rfl rfl (by omega) Try.underlying23 Try.size3) ?_
        refine KT.step rfl rfl (K.loadO (y := .d (DI (Q[N[i][j].2] : Nat))) rfl k1 (by simp) (natsX_get hjQ) Try.agg3) ?_
        refine KT.step rfl rfl (K.bor rfl rfl (orI hb1 hb2)) ?_
        refine KT.step rfl rfl (K.bor rfl rfl (orI hb3 hb4)) ?_
        refine KT.step rfl rfl (K.assign rfl) ?_
        refine KT.nil ?_
        refine ⟨by kernel_rfl, ?_⟩
        refine blockK_n ?_
        refine thenK_n ?_
        refine KC.region ?_
        refine KT.step rfl rfl (K.add rfl rfl (wrap_id (by omega))) ?_
        refine KT.step rfl rfl (K.move rfl) ?_
        refine KT.nil ?_
        refine thenK_n ?_
        refine ⟨(σ3, j + 1), ⟨by simp only; omega, k0, k1⟩, by simp only; omega, rfl, ?_⟩
        rw [accS_take hjl, getD_lt hjQ]
        simp [Go.Vm.look, extK]
      · skip
        replace hc32 := of_decide_eq_false hc32
        have hacc : accS Q (N[i].take j) Q[i] = accS Q (N.getD i []) (Q.getD i 0) := by rw [List.take_of_length_le (by omega), hNi, hQi]
        refine KC.exit ?_
        refine thenK_x ?_
        refine thenK_x ?_
        refine blockK_e ?_
        refine thenK_n ?_
        refine KC.seq ?_
        refine KC.region ?_
        refine KT.step rfl rfl (K.move rfl) ?_
        refine KT.step rfl rfl (K.move rfl) ?_
        refine KT.step rfl rfl (K.move rfl) ?_
        refine KT.step rfl rfl (K.idxO (m := i) rfl rfl hil Try.underlying23 Try.size3) ?_
        refine KT.step rfl rfl (K.loadO (y := .d (DI (Q[i] : Nat))) rfl k1 (by simp) (natsX_get hiQ) Try.agg3) ?_
        refine KT.step rfl rfl (K.neq rfl rfl) ?_
        refine KT.nil ?_
        refine thenK_n ?_
        refine KC.cond rfl (fun hc52 => ?_) (fun hc52 => ?_)
        · skip
          replace hc52 := of_decide_eq_true hc52
          have hne : accS Q (N[i].take j) Q[i] ≠ Q[i] := fun h => by rw [h] at hc52; exact hc52 rfl
          have hgt : Q[i] < accS Q (N.getD i []) (Q.getD i 0) := by
            have h9 := accS_le Q (N.getD i []) (Q.getD i 0)
            rw [← hacc] at h9 ⊢
            rw [hQi] at h9
            omega
          have hmu := mu_set (T := T) hiQ hgt (accS_lt hq.lt (fun a ha => (hOk i a ha).1) (by rw [hQi]; exact hq.lt _ (List.getElem_mem hiQ)))
          refine KC.seq ?_
          refine KC.region ?_
          refine KT.step rfl rfl (K.move rfl) ?_
          refine KT.step rfl rfl (K.move rfl) ?_
          refine KT.step rfl rfl (K.move rfl) ?_
          refine KT.step rfl rfl (K.idxO (m := i) rfl rfl hil Try.underlying23 Try.size3) ?_
          refine KT.storeG rfl rfl rfl rfl k1 (by rw [natsX_len]; omega) rfl rfl Try.size3 fun σ4 l4 u4 v4 => ?_
          rw [natsX_set] at u4
          have w0 := (v4 0 (by omega)).trans k0
          refine KT.nil ?_
          refine thenK_n ?_
          refine KC.region ?_
          refine KT.step rfl rfl (K.assign rfl) ?_
          refine KT.nil ?_
          refine blockK_n ?_
          refine thenK_n ?_
          refine KC.region ?_
          refine KT.step rfl rfl (K.move rfl) ?_
          refine KT.step rfl rfl (K.sub rfl rfl (wrap_id (by omega))) ?_
          refine KT.step rfl rfl (K.assign rfl) ?_
          refine KT.nil ?_
          refine thenK_n ?_
          refine ⟨(σ4, Q.set i (accS Q (N.getD i []) (Q.getD i 0)), true, i), ⟨⟨w0, ?_⟩, hq.set hOk hiQ, by simp only; omega, fun _ => by simp only; omega, by simp only; omega, fun h => by cases h⟩, by simp only; omega, rfl, by simp [Go.Vm.look, extK]⟩
          simp only
          rw [u4, hacc]
        · skip
          replace hc52 := of_decide_eq_false hc52
          have heq : accS Q (N.getD i []) (Q.getD i 0) = Q.getD i 0 := by rw [← hacc, hQi]; omega
          refine KC.skip ?_
          refine blockK_n ?_
          refine thenK_n ?_
          refine KC.region ?_
          refine KT.step rfl rfl (K.move rfl) ?_
          refine KT.step rfl rfl (K.sub rfl rfl (wrap_id (by omega))) ?_
          refine KT.step rfl rfl (K.assign rfl) ?_
          refine KT.nil ?_
          refine thenK_n ?_
          refine ⟨(σ2, Q, ch, i), ⟨⟨k0, k1⟩, hq, by simp only; omega, hm, hm2, fun h i2 h1 h2 => ?_⟩, by simp only; omega, rfl, by simp [Go.Vm.look, extK]⟩
          by_cases e : i2 = i
          · subst e; exact .of heq
          · exact hcl h i2 (by simp only at h1; omega) h2
    · skip
      replace hc18 := of_decide_eq_false hc18
      refine KC.exit ?_
      refine thenK_x ?_
      refine thenK_x ?_
      refine blockK_e ?_
      refine blockK_n ?_
      refine thenK_n ?_
      refine ⟨(σ1, Q, ch), ⟨⟨h0, h1⟩, hq, fun h i hi => hcl h i (by omega) hi⟩, ?_, rfl, by simp [Go.Vm.look, extK]⟩
      simp only
      rw [hc13]
      cases ch with
      | true => have := hm rfl; simp; omega
      | false => simp <;> omega
  · skip
    refine KC.exit ?_
    refine thenK_x ?_
    refine thenK_x ?_
    refine blockK_e ?_
    refine thenK_n ?_
    refine KC.seq ?_
    refine KC.region ?_
    refine KT.step rfl rfl (K.move rfl) ?_
    refine KT.step rfl rfl (K.assign rfl) ?_
    refine KT.nil ?_
    refine thenK_n ?_
    refine KC.ret ?_
    have hch : ch0 = false := by simpa using hc13
    have he := hq0.uniq (hcl0 hch) hRl hR
    subst he
    refine ⟨.inl rfl, _, rfl, ?_⟩
    have hl9 : Q0.length = fs.length := by rw [hRl, hN]
    rw [hl9]
    exact deepen_cells (fz_get h1) (by unfold natsX; rw [List.map_map]; rfl) (by rw [List.length_map]; exact hl9)
set_option maxRecDepth 10000 in
theorem closure66 {x y : Int} : DeepCall Try.prog 66 [DI x, .ptr [DI y]] (DB (decide (x ≠ y))) := by
  refine deepCall_K 5 Try.func66 rfl (Nat.le_of_ble_eq_true rfl) fun M W0 => ?_
  refine KC.seq ?_
  refine KC.region ?_
  refine KT.step rfl rfl (K.assign rfl) ?_
  refine KT.nil ?_
  refine thenK_n ?_
  refine KC.seq ?_
  refine KC.region ?_
  refine KT.step rfl rfl (K.move rfl) ?_
  refine KT.step rfl rfl (K.load rfl Try.agg3) ?_
  refine KT.step rfl rfl (K.neq rfl rfl) ?_
  refine KT.step rfl rfl (K.assign rfl) ?_
  refine KT.nil ?_
  refine thenK_n ?_
  refine KC.ret ?_
  exact ⟨.inl rfl, _, rfl, fin_d rfl⟩
/-- The place of the first number that is met, or -1. -/
def fstZ (q : Int → Bool) : List Int → Int
  | [] => -1
  | x :: l => if q x then 0 else if fstZ q l < 0 then -1 else fstZ q l + 1
theorem fstZ_any (q : Int → Bool) : ∀ l : List Int, decide (0 ≤ fstZ q l) = l.any q
  | [] => rfl
  | x :: l => by
    have ih := fstZ_any q l
    rw [fstZ, List.any_cons]
    by_cases h : q x = true
    · rw [if_pos h, h]; rfl
    · rw [if_neg h, show q x = false by simpa using h, Bool.false_or, ← ih]
      by_cases h2 : fstZ q l < 0
      · rw [if_pos h2, decide_eq_false (show ¬ 0 ≤ fstZ q l by omega)]; rfl
      · rw [if_neg h2]; exact decide_eq_decide.2 (by omega)
theorem fstZ_at {q : Int → Bool} : ∀ {l : List Int} {i : Nat} (hi : i < l.length), (∀ j (h : j < l.length), j < i → q l[j] = false) → q l[i] = true → fstZ q l = i
  | x :: l, 0, _, _, h => by rw [fstZ, if_pos (by simpa using h)]; rfl
  | x :: l, i + 1, hi, hall, h => by
    have h0 := hall 0 (by simp) (by omega)
    simp only [List.getElem_cons_zero] at h0
    have ih := fstZ_at (l := l) (i := i) (by simpa using hi) (fun j hj hji => by have := hall (j + 1) (by simpa using hj) (by omega); simpa using this) (by simpa using h)
    rw [fstZ, if_neg (by rw [h0]; decide), ih, if_neg (by omega)]; omega
theorem fstZ_no {q : Int → Bool} : ∀ {l : List Int}, (∀ j (h : j < l.length), q l[j] = false) → fstZ q l = -1
  | [], _ => rfl
  | x :: l, hall => by
    have h0 := hall 0 (by simp)
    simp only [List.getElem_cons_zero] at h0
    have ih := fstZ_no (l := l) (fun j hj => by have := hall (j + 1) (by simpa using hj); simpa using this)
    rw [fstZ, if_neg (by rw [h0]; decide), ih, if_pos (by decide)]
set_option maxRecDepth 10000 in
theorem indexFunc89 {d : DV} {l : List Int} {g : FuncId} {y : DV} {q : Int → Bool} (hd : Ints d l) (hl : l.length ≤ 9223372036854775807) (hg : plainFn Try.prog g = true) (hq : ∀ x, DeepCall Try.prog g [DI x, y] (DB (q x))) : DeepCall Try.prog 89 [d, .fn (.func g) [] [y]] (DI (fstZ q l)) := by
  refine deepCall_K 5 Try.func89 rfl (Nat.le_of_ble_eq_true rfl) fun M W0 => ?_
  refine KC.seq ?_
  refine KC.region ?_
  refine KT.step rfl rfl (K.assign rfl) ?_
  refine KT.nil ?_
  refine thenK_n ?_
  refine KC.seq ?_
  refine KC.seq ?_
  refine KC.region ?_
  refine KT.step rfl rfl (K.move rfl) ?_
  refine KT.step rfl rfl (K.len rfl hd Try.underlying23) ?_
  refine KT.step rfl rfl (K.move rfl) ?_
  refine KT.nil ?_
  refine thenK_n ?_
  refine KC.block ?_
  refine KC.loop (fun _ : Nat => []) (fun i => [(0, .d d), (1, .d (.fn (.func g) [] [y])), (7, .d (DI (l.length : Nat))), (8, .d (DI (i : Nat)))]) (fun i => i ≤ l.length ∧ ∀ j (h : j < l.length), j < i → q l[j] = false) (fun i => l.length - i) 0 ⟨Nat.zero_le _, fun j _ h => absurd h (Nat.not_lt_zero _)⟩ rfl (by simp [Go.Vm.look, extK, enterK]) ?_
  intro i hi
  obtain ⟨hi, hall⟩ := hi
  refine KC.seq ?_
  refine KC.region ?_
  refine KT.step rfl rfl (K.lss rfl rfl) ?_
  refine KT.nil ?_
  refine thenK_n ?_
  refine KC.seq ?_
  refine KC.cond rfl (fun hc9 => ?_) (fun hc9 => ?_)
  · skip
    replace hc9 := of_decide_eq_true hc9
    have hil : i < l.length := by omega
    refine KC.skip ?_
    refine thenK_n ?_
    refine KC.seq ?_
    refine KC.block ?_
    refine KC.seq ?_
    refine KC.region ?_
    refine KT.step rfl rfl (K.move rfl) ?_
    refine KT.step rfl rfl (K.assign rfl) ?_
    refine KT.nil ?_
    refine thenK_n ?_
    refine KC.seq ?_
    refine KC.region ?_
    refine KT.step rfl rfl (K.move rfl) ?_
    refine KT.step rfl rfl (K.move rfl) ?_
    refine KT.step rfl rfl (K.move rfl) ?_
    refine KT.idxI rfl rfl rfl (by assumption) rfl (by omega) Try.underlying23 Try.size3 fun cs14 => ?_
    refine KT.step rfl rfl (K.load rfl Try.agg3) ?_
    refine KT.step rfl rfl (K.callFC (fs := []) (ds := [DI l[i]]) (cs := [y]) rfl rfl rfl hg (hq l[i])) ?_
    refine KT.nil ?_
    refine thenK_n ?_
    refine KC.cond rfl (fun hc16 => ?_) (fun hc16 => ?_)
    · skip
      refine KC.seq ?_
      refine KC.region ?_
      refine KT.step rfl rfl (K.move rfl) ?_
      refine KT.step rfl rfl (K.assign rfl) ?_
      refine KT.nil ?_
      refine thenK_n ?_
      refine KC.ret ?_
      refine blockK_r ?_
      refine thenK_r ?_
      refine thenK_r ?_
      refine blockK_r ?_
      refine thenK_r ?_
      exact ⟨.inl rfl, _, rfl, fin_d (by rw [fstZ_at hil hall hc16])⟩
    · skip
      refine KC.skip ?_
      refine blockK_n ?_
      refine thenK_n ?_
      refine KC.region ?_
      refine KT.step rfl rfl (K.add rfl rfl (wrap_id (by omega))) ?_
      refine KT.step rfl rfl (K.move rfl) ?_
      refine KT.nil ?_
      refine thenK_n ?_
      refine ⟨i + 1, ⟨by omega, fun j h hj => ?_⟩, by omega, rfl, by simp [Go.Vm.look, extK]⟩
      by_cases e : j = i
      · subst e; exact hc16
      · exact hall j h (by omega)
  · skip
    replace hc9 := of_decide_eq_false hc9
    refine KC.exit ?_
    refine thenK_x ?_
    refine thenK_x ?_
    refine blockK_e ?_
    refine thenK_n ?_
    refine KC.seq ?_
    refine KC.region ?_
    refine KT.step rfl rfl (K.assign rfl) ?_
    refine KT.nil ?_
    refine thenK_n ?_
    refine KC.ret ?_
    exact ⟨.inl rfl, _, rfl, fin_d (by rw [fstZ_no (fun j h => hall j h (by omega))])⟩
set_option maxRecDepth 10000 in
theorem containsFunc64 {d : DV} {l : List Int} {g : FuncId} {y : DV} {q : Int → Bool} (hd : Ints d l) (hl : l.length ≤ 9223372036854775807) (hg : plainFn Try.prog g = true) (hq : ∀ x, DeepCall Try.prog g [DI x, y] (DB (q x))) : DeepCall Try.prog 64 [d, .fn (.func g) [] [y]] (DB (l.any q)) := by
  refine deepCall_K 5 Try.func64 rfl (Nat.le_of_ble_eq_true rfl) fun M W0 => ?_
  refine KC.seq ?_
  refine KC.region ?_
  refine KT.step rfl rfl (K.assign rfl) ?_
  refine KT.nil ?_
  refine thenK_n ?_
  refine KC.seq ?_
  refine KC.region ?_
  refine KT.step rfl rfl (K.move rfl) ?_
  refine KT.step rfl rfl (K.move rfl) ?_
  refine KT.step rfl rfl (K.call2 rfl rfl plainTry_89 (indexFunc89 hd hl hg hq)) ?_
  refine KT.step rfl rfl (K.geq rfl rfl) ?_
  refine KT.step rfl rfl (K.assign rfl) ?_
  refine KT.nil ?_
  refine thenK_n ?_
  refine KC.ret ?_
  exact ⟨.inl rfl, _, rfl, fin_b (fstZ_any q l).symm⟩
theorem Try.zero3 : zeroT Try.prog 3 = some (.int .i64 0) := Try.one3.zero
theorem nats_sl (R : List Nat) (cap : Option Nat) : Ints (.sl (R.map fun n => DI (n : Nat)) R.length cap) (natsI R) := by
  have h : Ints (.sl (R.map fun n => DI (n : Nat)) (natsI R).length cap) (natsI R) := .sl (by simp [natsI]) fun i c x h1 h2 => by
    unfold natsI at h2
    rw [List.getElem?_map] at h1 h2
    cases hx : R[i]? with
    | none => rw [hx] at h1; cases h1
    | some y => rw [hx] at h1 h2; cases h1; cases h2; rfl
  rwa [natsI_len] at h
theorem next_get {nx : List Int → Nat → Option (List Int)} {T : Nat} {fs : List Ent} {i : Nat} (h : i < fs.length) : (nextN nx T fs fs.length 0).getD i [] = (enL nx (mrk fs i) T).map (pl fs) := by
  have h2 : i < (nextN nx T fs fs.length 0).length := by rw [nextN_len]; exact h
  rw [List.getD_eq_getElem?_getD, List.getElem?_eq_getElem h2, Option.getD_some, nextN_get h, if_pos h]
theorem next_ok {nx : List Int → Nat → Option (List Int)} {T n L : Nat} {s : List Int} {fs : List Ent} (hD : DoneE nx T n L s fs) : OkN T (nextN nx T fs fs.length 0) ∧ ∀ i (h : i < (nextN nx T fs fs.length 0).length), ((nextN nx T fs fs.length 0)[i]).length ≤ T := by
  refine ⟨fun i a ha => ?_, fun i h => ?_⟩
  · by_cases hi : i < fs.length
    · rw [next_get hi] at ha
      obtain ⟨p, hp, rfl⟩ := List.mem_map.1 ha
      obtain ⟨h1, h2⟩ := enL_mem.1 hp
      refine ⟨h1, ?_⟩
      rw [nextN_len, ← marks_len]
      exact place_lt (hD.cl i fs[i] (List.getElem?_eq_getElem hi) p.1 p.2 h1 (by rw [← mrk_get (List.getElem?_eq_getElem hi)]; exact h2))
    · rw [getD_out (by rw [nextN_len]; omega)] at ha; cases ha
  · rw [nextN_len] at h
    rw [nextN_get h, if_pos h, List.length_map]
    exact enL_len _ _ _
theorem any_live {T : Nat} {R : List Nat} : ((natsI R).any fun x => decide (x ≠ ((2 ^ T : Nat) : Int) - 1)) = false ↔ ∀ x ∈ R, x = 2 ^ T - 1 := by
  have h1 := Nat.two_pow_pos T
  unfold natsI
  rw [List.any_eq_false]
  constructor
  · intro h x hx
    have := h (x : Int) (List.mem_map.2 ⟨x, hx, rfl⟩)
    generalize 2 ^ T = k at this h1 ⊢
    simp at this; omega
  · intro h x hx
    obtain ⟨n, hn, rfl⟩ := List.mem_map.1 hx
    have := h n hn
    generalize 2 ^ T = k at this h1 ⊢
    simp; omega
def livV (pre post : List (List Int)) (start : List Int) (r : Bool) : DV := .tup [match xOf pre post start with | none => DB false | some _ => DB r, DI (xE pre post start)]
set_option maxHeartbeats 4000000 in
set_option maxRecDepth 10000 in
theorem Live30 {a b c : DV} {pre post : List (List Int)} {start : List Int} {r : Bool} (h : NetD a b c pre post start) (hr : ∀ fs, xOf pre post start = some fs → (r = true ↔ LiveN pre.length (nextN (nxN pre post) pre.length fs fs.length 0))) : DeepCall Try.prog 30 [.agg [a, b, c]] (livV pre post start r) := by
  have hN0 := h
  obtain ⟨ha, hb, hc, l1, l2, l3, r1, r2⟩ := h
  refine deepCall_K 9 Try.func30 rfl (Nat.le_of_ble_eq_true rfl) fun M W0 => ?_
  refine KC.seq ?_
  refine KC.region ?_
  refine KT.step rfl rfl (K.box rfl) ?_
  refine KT.step rfl rfl (K.assign rfl) ?_
  refine KT.step rfl rfl (K.assign rfl) ?_
  refine KT.nil ?_
  refine thenK_n ?_
  refine KC.seq ?_
  refine KC.region ?_
  refine KT.step rfl rfl (K.loadOA [a, b, c] rfl rfl (by decide) Try.agg32 Try.size32 rfl) ?_
  rcases hxo : xOf pre post start with _ | fs
  · skip
    refine KT.step rfl rfl (K.call1 rfl plainTry_40 (explored40 hN0)) ?_
    obtain ⟨hxp, hxe⟩ := xOf_no hxo
    rw [hxp]
    refine KT.step rfl rfl (K.move rfl) ?_
    refine KT.step rfl rfl (K.extract rfl rfl) ?_
    refine KT.step rfl rfl (K.extract rfl rfl) ?_
    refine KT.step rfl rfl (K.extract rfl rfl) ?_
    refine KT.step rfl rfl (K.alloc Try.zero66) ?_
    refine KT.step rfl rfl (K.alloc Try.zero71) ?_
    refine KT.putAll (cs := ((DI 0 :: Dnil :: Dnil :: w6 fun _ => 0).map .d)) rfl rfl rfl rfl rfl rfl (by simp [zg, w6, sysC, Value.cells]) (by simp [w6, oneX, Value.oneCell']) Try.size66 ?_
    refine KT.putAll (cs := zg) rfl rfl rfl rfl rfl rfl (by simp [zg, w6, sysC, Value.cells]) rfl Try.size71 ?_
    refine KT.step rfl rfl (K.assign rfl) ?_
    refine KT.nil ?_
    refine thenK_n ?_
    refine KC.seq ?_
    refine KC.seq ?_
    refine KC.region ?_
    refine KT.step rfl rfl (K.move rfl) ?_
    refine KT.step rfl rfl (K.neq rfl rfl) ?_
    refine KT.nil ?_
    refine thenK_n ?_
    refine KC.cond rfl (fun hc15 => ?_) (fun hc15 => ?_)
    · skip
      replace hc15 := of_decide_eq_true hc15
      refine KC.seq ?_
      refine KC.region ?_
      refine KT.step rfl rfl (K.move rfl) ?_
      refine KT.step rfl rfl (K.assign rfl) ?_
      refine KT.step rfl rfl (K.assign rfl) ?_
      refine KT.nil ?_
      refine thenK_n ?_
      refine KC.ret ?_
      refine thenK_r ?_
      refine ⟨.inl rfl, _, rfl, ?_⟩
      unfold livV
      rw [hxo]; rfl
    · skip
      exact absurd hc15 (by rcases hxe with h | h <;> rw [h] <;> decide)
  · skip
    refine KT.step rfl rfl (K.call1 rfl plainTry_40 (explored40 hN0)) ?_
    obtain ⟨hv, hre, hxp, hxe⟩ := xOf_yes hxo
    rw [hxp]
    have hD := done_of hv hre
    have hN := NetOk.of hv
    have hp6 := hN.p6
    obtain ⟨hOk, hNl⟩ := next_ok hD
    obtain ⟨R, hRl, hR⟩ := sets_ex hOk
    have hlv := live_all hOk hRl hR
    have hR2 : R.length ≤ 2000 := by rw [hRl, nextN_len]; exact hD.le
    refine KT.step rfl rfl (K.move rfl) ?_
    refine KT.step rfl rfl (K.extract rfl rfl) ?_
    refine KT.step rfl rfl (K.extract rfl rfl) ?_
    refine KT.step rfl rfl (K.extract rfl rfl) ?_
    refine KT.step rfl rfl (K.alloc Try.zero66) ?_
    refine KT.step rfl rfl (K.alloc Try.zero71) ?_
    refine KT.putAll (cs := ((sysC start.length pre post start).map .d)) rfl rfl rfl rfl rfl rfl (by simp [zg, w6, sysC, Value.cells]) (by simp [sysC, w6, oneX, Value.oneCell']) Try.size66 ?_
    refine KT.putAll (cs := (([flV (fun m => w6 (tk m)) (marks fs), .mp ((idxM (marks fs)).map (·.1)) ((List.range fs.length).map fun i => DI ((i : Nat) : Int)), flV fdE fs, .sl ((nextN (nxN pre post) pre.length fs fs.length 0).map (flV arE)) (nextN (nxN pre post) pre.length fs fs.length 0).length none]).map .d)) rfl rfl rfl rfl rfl rfl (by simp [zg, w6, sysC, Value.cells]) one_gc Try.size71 ?_
    refine KT.step rfl rfl (K.assign rfl) ?_
    refine KT.nil ?_
    refine thenK_n ?_
    refine KC.seq ?_
    refine KC.seq ?_
    refine KC.region ?_
    refine KT.step rfl rfl (K.move rfl) ?_
    refine KT.step rfl rfl (K.neq rfl rfl) ?_
    refine KT.nil ?_
    refine thenK_n ?_
    refine KC.cond rfl (fun hc15 => ?_) (fun hc15 => ?_)
    · skip
      exact absurd hc15 (by decide)
    · skip
      replace hc15 := of_decide_eq_false hc15
      refine KC.skip ?_
      refine thenK_n ?_
      refine KC.seq ?_
      refine KC.region ?_
      refine KT.step rfl rfl (K.fieldAddrO rfl Try.fld32_0 Try.size22) ?_
      refine KT.step rfl rfl (K.loadO (y := .d a) rfl rfl (by simp) rfl Try.agg22) ?_
      refine KT.step rfl rfl (K.len rfl ha Try.underlying22) ?_
      refine KT.step rfl rfl (K.shl rfl rfl (by omega) (shlI (by omega))) ?_
      refine KT.step rfl rfl (K.sub rfl rfl (wrap_id (by have h1 := Nat.two_pow_pos pre.length; have h2 := pow_le6 hp6; generalize 2 ^ pre.length = k at h1 h2 ⊢; omega))) ?_
      refine KT.step rfl rfl (K.alloc Try.zero3) ?_
      refine KT.putAll (cs := [.d (DI (((2 ^ pre.length : Nat) : Int) - 1))]) rfl rfl rfl rfl rfl rfl (by simp [zg, w6, sysC, Value.cells]) rfl Try.size3 ?_
      refine KT.nil ?_
      refine thenK_n ?_
      refine KC.seq ?_
      refine KC.region ?_
      refine KT.step rfl rfl (K.loadOA [flV (fun m => w6 (tk m)) (marks fs), .mp ((idxM (marks fs)).map (·.1)) ((List.range fs.length).map fun i => DI ((i : Nat) : Int)), flV fdE fs, .sl ((nextN (nxN pre post) pre.length fs fs.length 0).map (flV arE)) (nextN (nxN pre post) pre.length fs fs.length 0).length none] rfl rfl (by decide) Try.agg71 Try.size71 rfl) ?_
      refine KT.step rfl rfl (K.call1 rfl plainTry_65 (fireable65 (by have := hD.le; omega) hp6 (nextN_len fs fs.length 0) (fun i h => Nat.le_trans (hNl i h) (by omega)) hOk hRl hR)) ?_
      refine KT.step rfl rfl (K.makeF (m := 0) rfl rfl rfl rfl) ?_
      have hri := nats_sl R (some R.length)
      refine KT.step rfl rfl (K.callZ [3] 5 rfl plainTry_64 (ds := [.sl (R.map fun n => DI (n : Nat)) R.length (some R.length), .fn (.func 66) [] [.ptr [DI (((2 ^ pre.length : Nat) : Int) - 1)]]]) rfl (containsFunc64 hri (by rw [natsI_len]; omega) plainTry_66 (fun _ => closure66))) ?_
      refine KT.step rfl rfl (K.not rfl) ?_
      refine KT.step rfl rfl (K.assign rfl) ?_
      refine KT.step rfl rfl (K.assign rfl) ?_
      refine KT.nil ?_
      refine thenK_n ?_
      refine KC.ret ?_
      refine ⟨.inl rfl, _, rfl, ?_⟩
      have hrb : (!((natsI R).any fun x => decide (x ≠ ((2 ^ pre.length : Nat) : Int) - 1))) = r := by
        refine Bool.eq_iff_iff.2 (Iff.trans ?_ (hr fs hxo).symm)
        rw [Bool.not_eq_true', any_live]
        exact hlv.symm
      unfold livV
      rw [hxo, hxe, hrb]; rfl
end Go.Proofs.Ytocgjopmlhpjdaa

