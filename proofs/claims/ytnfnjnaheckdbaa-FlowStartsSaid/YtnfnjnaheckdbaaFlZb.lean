import Derived.Test.YtnfnjnaheckdbaaFlZ
/-
  Dataflow graphs: Repeat of the reference, walked.
-/
namespace Go.Proofs.Ytnfnjnaheckdbaa
open Go.Vm Go.Fl

def rrD (n : Int) (L : List LZ) : DV := if (repA n L).2 = 0 then iD n.toNat (fun k => ((repA n L).1 k : Int)) else Dnil
theorem addTo_set {N b c : Nat} {R : Rat6} {q : Nat → Nat} (hb : b < N) (hk : knB (R b) = true) : (iX N fun a => ((addTo R c q b a : Nat) : Int)).set (0 + b) (.d (DI (((R b).1 * (c / (R b).2) : Nat)))) = iX N fun a => ((addTo R c q (b + 1) a : Nat) : Int) := by
  rw [iX_set _ hb]
  refine iX_congr fun k _ => ?_
  rw [← addTo_new hk]
  show _ = (((if k = b then (R b).1 * (c / (R b).2) else addTo R c q b k : Nat)) : Int)
  split <;> rfl
theorem addTo_get {N b c : Nat} {R : Rat6} {q : Nat → Nat} (hb : b < N) (hk : knB (R b) = true) : (iX N fun a => ((addTo R c q (b + 1) a : Nat) : Int))[0 + b]? = some (.d (DI (((R b).1 * (c / (R b).2) : Nat)))) := by
  rw [iX_get _ hb, ← addTo_new hk]
  show some (XV.d (DI (((if b = b then (R b).1 * (c / (R b).2) else addTo R c q b b : Nat)) : Int))) = _
  rw [if_pos rfl]
theorem same_set {N b : Nat} {f : Nat → Nat} (hb : b < N) : (iX N fun a => ((f a : Nat) : Int)).set (0 + b) (.d (DI ((f b / 1 : Nat)))) = iX N fun a => ((f a : Nat) : Int) := by
  rw [iX_set _ hb]
  refine iX_congr fun k _ => ?_
  rw [Nat.div_one]
  split
  · rename_i e; rw [e]
  · rfl
theorem rr_deep {σ : List VObj} {N : Nat} {q : Nat → Nat} (h : σ[1]? = some ⟨iX N fun a => ((q a : Nat) : Int), 0⟩) : deepen (freezeAll σ) 5 (.tup [.osl 1 0 N 1 N true, .d (DI 0)]) = some (.tup [iD N fun k => (q k : Int), DI 0]) := by
  have h1 : (freezeAll σ)[1]? = some ⟨((List.range N).map fun k => DI (q k : Nat)).map .d, 1⟩ := by simp [freezeAll, h, iX]
  have h2 : deepen (freezeAll σ) 4 (.osl 1 0 N 1 N true) = some (iD N fun k => (q k : Int)) := deepen_cells (ds := (List.range N).map fun k => DI (q k : Nat)) h1 rfl (by simp)
  show (([.osl 1 0 N 1 N true, .d (DI 0)] : List XV).mapM (deepen (freezeAll σ) 4)).map DV.tup = _
  rw [List.mapM_cons, List.mapM_cons, h2]; rfl
set_option maxHeartbeats 1000000 in
set_option maxRecDepth 10000 in
theorem rrepeat20 {d : DV} {n : Int} {L : List LZ} (hd : Lks d L) (hl : L.length ≤ 9223372036854775807) : DeepCall Try.prog 20 [.agg [DI n, d]] (.tup [rrD n L, DI (repA n L).2]) := by
  refine deepCall_K 5 Try.func20 rfl (Nat.le_of_ble_eq_true rfl) fun M W0 => ?_
  refine KC.seq ?_
  refine KC.region ?_
  refine KT.step rfl rfl (K.box rfl) ?_
  refine KT.step rfl rfl (K.assign rfl) ?_
  refine KT.step rfl rfl (K.assign rfl) ?_
  refine KT.nil ?_
  refine thenK_n ?_
  refine KC.seq ?_
  refine KC.seq ?_
  refine KC.region ?_
  refine KT.step rfl rfl (K.loadOA [DI n, d] rfl rfl (by decide) Try.agg24 Try.size24 rfl) ?_
  refine KT.step rfl rfl (K.call1 rfl plainTry_35 (rvalid35 hd hl)) ?_
  refine KT.step rfl rfl (K.not rfl) ?_
  refine KT.nil ?_
  refine thenK_n ?_
  refine KC.cond rfl (fun hc29 => ?_) (fun hc29 => ?_)
  · skip
    refine KC.seq ?_
    refine KC.region ?_
    refine KT.step rfl rfl (K.assign rfl) ?_
    refine KT.step rfl rfl (K.assign rfl) ?_
    refine KT.nil ?_
    refine thenK_n ?_
    refine KC.ret ?_
    refine thenK_r ?_
    have e : repA n L = (fun _ => 0, 2) := repA_bad (by simpa using hc29)
    refine ⟨.inl rfl, _, rfl, ?_⟩
    unfold rrD; rw [e]; rfl
  · skip
    have hv : validB n L = true := by simpa using hc29
    obtain ⟨N, Ln, hnN, hN1, hN6, hLn, hl2, hL⟩ := valid_nat hv
    subst hnN hLn
    have hd2 := hd
    clear hd hl
    rename List LN => L
    refine KC.skip ?_
    refine thenK_n ?_
    refine KC.seq ?_
    refine KC.region ?_
    refine KT.step rfl rfl (K.fieldAddrO rfl Try.fld24_0 Try.size3) ?_
    refine KT.step rfl rfl (K.loadO rfl rfl (by simp) rfl Try.agg3) ?_
    refine KT.step rfl rfl (K.make rfl rfl (Nat.le_refl _) (by omega) Try.underlying25 Try.one3) ?_
    rw [iX_zero]
    refine KT.step rfl rfl (K.assign rfl) ?_
    refine KT.nil ?_
    refine thenK_n ?_
    refine KC.seq ?_
    refine KC.seq ?_
    refine KC.region ?_
    refine KT.step rfl rfl (K.fieldAddrO rfl Try.fld24_0 Try.size3) ?_
    refine KT.step rfl rfl (K.loadO rfl rfl (by simp) rfl Try.agg3) ?_
    refine KT.step rfl rfl (K.move rfl) ?_
    refine KT.nil ?_
    refine thenK_n ?_
    refine KC.block ?_
    refine KC.loop (fun p : List VObj × Nat => p.1) (fun p => [(1, .optr 0 0), (4, .osl 1 0 N 1 N true), (34, .d (DI (N : Nat))), (35, .d (DI (p.2 : Nat)))]) (fun p => p.2 ≤ N ∧ p.1[0]? = some ⟨[.d (DI (N : Nat)), .d d], 0⟩ ∧ p.1[1]? = some ⟨iX N fun a => (((refFold L N p.2) a : Nat) : Int), 0⟩) (fun p => N - p.2) (_, 0) ⟨Nat.zero_le _, rfl, rfl⟩ rfl (by simp [Go.Vm.look, extK, enterK]) ?_
    intro p hp
    obtain ⟨σ0, i⟩ := p
    obtain ⟨hi, y0, y1⟩ := hp
    simp only at hi y0 y1 ⊢
    have g1 := (List.getElem?_eq_some_iff.1 y1).1
    refine KC.seq ?_
    refine KC.region ?_
    refine KT.step rfl rfl (K.lss rfl rfl) ?_
    refine KT.nil ?_
    refine thenK_n ?_
    refine KC.seq ?_
    refine KC.cond rfl (fun hc36 => ?_) (fun hc36 => ?_)
    · skip
      replace hc36 := of_decide_eq_true hc36
      have hiN : i < N := by omega
      refine KC.skip ?_
      refine thenK_n ?_
      refine KC.seq ?_
      refine KC.block ?_
      refine KC.seq ?_
      refine KC.region ?_
      refine KT.step rfl rfl (K.move rfl) ?_
      refine KT.step rfl rfl (K.assign rfl) ?_
      refine KT.nil ?_
      refine thenK_n ?_
      refine KC.seq ?_
      refine KC.seq ?_
      refine KC.region ?_
      refine KT.step rfl rfl (K.move rfl) ?_
      refine KT.step rfl rfl (K.move rfl) ?_
      refine KT.step rfl rfl (K.idxO rfl rfl hiN Try.underlying25 Try.size3) ?_
      refine KT.step rfl rfl (K.loadO rfl y1 (by simp) (iX_get _ hiN) Try.agg3) ?_
      refine KT.step rfl rfl (K.gtr rfl rfl) ?_
      refine KT.nil ?_
      refine thenK_n ?_
      refine KC.cond rfl (fun hc42 => ?_) (fun hc42 => ?_)
      · skip
        replace hc42 := of_decide_eq_true hc42
        refine KC.exit ?_
        refine thenK_x ?_
        refine blockK_e ?_
        refine thenK_n ?_
        refine KC.region ?_
        refine KT.step rfl rfl (K.add rfl rfl (oneN (by omega))) ?_
        refine KT.step rfl rfl (K.move rfl) ?_
        refine KT.nil ?_
        refine thenK_n ?_
        have e : refFold L N (i + 1) = refFold L N i := by
          show refStep L N i (refFold L N i) = _
          unfold refStep; rw [if_pos (by omega)]
        refine ⟨(σ0, i + 1), ⟨by simp only; omega, y0, ?_⟩, by simp only; omega, rfl, by simp [Go.Vm.look, extK]⟩
        simp only; rw [e]; exact y1
      · skip
        replace hc42 := of_decide_eq_false hc42
        refine KC.skip ?_
        refine thenK_n ?_
        refine KC.seq ?_
        refine KC.weaken (kn' := [(1, .optr 0 0), (4, .osl 1 0 N 1 N true), (5, .d (DI (i : Nat))), (34, .d (DI (N : Nat))), (35, .d (DI (i : Nat)))]) ?_ (by simp [Go.Vm.look, extK])
        refine KC.ordersN Try.mixed (m := 8) rfl (T' := fun e τ k => e = .normal ∧ ∃ p q, Two σ0 τ N p q ∧ ∀ e ∈ ([(6, .osl p 0 N 1 N true), (7, .osl q 0 N 1 N true), (1, .optr 0 0), (4, .osl 1 0 N 1 N true), (5, .d (DI (i : Nat))), (34, .d (DI (N : Nat))), (35, .d (DI (i : Nat)))] : Kn), Go.Vm.look k e.1 = some e.2) ?_ ?_
        · skip
          refine KA.next (i0 := 0) (r := [3]) (by kernel_rfl) ?_
          refine KAll.cons ?_ (KAll.cons ?_ KAll.nil)
          · refine KO.op rfl rfl rfl (K.fieldAddrO rfl Try.fld24_0 Try.size3) ?_
            refine KA.next (i0 := 1) (r := [3]) (by kernel_rfl) ?_
            refine KAll.cons ?_ (KAll.cons ?_ KAll.nil)
            · refine KO.op rfl rfl rfl (K.loadO rfl y0 (by simp) rfl Try.agg3) ?_
              refine KA.next (i0 := 2) (r := [3]) (by kernel_rfl) ?_
              refine KAll.cons ?_ (KAll.cons ?_ KAll.nil)
              · refine KO.op rfl rfl rfl (K.make rfl rfl (Nat.le_refl _) (by omega) Try.underlying25 Try.one3) ?_
                refine KA.next (i0 := 3) (r := [6]) (by kernel_rfl) ?_
                refine KAll.cons ?_ (KAll.cons ?_ KAll.nil)
                · refine KO.op rfl rfl rfl (K.fieldAddrO rfl Try.fld24_0 Try.size3) ?_
                  refine KA.next (i0 := 4) (r := [6]) (by kernel_rfl) ?_
                  refine KAll.cons ?_ (KAll.cons ?_ KAll.nil)
                  · refine KO.op rfl rfl rfl (K.loadO rfl ((List.getElem?_append_left (by first | omega | (simp only [List.length_append, List.length_cons, List.length_nil]; omega))).trans y0) (by simp) rfl Try.agg3) ?_
                    refine KA.next (i0 := 5) (r := [6]) (by kernel_rfl) ?_
                    refine KAll.cons ?_ (KAll.cons ?_ KAll.nil)
                    · refine KO.op rfl rfl rfl (K.make rfl rfl (Nat.le_refl _) (by omega) Try.underlying25 Try.one3) ?_
                      refine KA.next (i0 := 6) (r := []) (by kernel_rfl) ?_
                      refine KAll.cons ?_ KAll.nil
                      · refine KO.op rfl rfl rfl (K.assign rfl) ?_
                        refine KA.next (i0 := 7) (r := []) (by kernel_rfl) ?_
                        refine KAll.cons ?_ KAll.nil
                        · refine KO.op rfl rfl rfl (K.assign rfl) ?_
                          exact KA.done (by kernel_rfl) ⟨rfl, σ0.length, (σ0 ++ [zObj N]).length, two_new σ0 N, (by simp [Go.Vm.look, extK])⟩
                    · refine KO.op rfl rfl rfl (K.assign rfl) ?_
                      refine KA.next (i0 := 5) (r := []) (by kernel_rfl) ?_
                      refine KAll.cons ?_ KAll.nil
                      · refine KO.op rfl rfl rfl (K.make rfl rfl (Nat.le_refl _) (by omega) Try.underlying25 Try.one3) ?_
                        refine KA.next (i0 := 7) (r := []) (by kernel_rfl) ?_
                        refine KAll.cons ?_ KAll.nil
                        · refine KO.op rfl rfl rfl (K.assign rfl) ?_
                          exact KA.done (by kernel_rfl) ⟨rfl, σ0.length, (σ0 ++ [zObj N]).length, two_new σ0 N, (by simp [Go.Vm.look, extK])⟩
                  · refine KO.op rfl rfl rfl (K.assign rfl) ?_
                    refine KA.next (i0 := 4) (r := []) (by kernel_rfl) ?_
                    refine KAll.cons ?_ KAll.nil
                    · refine KO.op rfl rfl rfl (K.loadO rfl ((List.getElem?_append_left (by first | omega | (simp only [List.length_append, List.length_cons, List.length_nil]; omega))).trans y0) (by simp) rfl Try.agg3) ?_
                      refine KA.next (i0 := 5) (r := []) (by kernel_rfl) ?_
                      refine KAll.cons ?_ KAll.nil
                      · refine KO.op rfl rfl rfl (K.make rfl rfl (Nat.le_refl _) (by omega) Try.underlying25 Try.one3) ?_
                        refine KA.next (i0 := 7) (r := []) (by kernel_rfl) ?_
                        refine KAll.cons ?_ KAll.nil
                        · refine KO.op rfl rfl rfl (K.assign rfl) ?_
                          exact KA.done (by kernel_rfl) ⟨rfl, σ0.length, (σ0 ++ [zObj N]).length, two_new σ0 N, (by simp [Go.Vm.look, extK])⟩
                · refine KO.op rfl rfl rfl (K.assign rfl) ?_
                  refine KA.next (i0 := 3) (r := []) (by kernel_rfl) ?_
                  refine KAll.cons ?_ KAll.nil
                  · refine KO.op rfl rfl rfl (K.fieldAddrO rfl Try.fld24_0 Try.size3) ?_
                    refine KA.next (i0 := 4) (r := []) (by kernel_rfl) ?_
                    refine KAll.cons ?_ KAll.nil
                    · refine KO.op rfl rfl rfl (K.loadO rfl ((List.getElem?_append_left (by first | omega | (simp only [List.length_append, List.length_cons, List.length_nil]; omega))).trans y0) (by simp) rfl Try.agg3) ?_
                      refine KA.next (i0 := 5) (r := []) (by kernel_rfl) ?_
                      refine KAll.cons ?_ KAll.nil
                      · refine KO.op rfl rfl rfl (K.make rfl rfl (Nat.le_refl _) (by omega) Try.underlying25 Try.one3) ?_
                        refine KA.next (i0 := 7) (r := []) (by kernel_rfl) ?_
                        refine KAll.cons ?_ KAll.nil
                        · refine KO.op rfl rfl rfl (K.assign rfl) ?_
                          exact KA.done (by kernel_rfl) ⟨rfl, σ0.length, (σ0 ++ [zObj N]).length, two_new σ0 N, (by simp [Go.Vm.look, extK])⟩
              · refine KO.op rfl rfl rfl (K.fieldAddrO rfl Try.fld24_0 Try.size3) ?_
                refine KA.next (i0 := 2) (r := [4]) (by kernel_rfl) ?_
                refine KAll.cons ?_ (KAll.cons ?_ KAll.nil)
                · refine KO.op rfl rfl rfl (K.make rfl rfl (Nat.le_refl _) (by omega) Try.underlying25 Try.one3) ?_
                  refine KA.next (i0 := 4) (r := [6]) (by kernel_rfl) ?_
                  refine KAll.cons ?_ (KAll.cons ?_ KAll.nil)
                  · refine KO.op rfl rfl rfl (K.loadO rfl ((List.getElem?_append_left (by first | omega | (simp only [List.length_append, List.length_cons, List.length_nil]; omega))).trans y0) (by simp) rfl Try.agg3) ?_
                    refine KA.next (i0 := 5) (r := [6]) (by kernel_rfl) ?_
                    refine KAll.cons ?_ (KAll.cons ?_ KAll.nil)
                    · refine KO.op rfl rfl rfl (K.make rfl rfl (Nat.le_refl _) (by omega) Try.underlying25 Try.one3) ?_
                      refine KA.next (i0 := 6) (r := []) (by kernel_rfl) ?_
                      refine KAll.cons ?_ KAll.nil
                      · refine KO.op rfl rfl rfl (K.assign rfl) ?_
                        refine KA.next (i0 := 7) (r := []) (by kernel_rfl) ?_
                        refine KAll.cons ?_ KAll.nil
                        · refine KO.op rfl rfl rfl (K.assign rfl) ?_
                          exact KA.done (by kernel_rfl) ⟨rfl, σ0.length, (σ0 ++ [zObj N]).length, two_new σ0 N, (by simp [Go.Vm.look, extK])⟩
                    · refine KO.op rfl rfl rfl (K.assign rfl) ?_
                      refine KA.next (i0 := 5) (r := []) (by kernel_rfl) ?_
                      refine KAll.cons ?_ KAll.nil
                      · refine KO.op rfl rfl rfl (K.make rfl rfl (Nat.le_refl _) (by omega) Try.underlying25 Try.one3) ?_
                        refine KA.next (i0 := 7) (r := []) (by kernel_rfl) ?_
                        refine KAll.cons ?_ KAll.nil
                        · refine KO.op rfl rfl rfl (K.assign rfl) ?_
                          exact KA.done (by kernel_rfl) ⟨rfl, σ0.length, (σ0 ++ [zObj N]).length, two_new σ0 N, (by simp [Go.Vm.look, extK])⟩
                  · refine KO.op rfl rfl rfl (K.assign rfl) ?_
                    refine KA.next (i0 := 4) (r := []) (by kernel_rfl) ?_
                    refine KAll.cons ?_ KAll.nil
                    · refine KO.op rfl rfl rfl (K.loadO rfl ((List.getElem?_append_left (by first | omega | (simp only [List.length_append, List.length_cons, List.length_nil]; omega))).trans y0) (by simp) rfl Try.agg3) ?_
                      refine KA.next (i0 := 5) (r := []) (by kernel_rfl) ?_
                      refine KAll.cons ?_ KAll.nil
                      · refine KO.op rfl rfl rfl (K.make rfl rfl (Nat.le_refl _) (by omega) Try.underlying25 Try.one3) ?_
                        refine KA.next (i0 := 7) (r := []) (by kernel_rfl) ?_
                        refine KAll.cons ?_ KAll.nil
                        · refine KO.op rfl rfl rfl (K.assign rfl) ?_
                          exact KA.done (by kernel_rfl) ⟨rfl, σ0.length, (σ0 ++ [zObj N]).length, two_new σ0 N, (by simp [Go.Vm.look, extK])⟩
                · refine KO.op rfl rfl rfl (K.loadO rfl y0 (by simp) rfl Try.agg3) ?_
                  refine KA.next (i0 := 2) (r := [5]) (by kernel_rfl) ?_
                  refine KAll.cons ?_ (KAll.cons ?_ KAll.nil)
                  · refine KO.op rfl rfl rfl (K.make rfl rfl (Nat.le_refl _) (by omega) Try.underlying25 Try.one3) ?_
                    refine KA.next (i0 := 5) (r := [6]) (by kernel_rfl) ?_
                    refine KAll.cons ?_ (KAll.cons ?_ KAll.nil)
                    · refine KO.op rfl rfl rfl (K.make rfl rfl (Nat.le_refl _) (by omega) Try.underlying25 Try.one3) ?_
                      refine KA.next (i0 := 6) (r := []) (by kernel_rfl) ?_
                      refine KAll.cons ?_ KAll.nil
                      · refine KO.op rfl rfl rfl (K.assign rfl) ?_
                        refine KA.next (i0 := 7) (r := []) (by kernel_rfl) ?_
                        refine KAll.cons ?_ KAll.nil
                        · refine KO.op rfl rfl rfl (K.assign rfl) ?_
                          exact KA.done (by kernel_rfl) ⟨rfl, σ0.length, (σ0 ++ [zObj N]).length, two_new σ0 N, (by simp [Go.Vm.look, extK])⟩
                    · refine KO.op rfl rfl rfl (K.assign rfl) ?_
                      refine KA.next (i0 := 5) (r := []) (by kernel_rfl) ?_
                      refine KAll.cons ?_ KAll.nil
                      · refine KO.op rfl rfl rfl (K.make rfl rfl (Nat.le_refl _) (by omega) Try.underlying25 Try.one3) ?_
                        refine KA.next (i0 := 7) (r := []) (by kernel_rfl) ?_
                        refine KAll.cons ?_ KAll.nil
                        · refine KO.op rfl rfl rfl (K.assign rfl) ?_
                          exact KA.done (by kernel_rfl) ⟨rfl, σ0.length, (σ0 ++ [zObj N]).length, two_new σ0 N, (by simp [Go.Vm.look, extK])⟩
                  · refine KO.op rfl rfl rfl (K.make rfl rfl (Nat.le_refl _) (by omega) Try.underlying25 Try.one3) ?_
                    refine KA.next (i0 := 2) (r := []) (by kernel_rfl) ?_
                    refine KAll.cons ?_ KAll.nil
                    · refine KO.op rfl rfl rfl (K.make rfl rfl (Nat.le_refl _) (by omega) Try.underlying25 Try.one3) ?_
                      refine KA.next (i0 := 6) (r := []) (by kernel_rfl) ?_
                      refine KAll.cons ?_ KAll.nil
                      · refine KO.op rfl rfl rfl (K.assign rfl) ?_
                        refine KA.next (i0 := 7) (r := []) (by kernel_rfl) ?_
                        refine KAll.cons ?_ KAll.nil
                        · refine KO.op rfl rfl rfl (K.assign rfl) ?_
                          exact KA.done (by kernel_rfl) ⟨rfl, (σ0 ++ [zObj N]).length, σ0.length, two_new2 σ0 N, (by simp [Go.Vm.look, extK])⟩
            · refine KO.op rfl rfl rfl (K.fieldAddrO rfl Try.fld24_0 Try.size3) ?_
              refine KA.next (i0 := 1) (r := [4]) (by kernel_rfl) ?_
              refine KAll.cons ?_ (KAll.cons ?_ KAll.nil)
              · refine KO.op rfl rfl rfl (K.loadO rfl y0 (by simp) rfl Try.agg3) ?_
                refine KA.next (i0 := 2) (r := [4]) (by kernel_rfl) ?_
                refine KAll.cons ?_ (KAll.cons ?_ KAll.nil)
                · refine KO.op rfl rfl rfl (K.make rfl rfl (Nat.le_refl _) (by omega) Try.underlying25 Try.one3) ?_
                  refine KA.next (i0 := 4) (r := [6]) (by kernel_rfl) ?_
                  refine KAll.cons ?_ (KAll.cons ?_ KAll.nil)
                  · refine KO.op rfl rfl rfl (K.loadO rfl ((List.getElem?_append_left (by first | omega | (simp only [List.length_append, List.length_cons, List.length_nil]; omega))).trans y0) (by simp) rfl Try.agg3) ?_
                    refine KA.next (i0 := 5) (r := [6]) (by kernel_rfl) ?_
                    refine KAll.cons ?_ (KAll.cons ?_ KAll.nil)
                    · refine KO.op rfl rfl rfl (K.make rfl rfl (Nat.le_refl _) (by omega) Try.underlying25 Try.one3) ?_
                      refine KA.next (i0 := 6) (r := []) (by kernel_rfl) ?_
                      refine KAll.cons ?_ KAll.nil
                      · refine KO.op rfl rfl rfl (K.assign rfl) ?_
                        refine KA.next (i0 := 7) (r := []) (by kernel_rfl) ?_
                        refine KAll.cons ?_ KAll.nil
                        · refine KO.op rfl rfl rfl (K.assign rfl) ?_
                          exact KA.done (by kernel_rfl) ⟨rfl, σ0.length, (σ0 ++ [zObj N]).length, two_new σ0 N, (by simp [Go.Vm.look, extK])⟩
                    · refine KO.op rfl rfl rfl (K.assign rfl) ?_
                      refine KA.next (i0 := 5) (r := []) (by kernel_rfl) ?_
                      refine KAll.cons ?_ KAll.nil
                      · refine KO.op rfl rfl rfl (K.make rfl rfl (Nat.le_refl _) (by omega) Try.underlying25 Try.one3) ?_
                        refine KA.next (i0 := 7) (r := []) (by kernel_rfl) ?_
                        refine KAll.cons ?_ KAll.nil
                        · refine KO.op rfl rfl rfl (K.assign rfl) ?_
                          exact KA.done (by kernel_rfl) ⟨rfl, σ0.length, (σ0 ++ [zObj N]).length, two_new σ0 N, (by simp [Go.Vm.look, extK])⟩
                  · refine KO.op rfl rfl rfl (K.assign rfl) ?_
                    refine KA.next (i0 := 4) (r := []) (by kernel_rfl) ?_
                    refine KAll.cons ?_ KAll.nil
                    · refine KO.op rfl rfl rfl (K.loadO rfl ((List.getElem?_append_left (by first | omega | (simp only [List.length_append, List.length_cons, List.length_nil]; omega))).trans y0) (by simp) rfl Try.agg3) ?_
                      refine KA.next (i0 := 5) (r := []) (by kernel_rfl) ?_
                      refine KAll.cons ?_ KAll.nil
                      · refine KO.op rfl rfl rfl (K.make rfl rfl (Nat.le_refl _) (by omega) Try.underlying25 Try.one3) ?_
                        refine KA.next (i0 := 7) (r := []) (by kernel_rfl) ?_
                        refine KAll.cons ?_ KAll.nil
                        · refine KO.op rfl rfl rfl (K.assign rfl) ?_
                          exact KA.done (by kernel_rfl) ⟨rfl, σ0.length, (σ0 ++ [zObj N]).length, two_new σ0 N, (by simp [Go.Vm.look, extK])⟩
                · refine KO.op rfl rfl rfl (K.loadO rfl y0 (by simp) rfl Try.agg3) ?_
                  refine KA.next (i0 := 2) (r := [5]) (by kernel_rfl) ?_
                  refine KAll.cons ?_ (KAll.cons ?_ KAll.nil)
                  · refine KO.op rfl rfl rfl (K.make rfl rfl (Nat.le_refl _) (by omega) Try.underlying25 Try.one3) ?_
                    refine KA.next (i0 := 5) (r := [6]) (by kernel_rfl) ?_
                    refine KAll.cons ?_ (KAll.cons ?_ KAll.nil)
                    · refine KO.op rfl rfl rfl (K.make rfl rfl (Nat.le_refl _) (by omega) Try.underlying25 Try.one3) ?_
                      refine KA.next (i0 := 6) (r := []) (by kernel_rfl) ?_
                      refine KAll.cons ?_ KAll.nil
                      · refine KO.op rfl rfl rfl (K.assign rfl) ?_
                        refine KA.next (i0 := 7) (r := []) (by kernel_rfl) ?_
                        refine KAll.cons ?_ KAll.nil
                        · refine KO.op rfl rfl rfl (K.assign rfl) ?_
                          exact KA.done (by kernel_rfl) ⟨rfl, σ0.length, (σ0 ++ [zObj N]).length, two_new σ0 N, (by simp [Go.Vm.look, extK])⟩
                    · refine KO.op rfl rfl rfl (K.assign rfl) ?_
                      refine KA.next (i0 := 5) (r := []) (by kernel_rfl) ?_
                      refine KAll.cons ?_ KAll.nil
                      · refine KO.op rfl rfl rfl (K.make rfl rfl (Nat.le_refl _) (by omega) Try.underlying25 Try.one3) ?_
                        refine KA.next (i0 := 7) (r := []) (by kernel_rfl) ?_
                        refine KAll.cons ?_ KAll.nil
                        · refine KO.op rfl rfl rfl (K.assign rfl) ?_
                          exact KA.done (by kernel_rfl) ⟨rfl, σ0.length, (σ0 ++ [zObj N]).length, two_new σ0 N, (by simp [Go.Vm.look, extK])⟩
                  · refine KO.op rfl rfl rfl (K.make rfl rfl (Nat.le_refl _) (by omega) Try.underlying25 Try.one3) ?_
                    refine KA.next (i0 := 2) (r := []) (by kernel_rfl) ?_
                    refine KAll.cons ?_ KAll.nil
                    · refine KO.op rfl rfl rfl (K.make rfl rfl (Nat.le_refl _) (by omega) Try.underlying25 Try.one3) ?_
                      refine KA.next (i0 := 6) (r := []) (by kernel_rfl) ?_
                      refine KAll.cons ?_ KAll.nil
                      · refine KO.op rfl rfl rfl (K.assign rfl) ?_
                        refine KA.next (i0 := 7) (r := []) (by kernel_rfl) ?_
                        refine KAll.cons ?_ KAll.nil
                        · refine KO.op rfl rfl rfl (K.assign rfl) ?_
                          exact KA.done (by kernel_rfl) ⟨rfl, (σ0 ++ [zObj N]).length, σ0.length, two_new2 σ0 N, (by simp [Go.Vm.look, extK])⟩
              · refine KO.op rfl rfl rfl (K.loadO rfl y0 (by simp) rfl Try.agg3) ?_
                refine KA.next (i0 := 1) (r := [5]) (by kernel_rfl) ?_
                refine KAll.cons ?_ (KAll.cons ?_ KAll.nil)
                · refine KO.op rfl rfl rfl (K.loadO rfl y0 (by simp) rfl Try.agg3) ?_
                  refine KA.next (i0 := 2) (r := [5]) (by kernel_rfl) ?_
                  refine KAll.cons ?_ (KAll.cons ?_ KAll.nil)
                  · refine KO.op rfl rfl rfl (K.make rfl rfl (Nat.le_refl _) (by omega) Try.underlying25 Try.one3) ?_
                    refine KA.next (i0 := 5) (r := [6]) (by kernel_rfl) ?_
                    refine KAll.cons ?_ (KAll.cons ?_ KAll.nil)
                    · refine KO.op rfl rfl rfl (K.make rfl rfl (Nat.le_refl _) (by omega) Try.underlying25 Try.one3) ?_
                      refine KA.next (i0 := 6) (r := []) (by kernel_rfl) ?_
                      refine KAll.cons ?_ KAll.nil
                      · refine KO.op rfl rfl rfl (K.assign rfl) ?_
                        refine KA.next (i0 := 7) (r := []) (by kernel_rfl) ?_
                        refine KAll.cons ?_ KAll.nil
                        · refine KO.op rfl rfl rfl (K.assign rfl) ?_
                          exact KA.done (by kernel_rfl) ⟨rfl, σ0.length, (σ0 ++ [zObj N]).length, two_new σ0 N, (by simp [Go.Vm.look, extK])⟩
                    · refine KO.op rfl rfl rfl (K.assign rfl) ?_
                      refine KA.next (i0 := 5) (r := []) (by kernel_rfl) ?_
                      refine KAll.cons ?_ KAll.nil
                      · refine KO.op rfl rfl rfl (K.make rfl rfl (Nat.le_refl _) (by omega) Try.underlying25 Try.one3) ?_
                        refine KA.next (i0 := 7) (r := []) (by kernel_rfl) ?_
                        refine KAll.cons ?_ KAll.nil
                        · refine KO.op rfl rfl rfl (K.assign rfl) ?_
                          exact KA.done (by kernel_rfl) ⟨rfl, σ0.length, (σ0 ++ [zObj N]).length, two_new σ0 N, (by simp [Go.Vm.look, extK])⟩
                  · refine KO.op rfl rfl rfl (K.make rfl rfl (Nat.le_refl _) (by omega) Try.underlying25 Try.one3) ?_
                    refine KA.next (i0 := 2) (r := []) (by kernel_rfl) ?_
                    refine KAll.cons ?_ KAll.nil
                    · refine KO.op rfl rfl rfl (K.make rfl rfl (Nat.le_refl _) (by omega) Try.underlying25 Try.one3) ?_
                      refine KA.next (i0 := 6) (r := []) (by kernel_rfl) ?_
                      refine KAll.cons ?_ KAll.nil
                      · refine KO.op rfl rfl rfl (K.assign rfl) ?_
                        refine KA.next (i0 := 7) (r := []) (by kernel_rfl) ?_
                        refine KAll.cons ?_ KAll.nil
                        · refine KO.op rfl rfl rfl (K.assign rfl) ?_
                          exact KA.done (by kernel_rfl) ⟨rfl, (σ0 ++ [zObj N]).length, σ0.length, two_new2 σ0 N, (by simp [Go.Vm.look, extK])⟩
                · refine KO.op rfl rfl rfl (K.make rfl rfl (Nat.le_refl _) (by omega) Try.underlying25 Try.one3) ?_
                  refine KA.next (i0 := 1) (r := []) (by kernel_rfl) ?_
                  refine KAll.cons ?_ KAll.nil
                  · refine KO.op rfl rfl rfl (K.loadO rfl ((List.getElem?_append_left (by first | omega | (simp only [List.length_append, List.length_cons, List.length_nil]; omega))).trans y0) (by simp) rfl Try.agg3) ?_
                    refine KA.next (i0 := 2) (r := []) (by kernel_rfl) ?_
                    refine KAll.cons ?_ KAll.nil
                    · refine KO.op rfl rfl rfl (K.make rfl rfl (Nat.le_refl _) (by omega) Try.underlying25 Try.one3) ?_
                      refine KA.next (i0 := 6) (r := []) (by kernel_rfl) ?_
                      refine KAll.cons ?_ KAll.nil
                      · refine KO.op rfl rfl rfl (K.assign rfl) ?_
                        refine KA.next (i0 := 7) (r := []) (by kernel_rfl) ?_
                        refine KAll.cons ?_ KAll.nil
                        · refine KO.op rfl rfl rfl (K.assign rfl) ?_
                          exact KA.done (by kernel_rfl) ⟨rfl, (σ0 ++ [zObj N]).length, σ0.length, two_new2 σ0 N, (by simp [Go.Vm.look, extK])⟩
          · refine KO.op rfl rfl rfl (K.fieldAddrO rfl Try.fld24_0 Try.size3) ?_
            refine KA.next (i0 := 0) (r := [4]) (by kernel_rfl) ?_
            refine KAll.cons ?_ (KAll.cons ?_ KAll.nil)
            · refine KO.op rfl rfl rfl (K.fieldAddrO rfl Try.fld24_0 Try.size3) ?_
              refine KA.next (i0 := 1) (r := [4]) (by kernel_rfl) ?_
              refine KAll.cons ?_ (KAll.cons ?_ KAll.nil)
              · refine KO.op rfl rfl rfl (K.loadO rfl y0 (by simp) rfl Try.agg3) ?_
                refine KA.next (i0 := 2) (r := [4]) (by kernel_rfl) ?_
                refine KAll.cons ?_ (KAll.cons ?_ KAll.nil)
                · refine KO.op rfl rfl rfl (K.make rfl rfl (Nat.le_refl _) (by omega) Try.underlying25 Try.one3) ?_
                  refine KA.next (i0 := 4) (r := [6]) (by kernel_rfl) ?_
                  refine KAll.cons ?_ (KAll.cons ?_ KAll.nil)
                  · refine KO.op rfl rfl rfl (K.loadO rfl ((List.getElem?_append_left (by first | omega | (simp only [List.length_append, List.length_cons, List.length_nil]; omega))).trans y0) (by simp) rfl Try.agg3) ?_
                    refine KA.next (i0 := 5) (r := [6]) (by kernel_rfl) ?_
                    refine KAll.cons ?_ (KAll.cons ?_ KAll.nil)
                    · refine KO.op rfl rfl rfl (K.make rfl rfl (Nat.le_refl _) (by omega) Try.underlying25 Try.one3) ?_
                      refine KA.next (i0 := 6) (r := []) (by kernel_rfl) ?_
                      refine KAll.cons ?_ KAll.nil
                      · refine KO.op rfl rfl rfl (K.assign rfl) ?_
                        refine KA.next (i0 := 7) (r := []) (by kernel_rfl) ?_
                        refine KAll.cons ?_ KAll.nil
                        · refine KO.op rfl rfl rfl (K.assign rfl) ?_
                          exact KA.done (by kernel_rfl) ⟨rfl, σ0.length, (σ0 ++ [zObj N]).length, two_new σ0 N, (by simp [Go.Vm.look, extK])⟩
                    · refine KO.op rfl rfl rfl (K.assign rfl) ?_
                      refine KA.next (i0 := 5) (r := []) (by kernel_rfl) ?_
                      refine KAll.cons ?_ KAll.nil
                      · refine KO.op rfl rfl rfl (K.make rfl rfl (Nat.le_refl _) (by omega) Try.underlying25 Try.one3) ?_
                        refine KA.next (i0 := 7) (r := []) (by kernel_rfl) ?_
                        refine KAll.cons ?_ KAll.nil
                        · refine KO.op rfl rfl rfl (K.assign rfl) ?_
                          exact KA.done (by kernel_rfl) ⟨rfl, σ0.length, (σ0 ++ [zObj N]).length, two_new σ0 N, (by simp [Go.Vm.look, extK])⟩
                  · refine KO.op rfl rfl rfl (K.assign rfl) ?_
                    refine KA.next (i0 := 4) (r := []) (by kernel_rfl) ?_
                    refine KAll.cons ?_ KAll.nil
                    · refine KO.op rfl rfl rfl (K.loadO rfl ((List.getElem?_append_left (by first | omega | (simp only [List.length_append, List.length_cons, List.length_nil]; omega))).trans y0) (by simp) rfl Try.agg3) ?_
                      refine KA.next (i0 := 5) (r := []) (by kernel_rfl) ?_
                      refine KAll.cons ?_ KAll.nil
                      · refine KO.op rfl rfl rfl (K.make rfl rfl (Nat.le_refl _) (by omega) Try.underlying25 Try.one3) ?_
                        refine KA.next (i0 := 7) (r := []) (by kernel_rfl) ?_
                        refine KAll.cons ?_ KAll.nil
                        · refine KO.op rfl rfl rfl (K.assign rfl) ?_
                          exact KA.done (by kernel_rfl) ⟨rfl, σ0.length, (σ0 ++ [zObj N]).length, two_new σ0 N, (by simp [Go.Vm.look, extK])⟩
                · refine KO.op rfl rfl rfl (K.loadO rfl y0 (by simp) rfl Try.agg3) ?_
                  refine KA.next (i0 := 2) (r := [5]) (by kernel_rfl) ?_
                  refine KAll.cons ?_ (KAll.cons ?_ KAll.nil)
                  · refine KO.op rfl rfl rfl (K.make rfl rfl (Nat.le_refl _) (by omega) Try.underlying25 Try.one3) ?_
                    refine KA.next (i0 := 5) (r := [6]) (by kernel_rfl) ?_
                    refine KAll.cons ?_ (KAll.cons ?_ KAll.nil)
                    · refine KO.op rfl rfl rfl (K.make rfl rfl (Nat.le_refl _) (by omega) Try.underlying25 Try.one3) ?_
                      refine KA.next (i0 := 6) (r := []) (by kernel_rfl) ?_
                      refine KAll.cons ?_ KAll.nil
                      · refine KO.op rfl rfl rfl (K.assign rfl) ?_
                        refine KA.next (i0 := 7) (r := []) (by kernel_rfl) ?_
                        refine KAll.cons ?_ KAll.nil
                        · refine KO.op rfl rfl rfl (K.assign rfl) ?_
                          exact KA.done (by kernel_rfl) ⟨rfl, σ0.length, (σ0 ++ [zObj N]).length, two_new σ0 N, (by simp [Go.Vm.look, extK])⟩
                    · refine KO.op rfl rfl rfl (K.assign rfl) ?_
                      refine KA.next (i0 := 5) (r := []) (by kernel_rfl) ?_
                      refine KAll.cons ?_ KAll.nil
                      · refine KO.op rfl rfl rfl (K.make rfl rfl (Nat.le_refl _) (by omega) Try.underlying25 Try.one3) ?_
                        refine KA.next (i0 := 7) (r := []) (by kernel_rfl) ?_
                        refine KAll.cons ?_ KAll.nil
                        · refine KO.op rfl rfl rfl (K.assign rfl) ?_
                          exact KA.done (by kernel_rfl) ⟨rfl, σ0.length, (σ0 ++ [zObj N]).length, two_new σ0 N, (by simp [Go.Vm.look, extK])⟩
                  · refine KO.op rfl rfl rfl (K.make rfl rfl (Nat.le_refl _) (by omega) Try.underlying25 Try.one3) ?_
                    refine KA.next (i0 := 2) (r := []) (by kernel_rfl) ?_
                    refine KAll.cons ?_ KAll.nil
                    · refine KO.op rfl rfl rfl (K.make rfl rfl (Nat.le_refl _) (by omega) Try.underlying25 Try.one3) ?_
                      refine KA.next (i0 := 6) (r := []) (by kernel_rfl) ?_
                      refine KAll.cons ?_ KAll.nil
                      · refine KO.op rfl rfl rfl (K.assign rfl) ?_
                        refine KA.next (i0 := 7) (r := []) (by kernel_rfl) ?_
                        refine KAll.cons ?_ KAll.nil
                        · refine KO.op rfl rfl rfl (K.assign rfl) ?_
                          exact KA.done (by kernel_rfl) ⟨rfl, (σ0 ++ [zObj N]).length, σ0.length, two_new2 σ0 N, (by simp [Go.Vm.look, extK])⟩
              · refine KO.op rfl rfl rfl (K.loadO rfl y0 (by simp) rfl Try.agg3) ?_
                refine KA.next (i0 := 1) (r := [5]) (by kernel_rfl) ?_
                refine KAll.cons ?_ (KAll.cons ?_ KAll.nil)
                · refine KO.op rfl rfl rfl (K.loadO rfl y0 (by simp) rfl Try.agg3) ?_
                  refine KA.next (i0 := 2) (r := [5]) (by kernel_rfl) ?_
                  refine KAll.cons ?_ (KAll.cons ?_ KAll.nil)
                  · refine KO.op rfl rfl rfl (K.make rfl rfl (Nat.le_refl _) (by omega) Try.underlying25 Try.one3) ?_
                    refine KA.next (i0 := 5) (r := [6]) (by kernel_rfl) ?_
                    refine KAll.cons ?_ (KAll.cons ?_ KAll.nil)
                    · refine KO.op rfl rfl rfl (K.make rfl rfl (Nat.le_refl _) (by omega) Try.underlying25 Try.one3) ?_
                      refine KA.next (i0 := 6) (r := []) (by kernel_rfl) ?_
                      refine KAll.cons ?_ KAll.nil
                      · refine KO.op rfl rfl rfl (K.assign rfl) ?_
                        refine KA.next (i0 := 7) (r := []) (by kernel_rfl) ?_
                        refine KAll.cons ?_ KAll.nil
                        · refine KO.op rfl rfl rfl (K.assign rfl) ?_
                          exact KA.done (by kernel_rfl) ⟨rfl, σ0.length, (σ0 ++ [zObj N]).length, two_new σ0 N, (by simp [Go.Vm.look, extK])⟩
                    · refine KO.op rfl rfl rfl (K.assign rfl) ?_
                      refine KA.next (i0 := 5) (r := []) (by kernel_rfl) ?_
                      refine KAll.cons ?_ KAll.nil
                      · refine KO.op rfl rfl rfl (K.make rfl rfl (Nat.le_refl _) (by omega) Try.underlying25 Try.one3) ?_
                        refine KA.next (i0 := 7) (r := []) (by kernel_rfl) ?_
                        refine KAll.cons ?_ KAll.nil
                        · refine KO.op rfl rfl rfl (K.assign rfl) ?_
                          exact KA.done (by kernel_rfl) ⟨rfl, σ0.length, (σ0 ++ [zObj N]).length, two_new σ0 N, (by simp [Go.Vm.look, extK])⟩
                  · refine KO.op rfl rfl rfl (K.make rfl rfl (Nat.le_refl _) (by omega) Try.underlying25 Try.one3) ?_
                    refine KA.next (i0 := 2) (r := []) (by kernel_rfl) ?_
                    refine KAll.cons ?_ KAll.nil
                    · refine KO.op rfl rfl rfl (K.make rfl rfl (Nat.le_refl _) (by omega) Try.underlying25 Try.one3) ?_
                      refine KA.next (i0 := 6) (r := []) (by kernel_rfl) ?_
                      refine KAll.cons ?_ KAll.nil
                      · refine KO.op rfl rfl rfl (K.assign rfl) ?_
                        refine KA.next (i0 := 7) (r := []) (by kernel_rfl) ?_
                        refine KAll.cons ?_ KAll.nil
                        · refine KO.op rfl rfl rfl (K.assign rfl) ?_
                          exact KA.done (by kernel_rfl) ⟨rfl, (σ0 ++ [zObj N]).length, σ0.length, two_new2 σ0 N, (by simp [Go.Vm.look, extK])⟩
                · refine KO.op rfl rfl rfl (K.make rfl rfl (Nat.le_refl _) (by omega) Try.underlying25 Try.one3) ?_
                  refine KA.next (i0 := 1) (r := []) (by kernel_rfl) ?_
                  refine KAll.cons ?_ KAll.nil
                  · refine KO.op rfl rfl rfl (K.loadO rfl ((List.getElem?_append_left (by first | omega | (simp only [List.length_append, List.length_cons, List.length_nil]; omega))).trans y0) (by simp) rfl Try.agg3) ?_
                    refine KA.next (i0 := 2) (r := []) (by kernel_rfl) ?_
                    refine KAll.cons ?_ KAll.nil
                    · refine KO.op rfl rfl rfl (K.make rfl rfl (Nat.le_refl _) (by omega) Try.underlying25 Try.one3) ?_
                      refine KA.next (i0 := 6) (r := []) (by kernel_rfl) ?_
                      refine KAll.cons ?_ KAll.nil
                      · refine KO.op rfl rfl rfl (K.assign rfl) ?_
                        refine KA.next (i0 := 7) (r := []) (by kernel_rfl) ?_
                        refine KAll.cons ?_ KAll.nil
                        · refine KO.op rfl rfl rfl (K.assign rfl) ?_
                          exact KA.done (by kernel_rfl) ⟨rfl, (σ0 ++ [zObj N]).length, σ0.length, two_new2 σ0 N, (by simp [Go.Vm.look, extK])⟩
            · refine KO.op rfl rfl rfl (K.loadO rfl y0 (by simp) rfl Try.agg3) ?_
              refine KA.next (i0 := 0) (r := [5]) (by kernel_rfl) ?_
              refine KAll.cons ?_ (KAll.cons ?_ KAll.nil)
              · refine KO.op rfl rfl rfl (K.fieldAddrO rfl Try.fld24_0 Try.size3) ?_
                refine KA.next (i0 := 1) (r := [5]) (by kernel_rfl) ?_
                refine KAll.cons ?_ (KAll.cons ?_ KAll.nil)
                · refine KO.op rfl rfl rfl (K.loadO rfl y0 (by simp) rfl Try.agg3) ?_
                  refine KA.next (i0 := 2) (r := [5]) (by kernel_rfl) ?_
                  refine KAll.cons ?_ (KAll.cons ?_ KAll.nil)
                  · refine KO.op rfl rfl rfl (K.make rfl rfl (Nat.le_refl _) (by omega) Try.underlying25 Try.one3) ?_
                    refine KA.next (i0 := 5) (r := [6]) (by kernel_rfl) ?_
                    refine KAll.cons ?_ (KAll.cons ?_ KAll.nil)
                    · refine KO.op rfl rfl rfl (K.make rfl rfl (Nat.le_refl _) (by omega) Try.underlying25 Try.one3) ?_
                      refine KA.next (i0 := 6) (r := []) (by kernel_rfl) ?_
                      refine KAll.cons ?_ KAll.nil
                      · refine KO.op rfl rfl rfl (K.assign rfl) ?_
                        refine KA.next (i0 := 7) (r := []) (by kernel_rfl) ?_
                        refine KAll.cons ?_ KAll.nil
                        · refine KO.op rfl rfl rfl (K.assign rfl) ?_
                          exact KA.done (by kernel_rfl) ⟨rfl, σ0.length, (σ0 ++ [zObj N]).length, two_new σ0 N, (by simp [Go.Vm.look, extK])⟩
                    · refine KO.op rfl rfl rfl (K.assign rfl) ?_
                      refine KA.next (i0 := 5) (r := []) (by kernel_rfl) ?_
                      refine KAll.cons ?_ KAll.nil
                      · refine KO.op rfl rfl rfl (K.make rfl rfl (Nat.le_refl _) (by omega) Try.underlying25 Try.one3) ?_
                        refine KA.next (i0 := 7) (r := []) (by kernel_rfl) ?_
                        refine KAll.cons ?_ KAll.nil
                        · refine KO.op rfl rfl rfl (K.assign rfl) ?_
                          exact KA.done (by kernel_rfl) ⟨rfl, σ0.length, (σ0 ++ [zObj N]).length, two_new σ0 N, (by simp [Go.Vm.look, extK])⟩
                  · refine KO.op rfl rfl rfl (K.make rfl rfl (Nat.le_refl _) (by omega) Try.underlying25 Try.one3) ?_
                    refine KA.next (i0 := 2) (r := []) (by kernel_rfl) ?_
                    refine KAll.cons ?_ KAll.nil
                    · refine KO.op rfl rfl rfl (K.make rfl rfl (Nat.le_refl _) (by omega) Try.underlying25 Try.one3) ?_
                      refine KA.next (i0 := 6) (r := []) (by kernel_rfl) ?_
                      refine KAll.cons ?_ KAll.nil
                      · refine KO.op rfl rfl rfl (K.assign rfl) ?_
                        refine KA.next (i0 := 7) (r := []) (by kernel_rfl) ?_
                        refine KAll.cons ?_ KAll.nil
                        · refine KO.op rfl rfl rfl (K.assign rfl) ?_
                          exact KA.done (by kernel_rfl) ⟨rfl, (σ0 ++ [zObj N]).length, σ0.length, two_new2 σ0 N, (by simp [Go.Vm.look, extK])⟩
                · refine KO.op rfl rfl rfl (K.make rfl rfl (Nat.le_refl _) (by omega) Try.underlying25 Try.one3) ?_
                  refine KA.next (i0 := 1) (r := []) (by kernel_rfl) ?_
                  refine KAll.cons ?_ KAll.nil
                  · refine KO.op rfl rfl rfl (K.loadO rfl ((List.getElem?_append_left (by first | omega | (simp only [List.length_append, List.length_cons, List.length_nil]; omega))).trans y0) (by simp) rfl Try.agg3) ?_
                    refine KA.next (i0 := 2) (r := []) (by kernel_rfl) ?_
                    refine KAll.cons ?_ KAll.nil
                    · refine KO.op rfl rfl rfl (K.make rfl rfl (Nat.le_refl _) (by omega) Try.underlying25 Try.one3) ?_
                      refine KA.next (i0 := 6) (r := []) (by kernel_rfl) ?_
                      refine KAll.cons ?_ KAll.nil
                      · refine KO.op rfl rfl rfl (K.assign rfl) ?_
                        refine KA.next (i0 := 7) (r := []) (by kernel_rfl) ?_
                        refine KAll.cons ?_ KAll.nil
                        · refine KO.op rfl rfl rfl (K.assign rfl) ?_
                          exact KA.done (by kernel_rfl) ⟨rfl, (σ0 ++ [zObj N]).length, σ0.length, two_new2 σ0 N, (by simp [Go.Vm.look, extK])⟩
              · refine KO.op rfl rfl rfl (K.make rfl rfl (Nat.le_refl _) (by omega) Try.underlying25 Try.one3) ?_
                refine KA.next (i0 := 0) (r := []) (by kernel_rfl) ?_
                refine KAll.cons ?_ KAll.nil
                · refine KO.op rfl rfl rfl (K.fieldAddrO rfl Try.fld24_0 Try.size3) ?_
                  refine KA.next (i0 := 1) (r := []) (by kernel_rfl) ?_
                  refine KAll.cons ?_ KAll.nil
                  · refine KO.op rfl rfl rfl (K.loadO rfl ((List.getElem?_append_left (by first | omega | (simp only [List.length_append, List.length_cons, List.length_nil]; omega))).trans y0) (by simp) rfl Try.agg3) ?_
                    refine KA.next (i0 := 2) (r := []) (by kernel_rfl) ?_
                    refine KAll.cons ?_ KAll.nil
                    · refine KO.op rfl rfl rfl (K.make rfl rfl (Nat.le_refl _) (by omega) Try.underlying25 Try.one3) ?_
                      refine KA.next (i0 := 6) (r := []) (by kernel_rfl) ?_
                      refine KAll.cons ?_ KAll.nil
                      · refine KO.op rfl rfl rfl (K.assign rfl) ?_
                        refine KA.next (i0 := 7) (r := []) (by kernel_rfl) ?_
                        refine KAll.cons ?_ KAll.nil
                        · refine KO.op rfl rfl rfl (K.assign rfl) ?_
                          exact KA.done (by kernel_rfl) ⟨rfl, (σ0 ++ [zObj N]).length, σ0.length, two_new2 σ0 N, (by simp [Go.Vm.look, extK])⟩
        rintro e τ k ⟨rfl, p, q, ⟨hp, hq, hpq, x6, x7, v0⟩, hlk⟩
        replace y0 := (v0 0 (by omega)).trans y0
        replace y1 := (v0 1 (by omega)).trans y1
        have hp2 : 2 ≤ p := by omega
        have hq2 : 2 ≤ q := by omega
        clear v0 hp hq g1
        refine thenK_n ?_
        refine KC.seq ?_
        refine KC.weaken ?_ hlk
        refine KC.region ?_
        refine KT.step rfl rfl (K.move rfl) ?_
        refine KT.step rfl rfl (K.move rfl) ?_
        refine KT.step rfl rfl (K.move rfl) ?_
        refine KT.step rfl rfl (K.move rfl) ?_
        refine KT.step rfl rfl (K.idxO rfl rfl hiN Try.underlying25 Try.size3) ?_
        refine KT.storeG rfl rfl rfl rfl x6 (by rw [iX_len]; omega) rfl rfl Try.size3 fun σ1 l1 u1 v1 => ?_
        replace y0 := (v1 0 (by omega)).trans y0
        replace y1 := (v1 1 (by omega)).trans y1
        replace x7 := (v1 q (by omega)).trans x7
        replace x6 := u1.trans (congrArg (fun c => some (VObj.mk c 0)) (start_num hiN))
        refine KT.step rfl rfl (K.idxO rfl rfl hiN Try.underlying25 Try.size3) ?_
        refine KT.storeG rfl rfl rfl rfl x7 (by rw [iX_len]; omega) rfl rfl Try.size3 fun σ2 l2 u2 v2 => ?_
        replace y0 := (v2 0 (by omega)).trans y0
        replace y1 := (v2 1 (by omega)).trans y1
        replace x6 := (v2 p (by omega)).trans x6
        replace x7 := u2.trans (congrArg (fun c => some (VObj.mk c 0)) (start_den hiN))
        refine KT.nil ?_
        refine thenK_n ?_
        refine KC.seq ?_
        refine KC.seq ?_
        refine KC.region ?_
        refine KT.step rfl rfl (K.fieldAddrO rfl Try.fld24_0 Try.size3) ?_
        refine KT.step rfl rfl (K.loadO rfl y0 (by simp) rfl Try.agg3) ?_
        refine KT.step rfl rfl (K.move rfl) ?_
        refine KT.nil ?_
        refine thenK_n ?_
        refine KC.block ?_
        refine KC.loop (fun z : List VObj × Rat6 × Nat => z.1) (fun z => [(1, .optr 0 0), (4, .osl 1 0 N 1 N true), (5, .d (DI (i : Nat))), (6, .osl p 0 N 1 N true), (7, .osl q 0 N 1 N true), (34, .d (DI (N : Nat))), (35, .d (DI (i : Nat))), (56, .d (DI (N : Nat))), (57, .d (DI (z.2.2 : Nat)))]) (fun z => z.2.2 ≤ N ∧ z.1[0]? = some ⟨[.d (DI (N : Nat)), .d d], 0⟩ ∧ z.1[1]? = some ⟨iX N fun a => (((refFold L N i) a : Nat) : Int), 0⟩ ∧ z.1[p]? = some ⟨iX N fun a => (((z.2.1) a).1 : Int), 0⟩ ∧ z.1[q]? = some ⟨iX N fun a => (((z.2.1) a).2 : Int), 0⟩ ∧ GoodR N z.2.1 ∧ z.2.1 = roundsR L z.2.2 (startR i)) (fun z => N - z.2.2) (σ2, startR i, 0) ⟨Nat.zero_le _, y0, y1, x6, x7, (start_good hN6 hiN).1, rfl⟩ rfl (by simp [Go.Vm.look, extK]) ?_
        clear y0 y1 x6 x7
        intro z hz
        obtain ⟨σ0, R, m⟩ := z
        obtain ⟨hm, y0, y1, x6, x7, hG, hR⟩ := hz
        simp only at hm y0 y1 x6 x7 hG hR ⊢
        refine KC.seq ?_
        refine KC.region ?_
        refine KT.step rfl rfl (K.lss rfl rfl) ?_
        refine KT.nil ?_
        refine thenK_n ?_
        refine KC.seq ?_
        refine KC.cond rfl (fun hc58 => ?_) (fun hc58 => ?_)
        · skip
          replace hc58 := of_decide_eq_true hc58
          refine KC.skip ?_
          refine thenK_n ?_
          refine KC.seq ?_
          refine KC.block ?_
          refine KC.seq ?_
          refine KC.region ?_
          refine KT.step rfl rfl (K.fieldAddrO rfl Try.fld24_1 Try.size22) ?_
          refine KT.step rfl rfl (K.loadO rfl y0 (by simp) rfl Try.agg22) ?_
          refine KT.step rfl rfl (K.lenN rfl hd2 Try.underlying22) ?_
          refine KT.step rfl rfl (K.move rfl) ?_
          refine KT.nil ?_
          refine thenK_n ?_
          refine KC.block ?_
          refine KC.loop (fun z : List VObj × Nat => z.1) (fun z => [(1, .optr 0 0), (4, .osl 1 0 N 1 N true), (5, .d (DI (i : Nat))), (6, .osl p 0 N 1 N true), (7, .osl q 0 N 1 N true), (34, .d (DI (N : Nat))), (35, .d (DI (i : Nat))), (56, .d (DI (N : Nat))), (57, .d (DI (m : Nat))), (60, .d d), (61, .d (DI (L.length : Nat))), (62, .d (DI (z.2 : Nat)))]) (fun z => z.2 ≤ L.length ∧ z.1[0]? = some ⟨[.d (DI (N : Nat)), .d d], 0⟩ ∧ z.1[1]? = some ⟨iX N fun a => (((refFold L N i) a : Nat) : Int), 0⟩ ∧ z.1[p]? = some ⟨iX N fun a => (((((L.take z.2).foldl stepR (R, false)).1) a).1 : Int), 0⟩ ∧ z.1[q]? = some ⟨iX N fun a => (((((L.take z.2).foldl stepR (R, false)).1) a).2 : Int), 0⟩ ∧ GoodR N ((L.take z.2).foldl stepR (R, false)).1) (fun z => L.length - z.2) (σ0, 0) ⟨Nat.zero_le _, y0, y1, x6, x7, hG⟩ rfl (by simp [Go.Vm.look, extK]) ?_
          clear y0 y1 x6 x7
          intro z hz
          obtain ⟨σ0, j⟩ := z
          obtain ⟨hj, y0, y1, x6, x7, hGj⟩ := hz
          simp only at hj y0 y1 x6 x7 hGj ⊢
          have g1 := (List.getElem?_eq_some_iff.1 y1).1
          have g6 := (List.getElem?_eq_some_iff.1 x6).1
          have g7 := (List.getElem?_eq_some_iff.1 x7).1
          refine KC.seq ?_
          refine KC.region ?_
          refine KT.step rfl rfl (K.lss rfl rfl) ?_
          refine KT.nil ?_
          refine thenK_n ?_
          refine KC.seq ?_
          refine KC.cond rfl (fun hc63 => ?_) (fun hc63 => ?_)
          · skip
            replace hc63 := of_decide_eq_true hc63
            have hjl : j < L.length := by omega
            have ok := hL _ (List.getElem_mem hjl)
            generalize hQ : (L.take j).foldl stepR (R, false) = Q at x6 x7 hGj
            refine KC.skip ?_
            refine thenK_n ?_
            refine KC.seq ?_
            refine KC.block ?_
            refine KC.seq ?_
            refine KC.region ?_
            refine KT.step rfl rfl (K.idxN rfl hd2 rfl hjl Try.underlying22 Try.size57) ?_
            refine KT.step rfl rfl (K.loadN hjl rfl Try.agg57 Try.size57) ?_
            refine KT.step rfl rfl (K.alloc Try.zero57) ?_
            refine KT.storeH (cs := (lk5 L[j].z).map XV.d) rfl rfl rfl rfl (List.getElem?_concat_length ..) rfl (Nat.le_refl _) rfl Try.size57 fun σ1 l1 u1 v1 => ?_
            try simp only [List.length_append, List.length_cons, List.length_nil] at l1
            replace u1 := u1.trans (congrArg (fun c => some (VObj.mk c 0)) (splice_all (by rfl)))
            have y0 := (v1 (0) (by omega)).trans ((List.getElem?_append_left (by omega)).trans y0)
            have y1 := (v1 (1) (by omega)).trans ((List.getElem?_append_left (by omega)).trans y1)
            have x6 := (v1 (p) (by omega)).trans ((List.getElem?_append_left (by omega)).trans x6)
            have x7 := (v1 (q) (by omega)).trans ((List.getElem?_append_left (by omega)).trans x7)
            have x9 := u1
            refine KT.nil ?_
            refine thenK_n ?_
            refine KC.seq ?_
            refine KC.region ?_
            refine KT.step rfl rfl (K.fieldAddrO rfl Try.fld57_0 Try.size3) ?_
            refine KT.step rfl rfl (K.loadO rfl x9 (by simp) rfl Try.agg3) ?_
            refine KT.step rfl rfl (K.fieldAddrO rfl Try.fld57_1 Try.size3) ?_
            refine KT.step rfl rfl (K.loadO rfl x9 (by simp) rfl Try.agg3) ?_
            refine KT.step rfl rfl (K.fieldAddrO rfl Try.fld57_2 Try.size3) ?_
            refine KT.step rfl rfl (K.loadO rfl x9 (by simp) rfl Try.agg3) ?_
            refine KT.step rfl rfl (K.fieldAddrO rfl Try.fld57_3 Try.size3) ?_
            refine KT.step rfl rfl (K.loadO rfl x9 (by simp) rfl Try.agg3) ?_
            refine KT.step rfl rfl (K.buildL rfl (build78 _ _ _ _)) ?_
            refine KT.step rfl rfl (K.fieldAddrO rfl Try.fld57_1 Try.size3) ?_
            refine KT.step rfl rfl (K.loadO rfl x9 (by simp) rfl Try.agg3) ?_
            refine KT.step rfl rfl (K.fieldAddrO rfl Try.fld57_0 Try.size3) ?_
            refine KT.step rfl rfl (K.loadO rfl x9 (by simp) rfl Try.agg3) ?_
            refine KT.step rfl rfl (K.fieldAddrO rfl Try.fld57_3 Try.size3) ?_
            refine KT.step rfl rfl (K.loadO rfl x9 (by simp) rfl Try.agg3) ?_
            refine KT.step rfl rfl (K.fieldAddrO rfl Try.fld57_2 Try.size3) ?_
            refine KT.step rfl rfl (K.loadO rfl x9 (by simp) rfl Try.agg3) ?_
            refine KT.step rfl rfl (K.buildL rfl (build78 _ _ _ _)) ?_
            refine KT.step rfl rfl (K.buildL rfl (build79 L[j])) ?_
            refine KT.step rfl rfl (K.move rfl) ?_
            refine KT.nil ?_
            refine thenK_n ?_
            refine KC.block ?_
            refine KC.loop (fun z : List VObj × Nat => z.1) (fun z => [(1, .optr 0 0), (4, .osl 1 0 N 1 N true), (5, .d (DI (i : Nat))), (6, .osl p 0 N 1 N true), (7, .osl q 0 N 1 N true), (34, .d (DI (N : Nat))), (35, .d (DI (i : Nat))), (56, .d (DI (N : Nat))), (57, .d (DI (m : Nat))), (60, .d d), (61, .d (DI (L.length : Nat))), (62, .d (DI (j : Nat))), (84, .d (.lit (waysV L[j]))), (85, .d (DI (z.2 : Nat)))]) (fun z => z.2 ≤ 2 ∧ z.1[0]? = some ⟨[.d (DI (N : Nat)), .d d], 0⟩ ∧ z.1[1]? = some ⟨iX N fun a => (((refFold L N i) a : Nat) : Int), 0⟩ ∧ z.1[p]? = some ⟨iX N fun a => (((halves L[j] Q.1 z.2) a).1 : Int), 0⟩ ∧ z.1[q]? = some ⟨iX N fun a => (((halves L[j] Q.1 z.2) a).2 : Int), 0⟩ ∧ GoodR N (halves L[j] Q.1 z.2)) (fun z => 2 - z.2) (σ1, 0) ⟨Nat.zero_le _, y0, y1, x6, x7, hGj⟩ rfl (by simp [Go.Vm.look, extK]) ?_
            clear y0 y1 x6 x7 x9 g1 g6 g7
            intro z hz
            obtain ⟨σ0, w⟩ := z
            obtain ⟨hw, y0, y1, x6, x7, hGw⟩ := hz
            simp only at hw y0 y1 x6 x7 hGw ⊢
            generalize hH : halves L[j] Q.1 w = H at x6 x7 hGw
            have g1 := (List.getElem?_eq_some_iff.1 y1).1
            have g6 := (List.getElem?_eq_some_iff.1 x6).1
            have g7 := (List.getElem?_eq_some_iff.1 x7).1
            refine KC.seq ?_
            refine KC.region ?_
            refine KT.step rfl rfl (K.lss rfl rfl) ?_
            refine KT.nil ?_
            refine thenK_n ?_
            refine KC.seq ?_
            refine KC.cond rfl (fun hc86 => ?_) (fun hc86 => ?_)
            · skip
              replace hc86 := of_decide_eq_true hc86
              have hw2 : w < 2 := by omega
              obtain ⟨o1, o2, o3, o4, o5, o6⟩ := wx_ok ok w
              refine KC.skip ?_
              refine thenK_n ?_
              refine KC.seq ?_
              refine KC.block ?_
              refine KC.seq ?_
              refine KC.region ?_
              refine KT.step rfl rfl (K.indexL rfl rfl (idx79 L[j] hw2)) ?_
              refine KT.step rfl rfl (K.alloc Try.zero78) ?_
              refine KT.storeH (cs := [.d (DI (wx L[j] w : Nat)), .d (DI (wy L[j] w : Nat)), .d (DI (wn L[j] w : Nat)), .d (DI (wd L[j] w : Nat))]) rfl rfl rfl rfl (List.getElem?_concat_length ..) rfl (Nat.le_refl _) rfl Try.size78 fun σ2 l2 u2 v2 => ?_
              try simp only [List.length_append, List.length_cons, List.length_nil] at l2
              replace u2 := u2.trans (congrArg (fun c => some (VObj.mk c 0)) (splice_all (by rfl)))
              have y0 := (v2 (0) (by omega)).trans ((List.getElem?_append_left (by omega)).trans y0)
              have y1 := (v2 (1) (by omega)).trans ((List.getElem?_append_left (by omega)).trans y1)
              have x6 := (v2 (p) (by omega)).trans ((List.getElem?_append_left (by omega)).trans x6)
              have x7 := (v2 (q) (by omega)).trans ((List.getElem?_append_left (by omega)).trans x7)
              have x11 := u2
              refine KT.nil ?_
              refine thenK_n ?_
              refine KC.seq ?_
              refine KC.draw Try.mixed ?_
              refine KT.step rfl rfl (K.idxA (m := 0) rfl rfl (by omega) Try.underlying78 Try.size3) ?_
              refine KT.step rfl rfl (K.loadO rfl x11 (by simp) rfl Try.agg3) ?_
              refine KT.step rfl rfl (K.idxA (m := 1) rfl rfl (by omega) Try.underlying78 Try.size3) ?_
              refine KT.step rfl rfl (K.loadO rfl x11 (by simp) rfl Try.agg3) ?_
              refine KT.step rfl rfl (K.assign rfl) ?_
              refine KT.step rfl rfl (K.assign rfl) ?_
              refine KT.nil ?_
              refine ⟨by kernel_rfl, ?_⟩
              refine thenK_n ?_
              refine KC.seq ?_
              refine KC.region ?_
              refine KT.step rfl rfl (K.move rfl) ?_
              refine KT.step rfl rfl (K.move rfl) ?_
              refine KT.step rfl rfl (K.idxO rfl rfl o1 Try.underlying25 Try.size3) ?_
              refine KT.step rfl rfl (K.loadO rfl x6 (by simp) (iX_get _ o1) Try.agg3) ?_
              refine KT.step rfl rfl (K.gtr rfl rfl) ?_
              refine KT.step rfl rfl (K.move rfl) ?_
              refine KT.bcase (fun hb97 => ?_) (fun hb97 => ?_)
              · skip
                replace hb97 := of_decide_eq_true hb97
                refine KT.step rfl rfl (K.move rfl) ?_
                refine KT.step rfl rfl (K.move rfl) ?_
                refine KT.step rfl rfl (K.idxO rfl rfl o2 Try.underlying25 Try.size3) ?_
                refine KT.step rfl rfl (K.loadO rfl x6 (by simp) (iX_get _ o2) Try.agg3) ?_
                refine KT.step rfl rfl (K.eql rfl rfl) ?_
                refine KT.step rfl rfl (K.pick rfl (fun _ => rfl) (fun h => by cases h)) ?_
                refine KT.nil ?_
                refine thenK_n ?_
                refine KC.cond rfl (fun hc103 => ?_) (fun hc103 => ?_)
                · skip
                  replace hc103 := of_decide_eq_true hc103
                  have hkx := (kn_pos hGw (wx L[j] w)).2 (by omega)
                  obtain ⟨m1, m2, m3⟩ := tm_ok hGw hkx o3 o4 o6
                  have est : halfR L[j] w H = setF H (wy L[j] w) (timesF (H (wx L[j] w)) (wn L[j] w) (wd L[j] w)) := if_pos ⟨by omega, by omega⟩
                  have hgp : 0 < Nat.gcd ((H (wx L[j] w)).1 * wn L[j] w) ((H (wx L[j] w)).2 * wd L[j] w) := Nat.gcd_pos_of_pos_left _ m3
                  refine KC.seq ?_
                  refine KC.draw Try.mixed ?_
                  refine KT.step rfl rfl (K.move rfl) ?_
                  refine KT.step rfl rfl (K.move rfl) ?_
                  refine KT.step rfl rfl (K.idxO rfl rfl o1 Try.underlying25 Try.size3) ?_
                  refine KT.step rfl rfl (K.loadO rfl x6 (by simp) (iX_get _ o1) Try.agg3) ?_
                  refine KT.step rfl rfl (K.idxA (m := 2) rfl rfl (by omega) Try.underlying78 Try.size3) ?_
                  refine KT.step rfl rfl (K.loadO rfl x11 (by simp) rfl Try.agg3) ?_
                  refine KT.step rfl rfl (K.mul rfl rfl (mulN m1)) ?_
                  refine KT.step rfl rfl (K.move rfl) ?_
                  refine KT.step rfl rfl (K.move rfl) ?_
                  refine KT.step rfl rfl (K.idxO rfl rfl o1 Try.underlying25 Try.size3) ?_
                  refine KT.step rfl rfl (K.loadO rfl x7 (by simp) (iX_get _ o1) Try.agg3) ?_
                  refine KT.step rfl rfl (K.idxA (m := 3) rfl rfl (by omega) Try.underlying78 Try.size3) ?_
                  refine KT.step rfl rfl (K.loadO rfl x11 (by simp) rfl Try.agg3) ?_
                  refine KT.step rfl rfl (K.mul rfl rfl (mulN m2)) ?_
                  refine KT.step rfl rfl (K.assign rfl) ?_
                  refine KT.step rfl rfl (K.assign rfl) ?_
                  refine KT.nil ?_
                  refine ⟨by kernel_rfl, ?_⟩
                  refine thenK_n ?_
                  refine KC.seq ?_
                  refine KC.region ?_
                  refine KT.step rfl rfl (K.move rfl) ?_
                  refine KT.step rfl rfl (K.move rfl) ?_
                  refine KT.step rfl rfl (K.call2 rfl rfl plainTry_47 (divisor47 _ _)) ?_
                  refine KT.step rfl rfl (K.assign rfl) ?_
                  refine KT.nil ?_
                  refine thenK_n ?_
                  refine KC.seq ?_
                  refine KC.region ?_
                  refine KT.step rfl rfl (K.move rfl) ?_
                  refine KT.step rfl rfl (K.move rfl) ?_
                  refine KT.step rfl rfl (K.move rfl) ?_
                  refine KT.step rfl rfl (K.move rfl) ?_
                  refine KT.step rfl rfl (K.quo rfl rfl (by omega) (divN m1)) ?_
                  refine KT.step rfl rfl (K.idxO rfl rfl o2 Try.underlying25 Try.size3) ?_
                  refine KT.storeG rfl rfl rfl rfl x6 (by rw [iX_len]; omega) rfl rfl Try.size3 fun σ3 l3 u3 v3 => ?_
                  replace y0 := (v3 0 (by omega)).trans y0
                  replace y1 := (v3 1 (by omega)).trans y1
                  replace x7 := (v3 q (by omega)).trans x7
                  replace x6 := u3.trans (congrArg (fun c => some (VObj.mk c 0)) (set_num (v := timesF (H (wx L[j] w)) (wn L[j] w) (wd L[j] w)) o2))
                  refine KT.nil ?_
                  refine thenK_n ?_
                  refine KC.region ?_
                  refine KT.step rfl rfl (K.move rfl) ?_
                  refine KT.step rfl rfl (K.move rfl) ?_
                  refine KT.step rfl rfl (K.move rfl) ?_
                  refine KT.step rfl rfl (K.move rfl) ?_
                  refine KT.step rfl rfl (K.quo rfl rfl (by omega) (divN m2)) ?_
                  refine KT.step rfl rfl (K.idxO rfl rfl o2 Try.underlying25 Try.size3) ?_
                  refine KT.storeG rfl rfl rfl rfl x7 (by rw [iX_len]; omega) rfl rfl Try.size3 fun σ4 l4 u4 v4 => ?_
                  replace y0 := (v4 0 (by omega)).trans y0
                  replace y1 := (v4 1 (by omega)).trans y1
                  replace x6 := (v4 p (by omega)).trans x6
                  replace x7 := u4.trans (congrArg (fun c => some (VObj.mk c 0)) (set_den (v := timesF (H (wx L[j] w)) (wn L[j] w) (wd L[j] w)) o2))
                  refine KT.nil ?_
                  refine blockK_n ?_
                  refine thenK_n ?_
                  refine KC.region ?_
                  refine KT.step rfl rfl (K.add rfl rfl (wrap_id (by omega))) ?_
                  refine KT.step rfl rfl (K.move rfl) ?_
                  refine KT.nil ?_
                  refine thenK_n ?_
                  have eh : halves L[j] Q.1 (w + 1) = halfR L[j] w H := by show halfR L[j] w (halves L[j] Q.1 w) = _; rw [hH]
                  refine ⟨(σ4, w + 1), ⟨by simp only; omega, y0, y1, ?_, ?_, ?_⟩, by simp only; omega, rfl, by simp [Go.Vm.look, extK]⟩
                  · simp only; rw [eh, est]; exact x6
                  · simp only; rw [eh, est]; exact x7
                  · simp only; rw [eh]; exact half_good hN6 ok w hGw
                · skip
                  replace hc103 := of_decide_eq_false hc103
                  have est : halfR L[j] w H = H := if_neg (by rintro ⟨_, z⟩; omega)
                  refine KC.skip ?_
                  refine blockK_n ?_
                  refine thenK_n ?_
                  refine KC.region ?_
                  refine KT.step rfl rfl (K.add rfl rfl (wrap_id (by omega))) ?_
                  refine KT.step rfl rfl (K.move rfl) ?_
                  refine KT.nil ?_
                  refine thenK_n ?_
                  have eh : halves L[j] Q.1 (w + 1) = halfR L[j] w H := by show halfR L[j] w (halves L[j] Q.1 w) = _; rw [hH]
                  refine ⟨(σ2, w + 1), ⟨by simp only; omega, y0, y1, ?_, ?_, ?_⟩, by simp only; omega, rfl, by simp [Go.Vm.look, extK]⟩
                  · simp only; rw [eh, est]; exact x6
                  · simp only; rw [eh, est]; exact x7
                  · simp only; rw [eh]; exact half_good hN6 ok w hGw
              · skip
                replace hb97 := of_decide_eq_false hb97
                have est : halfR L[j] w H = H := if_neg (by rintro ⟨z, _⟩; omega)
                refine KT.skip rfl rfl ?_
                refine KT.skip rfl rfl ?_
                refine KT.skip rfl rfl ?_
                refine KT.skip rfl rfl ?_
                refine KT.skip rfl rfl ?_
                refine KT.step rfl rfl (K.pick rfl (fun h => by cases h) (fun _ => rfl)) ?_
                refine KT.nil ?_
                refine thenK_n ?_
                refine KC.cond rfl (fun hc103 => ?_) (fun hc103 => ?_)
                · cases hc103
                · skip
                  refine KC.skip ?_
                  refine blockK_n ?_
                  refine thenK_n ?_
                  refine KC.region ?_
                  refine KT.step rfl rfl (K.add rfl rfl (wrap_id (by omega))) ?_
                  refine KT.step rfl rfl (K.move rfl) ?_
                  refine KT.nil ?_
                  refine thenK_n ?_
                  have eh : halves L[j] Q.1 (w + 1) = halfR L[j] w H := by show halfR L[j] w (halves L[j] Q.1 w) = _; rw [hH]
                  refine ⟨(σ2, w + 1), ⟨by simp only; omega, y0, y1, ?_, ?_, ?_⟩, by simp only; omega, rfl, by simp [Go.Vm.look, extK]⟩
                  · simp only; rw [eh, est]; exact x6
                  · simp only; rw [eh, est]; exact x7
                  · simp only; rw [eh]; exact half_good hN6 ok w hGw
            · skip
              replace hc86 := of_decide_eq_false hc86
              obtain rfl : w = 2 := by omega
              have e2 : H = (stepR Q L[j]).1 := hH.symm.trans (halves_step (b := Q.2) hN6 ok hGj)
              refine KC.exit ?_
              refine thenK_x ?_
              refine thenK_x ?_
              refine blockK_e ?_
              refine blockK_n ?_
              refine thenK_n ?_
              refine KC.region ?_
              refine KT.step rfl rfl (K.add rfl rfl (wrap_id (by omega))) ?_
              refine KT.step rfl rfl (K.move rfl) ?_
              refine KT.nil ?_
              refine thenK_n ?_
              refine ⟨(σ0, j + 1), ⟨by simp only; omega, y0, y1, ?_, ?_, ?_⟩, by simp only; omega, rfl, by simp [Go.Vm.look, extK]⟩
              · simp only; rw [take_step hjl, hQ, ← e2]; exact x6
              · simp only; rw [take_step hjl, hQ, ← e2]; exact x7
              · simp only; rw [take_step hjl, hQ, ← e2]; exact hGw
          · skip
            replace hc63 := of_decide_eq_false hc63
            obtain rfl : j = L.length := by omega
            rw [List.take_length] at x6 x7 hGj
            refine KC.exit ?_
            refine thenK_x ?_
            refine thenK_x ?_
            refine blockK_e ?_
            refine blockK_n ?_
            refine thenK_n ?_
            refine KC.region ?_
            refine KT.step rfl rfl (K.add rfl rfl (wrap_id (by omega))) ?_
            refine KT.step rfl rfl (K.move rfl) ?_
            refine KT.nil ?_
            refine thenK_n ?_
            refine ⟨(σ0, (passR L R).1, m + 1), ⟨by simp only; omega, y0, y1, x6, x7, hGj, ?_⟩, by simp only; omega, rfl, by simp [Go.Vm.look, extK]⟩
            simp only; rw [roundsR_snoc, ← hR]
        · skip
          replace hc58 := of_decide_eq_false hc58
          obtain rfl : N = m := by omega
          have hRr : R = ratesF L 6 (startR i) := hR.trans (rounds_start hN6 hiN hL)
          have h1i : R i = (1, 1) := by
            rw [hRr, (rates_good hN6 hL 6 (start_good hN6 hiN).1 (by have := (start_good hN6 hiN).2; omega)).2.2 i (by unfold startR; rw [if_pos rfl]; rfl)]
            unfold startR; rw [if_pos rfl]
          have hone := commG_one hG hiN h1i
          have hstep : refFold L N (i + 1) = addR R (commF R N) (refFold L N i) := by
            show refStep L N i (refFold L N i) = _
            unfold refStep; rw [if_neg (by omega), ← hR]
          have hqle : ∀ a, addR R (commF R N) (refFold L N i) a ≤ 604661760000000000 := hstep ▸ (refFold_ok hN6 hL (i + 1) (by omega)).le
          have hcm : commF R N ≤ 777600000 := Nat.le_of_dvd (by decide) (show _ ∣ 777600000 from (comm_good hG N).2.1)
          refine KC.exit ?_
          refine thenK_x ?_
          refine thenK_x ?_
          refine blockK_e ?_
          refine thenK_n ?_
          refine KC.seq ?_
          refine KC.region ?_
          refine KT.step rfl rfl (K.assign rfl) ?_
          refine KT.nil ?_
          refine thenK_n ?_
          refine KC.seq ?_
          refine KC.seq ?_
          refine KC.region ?_
          refine KT.step rfl rfl (K.fieldAddrO rfl Try.fld24_0 Try.size3) ?_
          refine KT.step rfl rfl (K.loadO rfl y0 (by simp) rfl Try.agg3) ?_
          refine KT.step rfl rfl (K.move rfl) ?_
          refine KT.nil ?_
          refine thenK_n ?_
          refine KC.block ?_
          refine KC.loop (fun _ : Nat => σ0) (fun b => [(1, .optr 0 0), (4, .osl 1 0 N 1 N true), (5, .d (DI (i : Nat))), (6, .osl p 0 N 1 N true), (7, .osl q 0 N 1 N true), (34, .d (DI (N : Nat))), (35, .d (DI (i : Nat))), (17, .d (DI (commF R b : Nat))), (137, .d (DI (N : Nat))), (138, .d (DI (b : Nat)))]) (fun b => b ≤ N) (fun b => N - b) 0 (Nat.zero_le _) rfl (by simp [Go.Vm.look, extK, commF]) ?_
          intro b hb
          replace hb : b ≤ N := hb
          refine KC.seq ?_
          refine KC.region ?_
          refine KT.step rfl rfl (K.lss rfl rfl) ?_
          refine KT.nil ?_
          refine thenK_n ?_
          refine KC.seq ?_
          refine KC.cond rfl (fun hc139 => ?_) (fun hc139 => ?_)
          · skip
            replace hc139 := of_decide_eq_true hc139
            have hbN : b < N := by omega
            refine KC.skip ?_
            refine thenK_n ?_
            refine KC.seq ?_
            refine KC.block ?_
            refine KC.seq ?_
            refine KC.region ?_
            refine KT.step rfl rfl (K.move rfl) ?_
            refine KT.step rfl rfl (K.assign rfl) ?_
            refine KT.nil ?_
            refine thenK_n ?_
            refine KC.seq ?_
            refine KC.region ?_
            refine KT.step rfl rfl (K.move rfl) ?_
            refine KT.step rfl rfl (K.move rfl) ?_
            refine KT.step rfl rfl (K.idxO rfl rfl hbN Try.underlying25 Try.size3) ?_
            refine KT.step rfl rfl (K.loadO rfl x6 (by simp) (iX_get _ hbN) Try.agg3) ?_
            refine KT.step rfl rfl (K.gtr rfl rfl) ?_
            refine KT.nil ?_
            refine thenK_n ?_
            refine KC.cond rfl (fun hc145 => ?_) (fun hc145 => ?_)
            · skip
              replace hc145 := of_decide_eq_true hc145
              have hkb := (kn_pos hG b).2 (by omega)
              have hd0 := (hG.val b hkb).d0
              obtain ⟨cb1, cb2, _⟩ := comm_good hG b
              have hcb : commF R (b + 1) = commF R b * ((R b).2 / Nat.gcd (commF R b) (R b).2) := by simp only [commF]; rw [if_pos hkb]
              have hcl : commF R (b + 1) ≤ 777600000 := Nat.le_of_dvd (by decide) (show _ ∣ 777600000 from (comm_good hG (b + 1)).2.1)
              rw [hcb] at hcl
              have hgp : 0 < Nat.gcd (commF R b) (R b).2 := Nat.gcd_pos_of_pos_left _ cb1
              have hdl : (R b).2 ≤ 777600000 := ((hG.val b hkb).le (by have := knum_le R; omega)).2
              refine KC.draw Try.mixed ?_
              refine KT.step rfl rfl (K.move rfl) ?_
              refine KT.step rfl rfl (K.move rfl) ?_
              refine KT.step rfl rfl (K.move rfl) ?_
              refine KT.step rfl rfl (K.idxO rfl rfl hbN Try.underlying25 Try.size3) ?_
              refine KT.step rfl rfl (K.loadO rfl x7 (by simp) (iX_get _ hbN) Try.agg3) ?_
              refine KT.step rfl rfl (K.move rfl) ?_
              refine KT.step rfl rfl (K.move rfl) ?_
              refine KT.step rfl rfl (K.move rfl) ?_
              refine KT.step rfl rfl (K.idxO rfl rfl hbN Try.underlying25 Try.size3) ?_
              refine KT.step rfl rfl (K.loadO rfl x7 (by simp) (iX_get _ hbN) Try.agg3) ?_
              refine KT.step rfl rfl (K.call2 rfl rfl plainTry_47 (divisor47 _ _)) ?_
              refine KT.step rfl rfl (K.quo rfl rfl (by omega) (divN (by omega))) ?_
              refine KT.step rfl rfl (K.mul rfl rfl (mulN (by omega))) ?_
              refine KT.step rfl rfl (K.assign rfl) ?_
              refine KT.nil ?_
              refine ⟨by kernel_rfl, ?_⟩
              refine blockK_n ?_
              refine thenK_n ?_
              refine KC.region ?_
              refine KT.step rfl rfl (K.add rfl rfl (wrap_id (by omega))) ?_
              refine KT.step rfl rfl (K.move rfl) ?_
              refine KT.nil ?_
              refine thenK_n ?_
              refine ⟨b + 1, by show b + 1 ≤ N; omega, by show N - (b + 1) < N - b; omega, rfl, ?_⟩
              rw [hcb]
              simp [Go.Vm.look, extK]
            · skip
              replace hc145 := of_decide_eq_false hc145
              have hkb : knB (R b) = false := (kn_zero hG b).2 (by omega)
              have hcb : commF R (b + 1) = commF R b := by simp only [commF]; rw [if_neg (by rw [hkb]; simp)]
              refine KC.skip ?_
              refine blockK_n ?_
              refine thenK_n ?_
              refine KC.region ?_
              refine KT.step rfl rfl (K.add rfl rfl (wrap_id (by omega))) ?_
              refine KT.step rfl rfl (K.move rfl) ?_
              refine KT.nil ?_
              refine thenK_n ?_
              refine ⟨b + 1, by show b + 1 ≤ N; omega, by show N - (b + 1) < N - b; omega, rfl, ?_⟩
              rw [hcb]
              simp [Go.Vm.look, extK]
          · skip
            replace hc139 := of_decide_eq_false hc139
            obtain rfl : N = b := by omega
            refine KC.exit ?_
            refine thenK_x ?_
            refine thenK_x ?_
            refine blockK_e ?_
            refine thenK_n ?_
            refine KC.seq ?_
            refine KC.region ?_
            refine KT.step rfl rfl (K.assign rfl) ?_
            refine KT.nil ?_
            refine thenK_n ?_
            refine KC.seq ?_
            refine KC.seq ?_
            refine KC.region ?_
            refine KT.step rfl rfl (K.fieldAddrO rfl Try.fld24_0 Try.size3) ?_
            refine KT.step rfl rfl (K.loadO rfl y0 (by simp) rfl Try.agg3) ?_
            refine KT.step rfl rfl (K.move rfl) ?_
            refine KT.nil ?_
            refine thenK_n ?_
            refine KC.block ?_
            refine KC.loop (fun z : List VObj × Nat => z.1) (fun z => [(1, .optr 0 0), (4, .osl 1 0 N 1 N true), (5, .d (DI (i : Nat))), (6, .osl p 0 N 1 N true), (7, .osl q 0 N 1 N true), (34, .d (DI (N : Nat))), (35, .d (DI (i : Nat))), (17, .d (DI (commF R N : Nat))), (19, .d (DI (commG R (commF R N) z.2 : Nat))), (161, .d (DI (N : Nat))), (162, .d (DI (z.2 : Nat)))]) (fun z => z.2 ≤ N ∧ z.1[0]? = some ⟨[.d (DI (N : Nat)), .d d], 0⟩ ∧ z.1[1]? = some ⟨iX N fun a => (((addTo R (commF R N) (refFold L N i) z.2) a : Nat) : Int), 0⟩ ∧ z.1[p]? = some ⟨iX N fun a => (((R) a).1 : Int), 0⟩ ∧ z.1[q]? = some ⟨iX N fun a => (((R) a).2 : Int), 0⟩) (fun z => N - z.2) (σ0, 0) ⟨Nat.zero_le _, y0, by simp only; rw [addTo_zero]; exact y1, x6, x7⟩ rfl (by simp [Go.Vm.look, extK, commG]) ?_
            clear y0 y1 x6 x7
            intro z hz
            obtain ⟨σ0, b⟩ := z
            obtain ⟨hb, y0, y1, x6, x7⟩ := hz
            simp only at hb y0 y1 x6 x7 ⊢
            refine KC.seq ?_
            refine KC.region ?_
            refine KT.step rfl rfl (K.lss rfl rfl) ?_
            refine KT.nil ?_
            refine thenK_n ?_
            refine KC.seq ?_
            refine KC.cond rfl (fun hc163 => ?_) (fun hc163 => ?_)
            · skip
              replace hc163 := of_decide_eq_true hc163
              have hbN : b < N := by omega
              refine KC.skip ?_
              refine thenK_n ?_
              refine KC.seq ?_
              refine KC.block ?_
              refine KC.seq ?_
              refine KC.region ?_
              refine KT.step rfl rfl (K.move rfl) ?_
              refine KT.step rfl rfl (K.assign rfl) ?_
              refine KT.nil ?_
              refine thenK_n ?_
              refine KC.seq ?_
              refine KC.region ?_
              refine KT.step rfl rfl (K.move rfl) ?_
              refine KT.step rfl rfl (K.move rfl) ?_
              refine KT.step rfl rfl (K.idxO rfl rfl hbN Try.underlying25 Try.size3) ?_
              refine KT.step rfl rfl (K.loadO rfl x6 (by simp) (iX_get _ hbN) Try.agg3) ?_
              refine KT.step rfl rfl (K.gtr rfl rfl) ?_
              refine KT.nil ?_
              refine thenK_n ?_
              refine KC.cond rfl (fun hc169 => ?_) (fun hc169 => ?_)
              · skip
                replace hc169 := of_decide_eq_true hc169
                have hkb := (kn_pos hG b).2 (by omega)
                obtain ⟨b1, b2, b3⟩ := addR_le hG b hkb
                have b4 := (hG.val b hkb).d0
                refine KC.seq ?_
                refine KC.draw Try.mixed ?_
                refine KT.step rfl rfl (K.move rfl) ?_
                refine KT.step rfl rfl (K.move rfl) ?_
                refine KT.step rfl rfl (K.move rfl) ?_
                refine KT.step rfl rfl (K.move rfl) ?_
                refine KT.step rfl rfl (K.idxO rfl rfl hbN Try.underlying25 Try.size3) ?_
                refine KT.step rfl rfl (K.loadO rfl x6 (by simp) (iX_get _ hbN) Try.agg3) ?_
                refine KT.step rfl rfl (K.move rfl) ?_
                refine KT.step rfl rfl (K.move rfl) ?_
                refine KT.step rfl rfl (K.move rfl) ?_
                refine KT.step rfl rfl (K.idxO rfl rfl hbN Try.underlying25 Try.size3) ?_
                refine KT.step rfl rfl (K.loadO rfl x7 (by simp) (iX_get _ hbN) Try.agg3) ?_
                refine KT.step rfl rfl (K.quo rfl rfl (by omega) (divN (by omega))) ?_
                refine KT.step rfl rfl (K.mul rfl rfl (mulN (by omega))) ?_
                refine KT.step rfl rfl (K.idxO rfl rfl hbN Try.underlying25 Try.size3) ?_
                refine KT.storeG rfl rfl rfl rfl y1 (by rw [iX_len]; omega) rfl rfl Try.size3 fun σ1 l1 u1 v1 => ?_
                replace y0 := (v1 0 (by omega)).trans y0
                replace x6 := (v1 p (by omega)).trans x6
                replace x7 := (v1 q (by omega)).trans x7
                replace y1 := u1.trans (congrArg (fun c => some (VObj.mk c 0)) (addTo_set hbN hkb))
                refine KT.nil ?_
                refine ⟨by kernel_rfl, ?_⟩
                refine thenK_n ?_
                refine KC.region ?_
                refine KT.step rfl rfl (K.move rfl) ?_
                refine KT.step rfl rfl (K.move rfl) ?_
                refine KT.step rfl rfl (K.move rfl) ?_
                refine KT.step rfl rfl (K.idxO rfl rfl hbN Try.underlying25 Try.size3) ?_
                refine KT.step rfl rfl (K.loadO (y := .d (DI (((R b).1 * (commF R N / (R b).2) : Nat)))) rfl y1 (by simp) (addTo_get hbN hkb) Try.agg3) ?_
                refine KT.step rfl rfl (K.call2 rfl rfl plainTry_47 (divisor47 _ _)) ?_
                refine KT.step rfl rfl (K.assign rfl) ?_
                refine KT.nil ?_
                refine blockK_n ?_
                refine thenK_n ?_
                refine KC.region ?_
                refine KT.step rfl rfl (K.add rfl rfl (wrap_id (by omega))) ?_
                refine KT.step rfl rfl (K.move rfl) ?_
                refine KT.nil ?_
                refine thenK_n ?_
                refine ⟨(σ1, b + 1), ⟨by simp only; omega, y0, y1, x6, x7⟩, by simp only; omega, rfl, ?_⟩
                rw [show commG R (commF R N) (b + 1) = Nat.gcd (commG R (commF R N) b) ((R b).1 * (commF R N / (R b).2)) from if_pos hkb]
                simp [Go.Vm.look, extK]
              · skip
                replace hc169 := of_decide_eq_false hc169
                have hkb : knB (R b) = false := (kn_zero hG b).2 (by omega)
                refine KC.skip ?_
                refine blockK_n ?_
                refine thenK_n ?_
                refine KC.region ?_
                refine KT.step rfl rfl (K.add rfl rfl (wrap_id (by omega))) ?_
                refine KT.step rfl rfl (K.move rfl) ?_
                refine KT.nil ?_
                refine thenK_n ?_
                refine ⟨(σ0, b + 1), ⟨by simp only; omega, y0, ?_, x6, x7⟩, by simp only; omega, rfl, ?_⟩
                · simp only; rw [← addTo_same hkb]; exact y1
                · rw [show commG R (commF R N) (b + 1) = commG R (commF R N) b from if_neg (by rw [hkb]; simp)]
                  simp [Go.Vm.look, extK]
            · skip
              replace hc163 := of_decide_eq_false hc163
              obtain rfl : N = b := by omega
              rw [addTo_full hG] at y1
              refine KC.exit ?_
              refine thenK_x ?_
              refine thenK_x ?_
              refine blockK_e ?_
              refine thenK_n ?_
              refine KC.seq ?_
              refine KC.region ?_
              refine KT.step rfl rfl (K.fieldAddrO rfl Try.fld24_0 Try.size3) ?_
              refine KT.step rfl rfl (K.loadO rfl y0 (by simp) rfl Try.agg3) ?_
              refine KT.step rfl rfl (K.move rfl) ?_
              refine KT.nil ?_
              refine thenK_n ?_
              refine KC.block ?_
              refine KC.loop (fun z : List VObj × Nat => z.1) (fun z => [(1, .optr 0 0), (4, .osl 1 0 N 1 N true), (6, .osl p 0 N 1 N true), (7, .osl q 0 N 1 N true), (34, .d (DI (N : Nat))), (35, .d (DI (i : Nat))), (19, .d (DI ((1 : Nat) : Int))), (192, .d (DI (N : Nat))), (193, .d (DI (z.2 : Nat)))]) (fun z => z.2 ≤ N ∧ z.1[0]? = some ⟨[.d (DI (N : Nat)), .d d], 0⟩ ∧ z.1[1]? = some ⟨iX N fun a => (((addR R (commF R N) (refFold L N i)) a : Nat) : Int), 0⟩ ∧ z.1[p]? = some ⟨iX N fun a => (((R) a).1 : Int), 0⟩) (fun z => N - z.2) (σ0, 0) ⟨Nat.zero_le _, y0, y1, x6⟩ rfl (by simp [Go.Vm.look, extK, hone]) ?_
              clear y0 y1 x6 x7
              intro z hz
              obtain ⟨σ0, b⟩ := z
              obtain ⟨hb, y0, y1, x6⟩ := hz
              simp only at hb y0 y1 x6 ⊢
              refine KC.seq ?_
              refine KC.region ?_
              refine KT.step rfl rfl (K.lss rfl rfl) ?_
              refine KT.nil ?_
              refine thenK_n ?_
              refine KC.seq ?_
              refine KC.cond rfl (fun hc194 => ?_) (fun hc194 => ?_)
              · skip
                replace hc194 := of_decide_eq_true hc194
                have hbN : b < N := by omega
                refine KC.skip ?_
                refine thenK_n ?_
                refine KC.seq ?_
                refine KC.block ?_
                refine KC.seq ?_
                refine KC.region ?_
                refine KT.step rfl rfl (K.move rfl) ?_
                refine KT.step rfl rfl (K.assign rfl) ?_
                refine KT.nil ?_
                refine thenK_n ?_
                refine KC.seq ?_
                refine KC.region ?_
                refine KT.step rfl rfl (K.move rfl) ?_
                refine KT.step rfl rfl (K.move rfl) ?_
                refine KT.step rfl rfl (K.idxO rfl rfl hbN Try.underlying25 Try.size3) ?_
                refine KT.step rfl rfl (K.loadO rfl x6 (by simp) (iX_get _ hbN) Try.agg3) ?_
                refine KT.step rfl rfl (K.gtr rfl rfl) ?_
                refine KT.nil ?_
                refine thenK_n ?_
                refine KC.cond rfl (fun hc200 => ?_) (fun hc200 => ?_)
                · skip
                  replace hc200 := of_decide_eq_true hc200
                  refine KC.region ?_
                  refine KT.step rfl rfl (K.move rfl) ?_
                  refine KT.step rfl rfl (K.move rfl) ?_
                  refine KT.step rfl rfl (K.idxO rfl rfl hbN Try.underlying25 Try.size3) ?_
                  refine KT.step rfl rfl (K.loadO rfl y1 (by simp) (iX_get _ hbN) Try.agg3) ?_
                  refine KT.step rfl rfl (K.move rfl) ?_
                  refine KT.step rfl rfl (K.quo rfl rfl (by omega) (divN (by have := hqle b; omega))) ?_
                  refine KT.step rfl rfl (K.idxO rfl rfl hbN Try.underlying25 Try.size3) ?_
                  refine KT.storeG rfl rfl rfl rfl y1 (by rw [iX_len]; omega) rfl rfl Try.size3 fun σ1 l1 u1 v1 => ?_
                  replace y0 := (v1 0 (by omega)).trans y0
                  replace x6 := (v1 p (by omega)).trans x6
                  replace y1 := u1.trans (congrArg (fun c => some (VObj.mk c 0)) (same_set hbN))
                  refine KT.nil ?_
                  refine blockK_n ?_
                  refine thenK_n ?_
                  refine KC.region ?_
                  refine KT.step rfl rfl (K.add rfl rfl (wrap_id (by omega))) ?_
                  refine KT.step rfl rfl (K.move rfl) ?_
                  refine KT.nil ?_
                  refine thenK_n ?_
                  refine ⟨(σ1, b + 1), ⟨by simp only; omega, y0, y1, x6⟩, by simp only; omega, rfl, by simp [Go.Vm.look, extK]⟩
                · skip
                  replace hc200 := of_decide_eq_false hc200
                  refine KC.skip ?_
                  refine blockK_n ?_
                  refine thenK_n ?_
                  refine KC.region ?_
                  refine KT.step rfl rfl (K.add rfl rfl (wrap_id (by omega))) ?_
                  refine KT.step rfl rfl (K.move rfl) ?_
                  refine KT.nil ?_
                  refine thenK_n ?_
                  refine ⟨(σ0, b + 1), ⟨by simp only; omega, y0, y1, x6⟩, by simp only; omega, rfl, by simp [Go.Vm.look, extK]⟩
              · skip
                replace hc194 := of_decide_eq_false hc194
                obtain rfl : N = b := by omega
                refine KC.exit ?_
                refine thenK_x ?_
                refine thenK_x ?_
                refine blockK_e ?_
                refine blockK_n ?_
                refine thenK_n ?_
                refine KC.region ?_
                refine KT.step rfl rfl (K.add rfl rfl (oneN (by omega))) ?_
                refine KT.step rfl rfl (K.move rfl) ?_
                refine KT.nil ?_
                refine thenK_n ?_
                refine ⟨(σ0, i + 1), ⟨by simp only; omega, y0, ?_⟩, by simp only; omega, rfl, by simp [Go.Vm.look, extK]⟩
                simp only; rw [hstep]; exact y1
    · skip
      replace hc36 := of_decide_eq_false hc36
      obtain rfl : N = i := by omega
      have hok := refFold_ok hN6 hL N (Nat.le_refl _)
      refine KC.exit ?_
      refine thenK_x ?_
      refine thenK_x ?_
      refine blockK_e ?_
      refine thenK_n ?_
      refine KC.seq ?_
      refine KC.region ?_
      refine KT.step rfl rfl (K.assign rfl) ?_
      refine KT.nil ?_
      refine thenK_n ?_
      refine KC.seq ?_
      refine KC.seq ?_
      refine KC.region ?_
      refine KT.step rfl rfl (K.move rfl) ?_
      refine KT.step rfl rfl (K.lenO rfl Try.underlying25) ?_
      refine KT.step rfl rfl (K.move rfl) ?_
      refine KT.nil ?_
      refine thenK_n ?_
      refine KC.block ?_
      refine KC.loop (fun _ : Nat => σ0) (fun j => [(1, .optr 0 0), (4, .osl 1 0 N 1 N true), (22, .d (DI (Go.Fl.part (refFold L N N) j : Nat))), (210, .osl 1 0 N 1 N true), (211, .d (DI (N : Nat))), (212, .d (DI (j : Nat)))]) (fun j => j ≤ N) (fun j => N - j) 0 (Nat.zero_le _) rfl (by simp [Go.Vm.look, extK, part_zero]) ?_
      intro j hj
      replace hj : j ≤ N := hj
      refine KC.seq ?_
      refine KC.region ?_
      refine KT.step rfl rfl (K.lss rfl rfl) ?_
      refine KT.nil ?_
      refine thenK_n ?_
      refine KC.seq ?_
      refine KC.cond rfl (fun hc213 => ?_) (fun hc213 => ?_)
      · skip
        replace hc213 := of_decide_eq_true hc213
        have hjN : j < N := by omega
        refine KC.skip ?_
        refine thenK_n ?_
        refine KC.seq ?_
        refine KC.block ?_
        refine KC.seq ?_
        refine KC.region ?_
        refine KT.step rfl rfl (K.idxO rfl rfl hjN Try.underlying25 Try.size3) ?_
        refine KT.step rfl rfl (K.loadO rfl y1 (by simp) (iX_get _ hjN) Try.agg3) ?_
        refine KT.step rfl rfl (K.assign rfl) ?_
        refine KT.nil ?_
        refine thenK_n ?_
        refine KC.region ?_
        refine KT.step rfl rfl (K.move rfl) ?_
        refine KT.step rfl rfl (K.move rfl) ?_
        refine KT.step rfl rfl (K.add rfl rfl (addN (by have := part_le hok.le j; have := hok.le j; omega))) ?_
        refine KT.step rfl rfl (K.assign rfl) ?_
        refine KT.nil ?_
        refine blockK_n ?_
        refine thenK_n ?_
        refine KC.region ?_
        refine KT.step rfl rfl (K.add rfl rfl (wrap_id (by omega))) ?_
        refine KT.step rfl rfl (K.move rfl) ?_
        refine KT.nil ?_
        refine thenK_n ?_
        refine ⟨j + 1, by show j + 1 ≤ N; omega, by show N - (j + 1) < N - j; omega, rfl, ?_⟩
        rw [part_step (by omega)]
        simp [Go.Vm.look, extK]
      · skip
        replace hc213 := of_decide_eq_false hc213
        obtain rfl : N = j := by omega
        refine KC.exit ?_
        refine thenK_x ?_
        refine thenK_x ?_
        refine blockK_e ?_
        refine thenK_n ?_
        refine KC.seq ?_
        refine KC.seq ?_
        refine KC.region ?_
        refine KT.step rfl rfl (K.fieldAddrO rfl Try.fld24_1 Try.size22) ?_
        refine KT.step rfl rfl (K.loadO rfl y0 (by simp) rfl Try.agg22) ?_
        refine KT.step rfl rfl (K.lenN rfl hd2 Try.underlying22) ?_
        refine KT.step rfl rfl (K.move rfl) ?_
        refine KT.nil ?_
        refine thenK_n ?_
        refine KC.block ?_
        refine KC.loop (fun z : List VObj × Nat => z.1) (fun z => [(1, .optr 0 0), (4, .osl 1 0 N 1 N true), (22, .d (DI (Go.Fl.part (refFold L N N) N : Nat))), (221, .d d), (222, .d (DI (L.length : Nat))), (223, .d (DI (z.2 : Nat)))]) (fun z => z.2 ≤ L.length ∧ z.1[0]? = some ⟨[.d (DI (N : Nat)), .d d], 0⟩ ∧ z.1[1]? = some ⟨iX N fun a => (((refFold L N N) a : Nat) : Int), 0⟩ ∧ balQ (L.take z.2) (refFold L N N) = true) (fun z => L.length - z.2) (σ0, 0) ⟨Nat.zero_le _, y0, y1, rfl⟩ rfl (by simp [Go.Vm.look, extK]) ?_
        clear y0 y1
        intro z hz
        obtain ⟨σ0, j⟩ := z
        obtain ⟨hj, y0, y1, hbq⟩ := hz
        simp only at hj y0 y1 hbq ⊢
        have g1 := (List.getElem?_eq_some_iff.1 y1).1
        refine KC.seq ?_
        refine KC.region ?_
        refine KT.step rfl rfl (K.lss rfl rfl) ?_
        refine KT.nil ?_
        refine thenK_n ?_
        refine KC.seq ?_
        refine KC.cond rfl (fun hc224 => ?_) (fun hc224 => ?_)
        · skip
          replace hc224 := of_decide_eq_true hc224
          have hjl : j < L.length := by omega
          have ok := hL _ (List.getElem_mem hjl)
          have hm1 : L[j].g * refFold L N N L[j].f ≤ 6 * 604661760000000000 := Nat.mul_le_mul ok.g6 (hok.le _)
          have hm2 : L[j].k * refFold L N N L[j].t ≤ 6 * 604661760000000000 := Nat.mul_le_mul ok.k6 (hok.le _)
          refine KC.skip ?_
          refine thenK_n ?_
          refine KC.seq ?_
          refine KC.block ?_
          refine KC.seq ?_
          refine KC.region ?_
          refine KT.step rfl rfl (K.idxN rfl hd2 rfl hjl Try.underlying22 Try.size57) ?_
          refine KT.step rfl rfl (K.loadN hjl rfl Try.agg57 Try.size57) ?_
          refine KT.step rfl rfl (K.alloc Try.zero57) ?_
          refine KT.storeH (cs := (lk5 L[j].z).map XV.d) rfl rfl rfl rfl (List.getElem?_concat_length ..) rfl (Nat.le_refl _) rfl Try.size57 fun σ1 l1 u1 v1 => ?_
          try simp only [List.length_append, List.length_cons, List.length_nil] at l1
          replace u1 := u1.trans (congrArg (fun c => some (VObj.mk c 0)) (splice_all (by rfl)))
          have y0 := (v1 (0) (by omega)).trans ((List.getElem?_append_left (by omega)).trans y0)
          have y1 := (v1 (1) (by omega)).trans ((List.getElem?_append_left (by omega)).trans y1)
          have x26 := u1
          refine KT.nil ?_
          refine thenK_n ?_
          refine KC.seq ?_
          refine KC.draw Try.mixed ?_
          refine KT.step rfl rfl (K.fieldAddrO rfl Try.fld57_2 Try.size3) ?_
          refine KT.step rfl rfl (K.loadO rfl x26 (by simp) rfl Try.agg3) ?_
          refine KT.step rfl rfl (K.move rfl) ?_
          refine KT.step rfl rfl (K.fieldAddrO rfl Try.fld57_0 Try.size3) ?_
          refine KT.step rfl rfl (K.loadO rfl x26 (by simp) rfl Try.agg3) ?_
          refine KT.step rfl rfl (K.idxO rfl rfl ok.f Try.underlying25 Try.size3) ?_
          refine KT.step rfl rfl (K.loadO rfl y1 (by simp) (iX_get _ ok.f) Try.agg3) ?_
          refine KT.step rfl rfl (K.mul rfl rfl (mulN (by omega))) ?_
          refine KT.step rfl rfl (K.fieldAddrO rfl Try.fld57_3 Try.size3) ?_
          refine KT.step rfl rfl (K.loadO rfl x26 (by simp) rfl Try.agg3) ?_
          refine KT.step rfl rfl (K.move rfl) ?_
          refine KT.step rfl rfl (K.fieldAddrO rfl Try.fld57_1 Try.size3) ?_
          refine KT.step rfl rfl (K.loadO rfl x26 (by simp) rfl Try.agg3) ?_
          refine KT.step rfl rfl (K.idxO rfl rfl ok.t Try.underlying25 Try.size3) ?_
          refine KT.step rfl rfl (K.loadO rfl y1 (by simp) (iX_get _ ok.t) Try.agg3) ?_
          refine KT.step rfl rfl (K.mul rfl rfl (mulN (by omega))) ?_
          refine KT.step rfl rfl (K.neq rfl rfl) ?_
          refine KT.nil ?_
          refine ⟨by kernel_rfl, ?_⟩
          refine thenK_n ?_
          refine KC.cond rfl (fun hc243 => ?_) (fun hc243 => ?_)
          · skip
            replace hc243 := of_decide_eq_true hc243
            refine KC.seq ?_
            refine KC.region ?_
            refine KT.step rfl rfl (K.assign rfl) ?_
            refine KT.step rfl rfl (K.assign rfl) ?_
            refine KT.nil ?_
            refine thenK_n ?_
            refine KC.ret ?_
            refine blockK_r ?_
            refine thenK_r ?_
            refine thenK_r ?_
            refine blockK_r ?_
            refine thenK_r ?_
            have hb : balQ L (refFold L N N) = false := List.all_eq_false.2 ⟨L[j], List.getElem_mem hjl, by simp only [decide_eq_true_eq]; intro h; exact hc243 (congrArg (fun (n : Nat) => (n : Int)) h)⟩
            have e : repA (N : Int) (L.map LN.z) = (fun _ => 0, 5) := (repA_ok hv).trans ((refO_rep hN6 hL).symm.trans (refO_bal hb))
            refine ⟨.inl rfl, _, rfl, ?_⟩
            unfold rrD; rw [e]; rfl
          · skip
            replace hc243 := of_decide_eq_false hc243
            have hbal : L[j].g * refFold L N N L[j].f = L[j].k * refFold L N N L[j].t := Int.ofNat_inj.1 (Classical.not_not.1 hc243)
            refine KC.skip ?_
            refine blockK_n ?_
            refine thenK_n ?_
            refine KC.region ?_
            refine KT.step rfl rfl (K.add rfl rfl (wrap_id (by omega))) ?_
            refine KT.step rfl rfl (K.move rfl) ?_
            refine KT.nil ?_
            refine thenK_n ?_
            refine ⟨(σ1, j + 1), ⟨by simp only; omega, y0, y1, ?_⟩, by simp only; omega, rfl, by simp [Go.Vm.look, extK]⟩
            simp only
            unfold balQ at hbq ⊢
            rw [all_take _ hjl, hbq, Bool.true_and]
            exact decide_eq_true hbal
        · skip
          replace hc224 := of_decide_eq_false hc224
          obtain rfl : j = L.length := by omega
          rw [List.take_length] at hbq
          have ept : Go.Fl.part (refFold L N N) N = tot (refFold L N N) := part_full hok.out
          refine KC.exit ?_
          refine thenK_x ?_
          refine thenK_x ?_
          refine blockK_e ?_
          refine thenK_n ?_
          refine KC.seq ?_
          refine KC.seq ?_
          refine KC.region ?_
          refine KT.step rfl rfl (K.move rfl) ?_
          refine KT.step rfl rfl (K.gtr rfl rfl) ?_
          refine KT.nil ?_
          refine thenK_n ?_
          refine KC.cond rfl (fun hc246 => ?_) (fun hc246 => ?_)
          · skip
            replace hc246 := of_decide_eq_true hc246
            refine KC.seq ?_
            refine KC.region ?_
            refine KT.step rfl rfl (K.assign rfl) ?_
            refine KT.step rfl rfl (K.assign rfl) ?_
            refine KT.nil ?_
            refine thenK_n ?_
            refine KC.ret ?_
            refine thenK_r ?_
            have e : repA (N : Int) (L.map LN.z) = (fun _ => 0, 3) := (repA_ok hv).trans ((refO_rep hN6 hL).symm.trans (refO_big hbq (by rw [← ept]; omega)))
            refine ⟨.inl rfl, _, rfl, ?_⟩
            unfold rrD; rw [e]; rfl
          · skip
            replace hc246 := of_decide_eq_false hc246
            refine KC.skip ?_
            refine thenK_n ?_
            refine KC.seq ?_
            refine KC.region ?_
            refine KT.step rfl rfl (K.move rfl) ?_
            refine KT.step rfl rfl (K.assign rfl) ?_
            refine KT.step rfl rfl (K.assign rfl) ?_
            refine KT.nil ?_
            refine thenK_n ?_
            refine KC.ret ?_
            have e : repA (N : Int) (L.map LN.z) = (refFold L N N, 0) := (repA_ok hv).trans ((refO_rep hN6 hL).symm.trans (refO_ok hbq (by rw [← ept]; omega)))
            refine ⟨.inl rfl, _, rfl, ?_⟩
            unfold rrD; rw [e]
            rw [if_pos rfl]
            exact rr_deep y1
end Go.Proofs.Ytnfnjnaheckdbaa

