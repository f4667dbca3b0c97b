import Derived.Test.YtmfbakipfobaeaaHtPe
import Derived.Test.YtmfbakipfobaeaaHtPl
/-
  Heat: the law of matches.
-/
namespace Go.Proofs.Ytmfbakipfobaeaa
open Go.Vm Go.Ht
theorem plainTry_41 : plainFn Try.prog 41 = true := by kernel_rfl
theorem plainTry_8 : plainFn Try.prog 8 = true := by kernel_rfl
set_option maxHeartbeats 4000000 in
set_option maxRecDepth 10000 in
theorem rplan41 {d0 d1 : DV} {hot cold : List Int} (hh : Ints d0 hot) (hc : Ints d1 cold) (hhl : hot.length ≤ 9223372036854775807) (hcl : cold.length ≤ 9223372036854775807) (hok : okM hot cold = true) {E : List (Nat × Nat × Int)} (hP : PlanOK hot cold E) {cap : Option Nat} : DeepCall Try.prog 41 [d0, d1, .sl (E.flatMap (e3 hot.length)) E.length cap] (DB true) := by
  obtain ⟨n1, n2, n3, n4, b1, b2, hsum⟩ := okM_iff.1 hok
  have hE : FlD 3 (e3 hot.length) (.sl (E.flatMap (e3 hot.length)) E.length cap) E := .sl
  have hl1 := hP.len.1
  have hl12 := hP.len.2
  refine deepCall_K 5 Try.func41 rfl (Nat.le_of_ble_eq_true rfl) fun M W0 => ?_
  refine KC.seq ?_
  refine KC.region ?_
  refine KT.step rfl rfl (K.assign rfl) ?_
  refine KT.nil ?_
  refine thenK_n ?_
  refine KC.seq ?_
  refine KC.ordersM Try.mixed (m := 8) rfl (T' := fun e τ k => e = .normal ∧ ∃ p q, Two2 τ hot.length cold.length p q ∧ ∀ e ∈ ([(0, .d d0), (1, .d d1), (2, .d (.sl (E.flatMap (e3 hot.length)) E.length cap)), (7, .osl p 0 hot.length 1 hot.length true), (8, .osl q 0 cold.length 1 cold.length true)] : Kn), Go.Vm.look k e.1 = some e.2) ?_ ?_
  · skip
    refine KA.next (i0 := 0) (r := [3]) (by kernel_rfl) ?_
    refine KAll.cons' ?_ (KAll.cons' ?_ KAll.nil')
    · refine KO.op rfl rfl rfl (K.move rfl) ?_
      refine KA.next (i0 := 1) (r := [3]) (by kernel_rfl) ?_
      refine KAll.cons' ?_ (KAll.cons' ?_ KAll.nil')
      · refine KO.op rfl rfl rfl (K.len rfl hh Try.underlying23) ?_
        refine KA.next (i0 := 2) (r := [3]) (by kernel_rfl) ?_
        refine KAll.cons' ?_ (KAll.cons' ?_ KAll.nil')
        · refine KO.op rfl rfl rfl (K.make (m := hot.length) rfl rfl (Nat.le_refl _) (by omega) Try.underlying23 Try.one3) ?_
          refine KA.next (i0 := 3) (r := [6]) (by kernel_rfl) ?_
          refine KAll.cons' ?_ (KAll.cons' ?_ KAll.nil')
          · refine KO.op rfl rfl rfl (K.move rfl) ?_
            refine KA.next (i0 := 4) (r := [6]) (by kernel_rfl) ?_
            refine KAll.cons' ?_ (KAll.cons' ?_ KAll.nil')
            · refine KO.op rfl rfl rfl (K.len rfl hc Try.underlying23) ?_
              refine KA.next (i0 := 5) (r := [6]) (by kernel_rfl) ?_
              refine KAll.cons' ?_ (KAll.cons' ?_ KAll.nil')
              · refine KO.op rfl rfl rfl (K.make (m := cold.length) rfl rfl (Nat.le_refl _) (by omega) Try.underlying23 Try.one3) ?_
                refine KA.next (i0 := 6) (r := []) (by kernel_rfl) ?_
                refine KAll.cons' ?_ KAll.nil'
                · refine KO.op rfl rfl rfl (K.assign rfl) ?_
                  refine KA.next (i0 := 7) (r := []) (by kernel_rfl) ?_
                  refine KAll.cons' ?_ KAll.nil'
                  · refine KO.op rfl rfl rfl (K.assign rfl) ?_
                    exact KA.done (by kernel_rfl) ⟨rfl, 0, 1, ⟨by decide, by rw [← xs_rep]; rfl, by rw [← xs_rep]; rfl⟩, by simp [Go.Vm.look, extK, enterK]⟩
              · refine KO.op rfl rfl rfl (K.assign rfl) ?_
                refine KA.next (i0 := 5) (r := []) (by kernel_rfl) ?_
                refine KAll.cons' ?_ KAll.nil'
                · refine KO.op rfl rfl rfl (K.make (m := cold.length) rfl rfl (Nat.le_refl _) (by omega) Try.underlying23 Try.one3) ?_
                  refine KA.next (i0 := 7) (r := []) (by kernel_rfl) ?_
                  refine KAll.cons' ?_ KAll.nil'
                  · refine KO.op rfl rfl rfl (K.assign rfl) ?_
                    exact KA.done (by kernel_rfl) ⟨rfl, 0, 1, ⟨by decide, by rw [← xs_rep]; rfl, by rw [← xs_rep]; rfl⟩, by simp [Go.Vm.look, extK, enterK]⟩
            · refine KO.op rfl rfl rfl (K.assign rfl) ?_
              refine KA.next (i0 := 4) (r := []) (by kernel_rfl) ?_
              refine KAll.cons' ?_ KAll.nil'
              · refine KO.op rfl rfl rfl (K.len rfl hc Try.underlying23) ?_
                refine KA.next (i0 := 5) (r := []) (by kernel_rfl) ?_
                refine KAll.cons' ?_ KAll.nil'
                · refine KO.op rfl rfl rfl (K.make (m := cold.length) rfl rfl (Nat.le_refl _) (by omega) Try.underlying23 Try.one3) ?_
                  refine KA.next (i0 := 7) (r := []) (by kernel_rfl) ?_
                  refine KAll.cons' ?_ KAll.nil'
                  · refine KO.op rfl rfl rfl (K.assign rfl) ?_
                    exact KA.done (by kernel_rfl) ⟨rfl, 0, 1, ⟨by decide, by rw [← xs_rep]; rfl, by rw [← xs_rep]; rfl⟩, by simp [Go.Vm.look, extK, enterK]⟩
          · refine KO.op rfl rfl rfl (K.assign rfl) ?_
            refine KA.next (i0 := 3) (r := []) (by kernel_rfl) ?_
            refine KAll.cons' ?_ KAll.nil'
            · refine KO.op rfl rfl rfl (K.move rfl) ?_
              refine KA.next (i0 := 4) (r := []) (by kernel_rfl) ?_
              refine KAll.cons' ?_ KAll.nil'
              · refine KO.op rfl rfl rfl (K.len rfl hc Try.underlying23) ?_
                refine KA.next (i0 := 5) (r := []) (by kernel_rfl) ?_
                refine KAll.cons' ?_ KAll.nil'
                · refine KO.op rfl rfl rfl (K.make (m := cold.length) rfl rfl (Nat.le_refl _) (by omega) Try.underlying23 Try.one3) ?_
                  refine KA.next (i0 := 7) (r := []) (by kernel_rfl) ?_
                  refine KAll.cons' ?_ KAll.nil'
                  · refine KO.op rfl rfl rfl (K.assign rfl) ?_
                    exact KA.done (by kernel_rfl) ⟨rfl, 0, 1, ⟨by decide, by rw [← xs_rep]; rfl, by rw [← xs_rep]; rfl⟩, by simp [Go.Vm.look, extK, enterK]⟩
        · refine KO.op rfl rfl rfl (K.move rfl) ?_
          refine KA.next (i0 := 2) (r := [4]) (by kernel_rfl) ?_
          refine KAll.cons' ?_ (KAll.cons' ?_ KAll.nil')
          · refine KO.op rfl rfl rfl (K.make (m := hot.length) rfl rfl (Nat.le_refl _) (by omega) Try.underlying23 Try.one3) ?_
            refine KA.next (i0 := 4) (r := [6]) (by kernel_rfl) ?_
            refine KAll.cons' ?_ (KAll.cons' ?_ KAll.nil')
            · refine KO.op rfl rfl rfl (K.len rfl hc Try.underlying23) ?_
              refine KA.next (i0 := 5) (r := [6]) (by kernel_rfl) ?_
              refine KAll.cons' ?_ (KAll.cons' ?_ KAll.nil')
              · refine KO.op rfl rfl rfl (K.make (m := cold.length) rfl rfl (Nat.le_refl _) (by omega) Try.underlying23 Try.one3) ?_
                refine KA.next (i0 := 6) (r := []) (by kernel_rfl) ?_
                refine KAll.cons' ?_ KAll.nil'
                · refine KO.op rfl rfl rfl (K.assign rfl) ?_
                  refine KA.next (i0 := 7) (r := []) (by kernel_rfl) ?_
                  refine KAll.cons' ?_ KAll.nil'
                  · refine KO.op rfl rfl rfl (K.assign rfl) ?_
                    exact KA.done (by kernel_rfl) ⟨rfl, 0, 1, ⟨by decide, by rw [← xs_rep]; rfl, by rw [← xs_rep]; rfl⟩, by simp [Go.Vm.look, extK, enterK]⟩
              · refine KO.op rfl rfl rfl (K.assign rfl) ?_
                refine KA.next (i0 := 5) (r := []) (by kernel_rfl) ?_
                refine KAll.cons' ?_ KAll.nil'
                · refine KO.op rfl rfl rfl (K.make (m := cold.length) rfl rfl (Nat.le_refl _) (by omega) Try.underlying23 Try.one3) ?_
                  refine KA.next (i0 := 7) (r := []) (by kernel_rfl) ?_
                  refine KAll.cons' ?_ KAll.nil'
                  · refine KO.op rfl rfl rfl (K.assign rfl) ?_
                    exact KA.done (by kernel_rfl) ⟨rfl, 0, 1, ⟨by decide, by rw [← xs_rep]; rfl, by rw [← xs_rep]; rfl⟩, by simp [Go.Vm.look, extK, enterK]⟩
            · refine KO.op rfl rfl rfl (K.assign rfl) ?_
              refine KA.next (i0 := 4) (r := []) (by kernel_rfl) ?_
              refine KAll.cons' ?_ KAll.nil'
              · refine KO.op rfl rfl rfl (K.len rfl hc Try.underlying23) ?_
                refine KA.next (i0 := 5) (r := []) (by kernel_rfl) ?_
                refine KAll.cons' ?_ KAll.nil'
                · refine KO.op rfl rfl rfl (K.make (m := cold.length) rfl rfl (Nat.le_refl _) (by omega) Try.underlying23 Try.one3) ?_
                  refine KA.next (i0 := 7) (r := []) (by kernel_rfl) ?_
                  refine KAll.cons' ?_ KAll.nil'
                  · refine KO.op rfl rfl rfl (K.assign rfl) ?_
                    exact KA.done (by kernel_rfl) ⟨rfl, 0, 1, ⟨by decide, by rw [← xs_rep]; rfl, by rw [← xs_rep]; rfl⟩, by simp [Go.Vm.look, extK, enterK]⟩
          · refine KO.op rfl rfl rfl (K.len rfl hc Try.underlying23) ?_
            refine KA.next (i0 := 2) (r := [5]) (by kernel_rfl) ?_
            refine KAll.cons' ?_ (KAll.cons' ?_ KAll.nil')
            · refine KO.op rfl rfl rfl (K.make (m := hot.length) rfl rfl (Nat.le_refl _) (by omega) Try.underlying23 Try.one3) ?_
              refine KA.next (i0 := 5) (r := [6]) (by kernel_rfl) ?_
              refine KAll.cons' ?_ (KAll.cons' ?_ KAll.nil')
              · refine KO.op rfl rfl rfl (K.make (m := cold.length) rfl rfl (Nat.le_refl _) (by omega) Try.underlying23 Try.one3) ?_
                refine KA.next (i0 := 6) (r := []) (by kernel_rfl) ?_
                refine KAll.cons' ?_ KAll.nil'
                · refine KO.op rfl rfl rfl (K.assign rfl) ?_
                  refine KA.next (i0 := 7) (r := []) (by kernel_rfl) ?_
                  refine KAll.cons' ?_ KAll.nil'
                  · refine KO.op rfl rfl rfl (K.assign rfl) ?_
                    exact KA.done (by kernel_rfl) ⟨rfl, 0, 1, ⟨by decide, by rw [← xs_rep]; rfl, by rw [← xs_rep]; rfl⟩, by simp [Go.Vm.look, extK, enterK]⟩
              · refine KO.op rfl rfl rfl (K.assign rfl) ?_
                refine KA.next (i0 := 5) (r := []) (by kernel_rfl) ?_
                refine KAll.cons' ?_ KAll.nil'
                · refine KO.op rfl rfl rfl (K.make (m := cold.length) rfl rfl (Nat.le_refl _) (by omega) Try.underlying23 Try.one3) ?_
                  refine KA.next (i0 := 7) (r := []) (by kernel_rfl) ?_
                  refine KAll.cons' ?_ KAll.nil'
                  · refine KO.op rfl rfl rfl (K.assign rfl) ?_
                    exact KA.done (by kernel_rfl) ⟨rfl, 0, 1, ⟨by decide, by rw [← xs_rep]; rfl, by rw [← xs_rep]; rfl⟩, by simp [Go.Vm.look, extK, enterK]⟩
            · refine KO.op rfl rfl rfl (K.make (m := cold.length) rfl rfl (Nat.le_refl _) (by omega) Try.underlying23 Try.one3) ?_
              refine KA.next (i0 := 2) (r := []) (by kernel_rfl) ?_
              refine KAll.cons' ?_ KAll.nil'
              · refine KO.op rfl rfl rfl (K.make (m := hot.length) rfl rfl (Nat.le_refl _) (by omega) Try.underlying23 Try.one3) ?_
                refine KA.next (i0 := 6) (r := []) (by kernel_rfl) ?_
                refine KAll.cons' ?_ KAll.nil'
                · refine KO.op rfl rfl rfl (K.assign rfl) ?_
                  refine KA.next (i0 := 7) (r := []) (by kernel_rfl) ?_
                  refine KAll.cons' ?_ KAll.nil'
                  · refine KO.op rfl rfl rfl (K.assign rfl) ?_
                    exact KA.done (by kernel_rfl) ⟨rfl, 1, 0, ⟨by decide, by rw [← xs_rep]; rfl, by rw [← xs_rep]; rfl⟩, by simp [Go.Vm.look, extK, enterK]⟩
      · refine KO.op rfl rfl rfl (K.move rfl) ?_
        refine KA.next (i0 := 1) (r := [4]) (by kernel_rfl) ?_
        refine KAll.cons' ?_ (KAll.cons' ?_ KAll.nil')
        · refine KO.op rfl rfl rfl (K.len rfl hh Try.underlying23) ?_
          refine KA.next (i0 := 2) (r := [4]) (by kernel_rfl) ?_
          refine KAll.cons' ?_ (KAll.cons' ?_ KAll.nil')
          · refine KO.op rfl rfl rfl (K.make (m := hot.length) rfl rfl (Nat.le_refl _) (by omega) Try.underlying23 Try.one3) ?_
            refine KA.next (i0 := 4) (r := [6]) (by kernel_rfl) ?_
            refine KAll.cons' ?_ (KAll.cons' ?_ KAll.nil')
            · refine KO.op rfl rfl rfl (K.len rfl hc Try.underlying23) ?_
              refine KA.next (i0 := 5) (r := [6]) (by kernel_rfl) ?_
              refine KAll.cons' ?_ (KAll.cons' ?_ KAll.nil')
              · refine KO.op rfl rfl rfl (K.make (m := cold.length) rfl rfl (Nat.le_refl _) (by omega) Try.underlying23 Try.one3) ?_
                refine KA.next (i0 := 6) (r := []) (by kernel_rfl) ?_
                refine KAll.cons' ?_ KAll.nil'
                · refine KO.op rfl rfl rfl (K.assign rfl) ?_
                  refine KA.next (i0 := 7) (r := []) (by kernel_rfl) ?_
                  refine KAll.cons' ?_ KAll.nil'
                  · refine KO.op rfl rfl rfl (K.assign rfl) ?_
                    exact KA.done (by kernel_rfl) ⟨rfl, 0, 1, ⟨by decide, by rw [← xs_rep]; rfl, by rw [← xs_rep]; rfl⟩, by simp [Go.Vm.look, extK, enterK]⟩
              · refine KO.op rfl rfl rfl (K.assign rfl) ?_
                refine KA.next (i0 := 5) (r := []) (by kernel_rfl) ?_
                refine KAll.cons' ?_ KAll.nil'
                · refine KO.op rfl rfl rfl (K.make (m := cold.length) rfl rfl (Nat.le_refl _) (by omega) Try.underlying23 Try.one3) ?_
                  refine KA.next (i0 := 7) (r := []) (by kernel_rfl) ?_
                  refine KAll.cons' ?_ KAll.nil'
                  · refine KO.op rfl rfl rfl (K.assign rfl) ?_
                    exact KA.done (by kernel_rfl) ⟨rfl, 0, 1, ⟨by decide, by rw [← xs_rep]; rfl, by rw [← xs_rep]; rfl⟩, by simp [Go.Vm.look, extK, enterK]⟩
            · refine KO.op rfl rfl rfl (K.assign rfl) ?_
              refine KA.next (i0 := 4) (r := []) (by kernel_rfl) ?_
              refine KAll.cons' ?_ KAll.nil'
              · refine KO.op rfl rfl rfl (K.len rfl hc Try.underlying23) ?_
                refine KA.next (i0 := 5) (r := []) (by kernel_rfl) ?_
                refine KAll.cons' ?_ KAll.nil'
                · refine KO.op rfl rfl rfl (K.make (m := cold.length) rfl rfl (Nat.le_refl _) (by omega) Try.underlying23 Try.one3) ?_
                  refine KA.next (i0 := 7) (r := []) (by kernel_rfl) ?_
                  refine KAll.cons' ?_ KAll.nil'
                  · refine KO.op rfl rfl rfl (K.assign rfl) ?_
                    exact KA.done (by kernel_rfl) ⟨rfl, 0, 1, ⟨by decide, by rw [← xs_rep]; rfl, by rw [← xs_rep]; rfl⟩, by simp [Go.Vm.look, extK, enterK]⟩
          · refine KO.op rfl rfl rfl (K.len rfl hc Try.underlying23) ?_
            refine KA.next (i0 := 2) (r := [5]) (by kernel_rfl) ?_
            refine KAll.cons' ?_ (KAll.cons' ?_ KAll.nil')
            · refine KO.op rfl rfl rfl (K.make (m := hot.length) rfl rfl (Nat.le_refl _) (by omega) Try.underlying23 Try.one3) ?_
              refine KA.next (i0 := 5) (r := [6]) (by kernel_rfl) ?_
              refine KAll.cons' ?_ (KAll.cons' ?_ KAll.nil')
              · refine KO.op rfl rfl rfl (K.make (m := cold.length) rfl rfl (Nat.le_refl _) (by omega) Try.underlying23 Try.one3) ?_
                refine KA.next (i0 := 6) (r := []) (by kernel_rfl) ?_
                refine KAll.cons' ?_ KAll.nil'
                · refine KO.op rfl rfl rfl (K.assign rfl) ?_
                  refine KA.next (i0 := 7) (r := []) (by kernel_rfl) ?_
                  refine KAll.cons' ?_ KAll.nil'
                  · refine KO.op rfl rfl rfl (K.assign rfl) ?_
                    exact KA.done (by kernel_rfl) ⟨rfl, 0, 1, ⟨by decide, by rw [← xs_rep]; rfl, by rw [← xs_rep]; rfl⟩, by simp [Go.Vm.look, extK, enterK]⟩
              · refine KO.op rfl rfl rfl (K.assign rfl) ?_
                refine KA.next (i0 := 5) (r := []) (by kernel_rfl) ?_
                refine KAll.cons' ?_ KAll.nil'
                · refine KO.op rfl rfl rfl (K.make (m := cold.length) rfl rfl (Nat.le_refl _) (by omega) Try.underlying23 Try.one3) ?_
                  refine KA.next (i0 := 7) (r := []) (by kernel_rfl) ?_
                  refine KAll.cons' ?_ KAll.nil'
                  · refine KO.op rfl rfl rfl (K.assign rfl) ?_
                    exact KA.done (by kernel_rfl) ⟨rfl, 0, 1, ⟨by decide, by rw [← xs_rep]; rfl, by rw [← xs_rep]; rfl⟩, by simp [Go.Vm.look, extK, enterK]⟩
            · refine KO.op rfl rfl rfl (K.make (m := cold.length) rfl rfl (Nat.le_refl _) (by omega) Try.underlying23 Try.one3) ?_
              refine KA.next (i0 := 2) (r := []) (by kernel_rfl) ?_
              refine KAll.cons' ?_ KAll.nil'
              · refine KO.op rfl rfl rfl (K.make (m := hot.length) rfl rfl (Nat.le_refl _) (by omega) Try.underlying23 Try.one3) ?_
                refine KA.next (i0 := 6) (r := []) (by kernel_rfl) ?_
                refine KAll.cons' ?_ KAll.nil'
                · refine KO.op rfl rfl rfl (K.assign rfl) ?_
                  refine KA.next (i0 := 7) (r := []) (by kernel_rfl) ?_
                  refine KAll.cons' ?_ KAll.nil'
                  · refine KO.op rfl rfl rfl (K.assign rfl) ?_
                    exact KA.done (by kernel_rfl) ⟨rfl, 1, 0, ⟨by decide, by rw [← xs_rep]; rfl, by rw [← xs_rep]; rfl⟩, by simp [Go.Vm.look, extK, enterK]⟩
        · refine KO.op rfl rfl rfl (K.len rfl hc Try.underlying23) ?_
          refine KA.next (i0 := 1) (r := [5]) (by kernel_rfl) ?_
          refine KAll.cons' ?_ (KAll.cons' ?_ KAll.nil')
          · refine KO.op rfl rfl rfl (K.len rfl hh Try.underlying23) ?_
            refine KA.next (i0 := 2) (r := [5]) (by kernel_rfl) ?_
            refine KAll.cons' ?_ (KAll.cons' ?_ KAll.nil')
            · refine KO.op rfl rfl rfl (K.make (m := hot.length) rfl rfl (Nat.le_refl _) (by omega) Try.underlying23 Try.one3) ?_
              refine KA.next (i0 := 5) (r := [6]) (by kernel_rfl) ?_
              refine KAll.cons' ?_ (KAll.cons' ?_ KAll.nil')
              · refine KO.op rfl rfl rfl (K.make (m := cold.length) rfl rfl (Nat.le_refl _) (by omega) Try.underlying23 Try.one3) ?_
                refine KA.next (i0 := 6) (r := []) (by kernel_rfl) ?_
                refine KAll.cons' ?_ KAll.nil'
                · refine KO.op rfl rfl rfl (K.assign rfl) ?_
                  refine KA.next (i0 := 7) (r := []) (by kernel_rfl) ?_
                  refine KAll.cons' ?_ KAll.nil'
                  · refine KO.op rfl rfl rfl (K.assign rfl) ?_
                    exact KA.done (by kernel_rfl) ⟨rfl, 0, 1, ⟨by decide, by rw [← xs_rep]; rfl, by rw [← xs_rep]; rfl⟩, by simp [Go.Vm.look, extK, enterK]⟩
              · refine KO.op rfl rfl rfl (K.assign rfl) ?_
                refine KA.next (i0 := 5) (r := []) (by kernel_rfl) ?_
                refine KAll.cons' ?_ KAll.nil'
                · refine KO.op rfl rfl rfl (K.make (m := cold.length) rfl rfl (Nat.le_refl _) (by omega) Try.underlying23 Try.one3) ?_
                  refine KA.next (i0 := 7) (r := []) (by kernel_rfl) ?_
                  refine KAll.cons' ?_ KAll.nil'
                  · refine KO.op rfl rfl rfl (K.assign rfl) ?_
                    exact KA.done (by kernel_rfl) ⟨rfl, 0, 1, ⟨by decide, by rw [← xs_rep]; rfl, by rw [← xs_rep]; rfl⟩, by simp [Go.Vm.look, extK, enterK]⟩
            · refine KO.op rfl rfl rfl (K.make (m := cold.length) rfl rfl (Nat.le_refl _) (by omega) Try.underlying23 Try.one3) ?_
              refine KA.next (i0 := 2) (r := []) (by kernel_rfl) ?_
              refine KAll.cons' ?_ KAll.nil'
              · refine KO.op rfl rfl rfl (K.make (m := hot.length) rfl rfl (Nat.le_refl _) (by omega) Try.underlying23 Try.one3) ?_
                refine KA.next (i0 := 6) (r := []) (by kernel_rfl) ?_
                refine KAll.cons' ?_ KAll.nil'
                · refine KO.op rfl rfl rfl (K.assign rfl) ?_
                  refine KA.next (i0 := 7) (r := []) (by kernel_rfl) ?_
                  refine KAll.cons' ?_ KAll.nil'
                  · refine KO.op rfl rfl rfl (K.assign rfl) ?_
                    exact KA.done (by kernel_rfl) ⟨rfl, 1, 0, ⟨by decide, by rw [← xs_rep]; rfl, by rw [← xs_rep]; rfl⟩, by simp [Go.Vm.look, extK, enterK]⟩
          · refine KO.op rfl rfl rfl (K.make (m := cold.length) rfl rfl (Nat.le_refl _) (by omega) Try.underlying23 Try.one3) ?_
            refine KA.next (i0 := 1) (r := []) (by kernel_rfl) ?_
            refine KAll.cons' ?_ KAll.nil'
            · refine KO.op rfl rfl rfl (K.len rfl hh Try.underlying23) ?_
              refine KA.next (i0 := 2) (r := []) (by kernel_rfl) ?_
              refine KAll.cons' ?_ KAll.nil'
              · refine KO.op rfl rfl rfl (K.make (m := hot.length) rfl rfl (Nat.le_refl _) (by omega) Try.underlying23 Try.one3) ?_
                refine KA.next (i0 := 6) (r := []) (by kernel_rfl) ?_
                refine KAll.cons' ?_ KAll.nil'
                · refine KO.op rfl rfl rfl (K.assign rfl) ?_
                  refine KA.next (i0 := 7) (r := []) (by kernel_rfl) ?_
                  refine KAll.cons' ?_ KAll.nil'
                  · refine KO.op rfl rfl rfl (K.assign rfl) ?_
                    exact KA.done (by kernel_rfl) ⟨rfl, 1, 0, ⟨by decide, by rw [← xs_rep]; rfl, by rw [← xs_rep]; rfl⟩, by simp [Go.Vm.look, extK, enterK]⟩
    · refine KO.op rfl rfl rfl (K.move rfl) ?_
      refine KA.next (i0 := 0) (r := [4]) (by kernel_rfl) ?_
      refine KAll.cons' ?_ (KAll.cons' ?_ KAll.nil')
      · refine KO.op rfl rfl rfl (K.move rfl) ?_
        refine KA.next (i0 := 1) (r := [4]) (by kernel_rfl) ?_
        refine KAll.cons' ?_ (KAll.cons' ?_ KAll.nil')
        · refine KO.op rfl rfl rfl (K.len rfl hh Try.underlying23) ?_
          refine KA.next (i0 := 2) (r := [4]) (by kernel_rfl) ?_
          refine KAll.cons' ?_ (KAll.cons' ?_ KAll.nil')
          · refine KO.op rfl rfl rfl (K.make (m := hot.length) rfl rfl (Nat.le_refl _) (by omega) Try.underlying23 Try.one3) ?_
            refine KA.next (i0 := 4) (r := [6]) (by kernel_rfl) ?_
            refine KAll.cons' ?_ (KAll.cons' ?_ KAll.nil')
            · refine KO.op rfl rfl rfl (K.len rfl hc Try.underlying23) ?_
              refine KA.next (i0 := 5) (r := [6]) (by kernel_rfl) ?_
              refine KAll.cons' ?_ (KAll.cons' ?_ KAll.nil')
              · refine KO.op rfl rfl rfl (K.make (m := cold.length) rfl rfl (Nat.le_refl _) (by omega) Try.underlying23 Try.one3) ?_
                refine KA.next (i0 := 6) (r := []) (by kernel_rfl) ?_
                refine KAll.cons' ?_ KAll.nil'
                · refine KO.op rfl rfl rfl (K.assign rfl) ?_
                  refine KA.next (i0 := 7) (r := []) (by kernel_rfl) ?_
                  refine KAll.cons' ?_ KAll.nil'
                  · refine KO.op rfl rfl rfl (K.assign rfl) ?_
                    exact KA.done (by kernel_rfl) ⟨rfl, 0, 1, ⟨by decide, by rw [← xs_rep]; rfl, by rw [← xs_rep]; rfl⟩, by simp [Go.Vm.look, extK, enterK]⟩
              · refine KO.op rfl rfl rfl (K.assign rfl) ?_
                refine KA.next (i0 := 5) (r := []) (by kernel_rfl) ?_
                refine KAll.cons' ?_ KAll.nil'
                · refine KO.op rfl rfl rfl (K.make (m := cold.length) rfl rfl (Nat.le_refl _) (by omega) Try.underlying23 Try.one3) ?_
                  refine KA.next (i0 := 7) (r := []) (by kernel_rfl) ?_
                  refine KAll.cons' ?_ KAll.nil'
                  · refine KO.op rfl rfl rfl (K.assign rfl) ?_
                    exact KA.done (by kernel_rfl) ⟨rfl, 0, 1, ⟨by decide, by rw [← xs_rep]; rfl, by rw [← xs_rep]; rfl⟩, by simp [Go.Vm.look, extK, enterK]⟩
            · refine KO.op rfl rfl rfl (K.assign rfl) ?_
              refine KA.next (i0 := 4) (r := []) (by kernel_rfl) ?_
              refine KAll.cons' ?_ KAll.nil'
              · refine KO.op rfl rfl rfl (K.len rfl hc Try.underlying23) ?_
                refine KA.next (i0 := 5) (r := []) (by kernel_rfl) ?_
                refine KAll.cons' ?_ KAll.nil'
                · refine KO.op rfl rfl rfl (K.make (m := cold.length) rfl rfl (Nat.le_refl _) (by omega) Try.underlying23 Try.one3) ?_
                  refine KA.next (i0 := 7) (r := []) (by kernel_rfl) ?_
                  refine KAll.cons' ?_ KAll.nil'
                  · refine KO.op rfl rfl rfl (K.assign rfl) ?_
                    exact KA.done (by kernel_rfl) ⟨rfl, 0, 1, ⟨by decide, by rw [← xs_rep]; rfl, by rw [← xs_rep]; rfl⟩, by simp [Go.Vm.look, extK, enterK]⟩
          · refine KO.op rfl rfl rfl (K.len rfl hc Try.underlying23) ?_
            refine KA.next (i0 := 2) (r := [5]) (by kernel_rfl) ?_
            refine KAll.cons' ?_ (KAll.cons' ?_ KAll.nil')
            · refine KO.op rfl rfl rfl (K.make (m := hot.length) rfl rfl (Nat.le_refl _) (by omega) Try.underlying23 Try.one3) ?_
              refine KA.next (i0 := 5) (r := [6]) (by kernel_rfl) ?_
              refine KAll.cons' ?_ (KAll.cons' ?_ KAll.nil')
              · refine KO.op rfl rfl rfl (K.make (m := cold.length) rfl rfl (Nat.le_refl _) (by omega) Try.underlying23 Try.one3) ?_
                refine KA.next (i0 := 6) (r := []) (by kernel_rfl) ?_
                refine KAll.cons' ?_ KAll.nil'
                · refine KO.op rfl rfl rfl (K.assign rfl) ?_
                  refine KA.next (i0 := 7) (r := []) (by kernel_rfl) ?_
                  refine KAll.cons' ?_ KAll.nil'
                  · refine KO.op rfl rfl rfl (K.assign rfl) ?_
                    exact KA.done (by kernel_rfl) ⟨rfl, 0, 1, ⟨by decide, by rw [← xs_rep]; rfl, by rw [← xs_rep]; rfl⟩, by simp [Go.Vm.look, extK, enterK]⟩
              · refine KO.op rfl rfl rfl (K.assign rfl) ?_
                refine KA.next (i0 := 5) (r := []) (by kernel_rfl) ?_
                refine KAll.cons' ?_ KAll.nil'
                · refine KO.op rfl rfl rfl (K.make (m := cold.length) rfl rfl (Nat.le_refl _) (by omega) Try.underlying23 Try.one3) ?_
                  refine KA.next (i0 := 7) (r := []) (by kernel_rfl) ?_
                  refine KAll.cons' ?_ KAll.nil'
                  · refine KO.op rfl rfl rfl (K.assign rfl) ?_
                    exact KA.done (by kernel_rfl) ⟨rfl, 0, 1, ⟨by decide, by rw [← xs_rep]; rfl, by rw [← xs_rep]; rfl⟩, by simp [Go.Vm.look, extK, enterK]⟩
            · refine KO.op rfl rfl rfl (K.make (m := cold.length) rfl rfl (Nat.le_refl _) (by omega) Try.underlying23 Try.one3) ?_
              refine KA.next (i0 := 2) (r := []) (by kernel_rfl) ?_
              refine KAll.cons' ?_ KAll.nil'
              · refine KO.op rfl rfl rfl (K.make (m := hot.length) rfl rfl (Nat.le_refl _) (by omega) Try.underlying23 Try.one3) ?_
                refine KA.next (i0 := 6) (r := []) (by kernel_rfl) ?_
                refine KAll.cons' ?_ KAll.nil'
                · refine KO.op rfl rfl rfl (K.assign rfl) ?_
                  refine KA.next (i0 := 7) (r := []) (by kernel_rfl) ?_
                  refine KAll.cons' ?_ KAll.nil'
                  · refine KO.op rfl rfl rfl (K.assign rfl) ?_
                    exact KA.done (by kernel_rfl) ⟨rfl, 1, 0, ⟨by decide, by rw [← xs_rep]; rfl, by rw [← xs_rep]; rfl⟩, by simp [Go.Vm.look, extK, enterK]⟩
        · refine KO.op rfl rfl rfl (K.len rfl hc Try.underlying23) ?_
          refine KA.next (i0 := 1) (r := [5]) (by kernel_rfl) ?_
          refine KAll.cons' ?_ (KAll.cons' ?_ KAll.nil')
          · refine KO.op rfl rfl rfl (K.len rfl hh Try.underlying23) ?_
            refine KA.next (i0 := 2) (r := [5]) (by kernel_rfl) ?_
            refine KAll.cons' ?_ (KAll.cons' ?_ KAll.nil')
            · refine KO.op rfl rfl rfl (K.make (m := hot.length) rfl rfl (Nat.le_refl _) (by omega) Try.underlying23 Try.one3) ?_
              refine KA.next (i0 := 5) (r := [6]) (by kernel_rfl) ?_
              refine KAll.cons' ?_ (KAll.cons' ?_ KAll.nil')
              · refine KO.op rfl rfl rfl (K.make (m := cold.length) rfl rfl (Nat.le_refl _) (by omega) Try.underlying23 Try.one3) ?_
                refine KA.next (i0 := 6) (r := []) (by kernel_rfl) ?_
                refine KAll.cons' ?_ KAll.nil'
                · refine KO.op rfl rfl rfl (K.assign rfl) ?_
                  refine KA.next (i0 := 7) (r := []) (by kernel_rfl) ?_
                  refine KAll.cons' ?_ KAll.nil'
                  · refine KO.op rfl rfl rfl (K.assign rfl) ?_
                    exact KA.done (by kernel_rfl) ⟨rfl, 0, 1, ⟨by decide, by rw [← xs_rep]; rfl, by rw [← xs_rep]; rfl⟩, by simp [Go.Vm.look, extK, enterK]⟩
              · refine KO.op rfl rfl rfl (K.assign rfl) ?_
                refine KA.next (i0 := 5) (r := []) (by kernel_rfl) ?_
                refine KAll.cons' ?_ KAll.nil'
                · refine KO.op rfl rfl rfl (K.make (m := cold.length) rfl rfl (Nat.le_refl _) (by omega) Try.underlying23 Try.one3) ?_
                  refine KA.next (i0 := 7) (r := []) (by kernel_rfl) ?_
                  refine KAll.cons' ?_ KAll.nil'
                  · refine KO.op rfl rfl rfl (K.assign rfl) ?_
                    exact KA.done (by kernel_rfl) ⟨rfl, 0, 1, ⟨by decide, by rw [← xs_rep]; rfl, by rw [← xs_rep]; rfl⟩, by simp [Go.Vm.look, extK, enterK]⟩
            · refine KO.op rfl rfl rfl (K.make (m := cold.length) rfl rfl (Nat.le_refl _) (by omega) Try.underlying23 Try.one3) ?_
              refine KA.next (i0 := 2) (r := []) (by kernel_rfl) ?_
              refine KAll.cons' ?_ KAll.nil'
              · refine KO.op rfl rfl rfl (K.make (m := hot.length) rfl rfl (Nat.le_refl _) (by omega) Try.underlying23 Try.one3) ?_
                refine KA.next (i0 := 6) (r := []) (by kernel_rfl) ?_
                refine KAll.cons' ?_ KAll.nil'
                · refine KO.op rfl rfl rfl (K.assign rfl) ?_
                  refine KA.next (i0 := 7) (r := []) (by kernel_rfl) ?_
                  refine KAll.cons' ?_ KAll.nil'
                  · refine KO.op rfl rfl rfl (K.assign rfl) ?_
                    exact KA.done (by kernel_rfl) ⟨rfl, 1, 0, ⟨by decide, by rw [← xs_rep]; rfl, by rw [← xs_rep]; rfl⟩, by simp [Go.Vm.look, extK, enterK]⟩
          · refine KO.op rfl rfl rfl (K.make (m := cold.length) rfl rfl (Nat.le_refl _) (by omega) Try.underlying23 Try.one3) ?_
            refine KA.next (i0 := 1) (r := []) (by kernel_rfl) ?_
            refine KAll.cons' ?_ KAll.nil'
            · refine KO.op rfl rfl rfl (K.len rfl hh Try.underlying23) ?_
              refine KA.next (i0 := 2) (r := []) (by kernel_rfl) ?_
              refine KAll.cons' ?_ KAll.nil'
              · refine KO.op rfl rfl rfl (K.make (m := hot.length) rfl rfl (Nat.le_refl _) (by omega) Try.underlying23 Try.one3) ?_
                refine KA.next (i0 := 6) (r := []) (by kernel_rfl) ?_
                refine KAll.cons' ?_ KAll.nil'
                · refine KO.op rfl rfl rfl (K.assign rfl) ?_
                  refine KA.next (i0 := 7) (r := []) (by kernel_rfl) ?_
                  refine KAll.cons' ?_ KAll.nil'
                  · refine KO.op rfl rfl rfl (K.assign rfl) ?_
                    exact KA.done (by kernel_rfl) ⟨rfl, 1, 0, ⟨by decide, by rw [← xs_rep]; rfl, by rw [← xs_rep]; rfl⟩, by simp [Go.Vm.look, extK, enterK]⟩
      · refine KO.op rfl rfl rfl (K.len rfl hc Try.underlying23) ?_
        refine KA.next (i0 := 0) (r := [5]) (by kernel_rfl) ?_
        refine KAll.cons' ?_ (KAll.cons' ?_ KAll.nil')
        · refine KO.op rfl rfl rfl (K.move rfl) ?_
          refine KA.next (i0 := 1) (r := [5]) (by kernel_rfl) ?_
          refine KAll.cons' ?_ (KAll.cons' ?_ KAll.nil')
          · refine KO.op rfl rfl rfl (K.len rfl hh Try.underlying23) ?_
            refine KA.next (i0 := 2) (r := [5]) (by kernel_rfl) ?_
            refine KAll.cons' ?_ (KAll.cons' ?_ KAll.nil')
            · refine KO.op rfl rfl rfl (K.make (m := hot.length) rfl rfl (Nat.le_refl _) (by omega) Try.underlying23 Try.one3) ?_
              refine KA.next (i0 := 5) (r := [6]) (by kernel_rfl) ?_
              refine KAll.cons' ?_ (KAll.cons' ?_ KAll.nil')
              · refine KO.op rfl rfl rfl (K.make (m := cold.length) rfl rfl (Nat.le_refl _) (by omega) Try.underlying23 Try.one3) ?_
                refine KA.next (i0 := 6) (r := []) (by kernel_rfl) ?_
                refine KAll.cons' ?_ KAll.nil'
                · refine KO.op rfl rfl rfl (K.assign rfl) ?_
                  refine KA.next (i0 := 7) (r := []) (by kernel_rfl) ?_
                  refine KAll.cons' ?_ KAll.nil'
                  · refine KO.op rfl rfl rfl (K.assign rfl) ?_
                    exact KA.done (by kernel_rfl) ⟨rfl, 0, 1, ⟨by decide, by rw [← xs_rep]; rfl, by rw [← xs_rep]; rfl⟩, by simp [Go.Vm.look, extK, enterK]⟩
              · refine KO.op rfl rfl rfl (K.assign rfl) ?_
                refine KA.next (i0 := 5) (r := []) (by kernel_rfl) ?_
                refine KAll.cons' ?_ KAll.nil'
                · refine KO.op rfl rfl rfl (K.make (m := cold.length) rfl rfl (Nat.le_refl _) (by omega) Try.underlying23 Try.one3) ?_
                  refine KA.next (i0 := 7) (r := []) (by kernel_rfl) ?_
                  refine KAll.cons' ?_ KAll.nil'
                  · refine KO.op rfl rfl rfl (K.assign rfl) ?_
                    exact KA.done (by kernel_rfl) ⟨rfl, 0, 1, ⟨by decide, by rw [← xs_rep]; rfl, by rw [← xs_rep]; rfl⟩, by simp [Go.Vm.look, extK, enterK]⟩
            · refine KO.op rfl rfl rfl (K.make (m := cold.length) rfl rfl (Nat.le_refl _) (by omega) Try.underlying23 Try.one3) ?_
              refine KA.next (i0 := 2) (r := []) (by kernel_rfl) ?_
              refine KAll.cons' ?_ KAll.nil'
              · refine KO.op rfl rfl rfl (K.make (m := hot.length) rfl rfl (Nat.le_refl _) (by omega) Try.underlying23 Try.one3) ?_
                refine KA.next (i0 := 6) (r := []) (by kernel_rfl) ?_
                refine KAll.cons' ?_ KAll.nil'
                · refine KO.op rfl rfl rfl (K.assign rfl) ?_
                  refine KA.next (i0 := 7) (r := []) (by kernel_rfl) ?_
                  refine KAll.cons' ?_ KAll.nil'
                  · refine KO.op rfl rfl rfl (K.assign rfl) ?_
                    exact KA.done (by kernel_rfl) ⟨rfl, 1, 0, ⟨by decide, by rw [← xs_rep]; rfl, by rw [← xs_rep]; rfl⟩, by simp [Go.Vm.look, extK, enterK]⟩
          · refine KO.op rfl rfl rfl (K.make (m := cold.length) rfl rfl (Nat.le_refl _) (by omega) Try.underlying23 Try.one3) ?_
            refine KA.next (i0 := 1) (r := []) (by kernel_rfl) ?_
            refine KAll.cons' ?_ KAll.nil'
            · refine KO.op rfl rfl rfl (K.len rfl hh Try.underlying23) ?_
              refine KA.next (i0 := 2) (r := []) (by kernel_rfl) ?_
              refine KAll.cons' ?_ KAll.nil'
              · refine KO.op rfl rfl rfl (K.make (m := hot.length) rfl rfl (Nat.le_refl _) (by omega) Try.underlying23 Try.one3) ?_
                refine KA.next (i0 := 6) (r := []) (by kernel_rfl) ?_
                refine KAll.cons' ?_ KAll.nil'
                · refine KO.op rfl rfl rfl (K.assign rfl) ?_
                  refine KA.next (i0 := 7) (r := []) (by kernel_rfl) ?_
                  refine KAll.cons' ?_ KAll.nil'
                  · refine KO.op rfl rfl rfl (K.assign rfl) ?_
                    exact KA.done (by kernel_rfl) ⟨rfl, 1, 0, ⟨by decide, by rw [← xs_rep]; rfl, by rw [← xs_rep]; rfl⟩, by simp [Go.Vm.look, extK, enterK]⟩
        · refine KO.op rfl rfl rfl (K.make (m := cold.length) rfl rfl (Nat.le_refl _) (by omega) Try.underlying23 Try.one3) ?_
          refine KA.next (i0 := 0) (r := []) (by kernel_rfl) ?_
          refine KAll.cons' ?_ KAll.nil'
          · refine KO.op rfl rfl rfl (K.move rfl) ?_
            refine KA.next (i0 := 1) (r := []) (by kernel_rfl) ?_
            refine KAll.cons' ?_ KAll.nil'
            · refine KO.op rfl rfl rfl (K.len rfl hh Try.underlying23) ?_
              refine KA.next (i0 := 2) (r := []) (by kernel_rfl) ?_
              refine KAll.cons' ?_ KAll.nil'
              · refine KO.op rfl rfl rfl (K.make (m := hot.length) rfl rfl (Nat.le_refl _) (by omega) Try.underlying23 Try.one3) ?_
                refine KA.next (i0 := 6) (r := []) (by kernel_rfl) ?_
                refine KAll.cons' ?_ KAll.nil'
                · refine KO.op rfl rfl rfl (K.assign rfl) ?_
                  refine KA.next (i0 := 7) (r := []) (by kernel_rfl) ?_
                  refine KAll.cons' ?_ KAll.nil'
                  · refine KO.op rfl rfl rfl (K.assign rfl) ?_
                    exact KA.done (by kernel_rfl) ⟨rfl, 1, 0, ⟨by decide, by rw [← xs_rep]; rfl, by rw [← xs_rep]; rfl⟩, by simp [Go.Vm.look, extK, enterK]⟩
  rintro e τ k ⟨rfl, p, q, ⟨hpq, yA, yB⟩, hlk⟩
  replace hlk : ∀ e ∈ ([(0, .d d0), (1, .d d1), (2, .d (.sl (E.flatMap (e3 hot.length)) E.length cap)), (7, .osl p 0 hot.length 1 hot.length true), (8, .osl q 0 cold.length 1 cold.length true)] : Kn), Go.Vm.look k e.1 = some e.2 := hlk
  refine thenK_n ?_
  refine KC.seq ?_
  refine KC.seq ?_
  refine KC.weaken ?_ hlk
  refine KC.region ?_
  refine KT.step rfl rfl (K.move rfl) ?_
  refine KT.step rfl rfl (K.lenF rfl hE Try.underlying56) ?_
  refine KT.step rfl rfl (K.move rfl) ?_
  refine KT.nil ?_
  refine thenK_n ?_
  refine KC.block ?_
  refine KC.loop (fun z : List VObj × Nat => z.1) (fun z => [(0, .d d0), (1, .d d1), (2, .d (.sl (E.flatMap (e3 hot.length)) E.length cap)), (7, .osl p 0 hot.length 1 hot.length true), (8, .osl q 0 cold.length 1 cold.length true), (23, .d (.sl (E.flatMap (e3 hot.length)) E.length cap)), (24, .d (DI (E.length : Nat))), (25, .d (DI (z.2 : Nat)))]) (fun z => z.2 ≤ E.length ∧ z.1[p]? = some ⟨xs (tA hot.length (E.take z.2)), 0⟩ ∧ z.1[q]? = some ⟨xs (tB hot.length cold.length (E.take z.2)), 0⟩) (fun z => E.length - z.2) (_, 0) ⟨Nat.zero_le _, by rw [List.take_zero, tA_nil]; exact yA, by rw [List.take_zero, tB_nil]; exact yB⟩ rfl (by simp [Go.Vm.look, extK]) ?_
  clear yA yB
  intro z hz
  obtain ⟨σ0, k⟩ := z
  obtain ⟨hk, yA, yB⟩ := hz
  simp only at hk yA yB ⊢
  refine KC.seq ?_
  refine KC.region ?_
  refine KT.step rfl rfl (K.lss rfl rfl) ?_
  refine KT.nil ?_
  refine thenK_n ?_
  refine KC.seq ?_
  refine KC.cond rfl (fun hc26 => ?_) (fun hc26 => ?_)
  · skip
    replace hc26 := of_decide_eq_true hc26
    have hk2 : k < E.length := by omega
    obtain ⟨m1, m2, m3, m4, m5⟩ := hP.mem _ (List.getElem_mem hk2)
    have heb := es_bd (E := E.take k) (fun e he => ⟨(hP.mem e (List.mem_of_mem_take he)).2.2.2.1, (hP.mem e (List.mem_of_mem_take he)).2.2.2.2⟩)
    refine KC.skip ?_
    refine thenK_n ?_
    refine KC.seq ?_
    refine KC.block ?_
    refine KC.seq ?_
    refine KC.region ?_
    refine KT.step rfl rfl (K.move rfl) ?_
    refine KT.step rfl rfl (K.idxF (e3_len _) (m := k) rfl hE rfl hk2 Try.underlying56 Try.size96) ?_
    refine KT.step rfl rfl (K.loadFl (cs := (e3 hot.length E[k])) rfl rfl Try.agg96 Try.size96) ?_
    refine KT.step rfl rfl (K.alloc Try.zero96) ?_
    refine KT.step rfl rfl (K.assign rfl) ?_
    refine KT.storeL (cs := (e3 hot.length E[k]).map .d) rfl rfl rfl rfl rfl rfl rfl Try.size96 ?_
    have lpA := lt_of_get yA
    have lpB := lt_of_get yB
    replace yA := get_left (B := [(⟨(e3 hot.length E[k]).map .d, 0⟩ : VObj)]) yA
    replace yB := get_left (B := [(⟨(e3 hot.length E[k]).map .d, 0⟩ : VObj)]) yB
    have yE : (σ0 ++ [(⟨(e3 hot.length E[k]).map .d, 0⟩ : VObj)])[σ0.length]? = some ⟨(e3 hot.length E[k]).map .d, 0⟩ := List.getElem?_concat_length ..
    refine KT.nil ?_
    refine thenK_n ?_
    refine KC.seq ?_
    refine KC.seq ?_
    refine KC.region ?_
    refine KT.step rfl rfl (K.idxA (m := 0) rfl rfl (by decide) Try.underlying96 Try.size3) ?_
    refine KT.step rfl rfl (K.loadO (y := .d (DI (E[k].1 : Nat))) rfl yE (by simp) rfl Try.agg3) ?_
    refine KT.step rfl rfl (K.lss rfl rfl) ?_
    refine KT.step rfl rfl (K.move rfl) ?_
    refine KT.bcase (fun hb33 => ?_) (fun hb33 => ?_)
    · skip
      exact absurd (of_decide_eq_true hb33) (by omega)
    · skip
      replace hb33 := of_decide_eq_false hb33
      refine KT.step rfl rfl (K.idxA (m := 0) rfl rfl (by decide) Try.underlying96 Try.size3) ?_
      refine KT.step rfl rfl (K.loadO (y := .d (DI (E[k].1 : Nat))) rfl yE (by simp) rfl Try.agg3) ?_
      refine KT.step rfl rfl (K.move rfl) ?_
      refine KT.step rfl rfl (K.len rfl hh Try.underlying23) ?_
      refine KT.step rfl rfl (K.geq rfl rfl) ?_
      refine KT.step rfl rfl (K.pick rfl (fun h => by cases h) (fun _ => rfl)) ?_
      refine KT.step rfl rfl (K.move rfl) ?_
      refine KT.bcase (fun hb40 => ?_) (fun hb40 => ?_)
      · skip
        exact absurd (of_decide_eq_true hb40) (by omega)
      · skip
        replace hb40 := of_decide_eq_false hb40
        refine KT.step rfl rfl (K.idxA (m := 1) rfl rfl (by decide) Try.underlying96 Try.size3) ?_
        refine KT.step rfl rfl (K.loadO (y := .d (DI ((E[k].2.1 : Nat) - (hot.length : Nat) : Int))) rfl yE (by simp) rfl Try.agg3) ?_
        refine KT.step rfl rfl (K.lss rfl rfl) ?_
        refine KT.step rfl rfl (K.pick rfl (fun h => by cases h) (fun _ => rfl)) ?_
        refine KT.step rfl rfl (K.move rfl) ?_
        refine KT.bcase (fun hb45 => ?_) (fun hb45 => ?_)
        · skip
          exact absurd (of_decide_eq_true hb45) (by omega)
        · skip
          replace hb45 := of_decide_eq_false hb45
          refine KT.step rfl rfl (K.idxA (m := 1) rfl rfl (by decide) Try.underlying96 Try.size3) ?_
          refine KT.step rfl rfl (K.loadO (y := .d (DI ((E[k].2.1 : Nat) - (hot.length : Nat) : Int))) rfl yE (by simp) rfl Try.agg3) ?_
          refine KT.step rfl rfl (K.move rfl) ?_
          refine KT.step rfl rfl (K.len rfl hc Try.underlying23) ?_
          refine KT.step rfl rfl (K.geq rfl rfl) ?_
          refine KT.step rfl rfl (K.pick rfl (fun h => by cases h) (fun _ => rfl)) ?_
          refine KT.step rfl rfl (K.move rfl) ?_
          refine KT.bcase (fun hb52 => ?_) (fun hb52 => ?_)
          · skip
            exact absurd (of_decide_eq_true hb52) (by omega)
          · skip
            replace hb52 := of_decide_eq_false hb52
            refine KT.step rfl rfl (K.idxA (m := 2) rfl rfl (by decide) Try.underlying96 Try.size3) ?_
            refine KT.step rfl rfl (K.loadO (y := .d (DI E[k].2.2)) rfl yE (by simp) rfl Try.agg3) ?_
            refine KT.step rfl rfl (K.lss rfl rfl) ?_
            refine KT.step rfl rfl (K.pick rfl (fun h => by cases h) (fun _ => rfl)) ?_
            refine KT.step rfl rfl (K.move rfl) ?_
            refine KT.bcase (fun hb57 => ?_) (fun hb57 => ?_)
            · skip
              exact absurd (of_decide_eq_true hb57) (by omega)
            · skip
              replace hb57 := of_decide_eq_false hb57
              refine KT.step rfl rfl (K.idxA (m := 2) rfl rfl (by decide) Try.underlying96 Try.size3) ?_
              refine KT.step rfl rfl (K.loadO (y := .d (DI E[k].2.2)) rfl yE (by simp) rfl Try.agg3) ?_
              refine KT.step rfl rfl (K.gtr rfl rfl) ?_
              refine KT.step rfl rfl (K.pick rfl (fun h => by cases h) (fun _ => rfl)) ?_
              refine KT.nil ?_
              refine thenK_n ?_
              refine KC.cond rfl (fun hc61 => ?_) (fun hc61 => ?_)
              · skip
                exact absurd (of_decide_eq_true hc61) (by omega)
              · skip
                replace hc61 := of_decide_eq_false hc61
                refine KC.skip ?_
                refine thenK_n ?_
                refine KC.seq ?_
                refine KC.seq ?_
                refine KC.region ?_
                refine KT.step rfl rfl (K.move rfl) ?_
                refine KT.step rfl rfl (K.move rfl) ?_
                refine KT.step rfl rfl (K.takeFl (e3_len _) (m := k) rfl rfl (by omega) Try.underlying56 Try.size96) ?_
                refine KT.step rfl rfl (K.lenF (k := 3) (f := e3 hot.length) rfl .sl Try.underlying56) ?_
                refine KT.step rfl rfl (K.move rfl) ?_
                refine KT.nil ?_
                refine thenK_n ?_
                refine KC.block ?_
                refine KC.loop (fun z : List VObj × Nat => z.1) (fun z => [(0, .d d0), (1, .d d1), (2, .d (.sl (E.flatMap (e3 hot.length)) E.length cap)), (7, .osl p 0 hot.length 1 hot.length true), (8, .osl q 0 cold.length 1 cold.length true), (9, .d (DI (k : Nat))), (10, .optr σ0.length 0), (23, .d (.sl (E.flatMap (e3 hot.length)) E.length cap)), (24, .d (DI (E.length : Nat))), (25, .d (DI (k : Nat))), (64, .d (.sl ((E.take k).flatMap (e3 hot.length)) (E.take k).length cap)), (65, .d (DI ((E.take k).length : Nat))), (66, .d (DI (z.2 : Nat)))]) (fun z => z.2 ≤ k ∧ z.1[p]? = some ⟨xs (tA hot.length (E.take k)), 0⟩ ∧ z.1[q]? = some ⟨xs (tB hot.length cold.length (E.take k)), 0⟩ ∧ z.1[σ0.length]? = some ⟨(e3 hot.length E[k]).map .d, 0⟩) (fun z => k - z.2) (_, 0) ⟨Nat.zero_le _, yA, yB, yE⟩ rfl (by simp [Go.Vm.look, extK]) ?_
                clear yA yB yE
                intro z hz
                obtain ⟨σ1, i⟩ := z
                obtain ⟨hi, yA, yB, yE⟩ := hz
                simp only at hi yA yB yE ⊢
                refine KC.seq ?_
                refine KC.region ?_
                refine KT.step rfl rfl (K.lss rfl rfl) ?_
                refine KT.nil ?_
                refine thenK_n ?_
                refine KC.seq ?_
                refine KC.cond rfl (fun hc67 => ?_) (fun hc67 => ?_)
                · skip
                  replace hc67 := of_decide_eq_true hc67
                  have hik : i < k := by rw [List.length_take] at hc67; omega
                  refine KC.skip ?_
                  refine thenK_n ?_
                  refine KC.seq ?_
                  refine KC.block ?_
                  refine KC.seq ?_
                  refine KC.region ?_
                  refine KT.step rfl rfl (K.idxF (e3_len _) (m := i) rfl (.sl (l := E.take k)) rfl (by rw [List.length_take]; omega) Try.underlying56 Try.size96) ?_
                  rw [List.getElem_take]
                  refine KT.step rfl rfl (K.loadFl (cs := (e3 hot.length E[i])) rfl rfl Try.agg96 Try.size96) ?_
                  refine KT.step rfl rfl (K.alloc Try.zero96) ?_
                  refine KT.storeL (cs := (e3 hot.length E[i]).map .d) rfl rfl rfl rfl rfl rfl rfl Try.size96 ?_
                  replace yE := get_left (B := [(⟨(e3 hot.length E[i]).map .d, 0⟩ : VObj)]) yE
                  refine KT.nil ?_
                  refine thenK_n ?_
                  refine KC.seq ?_
                  refine KC.region ?_
                  refine KT.step rfl rfl (K.idxA (m := 0) rfl rfl (by decide) Try.underlying96 Try.size3) ?_
                  refine KT.step rfl rfl (K.loadO (y := .d (DI (E[k].1 : Nat))) rfl yE (by simp) rfl Try.agg3) ?_
                  refine KT.step rfl rfl (K.idxA (m := 0) rfl rfl (by decide) Try.underlying96 Try.size3) ?_
                  refine KT.step rfl rfl (K.loadO (y := .d (DI (E[i].1 : Nat))) rfl (List.getElem?_concat_length ..) (by simp) rfl Try.agg3) ?_
                  refine KT.step rfl rfl (K.eql rfl rfl) ?_
                  refine KT.step rfl rfl (K.move rfl) ?_
                  refine KT.bcase (fun hb75 => ?_) (fun hb75 => ?_)
                  · skip
                    replace hb75 := of_decide_eq_true hb75
                    refine KT.step rfl rfl (K.idxA (m := 1) rfl rfl (by decide) Try.underlying96 Try.size3) ?_
                    refine KT.step rfl rfl (K.loadO (y := .d (DI ((E[k].2.1 : Nat) - (hot.length : Nat) : Int))) rfl yE (by simp) rfl Try.agg3) ?_
                    refine KT.step rfl rfl (K.idxA (m := 1) rfl rfl (by decide) Try.underlying96 Try.size3) ?_
                    refine KT.step rfl rfl (K.loadO (y := .d (DI ((E[i].2.1 : Nat) - (hot.length : Nat) : Int))) rfl (List.getElem?_concat_length ..) (by simp) rfl Try.agg3) ?_
                    refine KT.step rfl rfl (K.eql rfl rfl) ?_
                    refine KT.step rfl rfl (K.pick rfl (fun _ => rfl) (fun h => by cases h)) ?_
                    refine KT.nil ?_
                    refine thenK_n ?_
                    refine KC.cond rfl (fun hc81 => ?_) (fun hc81 => ?_)
                    · skip
                      exact absurd ⟨by omega, by have := of_decide_eq_true hc81; omega⟩ (List.pairwise_iff_getElem.1 hP.dist i k (by omega) hk2 hik)
                    · skip
                      replace hc81 := of_decide_eq_false hc81
                      refine KC.skip ?_
                      refine blockK_n ?_
                      refine thenK_n ?_
                      refine KC.region ?_
                      refine KT.step rfl rfl (K.add rfl rfl (wrap_id (by omega))) ?_
                      refine KT.step rfl rfl (K.move rfl) ?_
                      refine KT.nil ?_
                      refine thenK_n ?_
                      exact ⟨(_, i + 1), ⟨by simp only; omega, get_left yA, get_left yB, yE⟩, by simp only; omega, rfl, by simp [Go.Vm.look, extK]⟩
                  · skip
                    replace hb75 := of_decide_eq_false hb75
                    refine KT.skip rfl rfl ?_
                    refine KT.skip rfl rfl ?_
                    refine KT.skip rfl rfl ?_
                    refine KT.skip rfl rfl ?_
                    refine KT.skip rfl rfl ?_
                    refine KT.step rfl rfl (K.pick rfl (fun h => by cases h) (fun _ => rfl)) ?_
                    refine KT.nil ?_
                    refine thenK_n ?_
                    refine KC.cond rfl (fun hc81 => ?_) (fun hc81 => ?_)
                    · cases hc81
                    · skip
                      refine KC.skip ?_
                      refine blockK_n ?_
                      refine thenK_n ?_
                      refine KC.region ?_
                      refine KT.step rfl rfl (K.add rfl rfl (wrap_id (by omega))) ?_
                      refine KT.step rfl rfl (K.move rfl) ?_
                      refine KT.nil ?_
                      refine thenK_n ?_
                      exact ⟨(_, i + 1), ⟨by simp only; omega, get_left yA, get_left yB, yE⟩, by simp only; omega, rfl, by simp [Go.Vm.look, extK]⟩
                · skip
                  replace hc67 := of_decide_eq_false hc67
                  refine KC.exit ?_
                  refine thenK_x ?_
                  refine thenK_x ?_
                  refine blockK_e ?_
                  refine thenK_n ?_
                  refine KC.seq ?_
                  refine KC.draw Try.mixed ?_
                  refine KT.step rfl rfl (K.move rfl) ?_
                  refine KT.step rfl rfl (K.idxA (m := 0) rfl rfl (by decide) Try.underlying96 Try.size3) ?_
                  refine KT.step rfl rfl (K.loadO (y := .d (DI (E[k].1 : Nat))) rfl yE (by simp) rfl Try.agg3) ?_
                  refine KT.step rfl rfl (K.idxO (m := E[k].1) rfl rfl (by omega) Try.underlying23 Try.size3) ?_
                  refine KT.step rfl rfl (K.loadO rfl yA (by simp) (xs_getD (by rw [tA_len]; omega)) Try.agg3) ?_
                  refine KT.step rfl rfl (K.idxA (m := 2) rfl rfl (by decide) Try.underlying96 Try.size3) ?_
                  refine KT.step rfl rfl (K.loadO (y := .d (DI E[k].2.2)) rfl yE (by simp) rfl Try.agg3) ?_
                  refine KT.step rfl rfl (K.add rfl rfl (wrap_id (by rw [tA_get (by omega)]; have := heb E[k].1; rw [List.length_take] at this; omega))) ?_
                  refine KT.step rfl rfl (K.idxO (m := E[k].1) rfl rfl (by omega) Try.underlying23 Try.size3) ?_
                  refine KT.storeG rfl rfl rfl rfl yA (by rw [xs_len, tA_len]; omega) rfl rfl Try.size3 fun σ1 l1 u1 v1 => ?_
                  replace yB := (v1 q (by omega)).trans yB
                  replace yE := (v1 _ (by omega)).trans yE
                  replace yA := u1.trans (congrArg (fun c => some (VObj.mk c 0)) (xs_set.trans (congrArg xs (tA_set hk2 m1))))
                  refine KT.nil ?_
                  refine ⟨by kernel_rfl, ?_⟩
                  refine thenK_n ?_
                  refine KC.draw Try.mixed ?_
                  refine KT.step rfl rfl (K.move rfl) ?_
                  refine KT.step rfl rfl (K.idxA (m := 1) rfl rfl (by decide) Try.underlying96 Try.size3) ?_
                  refine KT.step rfl rfl (K.loadO (y := .d (DI ((E[k].2.1 : Nat) - (hot.length : Nat) : Int))) rfl yE (by simp) rfl Try.agg3) ?_
                  refine KT.step rfl rfl (K.idxO (m := E[k].2.1 - hot.length) rfl (congrArg (fun z => some (XV.d (DI z))) (show ((E[k].2.1 : Nat) : Int) - (hot.length : Nat) = ((E[k].2.1 - hot.length : Nat) : Int) by omega)) (by omega) Try.underlying23 Try.size3) ?_
                  refine KT.step rfl rfl (K.loadO rfl yB (by simp) (xs_getD (by rw [tB_len]; omega)) Try.agg3) ?_
                  refine KT.step rfl rfl (K.idxA (m := 2) rfl rfl (by decide) Try.underlying96 Try.size3) ?_
                  refine KT.step rfl rfl (K.loadO (y := .d (DI E[k].2.2)) rfl yE (by simp) rfl Try.agg3) ?_
                  refine KT.step rfl rfl (K.add rfl rfl (wrap_id (by rw [tB_get (by omega)]; have := heb (hot.length + (E[k].2.1 - hot.length)); rw [List.length_take] at this; omega))) ?_
                  refine KT.step rfl rfl (K.idxO (m := E[k].2.1 - hot.length) rfl (congrArg (fun z => some (XV.d (DI z))) (show ((E[k].2.1 : Nat) : Int) - (hot.length : Nat) = ((E[k].2.1 - hot.length : Nat) : Int) by omega)) (by omega) Try.underlying23 Try.size3) ?_
                  refine KT.storeG rfl rfl rfl rfl yB (by rw [xs_len, tB_len]; omega) rfl rfl Try.size3 fun σ2 l2 u2 v2 => ?_
                  replace yA := (v2 p (by omega)).trans yA
                  replace yE := (v2 _ (by omega)).trans yE
                  replace yB := u2.trans (congrArg (fun c => some (VObj.mk c 0)) (xs_set.trans (congrArg xs (tB_set hk2 m2 m3))))
                  refine KT.nil ?_
                  refine ⟨by kernel_rfl, ?_⟩
                  refine blockK_n ?_
                  refine thenK_n ?_
                  refine KC.region ?_
                  refine KT.step rfl rfl (K.add rfl rfl (wrap_id (by omega))) ?_
                  refine KT.step rfl rfl (K.move rfl) ?_
                  refine KT.nil ?_
                  refine thenK_n ?_
                  exact ⟨(σ2, k + 1), ⟨by simp only; omega, yA, yB⟩, by simp only; omega, rfl, by simp [Go.Vm.look, extK]⟩
  · skip
    replace hc26 := of_decide_eq_false hc26
    have et : E.take k = E := List.take_of_length_le (by omega)
    rw [et] at yA yB
    refine KC.exit ?_
    refine thenK_x ?_
    refine thenK_x ?_
    refine blockK_e ?_
    refine thenK_n ?_
    refine KC.seq ?_
    refine KC.seq ?_
    refine KC.region ?_
    refine KT.step rfl rfl (K.move rfl) ?_
    refine KT.step rfl rfl (K.len rfl hh Try.underlying23) ?_
    refine KT.step rfl rfl (K.move rfl) ?_
    refine KT.nil ?_
    refine thenK_n ?_
    refine KC.block ?_
    refine KC.loop (fun _ : Nat => σ0) (fun i => [(1, .d d1), (7, .osl p 0 hot.length 1 hot.length true), (8, .osl q 0 cold.length 1 cold.length true), (102, .d d0), (103, .d (DI (hot.length : Nat))), (104, .d (DI (i : Nat)))]) (fun i => i ≤ hot.length) (fun i => hot.length - i) 0 (Nat.zero_le _) rfl (by simp [Go.Vm.look, extK]) ?_
    intro i hi
    refine KC.seq ?_
    refine KC.region ?_
    refine KT.step rfl rfl (K.lss rfl rfl) ?_
    refine KT.nil ?_
    refine thenK_n ?_
    refine KC.seq ?_
    refine KC.cond rfl (fun hc105 => ?_) (fun hc105 => ?_)
    · skip
      replace hc105 := of_decide_eq_true hc105
      have hil : i < hot.length := by omega
      refine KC.skip ?_
      refine thenK_n ?_
      refine KC.seq ?_
      refine KC.block ?_
      refine KC.seq ?_
      refine KC.region ?_
      refine KT.step rfl rfl (K.move rfl) ?_
      refine KT.idxI (m := i) rfl rfl rfl hh rfl hil Try.underlying23 Try.size3 fun cs107 => ?_
      refine KT.step rfl rfl (K.load rfl Try.agg3) ?_
      refine KT.step rfl rfl (K.assign rfl) ?_
      refine KT.step rfl rfl (K.assign rfl) ?_
      refine KT.nil ?_
      refine thenK_n ?_
      refine KC.seq ?_
      refine KC.region ?_
      refine KT.step rfl rfl (K.move rfl) ?_
      refine KT.step rfl rfl (K.move rfl) ?_
      refine KT.step rfl rfl (K.idxO (m := i) rfl rfl hil Try.underlying23 Try.size3) ?_
      refine KT.step rfl rfl (K.loadO rfl yA (by simp) (xs_getD (by rw [tA_len]; exact hil)) Try.agg3) ?_
      refine KT.step rfl rfl (K.move rfl) ?_
      refine KT.step rfl rfl (K.neq rfl rfl) ?_
      refine KT.nil ?_
      refine thenK_n ?_
      refine KC.cond rfl (fun hc114 => ?_) (fun hc114 => ?_)
      · skip
        exact absurd (of_decide_eq_true hc114) (by rw [tA_get hil, hP.s1 i hil]; simp [hil])
      · skip
        replace hc114 := of_decide_eq_false hc114
        refine KC.skip ?_
        refine blockK_n ?_
        refine thenK_n ?_
        refine KC.region ?_
        refine KT.step rfl rfl (K.add rfl rfl (wrap_id (by omega))) ?_
        refine KT.step rfl rfl (K.move rfl) ?_
        refine KT.nil ?_
        refine thenK_n ?_
        exact ⟨i + 1, by omega, by omega, rfl, by simp [Go.Vm.look, extK]⟩
    · skip
      replace hc105 := of_decide_eq_false hc105
      refine KC.exit ?_
      refine thenK_x ?_
      refine thenK_x ?_
      refine blockK_e ?_
      refine thenK_n ?_
      refine KC.seq ?_
      refine KC.seq ?_
      refine KC.region ?_
      refine KT.step rfl rfl (K.move rfl) ?_
      refine KT.step rfl rfl (K.len rfl hc Try.underlying23) ?_
      refine KT.step rfl rfl (K.move rfl) ?_
      refine KT.nil ?_
      refine thenK_n ?_
      refine KC.block ?_
      refine KC.loop (fun _ : Nat => σ0) (fun i => [(7, .osl p 0 hot.length 1 hot.length true), (8, .osl q 0 cold.length 1 cold.length true), (116, .d d1), (117, .d (DI (cold.length : Nat))), (118, .d (DI (i : Nat)))]) (fun i => i ≤ cold.length) (fun i => cold.length - i) 0 (Nat.zero_le _) rfl (by simp [Go.Vm.look, extK]) ?_
      intro i hi
      refine KC.seq ?_
      refine KC.region ?_
      refine KT.step rfl rfl (K.lss rfl rfl) ?_
      refine KT.nil ?_
      refine thenK_n ?_
      refine KC.seq ?_
      refine KC.cond rfl (fun hc119 => ?_) (fun hc119 => ?_)
      · skip
        replace hc119 := of_decide_eq_true hc119
        have hil : i < cold.length := by omega
        refine KC.skip ?_
        refine thenK_n ?_
        refine KC.seq ?_
        refine KC.block ?_
        refine KC.seq ?_
        refine KC.region ?_
        refine KT.step rfl rfl (K.move rfl) ?_
        refine KT.idxI (m := i) rfl rfl rfl hc rfl hil Try.underlying23 Try.size3 fun cs121 => ?_
        refine KT.step rfl rfl (K.load rfl Try.agg3) ?_
        refine KT.step rfl rfl (K.assign rfl) ?_
        refine KT.step rfl rfl (K.assign rfl) ?_
        refine KT.nil ?_
        refine thenK_n ?_
        refine KC.seq ?_
        refine KC.region ?_
        refine KT.step rfl rfl (K.move rfl) ?_
        refine KT.step rfl rfl (K.move rfl) ?_
        refine KT.step rfl rfl (K.idxO (m := i) rfl rfl hil Try.underlying23 Try.size3) ?_
        refine KT.step rfl rfl (K.loadO rfl yB (by simp) (xs_getD (by rw [tB_len]; exact hil)) Try.agg3) ?_
        refine KT.step rfl rfl (K.move rfl) ?_
        refine KT.step rfl rfl (K.neq rfl rfl) ?_
        refine KT.nil ?_
        refine thenK_n ?_
        refine KC.cond rfl (fun hc128 => ?_) (fun hc128 => ?_)
        · skip
          exact absurd (of_decide_eq_true hc128) (by rw [tB_get hil, hP.s2 i hil]; simp [hil])
        · skip
          replace hc128 := of_decide_eq_false hc128
          refine KC.skip ?_
          refine blockK_n ?_
          refine thenK_n ?_
          refine KC.region ?_
          refine KT.step rfl rfl (K.add rfl rfl (wrap_id (by omega))) ?_
          refine KT.step rfl rfl (K.move rfl) ?_
          refine KT.nil ?_
          refine thenK_n ?_
          exact ⟨i + 1, by omega, by omega, rfl, by simp [Go.Vm.look, extK]⟩
      · skip
        replace hc119 := of_decide_eq_false hc119
        refine KC.exit ?_
        refine thenK_x ?_
        refine thenK_x ?_
        refine blockK_e ?_
        refine thenK_n ?_
        refine KC.seq ?_
        refine KC.region ?_
        refine KT.step rfl rfl (K.assign rfl) ?_
        refine KT.nil ?_
        refine thenK_n ?_
        refine KC.ret ?_
        exact ⟨.inl rfl, _, rfl, rfl⟩
theorem rplan_ok {d0 d1 : DV} {hot cold : List Int} (hh : Ints d0 hot) (hc : Ints d1 cold) (hhl : hot.length ≤ 9223372036854775807) (hcl : cold.length ≤ 9223372036854775807) (hok : okM hot cold = true) : DeepCall Try.prog 41 [d0, d1, flV (e3 hot.length) (mtch hot cold (ordA (zL hot cold)))] (DB true) := by
  have hP := mtch_ok hok (ordA_ord (zL hot cold))
  cases hE : mtch hot cold (ordA (zL hot cold)) with
  | nil => have := hP.len.1; rw [hE] at this; simp at this
  | cons a E =>
    rw [← hE]
    have := rplan41 hh hc hhl hcl hok hP (cap := none)
    rw [hE] at this ⊢
    exact this
theorem rloads_ok {d0 d1 : DV} {hot cold : List Int} (hh : Ints d0 hot) (hc : Ints d1 cold) (hhl : hot.length ≤ 9223372036854775807) (hcl : cold.length ≤ 9223372036854775807) (hok : okM hot cold = true) : DeepCall Try.prog 39 [d0, d1] (DB true) := by
  have h := rloads39 hh hc hhl hcl
  rwa [hok] at h
theorem rloads_no {d0 d1 : DV} {hot cold : List Int} (hh : Ints d0 hot) (hc : Ints d1 cold) (hhl : hot.length ≤ 9223372036854775807) (hcl : cold.length ≤ 9223372036854775807) (hno : okM hot cold = false) : DeepCall Try.prog 39 [d0, d1] (DB false) := by
  have h := rloads39 hh hc hhl hcl
  rwa [hno] at h
set_option maxRecDepth 10000 in
theorem law8_no {d0 d1 : DV} {hot cold : List Int} (hh : Ints d0 hot) (hc : Ints d1 cold) (hhl : hot.length ≤ 9223372036854775807) (hcl : cold.length ≤ 9223372036854775807) (hno : okM hot cold = false) : DeepCall Try.prog 8 [d0, d1] (DB true) := by
  refine deepCall_K 5 Try.func8 rfl (Nat.le_of_ble_eq_true rfl) fun M W0 => ?_
  refine KC.seq ?_
  refine KC.region ?_
  refine KT.step rfl rfl (K.assign rfl) ?_
  refine KT.nil ?_
  refine thenK_n ?_
  refine KC.seq ?_
  refine KC.region ?_
  refine KT.step rfl rfl (K.move rfl) ?_
  refine KT.step rfl rfl (K.move rfl) ?_
  refine KT.step rfl rfl (K.call2 rfl rfl plainTry_37 (matches_no hh hc hhl hcl hno)) ?_
  refine KT.step rfl rfl (K.move rfl) ?_
  refine KT.step rfl rfl (K.extract rfl rfl) ?_
  refine KT.step rfl rfl (K.extract rfl rfl) ?_
  refine KT.step rfl rfl (K.assign rfl) ?_
  refine KT.step rfl rfl (K.assign rfl) ?_
  refine KT.nil ?_
  refine thenK_n ?_
  refine KC.seq ?_
  refine KC.region ?_
  refine KT.step rfl rfl (K.move rfl) ?_
  refine KT.step rfl rfl (K.move rfl) ?_
  refine KT.step rfl rfl (K.call2 rfl rfl plainTry_38 (assign_no hh hc hhl hcl hno)) ?_
  refine KT.step rfl rfl (K.move rfl) ?_
  refine KT.step rfl rfl (K.extract rfl rfl) ?_
  refine KT.step rfl rfl (K.extract rfl rfl) ?_
  refine KT.step rfl rfl (K.assign rfl) ?_
  refine KT.step rfl rfl (K.assign rfl) ?_
  refine KT.nil ?_
  refine thenK_n ?_
  refine KC.seq ?_
  refine KC.seq ?_
  refine KC.region ?_
  refine KT.step rfl rfl (K.move rfl) ?_
  refine KT.step rfl rfl (K.move rfl) ?_
  refine KT.step rfl rfl (K.call2 rfl rfl plainTry_39 (rloads_no hh hc hhl hcl hno)) ?_
  refine KT.step rfl rfl (K.not rfl) ?_
  refine KT.nil ?_
  refine thenK_n ?_
  refine KC.cond rfl (fun hc24 => ?_) (fun hc24 => ?_)
  · skip
    refine KC.seq ?_
    refine KC.region ?_
    refine KT.step rfl rfl (K.move rfl) ?_
    refine KT.step rfl rfl (K.eql rfl rfl) ?_
    refine KT.step rfl rfl (K.move rfl) ?_
    refine KT.step rfl rfl (K.move rfl) ?_
    refine KT.step rfl rfl ((show KEv Try.prog _ _ _ (.d (DI 0)) _ 0 from K.lenF (k := 3) (f := e3 0) rfl .nil Try.underlying56)) ?_
    refine KT.step rfl rfl (K.eql rfl rfl) ?_
    refine KT.step rfl rfl (K.pick rfl (fun _ => rfl) (fun h => by cases h)) ?_
    refine KT.step rfl rfl (K.move rfl) ?_
    refine KT.step rfl rfl (K.move rfl) ?_
    refine KT.step rfl rfl (K.eql rfl rfl) ?_
    refine KT.step rfl rfl (K.pick rfl (fun _ => rfl) (fun h => by cases h)) ?_
    refine KT.step rfl rfl (K.move rfl) ?_
    refine KT.step rfl rfl (K.move rfl) ?_
    refine KT.step rfl rfl (K.eql rfl rfl) ?_
    refine KT.step rfl rfl (K.pick rfl (fun _ => rfl) (fun h => by cases h)) ?_
    refine KT.step rfl rfl (K.move rfl) ?_
    refine KT.step rfl rfl (K.call0 plainTry_20 (awake20)) ?_
    refine KT.step rfl rfl (K.pick rfl (fun _ => rfl) (fun h => by cases h)) ?_
    refine KT.step rfl rfl (K.assign rfl) ?_
    refine KT.nil ?_
    refine thenK_n ?_
    refine KC.ret ?_
    refine thenK_r ?_
    exact ⟨.inl rfl, _, rfl, fin_b rfl⟩
  · skip
    exact absurd hc24 (by decide)
set_option maxRecDepth 10000 in
theorem law8_ok {d0 d1 : DV} {hot cold : List Int} (hh : Ints d0 hot) (hc : Ints d1 cold) (hhl : hot.length ≤ 9223372036854775807) (hcl : cold.length ≤ 9223372036854775807) (hok : okM hot cold = true) : DeepCall Try.prog 8 [d0, d1] (DB true) := by
  have hK := (ord_K hok (ordA_ord (zL hot cold))).2
  have hbl := bestA_le hok
  refine deepCall_K 5 Try.func8 rfl (Nat.le_of_ble_eq_true rfl) fun M W0 => ?_
  refine KC.seq ?_
  refine KC.region ?_
  refine KT.step rfl rfl (K.assign rfl) ?_
  refine KT.nil ?_
  refine thenK_n ?_
  refine KC.seq ?_
  refine KC.region ?_
  refine KT.step rfl rfl (K.move rfl) ?_
  refine KT.step rfl rfl (K.move rfl) ?_
  refine KT.step rfl rfl (K.call2 rfl rfl plainTry_37 (matches_ok hh hc hhl hcl hok)) ?_
  refine KT.step rfl rfl (K.move rfl) ?_
  refine KT.step rfl rfl (K.extract rfl rfl) ?_
  refine KT.step rfl rfl (K.extract rfl rfl) ?_
  refine KT.step rfl rfl (K.assign rfl) ?_
  refine KT.step rfl rfl (K.assign rfl) ?_
  refine KT.nil ?_
  refine thenK_n ?_
  refine KC.seq ?_
  refine KC.region ?_
  refine KT.step rfl rfl (K.move rfl) ?_
  refine KT.step rfl rfl (K.move rfl) ?_
  refine KT.step rfl rfl (K.call2 rfl rfl plainTry_38 (assign_ok hh hc hhl hcl hok)) ?_
  refine KT.step rfl rfl (K.move rfl) ?_
  refine KT.step rfl rfl (K.extract rfl rfl) ?_
  refine KT.step rfl rfl (K.extract rfl rfl) ?_
  refine KT.step rfl rfl (K.assign rfl) ?_
  refine KT.step rfl rfl (K.assign rfl) ?_
  refine KT.nil ?_
  refine thenK_n ?_
  refine KC.seq ?_
  refine KC.seq ?_
  refine KC.region ?_
  refine KT.step rfl rfl (K.move rfl) ?_
  refine KT.step rfl rfl (K.move rfl) ?_
  refine KT.step rfl rfl (K.call2 rfl rfl plainTry_39 (rloads_ok hh hc hhl hcl hok)) ?_
  refine KT.step rfl rfl (K.not rfl) ?_
  refine KT.nil ?_
  refine thenK_n ?_
  refine KC.cond rfl (fun hc24 => ?_) (fun hc24 => ?_)
  · skip
    exact absurd hc24 (by decide)
  · skip
    refine KC.skip ?_
    refine thenK_n ?_
    refine KC.seq ?_
    refine KC.region ?_
    refine KT.step rfl rfl (K.move rfl) ?_
    refine KT.step rfl rfl (K.move rfl) ?_
    refine KT.step rfl rfl (K.move rfl) ?_
    refine KT.step rfl rfl (K.call2 rfl rfl plainTry_40 (rmatches40 hh hc hhl hcl hok)) ?_
    refine KT.step rfl rfl (K.eql rfl rfl) ?_
    refine KT.step rfl rfl (K.move rfl) ?_
    refine KT.bcase (fun hb48 => ?_) (fun hb48 => ?_)
    · skip
      replace hb48 := of_decide_eq_true hb48
      refine KT.step rfl rfl (K.move rfl) ?_
      refine KT.step rfl rfl (K.eql rfl rfl) ?_
      refine KT.step rfl rfl (K.pick rfl (fun _ => rfl) (fun h => by cases h)) ?_
      refine KT.step rfl rfl (K.move rfl) ?_
      refine KT.step rfl rfl (K.move rfl) ?_
      refine KT.step rfl rfl (K.eql rfl rfl) ?_
      refine KT.step rfl rfl (K.pick rfl (fun _ => rfl) (fun h => by cases h)) ?_
      refine KT.step rfl rfl (K.move rfl) ?_
      refine KT.step rfl rfl (K.move rfl) ?_
      refine KT.step rfl rfl (K.lenF (k := 3) (f := e3 hot.length) rfl (flV_ok _) Try.underlying56) ?_
      refine KT.step rfl rfl (K.move rfl) ?_
      refine KT.step rfl rfl (K.eql rfl rfl) ?_
      refine KT.step rfl rfl (K.pick rfl (fun _ => rfl) (fun h => by cases h)) ?_
      refine KT.step rfl rfl (K.move rfl) ?_
      refine KT.bcase (fun hb62 => ?_) (fun hb62 => ?_)
      · skip
        replace hb62 := of_decide_eq_true hb62
        refine KT.step rfl rfl (K.move rfl) ?_
        refine KT.step rfl rfl (K.move rfl) ?_
        refine KT.step rfl rfl (K.move rfl) ?_
        refine KT.step rfl rfl (K.call3 rfl rfl rfl plainTry_41 (rplan_ok hh hc hhl hcl hok)) ?_
        refine KT.step rfl rfl (K.pick rfl (fun _ => rfl) (fun h => by cases h)) ?_
        refine KT.step rfl rfl (K.move rfl) ?_
        refine KT.step rfl rfl (K.call0 plainTry_20 (awake20)) ?_
        refine KT.step rfl rfl (K.pick rfl (fun _ => rfl) (fun h => by cases h)) ?_
        refine KT.step rfl rfl (K.assign rfl) ?_
        refine KT.nil ?_
        refine thenK_n ?_
        refine KC.ret ?_
        exact ⟨.inl rfl, _, rfl, fin_b rfl⟩
      · skip
        exact absurd hK (of_decide_eq_false hb62)
    · skip
      exact absurd hb48 (by simp)
end Go.Proofs.Ytmfbakipfobaeaa

