import Derived.Test.YthbnnffmhnjpjaaCyEg
import Derived.Test.YthbnnffmhnjpjaaCyJ
import Derived.Test.YthbnnffmhnjpjaaCyH
/-
  Times: the reference: divisor, cycles, mean.
-/
namespace Go.Proofs.Ythbnnffmhnjpjaa
open Go.Vm Go.Cy
theorem plainTry_73 : plainFn Try.prog 73 = true := by kernel_rfl
theorem plainTry_90 : plainFn Try.prog 90 = true := by kernel_rfl
theorem plainTry_57 : plainFn Try.prog 57 = true := by kernel_rfl
theorem plainTry_102 : plainFn Try.prog 102 = true := by kernel_rfl

theorem wbytes33 : bytesT Try.prog 33 ≤ 65536 := of_decide_eq_true (by kernel_rfl)
theorem wcells33 : (zeroT Try.prog 33).map (·.cells.size) = some 1 := by kernel_rfl
set_option maxRecDepth 10000 in
theorem cycles90 {d : DV} {n : Nat} {a : Nat → Nat → Int} (hext : ∀ s, s < 6 → DeepCall Try.prog 102 [DI (n : Nat), DI ((s + 1 : Nat) : Int)] (waysD (extN n (s + 1)))) (hd : Mat d (genM n n a)) (h1 : 1 ≤ n) (hn : n ≤ 6) (ha : GoodM 1000000 a) : DeepCall Try.prog 90 [d] (waysD (cycsN n a n)) := by
  refine deepCall_K 5 Try.func90 rfl (Nat.le_of_ble_eq_true rfl) fun M W0 => ?_
  refine KC.seq ?_
  refine KC.region ?_
  refine KT.step rfl rfl (K.assign rfl) ?_
  refine KT.nil ?_
  refine thenK_n ?_
  refine KC.seq ?_
  refine KC.region ?_
  refine KT.step rfl rfl (K.assign rfl) ?_
  refine KT.nil ?_
  refine thenK_n ?_
  refine KC.seq ?_
  refine KC.seq ?_
  refine KC.region ?_
  refine KT.step rfl rfl (K.assign rfl) ?_
  refine KT.nil ?_
  refine thenK_n ?_
  refine KC.block ?_
  refine KC.loop (fun p : List VObj × XV × Nat => p.1) (fun p => [(0, .d d), (3, p.2.1), (4, .d (DI ((p.2.2 + 1 : Nat) : Int)))]) (fun p => p.2.2 ≤ n ∧ OwnK 1 p.1 p.2.1 (wcells (cycsN n a p.2.2)) ∧ (cycsN n a p.2.2 = [] → p.2.1 = .d Dnil)) (fun p => n - p.2.2) ([], .d Dnil, 0) ⟨Nat.zero_le _, .nil, fun _ => rfl⟩ rfl (by simp [Go.Vm.look, extK, enterK]) ?_
  intro p hp
  obtain ⟨σ, x, m⟩ := p
  obtain ⟨hm, hx, hxn⟩ := hp
  simp only at hm hx hxn ⊢
  refine KC.seq ?_
  refine KC.seq ?_
  refine KC.region ?_
  refine KT.step rfl rfl (K.move rfl) ?_
  refine KT.step rfl rfl (K.move rfl) ?_
  refine KT.step rfl rfl (K.len rfl hd Try.underlying22) ?_
  rw [genM_len]
  refine KT.step rfl rfl (K.leq rfl rfl) ?_
  refine KT.nil ?_
  refine thenK_n ?_
  refine KC.cond rfl (fun hc12 => ?_) (fun hc12 => ?_)
  · skip
    replace hc12 := of_decide_eq_true hc12
    refine KC.skip ?_
    refine thenK_n ?_
    refine KC.seq ?_
    refine KC.block ?_
    refine KC.seq ?_
    refine KC.region ?_
    refine KT.step rfl rfl (K.move rfl) ?_
    refine KT.step rfl rfl (K.len rfl hd Try.underlying22) ?_
    rw [genM_len]
    refine KT.step rfl rfl (K.move rfl) ?_
    refine KT.step rfl rfl (K.call2 rfl rfl plainTry_102 (hext m (by omega))) ?_
    refine KT.step rfl rfl (K.len rfl (waysD_vec (extN n (m + 1))) Try.underlying22) ?_
    refine KT.step rfl rfl (K.move rfl) ?_
    refine KT.nil ?_
    refine thenK_n ?_
    refine KC.block ?_
    have hE := extN_len6 hn (show m < 6 by omega)
    refine KC.loop (fun p : List VObj × XV × Nat => p.1) (fun p => [(0, .d d), (3, p.2.1), (4, .d (DI ((m + 1 : Nat) : Int))), (18, .d (waysD (extN n (m + 1)))), (19, .d (DI ((extN n (m + 1)).length : Nat))), (20, .d (DI (p.2.2 : Nat)))]) (fun p => p.2.2 ≤ (extN n (m + 1)).length ∧ OwnK 1 p.1 p.2.1 (wcells (cycsN n a m ++ ((extN n (m + 1)).take p.2.2).filter fun c => cycB n a (cI c))) ∧ ((cycsN n a m ++ ((extN n (m + 1)).take p.2.2).filter fun c => cycB n a (cI c)) = [] → p.2.1 = .d Dnil)) (fun p => (extN n (m + 1)).length - p.2.2) (σ, x, 0) ⟨Nat.zero_le _, by simpa using hx, by simpa using hxn⟩ rfl (by simp [Go.Vm.look, extK]) ?_
    intro p hp
    obtain ⟨σ0, y, i⟩ := p
    obtain ⟨hi, hy, hyn⟩ := hp
    simp only at hi hy hyn ⊢
    refine KC.seq ?_
    refine KC.region ?_
    refine KT.step rfl rfl (K.lss rfl rfl) ?_
    refine KT.nil ?_
    refine thenK_n ?_
    refine KC.seq ?_
    refine KC.cond rfl (fun hc21 => ?_) (fun hc21 => ?_)
    · skip
      replace hc21 := of_decide_eq_true hc21
      refine KC.skip ?_
      refine thenK_n ?_
      refine KC.seq ?_
      refine KC.block ?_
      refine KC.seq ?_
      refine KC.region ?_
      refine KT.idx rfl rfl rfl (waysD_vec (extN n (m + 1))) rfl (by omega) Try.underlying22 Try.size33 fun c22 cs22 hq22 => ?_
      subst hq22
      refine KT.step rfl rfl (K.load rfl Try.agg33) ?_
      refine KT.step rfl rfl (K.assign rfl) ?_
      refine KT.nil ?_
      refine thenK_n ?_
      refine KC.seq ?_
      refine KC.region ?_
      refine KT.step rfl rfl (K.move rfl) ?_
      refine KT.step rfl rfl (K.move rfl) ?_
      refine KT.step rfl rfl (K.call2 rfl rfl plainTry_65 (weight65 hd (wayD_ints _) (by rw [cI_len, ((mem_extN m _).1 (List.getElem_mem _)).1]; omega) h1 (by omega) ha)) ?_
      refine KT.step rfl rfl (K.move rfl) ?_
      refine KT.step rfl rfl (K.extract rfl rfl) ?_
      refine KT.step rfl rfl (K.extract rfl rfl) ?_
      refine KT.step rfl rfl (K.assign rfl) ?_
      refine KT.step rfl rfl (K.assign rfl) ?_
      refine KT.nil ?_
      refine thenK_n ?_
      refine KC.seq ?_
      refine KC.region ?_
      refine KT.step rfl rfl (K.move rfl) ?_
      refine KT.nil ?_
      refine thenK_n ?_
      refine KC.cond rfl (fun hc30 => ?_) (fun hc30 => ?_)
      · skip
        refine KC.region ?_
        have hb1 := cycsN_len (a := a) hn (show m ≤ n by omega)
        have hb2 := Nat.le_trans (List.length_filter_le (fun c => cycB n a (cI c)) ((extN n (m + 1)).take i)) (Nat.le_trans (List.length_take_le' i (extN n (m + 1))) (extN_len6 hn (show m < 6 by omega)))
        have hb3 : (cycsN n a m ++ ((extN n (m + 1)).take i).filter fun c => cycB n a (cI c)).length < 1000000 := by rw [List.length_append]; omega
        refine KT.step rfl rfl (K.move rfl) ?_
        refine KT.step rfl rfl (K.move rfl) ?_
        refine KT.step rfl rfl (K.build1' (v := .d (wayD ((extN n (m + 1))[i]))) rfl (SlD.of (wayD_ints ((extN n (m + 1))[i]))).cells Try.underlying22 Try.one33) ?_
        refine KT.appK (k := 1) (vs := [.d (wayD ((extN n (m + 1))[i]))]) rfl rfl rfl rfl (hy.pushed _) (List.getElem?_concat_length ..) rfl rfl (by rw [List.length_map]; omega) Try.underlying22 Try.size33 wbytes33 wcells33 (by omega) fun σ1 y1 ho1 k1 w1 => ?_
        rw [show wcells (cycsN n a m ++ ((extN n (m + 1)).take i).filter fun c => cycB n a (cI c)) ++ [.d (wayD ((extN n (m + 1))[i]))] = wcells (cycsN n a m ++ (((extN n (m + 1)).take i).filter fun c => cycB n a (cI c)) ++ [(extN n (m + 1))[i]]) by simp] at ho1
        refine KT.step rfl rfl (K.assign rfl) ?_
        refine KT.nil ?_
        refine blockK_n ?_
        refine thenK_n ?_
        refine KC.region ?_
        refine KT.step rfl rfl (K.add rfl rfl (wrap_id (by omega))) ?_
        refine KT.step rfl rfl (K.move rfl) ?_
        refine KT.nil ?_
        refine thenK_n ?_
        refine ⟨(σ1, y1, i + 1), ⟨by simp only; omega, ?_, ?_⟩, by simp only; omega, rfl, by simp [Go.Vm.look, extK]⟩
        · rw [filt_succ (by omega), if_pos hc30, ← List.append_assoc]; exact ho1
        · rw [filt_succ (by omega), if_pos hc30]; intro h; simp at h
      · skip
        refine KC.skip ?_
        refine blockK_n ?_
        refine thenK_n ?_
        refine KC.region ?_
        refine KT.step rfl rfl (K.add rfl rfl (wrap_id (by omega))) ?_
        refine KT.step rfl rfl (K.move rfl) ?_
        refine KT.nil ?_
        refine thenK_n ?_
        refine ⟨(σ0, y, i + 1), ⟨by simp only; omega, ?_, ?_⟩, by simp only; omega, rfl, by simp [Go.Vm.look, extK]⟩
        · rw [filt_succ (by omega), hc30, if_neg (by decide), List.append_nil]; exact hy
        · rw [filt_succ (by omega), hc30, if_neg (by decide), List.append_nil]; exact hyn
    · skip
      replace hc21 := of_decide_eq_false hc21
      refine KC.exit ?_
      refine thenK_x ?_
      refine thenK_x ?_
      refine blockK_e ?_
      refine blockK_n ?_
      refine thenK_n ?_
      refine KC.region ?_
      refine KT.step rfl rfl (K.move rfl) ?_
      refine KT.step rfl rfl (K.add rfl rfl (wrap_id (by omega))) ?_
      refine KT.step rfl rfl (K.assign rfl) ?_
      refine KT.nil ?_
      refine thenK_n ?_
      obtain rfl : i = (extN n (m + 1)).length := by omega
      rw [List.take_length, ← cycsN_succ] at hy hyn
      exact ⟨(σ0, y, m + 1), ⟨by simp only; omega, hy, hyn⟩, by simp only; omega, rfl, by simp [Go.Vm.look, extK]⟩
  · skip
    replace hc12 := of_decide_eq_false hc12
    refine KC.exit ?_
    refine thenK_x ?_
    refine thenK_x ?_
    refine blockK_e ?_
    refine thenK_n ?_
    refine KC.seq ?_
    refine KC.region ?_
    refine KT.step rfl rfl (K.move rfl) ?_
    refine KT.step rfl rfl (K.assign rfl) ?_
    refine KT.nil ?_
    refine thenK_n ?_
    refine KC.ret ?_
    obtain rfl : m = n := by omega
    exact ⟨.inl rfl, _, rfl, wcells_fin (k := 3) hx hxn⟩
end Go.Proofs.Ythbnnffmhnjpjaa

