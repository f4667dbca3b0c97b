import Derived.Test.YtdgahcbalabjdaaGreatZBaC
import Derived.Test.YtdgahcbalabjdaaGreatCyN
/-
  Batch: the graph of a shop.
-/
namespace Go.Proofs.YtdgahcbalabjdaaGreat
open Go.Vm Go.Ht Go.Ba
theorem plainTryz_16 : plainFn Tryz.prog 16 = true := by kernel_rfl
theorem build78_m {id n : Nat} : opBuild Tryz.prog 47 [(2, .osl id 0 n 1 n true)] = some (aggX [.d Dnil, .d Dnil, .osl id 0 n 1 n true]) := by kernel_rfl
set_option maxHeartbeats 4000000 in
set_option maxRecDepth 10000 in
theorem graph48 {N : Int} {jd : DV} {J : List (List (Int × Int))} (hd : JbD jd J) (hok : ShopOk N J) : DeepCall Tryz.prog 16 [.agg [DI N, jd]] (grV N.toNat J) := by
  obtain ⟨n1, n4, j1, j3, hjb, n9⟩ := hok
  have hN : N = ((N.toNat : Nat) : Int) := by omega
  have hflat : ∀ i, (J.take i).flatten.length ≤ 9 := fun i => by
    have h : J.flatten.length = (J.take i).flatten.length + (J.drop i).flatten.length := by rw [← List.length_append, ← List.flatten_append, List.take_append_drop]
    omega
  refine deepCall_K 9 Tryz.func16 rfl (Nat.le_of_ble_eq_true rfl) fun M W0 => ?_
  refine KC.seq ?_
  refine KC.region ?_
  refine KT.step rfl rfl (K.box rfl) ?_
  refine KT.step rfl rfl (K.alloc Tryz.zero47) ?_
  refine KT.nil ?_
  refine thenK_n ?_
  refine KC.seq ?_
  refine KC.region ?_
  refine KT.step rfl rfl (K.fieldAddrO rfl Tryz.fld31_0 Tryz.size3) ?_
  refine KT.step rfl rfl (K.loadO rfl rfl (by simp) rfl Tryz.agg3) ?_
  refine KT.step rfl rfl (K.make (m := N.toNat) (c := N.toNat) (by exact congrArg (fun z => some (XV.d (DI z))) hN) (by exact congrArg (fun z => some (XV.d (DI z))) hN) (Nat.le_refl _) (by omega) Tryz.underlying25 Tryz.one36) ?_
  refine KT.step rfl rfl (K.buildS rfl build78_m) ?_
  refine KT.step rfl rfl (K.alloc Tryz.zero47) ?_
  refine KT.putAll (cs := [.d Dnil, .d Dnil, .osl 2 0 N.toNat 1 N.toNat true]) rfl rfl rfl rfl rfl rfl rfl rfl Tryz.size47 ?_
  refine KT.nil ?_
  refine thenK_n ?_
  refine KC.seq ?_
  refine KC.seq ?_
  refine KC.region ?_
  refine KT.step rfl rfl (K.fieldAddrO rfl Tryz.fld31_1 Tryz.size29) ?_
  refine KT.step rfl rfl (K.loadO (y := .d jd) rfl (by rfl) (by simp) rfl Tryz.agg29) ?_
  refine KT.step rfl rfl (K.len rfl hd Tryz.underlying29) ?_
  refine KT.step rfl rfl (K.move rfl) ?_
  refine KT.nil ?_
  refine thenK_n ?_
  refine KC.block ?_
  refine KC.loop (fun p : List VObj × XV × XV × List XV × Nat => p.1) (fun p => [(2, .optr 1 0), (3, .optr 3 0), (14, .d jd), (15, .d (DI (J.length : Nat))), (16, .d (DI (p.2.2.2.2 : Nat)))]) (fun p => p.2.2.2.2 ≤ J.length ∧ (p.1[1]? = some ⟨[.d Dnil, .d Dnil, .d Dnil], 0⟩ ∧ p.1[2]? = some ⟨p.2.2.2.1, 0⟩ ∧ p.1[3]? = some ⟨[p.2.1, p.2.2.1, .osl 2 0 N.toNat 1 N.toNat true], 0⟩ ∧ p.2.2.2.1.length = N.toNat ∧ Fam 4 p.1 (famF p.2.1 p.2.2.1 p.2.2.2.1 ((J.take p.2.2.2.2).flatten) (arcsO 0 (J.take p.2.2.2.2)) (msO N.toNat ((J.take p.2.2.2.2).flatten))))) (fun p => J.length - p.2.2.2.2) (_, .d Dnil, .d Dnil, List.replicate N.toNat (.d Dnil), 0) ⟨Nat.zero_le _, rfl, rfl, rfl, by simp, fam_zero⟩ rfl (by simp [Go.Vm.look, extK, enterK]) ?_
  intro p hp
  obtain ⟨σ0, xo, xa, R, i⟩ := p
  obtain ⟨hi, y1, y2, y3, hR, hF⟩ := hp
  simp only at hi y1 y2 y3 hR hF ⊢
  refine KC.seq ?_
  refine KC.region ?_
  refine KT.step rfl rfl (K.lss rfl rfl) ?_
  refine KT.nil ?_
  refine thenK_n ?_
  refine KC.seq ?_
  refine KC.cond rfl (fun hc17 => ?_) (fun hc17 => ?_)
  · skip
    replace hc17 := of_decide_eq_true hc17
    have hil : i < J.length := by omega
    refine KC.skip ?_
    refine thenK_n ?_
    refine KC.seq ?_
    refine KC.block ?_
    refine KC.seq ?_
    refine KC.region ?_
    refine KT.idx rfl rfl rfl hd rfl (by omega) Tryz.underlying29 Tryz.size44 fun c18 cs18 hj => ?_
    refine KT.step rfl rfl (K.load rfl Tryz.agg44) ?_
    refine KT.step rfl rfl (K.assign rfl) ?_
    refine KT.nil ?_
    refine thenK_n ?_
    refine KC.seq ?_
    refine KC.region ?_
    refine KT.step rfl rfl (K.move rfl) ?_
    refine KT.step rfl rfl (K.lenF rfl hj Tryz.underlying44) ?_
    refine KT.step rfl rfl (K.move rfl) ?_
    refine KT.nil ?_
    refine thenK_n ?_
    refine KC.block ?_
    refine KC.loop (fun p : List VObj × XV × XV × List XV × Nat => p.1) (fun p => [(2, .optr 1 0), (3, .optr 3 0), (14, .d jd), (15, .d (DI (J.length : Nat))), (16, .d (DI (i : Nat))), (20, .d c18), (21, .d (DI (J[i].length : Nat))), (22, .d (DI (p.2.2.2.2 : Nat)))]) (fun p => p.2.2.2.2 ≤ J[i].length ∧ (p.1[1]? = some ⟨[.d Dnil, .d Dnil, .d Dnil], 0⟩ ∧ p.1[2]? = some ⟨p.2.2.2.1, 0⟩ ∧ p.1[3]? = some ⟨[p.2.1, p.2.2.1, .osl 2 0 N.toNat 1 N.toNat true], 0⟩ ∧ p.2.2.2.1.length = N.toNat ∧ Fam 4 p.1 (famF p.2.1 p.2.2.1 p.2.2.2.1 (((J.take i).flatten ++ J[i].take p.2.2.2.2)) ((arcsO 0 (J.take i) ++ arcsK (J.take i).flatten.length p.2.2.2.2)) (msO N.toNat (((J.take i).flatten ++ J[i].take p.2.2.2.2)))))) (fun p => J[i].length - p.2.2.2.2) (_, xo, xa, R, 0) ⟨Nat.zero_le _, y1, y2, y3, hR, by simpa [arcsK] using hF⟩ rfl (by simp [Go.Vm.look, extK]) ?_
    intro p hp
    obtain ⟨σ0, xo, xa, R, k⟩ := p
    obtain ⟨hk, y1, y2, y3, hR, hF⟩ := hp
    simp only at hk y1 y2 y3 hR hF ⊢
    refine KC.seq ?_
    refine KC.region ?_
    refine KT.step rfl rfl (K.lss rfl rfl) ?_
    refine KT.nil ?_
    refine thenK_n ?_
    refine KC.seq ?_
    refine KC.cond rfl (fun hc23 => ?_) (fun hc23 => ?_)
    · skip
      replace hc23 := of_decide_eq_true hc23
      have hkl : k < J[i].length := by omega
      have hj4 := (hjb _ (List.getElem_mem hil)).2.1
      have hf9 := hflat i
      have haL := arcsO_len 0 (J.take i)
      refine KC.skip ?_
      refine thenK_n ?_
      refine KC.seq ?_
      refine KC.block ?_
      refine KC.seq ?_
      refine KC.region ?_
      refine KT.step rfl rfl (K.move rfl) ?_
      refine KT.step rfl rfl (K.idxF c2_len (m := k) rfl hj rfl (by omega) Tryz.underlying44 Tryz.size60) ?_
      refine KT.step rfl rfl (K.loadFl (cs := c2 J[i][k]) rfl rfl Tryz.agg60 Tryz.size60) ?_
      refine KT.step rfl rfl (K.alloc Tryz.zero60) ?_
      refine KT.step rfl rfl (K.assign rfl) ?_
      refine KT.storeL (cs := (c2 J[i][k]).map .d) rfl rfl rfl rfl rfl rfl rfl Tryz.size60 ?_
      generalize hσ1 : σ0 ++ [(⟨(c2 J[i][k]).map .d, 0⟩ : VObj)] = σ1
      have z1 : σ1[1]? = some ⟨[.d Dnil, .d Dnil, .d Dnil], 0⟩ := by rw [← hσ1]; exact get_left y1
      have z2 : σ1[2]? = some ⟨R, 0⟩ := by rw [← hσ1]; exact get_left y2
      have z3 : σ1[3]? = some ⟨[xo, xa, .osl 2 0 N.toNat 1 N.toNat true], 0⟩ := by rw [← hσ1]; exact get_left y3
      have zv : σ1[σ0.length]? = some ⟨(c2 J[i][k]).map .d, 0⟩ := by rw [← hσ1]; exact (List.getElem?_concat_length ..)
      have f1 := hF.push ⟨(c2 J[i][k]).map .d, 0⟩
      rw [hσ1] at f1
      have hv4 : 4 ≤ σ0.length := lt_of_get y3
      have hs1l := lt_of_get z3
      have g0 := f1.own _ (show (2, xo, _) ∈ famF xo xa R ((J.take i).flatten ++ J[i].take k) (arcsO 0 (J.take i) ++ arcsK (J.take i).flatten.length k) (msO N.toNat ((J.take i).flatten ++ J[i].take k)) by unfold famF; exact List.mem_cons_self)
      have g1 := f1.own _ (show (2, xa, _) ∈ famF xo xa R ((J.take i).flatten ++ J[i].take k) (arcsO 0 (J.take i) ++ arcsK (J.take i).flatten.length k) (msO N.toNat ((J.take i).flatten ++ J[i].take k)) by unfold famF; exact List.mem_cons_of_mem _ List.mem_cons_self)
      refine KT.nil ?_
      refine thenK_n ?_
      refine KC.seq ?_
      refine KC.region ?_
      refine KT.step rfl rfl (K.fieldAddrO rfl Tryz.fld47_0 Tryz.size44) ?_
      refine KT.step rfl rfl (K.loadO rfl z3 (by simp) rfl Tryz.agg44) ?_
      refine KT.step rfl rfl (K.lenOK (k := 2) (m := ((J.take i).flatten.length + k)) rfl g0.1 (by rw [cells_len, List.length_append, List.length_take]; congr 1; omega) (by decide) Tryz.underlying44) ?_
      refine KT.step rfl rfl (K.assign rfl) ?_
      refine KT.nil ?_
      refine thenK_n ?_
      refine KC.seq ?_
      refine KC.seq ?_
      refine KC.region ?_
      refine KT.step rfl rfl (K.move rfl) ?_
      refine KT.step rfl rfl (K.gtr rfl rfl) ?_
      refine KT.nil ?_
      refine thenK_n ?_
      refine KC.cond rfl (fun hc31 => ?_) (fun hc31 => ?_)
      · skip
        replace hc31 := of_decide_eq_true hc31
        refine KC.region ?_
        refine KT.step rfl rfl (K.fieldAddrO rfl Tryz.fld47_1 Tryz.size45) ?_
        refine KT.step rfl rfl (K.loadO rfl z3 (by simp) rfl Tryz.agg45) ?_
        refine KT.step rfl rfl (K.move rfl) ?_
        refine KT.step rfl rfl (K.sub rfl rfl (wrap_id (by omega))) ?_
        refine KT.step rfl rfl (K.move rfl) ?_
        refine KT.step rfl rfl (K.buildS rfl (build121_2 _ _)) ?_
        refine KT.step rfl rfl (K.buildK (k := 2) (ds := c2 (((((J.take i).flatten.length + k) : Nat) : Int) - 1, ((((J.take i).flatten.length + k) : Nat) : Int))) rfl rfl Tryz.underlying45 Tryz.size78 Tryz.zero78 (by decide)) ?_
        refine KT.appK (k := 2) rfl rfl rfl rfl (g1.1.pushed _) (List.getElem?_concat_length ..) rfl rfl (by rw [cells_len, List.length_append, arcsK_len]; omega) Tryz.underlying45 Tryz.size78 (of_decide_eq_true (by kernel_rfl)) (by kernel_rfl) (by decide) fun σ4 x4 ho4 k4 w4 => ?_
        rw [← flat_snoc, List.append_assoc, ← arcsK_succ _ _ (by omega)] at ho4
        have l4 : 4 ≤ (σ1 ++ [(⟨(c2 (((((J.take i).flatten.length + k) : Nat) : Int) - 1, ((((J.take i).flatten.length + k) : Nat) : Int))).map .d, 0⟩ : VObj)]).length := by rw [List.length_append]; omega
        have hne4 : (((arcsO 0 (J.take i) ++ arcsK (J.take i).flatten.length (k + 1)).flatMap c2).map XV.d) ≠ [] := fun e => by
          have h := congrArg List.length e
          rw [cells_len, List.length_append, arcsK_len] at h; simp at h; omega
        have f4 := (f1.push ⟨(c2 (((((J.take i).flatten.length + k) : Nat) : Int) - 1, ((((J.take i).flatten.length + k) : Nat) : Int))).map .d, 0⟩).put (i := 1) (by simp [famF]) k4 ho4 hne4 w4 l4
        have r4 : ∀ (j : Nat) (o : VObj), idX xa ≠ some j → σ1[j]? = some o → σ4[j]? = some o := fun j o h1 h2 => (k4 j h1 (by have := lt_of_get h2; rw [List.length_append]; omega)).trans (get_left h2)
        refine KT.step rfl rfl (K.fieldAddrO rfl Tryz.fld47_1 Tryz.size45) ?_
        refine KT.storeG rfl rfl rfl rfl (r4 3 _ (fun h => by have := g1.2.2 3 h; omega) z3) (by simp) ho4.cells.1 ho4.cells.2 Tryz.size45 fun σ2 l2 u2 v2 => ?_
        have s1 := (v2 1 (by decide)).trans (r4 1 _ (fun h => by have := g1.2.2 1 h; omega) z1)
        have s2 := (v2 2 (by decide)).trans (r4 2 _ (fun h => by have := g1.2.2 2 h; omega) z2)
        have s3 : σ2[3]? = some ⟨[xo, x4, .osl 2 0 N.toNat 1 N.toNat true], 0⟩ := u2
        have hov4 : idX xa ≠ some σ0.length := fun h => by have := (hF.own _ (show (2, xa, _) ∈ famF xo xa R ((J.take i).flatten ++ J[i].take k) (arcsO 0 (J.take i) ++ arcsK (J.take i).flatten.length k) (msO N.toNat ((J.take i).flatten ++ J[i].take k)) by unfold famF; exact List.mem_cons_of_mem _ List.mem_cons_self)).1.lt h; omega
        have sv := (v2 σ0.length (by omega)).trans (r4 _ _ hov4 zv)
        have sf : Fam 4 σ2 (famF xo x4 R ((J.take i).flatten ++ J[i].take k) (arcsO 0 (J.take i) ++ arcsK (J.take i).flatten.length (k + 1)) (msO N.toNat ((J.take i).flatten ++ J[i].take k))) := f4.keep fun j hj _ => v2 j (by omega)
        refine KT.nil ?_
        refine thenK_n ?_
        refine KC.seq ?_
        obtain ⟨xb, hxb⟩ : ∃ s, s = x4 := ⟨_, rfl⟩
        subst hxb
        have h0 := sf.own _ (show (2, xo, _) ∈ famF xo xb R ((J.take i).flatten ++ J[i].take k) (arcsO 0 (J.take i) ++ arcsK (J.take i).flatten.length (k + 1)) (msO N.toNat ((J.take i).flatten ++ J[i].take k)) by unfold famF; exact List.mem_cons_self)
        have eo1 : ((J.take i).flatten ++ J[i].take k) ++ [J[i][k]] = ((J.take i).flatten ++ J[i].take (k + 1)) := by rw [List.append_assoc, ← List.take_succ_eq_append_getElem hkl]
        have hoL : ((J.take i).flatten ++ J[i].take k).length = ((J.take i).flatten.length + k) := by rw [List.length_append, List.length_take]; omega
        refine KC.region ?_
        refine KT.step rfl rfl (K.fieldAddrO rfl Tryz.fld47_0 Tryz.size44) ?_
        refine KT.step rfl rfl (K.loadO rfl s3 (by simp) rfl Tryz.agg44) ?_
        refine KT.step rfl rfl (K.loadOA (c2 J[i][k]) rfl sv (by decide) Tryz.agg60 Tryz.size60 rfl) ?_
        refine KT.step rfl rfl (K.buildK (k := 2) (ds := c2 J[i][k]) rfl rfl Tryz.underlying44 Tryz.size60 Tryz.zero60 (by decide)) ?_
        refine KT.appK (k := 2) rfl rfl rfl rfl (h0.1.pushed _) (List.getElem?_concat_length ..) rfl rfl (by rw [cells_len]; omega) Tryz.underlying44 Tryz.size60 (of_decide_eq_true (by kernel_rfl)) (by kernel_rfl) (by decide) fun σ6 x6 ho6 k6 w6 => ?_
        rw [← flat_snoc, eo1] at ho6
        have l6 : 4 ≤ (σ2 ++ [(⟨(c2 J[i][k]).map .d, 0⟩ : VObj)]).length := by rw [List.length_append]; have := lt_of_get s3; omega
        have hne6 : ((((J.take i).flatten ++ J[i].take (k + 1)).flatMap c2).map XV.d) ≠ [] := fun e => by
          have h := congrArg List.length e
          rw [cells_len, ← eo1, List.length_append] at h; simp at h
        have f6 := (sf.push ⟨(c2 J[i][k]).map .d, 0⟩).put (i := 0) (by simp [famF]) k6 ho6 hne6 w6 l6
        have r6 : ∀ (j : Nat) (o : VObj), idX xo ≠ some j → σ2[j]? = some o → σ6[j]? = some o := fun j o h1 h2 => (k6 j h1 (by have := lt_of_get h2; rw [List.length_append]; omega)).trans (get_left h2)
        refine KT.step rfl rfl (K.fieldAddrO rfl Tryz.fld47_0 Tryz.size44) ?_
        refine KT.storeG rfl rfl rfl rfl (r6 3 _ (fun h => by have := h0.2.2 3 h; omega) s3) (by simp) ho6.cells.1 ho6.cells.2 Tryz.size44 fun σ3 l3 u3 v3 => ?_
        have t1 := (v3 1 (by decide)).trans (r6 1 _ (fun h => by have := h0.2.2 1 h; omega) s1)
        have t2 := (v3 2 (by decide)).trans (r6 2 _ (fun h => by have := h0.2.2 2 h; omega) s2)
        have t3 : σ3[3]? = some ⟨[x6, xb, .osl 2 0 N.toNat 1 N.toNat true], 0⟩ := u3
        have hov6 : idX xo ≠ some σ0.length := fun h => by have := (hF.own _ (show (2, xo, _) ∈ famF xo xa R ((J.take i).flatten ++ J[i].take k) (arcsO 0 (J.take i) ++ arcsK (J.take i).flatten.length k) (msO N.toNat ((J.take i).flatten ++ J[i].take k)) by unfold famF; exact List.mem_cons_self)).1.lt h; omega
        have tv := (v3 σ0.length (by omega)).trans (r6 _ _ hov6 sv)
        have tf : Fam 4 σ3 (famF x6 xb R ((J.take i).flatten ++ J[i].take (k + 1)) (arcsO 0 (J.take i) ++ arcsK (J.take i).flatten.length (k + 1)) (msO N.toNat ((J.take i).flatten ++ J[i].take k))) := f6.keep fun j hj _ => v3 j (by omega)
        refine KT.nil ?_
        refine thenK_n ?_
        have hop := (hjb _ (List.getElem_mem hil)).2.2.1 _ (List.getElem_mem hkl)
        have hm : J[i][k].1.toNat < R.length := by omega
        obtain ⟨hr1, frow⟩ := famF_row (xo := x6) (xa := xb) (ops := ((J.take i).flatten ++ J[i].take (k + 1))) (arcs := (arcsO 0 (J.take i) ++ arcsK (J.take i).flatten.length (k + 1))) (rows := msO N.toNat ((J.take i).flatten ++ J[i].take k)) hm (by rw [msO_len]; omega)
        have h7 := tf.own _ (List.getElem_mem hr1)
        have erow : (msO N.toNat ((J.take i).flatten ++ J[i].take k))[J[i][k].1.toNat]'(by rw [msO_len]; omega) = rowI ((J.take i).flatten ++ J[i].take k) ((J[i][k].1.toNat : Nat) : Int) := by simp [msO]
        rw [erow] at frow
        rw [frow] at h7
        have hrl := rowI_len ((J.take i).flatten ++ J[i].take k) ((J[i][k].1.toNat : Nat) : Int)
        obtain ⟨hr0, frow0⟩ := famF_row (xo := xo) (xa := xa) (ops := ((J.take i).flatten ++ J[i].take k)) (arcs := (arcsO 0 (J.take i) ++ arcsK (J.take i).flatten.length k)) (rows := msO N.toNat ((J.take i).flatten ++ J[i].take k)) hm (by rw [msO_len]; omega)
        have h70 := hF.own _ (List.getElem_mem hr0)
        rw [frow0] at h70
        have hlo7 : ∀ j, idX (R[J[i][k].1.toNat]) = some j → 4 ≤ j := fun j h => h7.2.2 j h
        have hov7 : idX (R[J[i][k].1.toNat]) ≠ some σ0.length := fun h => by have := h70.1.lt h; omega
        refine KC.drawZ (fun j => idX (R[J[i][k].1.toNat]) = some j) Tryz.mixed ?_
        refine KTZ.step rfl rfl (K.fieldAddrO rfl Tryz.fld47_2 Tryz.size25) ?_
        refine KTZ.load rfl rfl rfl (fun h => by have := hlo7 3 h; omega) (K.loadO rfl t3 (by simp) rfl Tryz.agg25) ?_
        refine KTZ.step rfl rfl (K.fieldAddrO rfl Tryz.fld60_0 Tryz.size3) ?_
        refine KTZ.load rfl rfl rfl (fun h => hov7 h) (K.loadO (y := .d (DI J[i][k].1)) rfl tv (by simp) rfl Tryz.agg3) ?_
        refine KTZ.step rfl rfl (K.fieldAddrO rfl Tryz.fld47_2 Tryz.size25) ?_
        refine KTZ.load rfl rfl rfl (fun h => by have := hlo7 3 h; omega) (K.loadO rfl t3 (by simp) rfl Tryz.agg25) ?_
        refine KTZ.step rfl rfl (K.fieldAddrO rfl Tryz.fld60_0 Tryz.size3) ?_
        refine KTZ.load rfl rfl rfl (fun h => hov7 h) (K.loadO (y := .d (DI J[i][k].1)) rfl tv (by simp) rfl Tryz.agg3) ?_
        refine KTZ.step rfl rfl (K.idxO (m := J[i][k].1.toNat) rfl (by exact congrArg (fun z => some (XV.d (DI z))) (show J[i][k].1 = ((J[i][k].1).toNat : Int) by omega)) (by omega) Tryz.underlying25 Tryz.size36) ?_
        refine KTZ.step rfl rfl (K.loadO (y := R[J[i][k].1.toNat]) rfl t2 (by simp) (by rw [Nat.zero_add]; exact List.getElem?_eq_getElem hm) Tryz.agg36) ?_
        refine KTZ.step rfl rfl (K.move rfl) ?_
        refine KTZ.step rfl rfl (K.buildC (k := 1) (cs := [.d (DI ((((J.take i).flatten.length + k) : Nat) : Int))]) rfl rfl rfl Tryz.underlying36 Tryz.size3 Tryz.one3.zero (by decide)) ?_
        refine KTZ.appK (k := 1) rfl rfl (fun j h => h) rfl rfl (h7.1.pushed _) (List.getElem?_concat_length ..) rfl rfl (by rw [xs_len]; omega) Tryz.underlying36 Tryz.size3 (of_decide_eq_true (by kernel_rfl)) (by kernel_rfl) (by decide) fun σ8 x8 ho8 k8 w8 => ?_
        have r8 : ∀ (j : Nat) (o : VObj), idX (R[J[i][k].1.toNat]) ≠ some j → σ3[j]? = some o → σ8[j]? = some o := fun j o h1 h2 => (k8 j h1 (by have := lt_of_get h2; rw [List.length_append]; omega)).trans (get_left h2)
        have q2 := r8 2 _ (fun h => by have := hlo7 2 h; omega) t2
        have exs : xs (rowI ((J.take i).flatten ++ J[i].take k) ((J[i][k].1.toNat : Nat) : Int)) ++ [.d (DI ((((J.take i).flatten.length + k) : Nat) : Int))] = xs (rowI ((J.take i).flatten ++ J[i].take k) ((J[i][k].1.toNat : Nat) : Int) ++ [((((J.take i).flatten.length + k) : Nat) : Int)]) := by rw [xs_app]; rfl
        rw [exs] at ho8
        have l8 : 4 ≤ (σ3 ++ [(⟨[.d (DI ((((J.take i).flatten.length + k) : Nat) : Int))], 0⟩ : VObj)]).length := by rw [List.length_append]; have := lt_of_get t3; omega
        have f8 := (tf.push ⟨[.d (DI ((((J.take i).flatten.length + k) : Nat) : Int))], 0⟩).put hr1 (fun j h => k8 j (by rw [frow] at h; exact h)) (by rw [frow]; exact ho8) (fun e => by have h := congrArg List.length e; rw [xs_len, List.length_append] at h; simp at h) w8 l8
        have efs := famF_set (xo := x6) (xa := xb) (x' := x8) (R := R) (ops := ((J.take i).flatten ++ J[i].take (k + 1))) (arcs := (arcsO 0 (J.take i) ++ arcsK (J.take i).flatten.length (k + 1))) (rows := msO N.toNat ((J.take i).flatten ++ J[i].take k)) (r := rowI ((J.take i).flatten ++ J[i].take k) ((J[i][k].1.toNat : Nat) : Int) ++ [((((J.take i).flatten.length + k) : Nat) : Int)]) (m := J[i][k].1.toNat) (by rw [hR, msO_len])
        have ems := msO_snoc (M := N.toNat) (ops := ((J.take i).flatten ++ J[i].take k)) (o := J[i][k]) (m := J[i][k].1.toNat) (by omega) (by omega)
        rw [eo1, hoL] at ems
        rw [frow, efs, ← ems] at f8
        refine KTZ.step rfl rfl (K.idxO (m := J[i][k].1.toNat) rfl (by exact congrArg (fun z => some (XV.d (DI z))) (show J[i][k].1 = ((J[i][k].1).toNat : Int) by omega)) (by omega) Tryz.underlying25 Tryz.size36) ?_
        refine KTZ.storeL rfl rfl rfl rfl q2 (by omega) ho8.cells.1 ho8.cells.2 Tryz.size36 fun σ9 l9 u9 v9 => ?_
        rw [Nat.zero_add] at u9
        have p1 := (v9 1 (by decide)).trans (r8 1 _ (fun h => by have := hlo7 1 h; omega) t1)
        have p3 := (v9 3 (by decide)).trans (r8 3 _ (fun h => by have := hlo7 3 h; omega) t3)
        have f9 := f8.keep fun j hj _ => v9 j (by omega)
        refine KTZ.nil ?_
        refine ⟨by kernel_rfl, ?_⟩
        refine blockK_n ?_
        refine thenK_n ?_
        refine KC.region ?_
        refine KT.step rfl rfl (K.add rfl rfl (wrap_id (by omega))) ?_
        refine KT.step rfl rfl (K.move rfl) ?_
        refine KT.nil ?_
        refine thenK_n ?_
        refine ⟨(σ9, x6, xb, R.set J[i][k].1.toNat x8, k + 1), ⟨by simp only; omega, p1, u9, p3, by simp only [List.length_set]; exact hR, f9⟩, by simp only; omega, rfl, by simp [Go.Vm.look, extK]⟩
      · skip
        replace hc31 := of_decide_eq_false hc31
        refine KC.skip ?_
        refine thenK_n ?_
        refine KC.seq ?_
        have hk0 : k = 0 := by omega
        obtain ⟨xb, hxb⟩ : ∃ s, s = xa := ⟨_, rfl⟩
        obtain ⟨σ2, hσ2⟩ : ∃ s, s = σ1 := ⟨_, rfl⟩
        subst hσ2
        have s1 := z1
        have s2 := z2
        have s3 := z3
        have sv := zv
        have sf := f1
        rw [← hxb] at s3 sf
        rw [show arcsK (J.take i).flatten.length k = arcsK (J.take i).flatten.length (k + 1) by subst hk0; rfl] at sf
        have h0 := sf.own _ (show (2, xo, _) ∈ famF xo xb R ((J.take i).flatten ++ J[i].take k) (arcsO 0 (J.take i) ++ arcsK (J.take i).flatten.length (k + 1)) (msO N.toNat ((J.take i).flatten ++ J[i].take k)) by unfold famF; exact List.mem_cons_self)
        have eo1 : ((J.take i).flatten ++ J[i].take k) ++ [J[i][k]] = ((J.take i).flatten ++ J[i].take (k + 1)) := by rw [List.append_assoc, ← List.take_succ_eq_append_getElem hkl]
        have hoL : ((J.take i).flatten ++ J[i].take k).length = ((J.take i).flatten.length + k) := by rw [List.length_append, List.length_take]; omega
        refine KC.region ?_
        refine KT.step rfl rfl (K.fieldAddrO rfl Tryz.fld47_0 Tryz.size44) ?_
        refine KT.step rfl rfl (K.loadO rfl s3 (by simp) rfl Tryz.agg44) ?_
        refine KT.step rfl rfl (K.loadOA (c2 J[i][k]) rfl sv (by decide) Tryz.agg60 Tryz.size60 rfl) ?_
        refine KT.step rfl rfl (K.buildK (k := 2) (ds := c2 J[i][k]) rfl rfl Tryz.underlying44 Tryz.size60 Tryz.zero60 (by decide)) ?_
        refine KT.appK (k := 2) rfl rfl rfl rfl (h0.1.pushed _) (List.getElem?_concat_length ..) rfl rfl (by rw [cells_len]; omega) Tryz.underlying44 Tryz.size60 (of_decide_eq_true (by kernel_rfl)) (by kernel_rfl) (by decide) fun σ6 x6 ho6 k6 w6 => ?_
        rw [← flat_snoc, eo1] at ho6
        have l6 : 4 ≤ (σ2 ++ [(⟨(c2 J[i][k]).map .d, 0⟩ : VObj)]).length := by rw [List.length_append]; have := lt_of_get s3; omega
        have hne6 : ((((J.take i).flatten ++ J[i].take (k + 1)).flatMap c2).map XV.d) ≠ [] := fun e => by
          have h := congrArg List.length e
          rw [cells_len, ← eo1, List.length_append] at h; simp at h
        have f6 := (sf.push ⟨(c2 J[i][k]).map .d, 0⟩).put (i := 0) (by simp [famF]) k6 ho6 hne6 w6 l6
        have r6 : ∀ (j : Nat) (o : VObj), idX xo ≠ some j → σ2[j]? = some o → σ6[j]? = some o := fun j o h1 h2 => (k6 j h1 (by have := lt_of_get h2; rw [List.length_append]; omega)).trans (get_left h2)
        refine KT.step rfl rfl (K.fieldAddrO rfl Tryz.fld47_0 Tryz.size44) ?_
        refine KT.storeG rfl rfl rfl rfl (r6 3 _ (fun h => by have := h0.2.2 3 h; omega) s3) (by simp) ho6.cells.1 ho6.cells.2 Tryz.size44 fun σ3 l3 u3 v3 => ?_
        have t1 := (v3 1 (by decide)).trans (r6 1 _ (fun h => by have := h0.2.2 1 h; omega) s1)
        have t2 := (v3 2 (by decide)).trans (r6 2 _ (fun h => by have := h0.2.2 2 h; omega) s2)
        have t3 : σ3[3]? = some ⟨[x6, xb, .osl 2 0 N.toNat 1 N.toNat true], 0⟩ := u3
        have hov6 : idX xo ≠ some σ0.length := fun h => by have := (hF.own _ (show (2, xo, _) ∈ famF xo xa R ((J.take i).flatten ++ J[i].take k) (arcsO 0 (J.take i) ++ arcsK (J.take i).flatten.length k) (msO N.toNat ((J.take i).flatten ++ J[i].take k)) by unfold famF; exact List.mem_cons_self)).1.lt h; omega
        have tv := (v3 σ0.length (by omega)).trans (r6 _ _ hov6 sv)
        have tf : Fam 4 σ3 (famF x6 xb R ((J.take i).flatten ++ J[i].take (k + 1)) (arcsO 0 (J.take i) ++ arcsK (J.take i).flatten.length (k + 1)) (msO N.toNat ((J.take i).flatten ++ J[i].take k))) := f6.keep fun j hj _ => v3 j (by omega)
        refine KT.nil ?_
        refine thenK_n ?_
        have hop := (hjb _ (List.getElem_mem hil)).2.2.1 _ (List.getElem_mem hkl)
        have hm : J[i][k].1.toNat < R.length := by omega
        obtain ⟨hr1, frow⟩ := famF_row (xo := x6) (xa := xb) (ops := ((J.take i).flatten ++ J[i].take (k + 1))) (arcs := (arcsO 0 (J.take i) ++ arcsK (J.take i).flatten.length (k + 1))) (rows := msO N.toNat ((J.take i).flatten ++ J[i].take k)) hm (by rw [msO_len]; omega)
        have h7 := tf.own _ (List.getElem_mem hr1)
        have erow : (msO N.toNat ((J.take i).flatten ++ J[i].take k))[J[i][k].1.toNat]'(by rw [msO_len]; omega) = rowI ((J.take i).flatten ++ J[i].take k) ((J[i][k].1.toNat : Nat) : Int) := by simp [msO]
        rw [erow] at frow
        rw [frow] at h7
        have hrl := rowI_len ((J.take i).flatten ++ J[i].take k) ((J[i][k].1.toNat : Nat) : Int)
        obtain ⟨hr0, frow0⟩ := famF_row (xo := xo) (xa := xa) (ops := ((J.take i).flatten ++ J[i].take k)) (arcs := (arcsO 0 (J.take i) ++ arcsK (J.take i).flatten.length k)) (rows := msO N.toNat ((J.take i).flatten ++ J[i].take k)) hm (by rw [msO_len]; omega)
        have h70 := hF.own _ (List.getElem_mem hr0)
        rw [frow0] at h70
        have hlo7 : ∀ j, idX (R[J[i][k].1.toNat]) = some j → 4 ≤ j := fun j h => h7.2.2 j h
        have hov7 : idX (R[J[i][k].1.toNat]) ≠ some σ0.length := fun h => by have := h70.1.lt h; omega
        refine KC.drawZ (fun j => idX (R[J[i][k].1.toNat]) = some j) Tryz.mixed ?_
        refine KTZ.step rfl rfl (K.fieldAddrO rfl Tryz.fld47_2 Tryz.size25) ?_
        refine KTZ.load rfl rfl rfl (fun h => by have := hlo7 3 h; omega) (K.loadO rfl t3 (by simp) rfl Tryz.agg25) ?_
        refine KTZ.step rfl rfl (K.fieldAddrO rfl Tryz.fld60_0 Tryz.size3) ?_
        refine KTZ.load rfl rfl rfl (fun h => hov7 h) (K.loadO (y := .d (DI J[i][k].1)) rfl tv (by simp) rfl Tryz.agg3) ?_
        refine KTZ.step rfl rfl (K.fieldAddrO rfl Tryz.fld47_2 Tryz.size25) ?_
        refine KTZ.load rfl rfl rfl (fun h => by have := hlo7 3 h; omega) (K.loadO rfl t3 (by simp) rfl Tryz.agg25) ?_
        refine KTZ.step rfl rfl (K.fieldAddrO rfl Tryz.fld60_0 Tryz.size3) ?_
        refine KTZ.load rfl rfl rfl (fun h => hov7 h) (K.loadO (y := .d (DI J[i][k].1)) rfl tv (by simp) rfl Tryz.agg3) ?_
        refine KTZ.step rfl rfl (K.idxO (m := J[i][k].1.toNat) rfl (by exact congrArg (fun z => some (XV.d (DI z))) (show J[i][k].1 = ((J[i][k].1).toNat : Int) by omega)) (by omega) Tryz.underlying25 Tryz.size36) ?_
        refine KTZ.step rfl rfl (K.loadO (y := R[J[i][k].1.toNat]) rfl t2 (by simp) (by rw [Nat.zero_add]; exact List.getElem?_eq_getElem hm) Tryz.agg36) ?_
        refine KTZ.step rfl rfl (K.move rfl) ?_
        refine KTZ.step rfl rfl (K.buildC (k := 1) (cs := [.d (DI ((((J.take i).flatten.length + k) : Nat) : Int))]) rfl rfl rfl Tryz.underlying36 Tryz.size3 Tryz.one3.zero (by decide)) ?_
        refine KTZ.appK (k := 1) rfl rfl (fun j h => h) rfl rfl (h7.1.pushed _) (List.getElem?_concat_length ..) rfl rfl (by rw [xs_len]; omega) Tryz.underlying36 Tryz.size3 (of_decide_eq_true (by kernel_rfl)) (by kernel_rfl) (by decide) fun σ8 x8 ho8 k8 w8 => ?_
        have r8 : ∀ (j : Nat) (o : VObj), idX (R[J[i][k].1.toNat]) ≠ some j → σ3[j]? = some o → σ8[j]? = some o := fun j o h1 h2 => (k8 j h1 (by have := lt_of_get h2; rw [List.length_append]; omega)).trans (get_left h2)
        have q2 := r8 2 _ (fun h => by have := hlo7 2 h; omega) t2
        have exs : xs (rowI ((J.take i).flatten ++ J[i].take k) ((J[i][k].1.toNat : Nat) : Int)) ++ [.d (DI ((((J.take i).flatten.length + k) : Nat) : Int))] = xs (rowI ((J.take i).flatten ++ J[i].take k) ((J[i][k].1.toNat : Nat) : Int) ++ [((((J.take i).flatten.length + k) : Nat) : Int)]) := by rw [xs_app]; rfl
        rw [exs] at ho8
        have l8 : 4 ≤ (σ3 ++ [(⟨[.d (DI ((((J.take i).flatten.length + k) : Nat) : Int))], 0⟩ : VObj)]).length := by rw [List.length_append]; have := lt_of_get t3; omega
        have f8 := (tf.push ⟨[.d (DI ((((J.take i).flatten.length + k) : Nat) : Int))], 0⟩).put hr1 (fun j h => k8 j (by rw [frow] at h; exact h)) (by rw [frow]; exact ho8) (fun e => by have h := congrArg List.length e; rw [xs_len, List.length_append] at h; simp at h) w8 l8
        have efs := famF_set (xo := x6) (xa := xb) (x' := x8) (R := R) (ops := ((J.take i).flatten ++ J[i].take (k + 1))) (arcs := (arcsO 0 (J.take i) ++ arcsK (J.take i).flatten.length (k + 1))) (rows := msO N.toNat ((J.take i).flatten ++ J[i].take k)) (r := rowI ((J.take i).flatten ++ J[i].take k) ((J[i][k].1.toNat : Nat) : Int) ++ [((((J.take i).flatten.length + k) : Nat) : Int)]) (m := J[i][k].1.toNat) (by rw [hR, msO_len])
        have ems := msO_snoc (M := N.toNat) (ops := ((J.take i).flatten ++ J[i].take k)) (o := J[i][k]) (m := J[i][k].1.toNat) (by omega) (by omega)
        rw [eo1, hoL] at ems
        rw [frow, efs, ← ems] at f8
        refine KTZ.step rfl rfl (K.idxO (m := J[i][k].1.toNat) rfl (by exact congrArg (fun z => some (XV.d (DI z))) (show J[i][k].1 = ((J[i][k].1).toNat : Int) by omega)) (by omega) Tryz.underlying25 Tryz.size36) ?_
        refine KTZ.storeL rfl rfl rfl rfl q2 (by omega) ho8.cells.1 ho8.cells.2 Tryz.size36 fun σ9 l9 u9 v9 => ?_
        rw [Nat.zero_add] at u9
        have p1 := (v9 1 (by decide)).trans (r8 1 _ (fun h => by have := hlo7 1 h; omega) t1)
        have p3 := (v9 3 (by decide)).trans (r8 3 _ (fun h => by have := hlo7 3 h; omega) t3)
        have f9 := f8.keep fun j hj _ => v9 j (by omega)
        refine KTZ.nil ?_
        refine ⟨by kernel_rfl, ?_⟩
        refine blockK_n ?_
        refine thenK_n ?_
        refine KC.region ?_
        refine KT.step rfl rfl (K.add rfl rfl (wrap_id (by omega))) ?_
        refine KT.step rfl rfl (K.move rfl) ?_
        refine KT.nil ?_
        refine thenK_n ?_
        refine ⟨(σ9, x6, xb, R.set J[i][k].1.toNat x8, k + 1), ⟨by simp only; omega, p1, u9, p3, by simp only [List.length_set]; exact hR, f9⟩, by simp only; omega, rfl, by simp [Go.Vm.look, extK]⟩
    · skip
      replace hc23 := of_decide_eq_false hc23
      refine KC.exit ?_
      refine thenK_x ?_
      refine thenK_x ?_
      refine blockK_e ?_
      refine blockK_n ?_
      refine thenK_n ?_
      refine KC.region ?_
      refine KT.step rfl rfl (K.add rfl rfl (wrap_id (by omega))) ?_
      refine KT.step rfl rfl (K.move rfl) ?_
      refine KT.nil ?_
      refine thenK_n ?_
      have et : J[i].take k = J[i] := List.take_of_length_le (by omega)
      have ek : k = J[i].length := by omega
      have ef : (J.take i).flatten ++ J[i] = (J.take (i + 1)).flatten := by rw [List.take_succ_eq_append_getElem hil, List.flatten_append]; simp
      rw [et, ef, ek, ← arcsO_take hil] at hF
      exact ⟨(σ0, xo, xa, R, i + 1), ⟨by simp only; omega, y1, y2, y3, hR, hF⟩, by simp only; omega, rfl, by simp [Go.Vm.look, extK]⟩
  · skip
    replace hc17 := of_decide_eq_false hc17
    refine KC.exit ?_
    refine thenK_x ?_
    refine thenK_x ?_
    refine blockK_e ?_
    refine thenK_n ?_
    refine KC.seq ?_
    refine KC.region ?_
    refine KT.step rfl rfl (K.loadOAgg (m := 3) (ob := ⟨[xo, xa, .osl 2 0 N.toNat 1 N.toNat true], 0⟩) rfl y3 (by simp) Tryz.agg47 Tryz.size47 (by simp)) ?_
    have et : J.take i = J := List.take_of_length_le (by omega)
    rw [et] at hF
    have g0 := hF.own _ (show (2, xo, _) ∈ famF xo xa R J.flatten (arcsO 0 J) (msO N.toNat J.flatten) by unfold famF; exact List.mem_cons_self)
    have g1 := hF.own _ (show (2, xa, _) ∈ famF xo xa R J.flatten (arcsO 0 J) (msO N.toNat J.flatten) by unfold famF; exact List.mem_cons_of_mem _ List.mem_cons_self)
    refine KT.putAll (cs := [xo, xa, .osl 2 0 N.toNat 1 N.toNat true]) rfl rfl rfl rfl y1 (cells_agg _) rfl (by simp [g0.1.cells.2, g1.1.cells.2]; rfl) Tryz.size47 ?_
    have hF9 := hF.keep (σ' := σ0.set 1 ⟨[xo, xa, .osl 2 0 N.toNat 1 N.toNat true], 0⟩) fun j hj _ => List.getElem?_set_ne (by omega)
    refine KT.nil ?_
    refine thenK_n ?_
    refine KC.ret ?_
    exact ⟨.inl rfl, _, resK_agg (m := 3) rfl rfl (List.getElem?_set_self (lt_of_get y1)) (by simp) Tryz.agg47 Tryz.size47 (by simp), deepen_graph (k := 5) hF9 (by rw [List.getElem?_set_ne (by decide)]; exact y2) hR (msO_len _ _)⟩
end Go.Proofs.YtdgahcbalabjdaaGreat

