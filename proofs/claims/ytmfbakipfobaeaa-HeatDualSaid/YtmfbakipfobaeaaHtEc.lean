import Derived.Test.YtmfbakipfobaeaaHtEb
/-
  Heat: a plan that is checked.
-/
namespace Go.Proofs.Ytmfbakipfobaeaa
open Go.Vm Go.Ht
theorem plainTry_55 : plainFn Try.prog 55 = true := by kernel_rfl
set_option maxHeartbeats 2000000 in
set_option maxRecDepth 10000 in
theorem servedBy55 {d : DV} {p : List Ld} {l : List Sm} {gap : Int} {cs cl : Option Nat} (hd : FlD 4 c4 d p) (hp : p.length ≤ 200) (hok : okH l gap = true) : DeepCall Try.prog 55 [.agg [(.sl (l.flatMap (c5 gap)) l.length cs), (.sl (ints (lvls gap l)) (lvls gap l).length cl)], d] (DB (srvd gap l p)) := by
  have n2 := lvls_two hok
  have n8 := (okH_iff.1 hok).2.1
  have hall := (okH_iff.1 hok).2.2.2.2
  have nl := lvls_length gap l
  have hpl := prs_length (lvls gap l)
  have hcx : cellsX (XV.d d) = [XV.d d] := by cases hd <;> rfl
  refine deepCall_K 5 Try.func55 rfl (Nat.le_of_ble_eq_true rfl) fun M W0 => ?_
  refine KC.seq ?_
  refine KC.region ?_
  refine KT.step rfl rfl (K.box rfl) ?_
  refine KT.step rfl rfl (K.box rfl) ?_
  rw [hcx]
  refine KT.step rfl rfl (K.alloc Try.one4.zero) ?_
  refine KT.nil ?_
  refine thenK_n ?_
  refine KC.seq ?_
  refine KC.region ?_
  refine KT.step rfl rfl (K.loadOA [(.sl (l.flatMap (c5 gap)) l.length cs), (.sl (ints (lvls gap l)) (lvls gap l).length cl)] rfl rfl (by decide) Try.agg75 Try.size75 rfl) ?_
  refine KT.step rfl rfl (K.callO (xs := [.d (.agg [(.sl (l.flatMap (c5 gap)) l.length cs), (.sl (ints (lvls gap l)) (lvls gap l).length cl)])]) rfl plainTry_70 exchange70) ?_
  refine KT.step rfl rfl (K.alloc Try.zero108) ?_
  refine KT.putAll (cells := [.d Dnil, .d Dnil, .d (.lit (.map none)), .d (.lit (.map none))]) (cs := [.d (.sl (l.flatMap (c5 gap)) l.length cs), .d (.sl (ints (lvls gap l)) (lvls gap l).length cl), .omp 5, .omp 6]) rfl rfl rfl rfl rfl rfl rfl rfl Try.size108 ?_
  refine KT.nil ?_
  refine thenK_n ?_
  refine KC.seq ?_
  refine KC.region ?_
  refine KT.step rfl rfl (K.alloc Try.one3.zero) ?_
  refine KT.step rfl rfl (K.storeO rfl rfl rfl (by simp [Value.cells]) rfl rfl Try.size3) ?_
  refine KT.nil ?_
  refine thenK_n ?_
  refine KC.seq ?_
  refine KC.seq ?_
  refine KC.region ?_
  refine KT.step rfl rfl (K.loadOA [(.sl (l.flatMap (c5 gap)) l.length cs), (.sl (ints (lvls gap l)) (lvls gap l).length cl)] rfl rfl (by decide) Try.agg75 Try.size75 rfl) ?_
  refine KT.step rfl rfl (K.call1 rfl plainTry_66 (pairs66 (.sl _ _ _) (.sl _ _ _))) ?_
  refine KT.nil ?_
  refine thenK_n ?_
  refine KC.block ?_
  refine KC.rangeR rfl rfl plainTry_79 (pairsIter (by omega) (by omega)) (by intro x hx; obtain ⟨p, _, rfl⟩ := List.mem_map.1 hx; rfl) (by decide) (fun k => [(2, .optr 0 0), (3, .optr 1 0), (4, .optr 2 0), (5, .optr 7 0), (6, .optr 8 0), (15, .d (DI ((prs (lvls gap l)).getD k (0, 0)).1)), (16, .d (DI ((prs (lvls gap l)).getD k (0, 0)).2))]) (fun k τ => ∃ s, SvK gap l p k s ∧ SF τ (.sl (l.flatMap (c5 gap)) l.length cs) (.sl (ints (lvls gap l)) (lvls gap l).length cl) d s) (fun τ => svA gap l p (prs (lvls gap l)) = none ∧ τ[2]? = some ⟨[.d (DB false)], 0⟩) (by
    intro k hk p hp
    have hk' : k < (prs (lvls gap l)).length := by simpa using hk
    rw [List.getElem_map]
    have e1 : ((prs (lvls gap l)).getD k (0, 0)) = (prs (lvls gap l))[k] := by simp [hk']
    simp only [e1] at hp
    simp only [List.mem_cons, List.not_mem_nil, or_false] at hp
    rcases hp with rfl | rfl | rfl | rfl | rfl | rfl | rfl <;> exact ⟨Nat.le_of_ble_eq_true rfl, rfl⟩) (⟨([], [], 0), SvK.zero gap l p, ⟨rfl, rfl, rfl, rfl, rfl, rfl, rfl⟩⟩) (fun k hk lo σk hlo hl hI => ?_) (fun τ hI => ?_) (fun τ hJ => ?_)
  · skip
    have hk' : k < (prs (lvls gap l)).length := by simpa using hk
    have e1 : ((prs (lvls gap l)).getD k (0, 0)) = (prs (lvls gap l))[k] := by simp [hk']
    have hlv := lvls_in hok
    have m1 := hlv _ (List.getElem_mem (show k < (lvls gap l).length by omega))
    have m2 := hlv _ (List.getElem_mem (show k + 1 < (lvls gap l).length by omega))
    have e2 : (prs (lvls gap l))[k] = ((lvls gap l)[k], (lvls gap l)[k + 1]) := prs_get (by omega)
    have m3 : ((prs (lvls gap l)).getD k (0, 0)).1 = (lvls gap l)[k] := by rw [e1, e2]
    have m4 : ((prs (lvls gap l)).getD k (0, 0)).2 = (lvls gap l)[k + 1] := by rw [e1, e2]
    obtain ⟨s, hS, hF0⟩ := hI
    refine KC.seq ?_
    refine KC.region ?_
    refine KT.step rfl rfl (K.assign rfl) ?_
    refine KT.nil ?_
    refine thenK_n ?_
    refine KC.region ?_
    refine KT.step rfl rfl (K.assign rfl) ?_
    refine KT.nil ?_
    refine ⟨rfl, rfl, fun lo2 hlo2 => ?_⟩
    have hF : SF (σk.set 9 lo2) (.sl (l.flatMap (c5 gap)) l.length cs) (.sl (ints (lvls gap l)) (lvls gap l).length cl) d s := hF0.set9
    have z9 : (σk.set 9 lo2)[9]? = some lo2 := List.getElem?_set_self (lt_of_get hl)
    revert hF z9
    show _ → _ → KC Try.prog M W0 _ _ (σk.set 9 lo2) _ _
    generalize σk.set 9 lo2 = σ1
    intro hF z9
    refine KC.block ?_
    refine KC.seq ?_
    refine KC.region ?_
    refine KT.step rfl rfl (K.loadOX [.d (.sl (l.flatMap (c5 gap)) l.length cs), .d (.sl (ints (lvls gap l)) (lvls gap l).length cl), .omp 5, .omp 6] rfl hF.y7 (by decide) Try.agg108 Try.size108 rfl rfl) ?_
    refine KT.step rfl rfl (K.move rfl) ?_
    refine KT.step rfl rfl (K.move rfl) ?_
    refine KT.step rfl rfl (K.callO (xs := [.agg [.d (.sl (l.flatMap (c5 gap)) l.length cs), .d (.sl (ints (lvls gap l)) (lvls gap l).length cl), .omp 5, .omp 6], .d (DI ((prs (lvls gap l)).getD k (0, 0)).1), .d (DI ((prs (lvls gap l)).getD k (0, 0)).2)]) rfl plainTry_73 (descend73 hok hF.y5 hF.y6 (by decide) hS.iv.g hS.iv.w (fun k => Int.le_trans (hS.iv.gb k) (by omega)) (fun k => Int.le_trans (hS.iv.wb k) (by omega)) ⟨by omega, by omega⟩ ⟨by omega, by omega⟩)) ?_
    replace hF := hF.acc (⟨[.d (.sl (l.flatMap (c5 gap)) l.length cs), .d (.sl (ints (lvls gap l)) (lvls gap l).length cl), .omp 5, .omp 6], 0⟩ :: dsJ gap l l.length) (dsS gap l k s).1 (dsS gap l k s).2.1
    replace z9 := sw_9 (B := ⟨[.d (.sl (l.flatMap (c5 gap)) l.length cs), .d (.sl (ints (lvls gap l)) (lvls gap l).length cl), .omp 5, .omp 6], 0⟩ :: dsJ gap l l.length) (g := (dsS gap l k s).1) (w := (dsS gap l k s).2.1) z9
    change KT _ _ _ _ (sw (σ1 ++ ⟨[.d (.sl (l.flatMap (c5 gap)) l.length cs), .d (.sl (ints (lvls gap l)) (lvls gap l).length cl), .omp 5, .omp 6], 0⟩ :: dsJ gap l l.length) 5 6 (dsS gap l k s).1 (dsS gap l k s).2.1) _ _
    generalize sw (σ1 ++ (⟨[.d (.sl (l.flatMap (c5 gap)) l.length cs), .d (.sl (ints (lvls gap l)) (lvls gap l).length cl), .omp 5, .omp 6], 0⟩ : VObj) :: dsJ gap l l.length) 5 6 (dsS gap l k s).1 (dsS gap l k s).2.1 = σ2 at hF z9 ⊢
    refine KT.nil ?_
    refine thenK_n ?_
    refine KC.seq ?_
    refine KC.seq ?_
    refine KC.region ?_
    refine KT.step rfl rfl (K.loadO (y := .d d) rfl hF.y1 (by simp) rfl Try.agg44) ?_
    refine KT.step rfl rfl (K.lenF rfl hd Try.underlying44) ?_
    refine KT.step rfl rfl (K.move rfl) ?_
    refine KT.nil ?_
    refine thenK_n ?_
    refine KC.block ?_
    have hL := hS.start hall
    refine KC.loop (fun z : List VObj × Sv × Nat => z.1) (fun z => [(2, .optr 0 0), (3, .optr 1 0), (4, .optr 2 0), (5, .optr 7 0), (6, .optr 8 0), (7, .d (DI ((prs (lvls gap l)).getD k (0, 0)).1)), (8, .d (DI ((prs (lvls gap l)).getD k (0, 0)).2)), (21, .d d), (22, .d (DI (p.length : Nat))), (23, .d (DI (z.2.2 : Nat)))]) (fun z => z.2.2 ≤ p.length ∧ SvL gap l p k (dsS gap l k s) z.2.2 z.2.1 ∧ SF z.1 (.sl (l.flatMap (c5 gap)) l.length cs) (.sl (ints (lvls gap l)) (lvls gap l).length cl) d z.2.1 ∧ z.1[9]? = some lo2) (fun z => p.length - z.2.2) (_, dsS gap l k s, 0) ⟨Nat.zero_le _, hL, hF, z9⟩ rfl (by simp [Go.Vm.look, extK]) ?_
    clear hL hF z9
    intro z hz
    obtain ⟨σ3, s1, i⟩ := z
    obtain ⟨hi, hL, hF, z9⟩ := hz
    simp only at hi hL hF z9 ⊢
    refine KC.seq ?_
    refine KC.region ?_
    refine KT.step rfl rfl (K.lss rfl rfl) ?_
    refine KT.nil ?_
    refine thenK_n ?_
    refine KC.seq ?_
    refine KC.cond rfl (fun hc24 => ?_) (fun hc24 => ?_)
    · skip
      replace hc24 := of_decide_eq_true hc24
      have hil : i < p.length := by omega
      refine KC.skip ?_
      refine thenK_n ?_
      refine KC.seq ?_
      refine KC.block ?_
      refine KC.seq ?_
      refine KC.region ?_
      refine KT.step rfl rfl (K.idxF c4_len (m := i) rfl hd rfl hil Try.underlying44 Try.size65) ?_
      refine KT.step rfl rfl (K.loadFl (cs := c4 p[i]) rfl rfl Try.agg65 Try.size65) ?_
      refine KT.step rfl rfl (K.alloc Try.zero65) ?_
      refine KT.storeL (cs := (c4 p[i]).map .d) rfl rfl rfl rfl rfl rfl rfl Try.size65 ?_
      replace hF := hF.left [⟨(c4 p[i]).map .d, 0⟩]
      replace z9 := get_left (B := [(⟨(c4 p[i]).map .d, 0⟩ : VObj)]) z9
      refine KT.nil ?_
      refine thenK_n ?_
      refine KC.seq ?_
      refine KC.seq ?_
      refine KC.region ?_
      refine KT.step rfl rfl (K.fieldAddrO rfl Try.fld65_2 Try.size3) ?_
      refine KT.step rfl rfl (K.loadO (y := .d (DI p[i].t)) rfl (List.getElem?_concat_length ..) (by simp) rfl Try.agg3) ?_
      refine KT.step rfl rfl (K.move rfl) ?_
      refine KT.step rfl rfl (K.neq rfl rfl) ?_
      refine KT.nil ?_
      refine thenK_n ?_
      refine KC.cond rfl (fun hc30 => ?_) (fun hc30 => ?_)
      · skip
        replace hc30 := of_decide_eq_true hc30
        refine KC.exit ?_
        refine thenK_x ?_
        refine blockK_e ?_
        refine thenK_n ?_
        refine KC.region ?_
        refine KT.step rfl rfl (K.add rfl rfl (wrap_id (by omega))) ?_
        refine KT.step rfl rfl (K.move rfl) ?_
        refine KT.nil ?_
        refine thenK_n ?_
        exact ⟨(_, s1, i + 1), ⟨by simp only; omega, hL.skip hil hc30, hF, z9⟩, by simp only; omega, rfl, by simp [Go.Vm.look, extK]⟩
      · skip
        replace hc30 := of_decide_eq_false hc30
        refine KC.skip ?_
        refine thenK_n ?_
        refine KC.seq ?_
        refine KC.seq ?_
        refine KC.region ?_
        refine KT.step rfl rfl (K.loadOX [.d (.sl (l.flatMap (c5 gap)) l.length cs), .d (.sl (ints (lvls gap l)) (lvls gap l).length cl), .omp 5, .omp 6] rfl hF.y7 (by decide) Try.agg108 Try.size108 rfl rfl) ?_
        refine KT.step rfl rfl (K.loadOA (c4 p[i]) rfl (List.getElem?_concat_length ..) (by decide) Try.agg65 Try.size65 rfl) ?_
        refine KT.step rfl rfl (K.callO (xs := [.agg [.d (.sl (l.flatMap (c5 gap)) l.length cs), .d (.sl (ints (lvls gap l)) (lvls gap l).length cl), .omp 5, .omp 6], .d (.agg (c4 p[i]))]) rfl plainTry_72 (pass72 (x := p[i]) hF.y5 hF.y6 (by decide) hL.iv.g.1 hL.iv.w.1 (fun k => Int.le_trans (hL.iv.gb k) (by omega)) (fun k => Int.le_trans (hL.iv.wb k) (by omega)))) ?_
        replace hF := hF.acc [⟨[.d (.sl (l.flatMap (c5 gap)) l.length cs), .d (.sl (ints (lvls gap l)) (lvls gap l).length cl), .omp 5, .omp 6], 0⟩, ⟨(c4 p[i]).map .d, 0⟩] (passM s1.1 s1.2.1 p[i]).2.1 (passM s1.1 s1.2.1 p[i]).2.2
        replace z9 := sw_9 (B := [⟨[.d (.sl (l.flatMap (c5 gap)) l.length cs), .d (.sl (ints (lvls gap l)) (lvls gap l).length cl), .omp 5, .omp 6], 0⟩, ⟨(c4 p[i]).map .d, 0⟩]) (g := (passM s1.1 s1.2.1 p[i]).2.1) (w := (passM s1.1 s1.2.1 p[i]).2.2) z9
        generalize hρ : sw (σ3 ++ [(⟨(c4 p[i]).map .d, 0⟩ : VObj)] ++ [⟨[.d (.sl (l.flatMap (c5 gap)) l.length cs), .d (.sl (ints (lvls gap l)) (lvls gap l).length cl), .omp 5, .omp 6], 0⟩, ⟨(c4 p[i]).map .d, 0⟩]) 5 6 (passM s1.1 s1.2.1 p[i]).2.1 (passM s1.1 s1.2.1 p[i]).2.2 = σ4 at hF z9
        unfold sw at hρ
        rw [hρ]
        refine KT.step rfl rfl (K.not rfl) ?_
        refine KT.nil ?_
        refine thenK_n ?_
        refine KC.cond rfl (fun hc34 => ?_) (fun hc34 => ?_)
        · skip
          refine KC.seq ?_
          refine KC.region ?_
          refine KT.storeG rfl rfl rfl rfl hF.y2 (by simp) rfl rfl Try.size4 fun σ9 l9 u9 v9 => ?_
          refine KT.nil ?_
          refine thenK_n ?_
          refine KC.ret ?_
          refine thenK_r ?_
          refine blockK_r ?_
          refine thenK_r ?_
          refine thenK_r ?_
          refine blockK_r ?_
          refine thenK_r ?_
          refine blockK_r ?_
          exact ⟨(v9 9 (by decide)).trans z9, .inr ⟨rfl, SvL.bad hS hk' hL hil (Classical.not_not.1 hc30) (by simpa using hc34), ((List.getElem?_set_ne (show (9 : Nat) ≠ 2 by decide)).trans u9)⟩⟩
        · skip
          refine KC.skip ?_
          refine thenK_n ?_
          refine KC.region ?_
          refine KT.step rfl rfl (K.loadO rfl hF.y8 (by simp) rfl Try.agg3) ?_
          refine KT.step rfl rfl (K.add rfl rfl (wrap_id (by have := hL.n; have : p.length * k ≤ 200 * 16 := Nat.mul_le_mul hp (by omega); simp only; omega))) ?_
          refine KT.storeG rfl rfl rfl rfl hF.y8 (by simp) rfl rfl Try.size3 fun σ5 l5 u5 v5 => ?_
          replace hF := hF.cnt (n := s1.2.2 + 1) u5 v5
          replace z9 := (v5 9 (by decide)).trans z9
          refine KT.nil ?_
          refine blockK_n ?_
          refine thenK_n ?_
          refine KC.region ?_
          refine KT.step rfl rfl (K.add rfl rfl (wrap_id (by omega))) ?_
          refine KT.step rfl rfl (K.move rfl) ?_
          refine KT.nil ?_
          refine thenK_n ?_
          exact ⟨(_, (_, _, _), i + 1), ⟨by simp only; omega, hL.pass hil (Classical.not_not.1 hc30) (by simpa using hc34), hF, z9⟩, by simp only; omega, rfl, by simp [Go.Vm.look, extK]⟩
    · skip
      replace hc24 := of_decide_eq_false hc24
      refine KC.exit ?_
      refine thenK_x ?_
      refine thenK_x ?_
      refine blockK_e ?_
      refine thenK_n ?_
      refine KC.seq ?_
      refine KC.region ?_
      refine KT.step rfl rfl (K.fieldAddrO rfl Try.fld108_2 Try.size106) ?_
      refine KT.step rfl rfl (K.loadO (y := .omp 6) rfl hF.y7 (by simp) rfl Try.agg106) ?_
      refine KT.step rfl rfl (K.lenI rfl hF.y6 Try.underlying106) ?_
      refine KT.step rfl rfl (K.gtr rfl rfl) ?_
      refine KT.nil ?_
      refine thenK_n ?_
      refine KC.cond rfl (fun hc41 => ?_) (fun hc41 => ?_)
      · skip
        replace hc41 := of_decide_eq_true hc41
        refine KC.seq ?_
        refine KC.region ?_
        refine KT.storeG rfl rfl rfl rfl hF.y2 (by simp) rfl rfl Try.size4 fun σ9 l9 u9 v9 => ?_
        refine KT.nil ?_
        refine thenK_n ?_
        refine KC.ret ?_
        refine blockK_r ?_
        exact ⟨(v9 9 (by decide)).trans z9, .inr ⟨rfl, SvL.want hS hk' hL (by omega) (by omega), ((List.getElem?_set_ne (show (9 : Nat) ≠ 2 by decide)).trans u9)⟩⟩
      · skip
        replace hc41 := of_decide_eq_false hc41
        refine KC.skip ?_
        refine blockK_n ?_
        obtain ⟨hF3⟩ : Nonempty (SF (σ3.set 9 dead) (.sl (l.flatMap (c5 gap)) l.length cs) (.sl (ints (lvls gap l)) (lvls gap l).length cl) d s1) := ⟨hF.keep fun j hj => List.getElem?_set_ne (by omega)⟩
        exact ⟨z9, .inl ⟨rfl, s1, SvL.next hS hk' hL (by omega) (by omega), hF3⟩⟩
  · skip
    rw [List.length_map] at hI
    obtain ⟨s, hS, hF⟩ := hI
    have hsv := hS.fin (Nat.le_refl _)
    refine blockK_n ?_
    refine thenK_n ?_
    refine KC.seq ?_
    refine KC.region ?_
    refine KT.step rfl rfl (K.fieldAddrO rfl Try.fld108_1 Try.size106) ?_
    refine KT.step rfl rfl (K.loadO (y := .omp 5) rfl hF.y7 (by simp) rfl Try.agg106) ?_
    refine KT.step rfl rfl (K.lenI rfl hF.y5 Try.underlying106) ?_
    refine KT.step rfl rfl (K.eql rfl rfl) ?_
    refine KT.step rfl rfl (K.move rfl) ?_
    refine KT.bcase (fun hb46 => ?_) (fun hb46 => ?_)
    · skip
      replace hb46 := of_decide_eq_true hb46
      refine KT.step rfl rfl (K.loadO rfl hF.y8 (by simp) rfl Try.agg3) ?_
      refine KT.step rfl rfl (K.loadO (y := .d d) rfl hF.y1 (by simp) rfl Try.agg44) ?_
      refine KT.step rfl rfl (K.lenF rfl hd Try.underlying44) ?_
      refine KT.step rfl rfl (K.eql rfl rfl) ?_
      refine KT.step rfl rfl (K.pick rfl (fun _ => rfl) (fun h => by cases h)) ?_
      refine KT.storeG rfl rfl rfl rfl hF.y2 (by simp) rfl rfl Try.size4 fun σ9 l9 u9 v9 => ?_
      refine KT.nil ?_
      refine thenK_n ?_
      refine KC.ret ?_
      have e : srvd gap l p = decide ((s.2.2 : Int) = (p.length : Int)) := by
        rw [hsv, decide_eq_true (by omega), Bool.true_and]; exact decide_eq_decide.2 (by omega)
      rw [e]
      exact ⟨.inl rfl, _, resK_one rfl rfl u9 (show (0 : Nat) < 2 by decide) Try.agg4 rfl, rfl⟩
    · skip
      replace hb46 := of_decide_eq_false hb46
      refine KT.skip rfl rfl ?_
      refine KT.skip rfl rfl ?_
      refine KT.skip rfl rfl ?_
      refine KT.skip rfl rfl ?_
      refine KT.step rfl rfl (K.pick rfl (fun h => by cases h) (fun _ => rfl)) ?_
      refine KT.storeG rfl rfl rfl rfl hF.y2 (by simp) rfl rfl Try.size4 fun σ9 l9 u9 v9 => ?_
      refine KT.nil ?_
      refine thenK_n ?_
      refine KC.ret ?_
      have e : srvd gap l p = false := by rw [hsv, decide_eq_false (by omega), Bool.false_and]
      rw [e]
      exact ⟨.inl rfl, _, resK_one rfl rfl u9 (show (0 : Nat) < 2 by decide) Try.agg4 rfl, rfl⟩
  · skip
    refine blockK_r ?_
    refine thenK_r ?_
    rw [srvd_no hJ.1]
    exact ⟨.inl rfl, _, resK_one rfl rfl hJ.2 (by decide) Try.agg4 rfl, rfl⟩
end Go.Proofs.Ytmfbakipfobaeaa

