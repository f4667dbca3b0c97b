import Derived.Test.YtmfbakipfobaeaaHtH
import Derived.Test.YtmfbakipfobaeaaHtGu
import Derived.Test.YtmfbakipfobaeaaVmTb
import Derived.Test.YtmfbakipfobaeaaVmW
/-
  Heat: accounts, passes, converted loads.
-/
namespace Go.Proofs.Ytmfbakipfobaeaa
open Go.Vm Go.Ht
theorem plainTry_80 : plainFn Try.prog 80 = true := by kernel_rfl
theorem plainTry_70 : plainFn Try.prog 70 = true := by kernel_rfl
theorem plainTry_72 : plainFn Try.prog 72 = true := by kernel_rfl
theorem plainTry_73 : plainFn Try.prog 73 = true := by kernel_rfl
theorem plainTry_56 : plainFn Try.prog 56 = true := by kernel_rfl
theorem plainTry_36 : plainFn Try.prog 36 = true := by kernel_rfl
theorem plainTry_34 : plainFn Try.prog 34 = true := by kernel_rfl
theorem Try.agg106 : isAggT Try.prog 106 = some false := by kernel_rfl
theorem Try.size106 : sizeT Try.prog 106 = some 1 := by kernel_rfl
theorem Try.agg108 : isAggT Try.prog 108 = some true := by kernel_rfl
theorem Try.size108 : sizeT Try.prog 108 = some 4 := by kernel_rfl
theorem Try.zero108 : zeroT Try.prog 108 = some (.agg #[.slice none 0 0, .slice none 0 0, .map none, .map none]) := by kernel_rfl
theorem Try.fld108_0 : fieldT Try.prog 108 0 = some { name := "system", type := 75, offset := 0, embedded := true, tag := "", pkgPath := "massecuite/heat", byteOffset := 0 } := by kernel_rfl
theorem Try.fld108_1 : fieldT Try.prog 108 1 = some { name := "given", type := 106, offset := 2, embedded := false, tag := "", pkgPath := "massecuite/heat", byteOffset := 48 } := by kernel_rfl
theorem Try.fld108_2 : fieldT Try.prog 108 2 = some { name := "wanted", type := 106, offset := 3, embedded := false, tag := "", pkgPath := "massecuite/heat", byteOffset := 56 } := by kernel_rfl
theorem Try.places108 : (match Try.prog.underlying 108 with | some (.struct fs) => placesT Try.prog fs | _ => none) = some #[(0, 2), (2, 1), (3, 1)] := by kernel_rfl
theorem Try.agg65 : isAggT Try.prog 65 = some true := by kernel_rfl
theorem Try.size65 : sizeT Try.prog 65 = some 4 := by kernel_rfl
theorem Try.zero65 : zeroT Try.prog 65 = some (.agg #[.int .i64 0, .int .i64 0, .int .i64 0, .int .i64 0]) := by kernel_rfl
theorem Try.fld65_0 : fieldT Try.prog 65 0 = some { name := "Hot", type := 3, offset := 0, embedded := false, tag := "", pkgPath := "", byteOffset := 0 } := by kernel_rfl
theorem Try.fld65_1 : fieldT Try.prog 65 1 = some { name := "Cold", type := 3, offset := 1, embedded := false, tag := "", pkgPath := "", byteOffset := 8 } := by kernel_rfl
theorem Try.fld65_2 : fieldT Try.prog 65 2 = some { name := "Top", type := 3, offset := 2, embedded := false, tag := "", pkgPath := "", byteOffset := 16 } := by kernel_rfl
theorem Try.fld65_3 : fieldT Try.prog 65 3 = some { name := "Heat", type := 3, offset := 3, embedded := false, tag := "", pkgPath := "", byteOffset := 24 } := by kernel_rfl
theorem Try.places65 : (match Try.prog.underlying 65 with | some (.struct fs) => placesT Try.prog fs | _ => none) = some #[(0, 1), (1, 1), (2, 1), (3, 1)] := by kernel_rfl
theorem Try.agg44 : isAggT Try.prog 44 = some false := by kernel_rfl
theorem Try.size44 : sizeT Try.prog 44 = some 1 := by kernel_rfl
theorem Try.one44 : OneT Try.prog 44 (.slice none 0 0) := ⟨by kernel_rfl, by kernel_rfl, rfl, of_decide_eq_true (by kernel_rfl)⟩
theorem Try.agg88 : isAggT Try.prog 88 = some true := by kernel_rfl
theorem Try.size88 : sizeT Try.prog 88 = some 4 := by kernel_rfl
theorem Try.zero88 : zeroT Try.prog 88 = some (.agg #[.int .i64 0, .int .i64 0, .int .i64 0, .int .i64 0]) := by kernel_rfl
theorem Try.fld88_0 : fieldT Try.prog 88 0 = some { name := "Hot", type := 3, offset := 0, embedded := false, tag := "", pkgPath := "", byteOffset := 0 } := by kernel_rfl
theorem Try.fld88_1 : fieldT Try.prog 88 1 = some { name := "Cold", type := 3, offset := 1, embedded := false, tag := "", pkgPath := "", byteOffset := 8 } := by kernel_rfl
theorem Try.fld88_2 : fieldT Try.prog 88 2 = some { name := "Top", type := 3, offset := 2, embedded := false, tag := "", pkgPath := "", byteOffset := 16 } := by kernel_rfl
theorem Try.fld88_3 : fieldT Try.prog 88 3 = some { name := "Heat", type := 3, offset := 3, embedded := false, tag := "", pkgPath := "", byteOffset := 24 } := by kernel_rfl
theorem Try.places88 : (match Try.prog.underlying 88 with | some (.struct fs) => placesT Try.prog fs | _ => none) = some #[(0, 1), (1, 1), (2, 1), (3, 1)] := by kernel_rfl
theorem Try.agg49 : isAggT Try.prog 49 = some false := by kernel_rfl
theorem Try.size49 : sizeT Try.prog 49 = some 1 := by kernel_rfl
theorem Try.one49 : OneT Try.prog 49 (.slice none 0 0) := ⟨by kernel_rfl, by kernel_rfl, rfl, of_decide_eq_true (by kernel_rfl)⟩
theorem zeroI : zeroT Try.prog 3 = some (.int .i64 0) := by kernel_rfl
set_option maxRecDepth 10000 in
theorem take80 {σ : List VObj} {id : Nat} {m : Acc} {k h : Int} (ho : σ[id]? = some ⟨entI m, 3⟩) (hn : NdI m) (hb : mlk m k ≤ 1000000000) (h0 : 0 < h) : OwnCall Try.prog 80 σ [.omp id, .d (DI k), .d (DI h)] (σ.set id ⟨entI (takeM m k h).2, 3⟩) (.d (DB (takeM m k h).1)) := by
  refine ownCall_K Try.func80 rfl (Nat.le_of_ble_eq_true rfl) fun M W0 => ?_
  refine KC.seq ?_
  refine KC.region ?_
  refine KT.step rfl rfl (K.assign rfl) ?_
  refine KT.nil ?_
  refine thenK_n ?_
  refine KC.seq ?_
  refine KC.seq ?_
  refine KC.region ?_
  refine KT.step rfl rfl (K.move rfl) ?_
  refine KT.step rfl rfl (K.eql rfl rfl) ?_
  refine KT.nil ?_
  refine thenK_n ?_
  refine KC.cond rfl (fun hc8 => ?_) (fun hc8 => ?_)
  · skip
    replace hc8 := of_decide_eq_true hc8
    refine KC.seq ?_
    refine KC.region ?_
    refine KT.step rfl rfl (K.assign rfl) ?_
    refine KT.nil ?_
    refine thenK_n ?_
    refine KC.ret ?_
    refine thenK_r ?_
    have e : takeM m k h = (true, m) := by unfold takeM; rw [if_pos hc8]
    rw [e]
    exact ⟨.inl rfl, rfl, (set_same ho).symm⟩
  · skip
    replace hc8 := of_decide_eq_false hc8
    refine KC.skip ?_
    refine thenK_n ?_
    refine KC.seq ?_
    refine KC.seq ?_
    refine KC.region ?_
    refine KT.step rfl rfl (K.move rfl) ?_
    refine KT.step rfl rfl (K.move rfl) ?_
    refine KT.step rfl rfl (K.move rfl) ?_
    refine KT.step rfl rfl (K.lookI rfl ho hn rfl Try.underlying106 Try.underlying3 zeroI) ?_
    refine KT.step rfl rfl (K.gtr rfl rfl) ?_
    refine KT.nil ?_
    refine thenK_n ?_
    refine KC.cond rfl (fun hc13 => ?_) (fun hc13 => ?_)
    · skip
      replace hc13 := of_decide_eq_true hc13
      refine KC.seq ?_
      refine KC.region ?_
      refine KT.step rfl rfl (K.assign rfl) ?_
      refine KT.nil ?_
      refine thenK_n ?_
      refine KC.ret ?_
      refine thenK_r ?_
      have e : takeM m k h = (false, m) := by unfold takeM; rw [if_neg hc8, if_pos hc13]
      rw [e]
      exact ⟨.inl rfl, rfl, (set_same ho).symm⟩
    · skip
      replace hc13 := of_decide_eq_false hc13
      refine KC.skip ?_
      refine thenK_n ?_
      refine KC.seq ?_
      refine KC.region ?_
      refine KT.step rfl rfl (K.move rfl) ?_
      refine KT.step rfl rfl (K.move rfl) ?_
      refine KT.step rfl rfl (K.lookI rfl ho hn rfl Try.underlying106 Try.underlying3 zeroI) ?_
      refine KT.step rfl rfl (K.move rfl) ?_
      refine KT.step rfl rfl (K.sub rfl rfl (wrap_id (by omega))) ?_
      refine KT.step rfl rfl (K.updI rfl ho hn rfl rfl Try.underlying106 Try.underlying3) ?_
      refine KT.nil ?_
      refine thenK_n ?_
      refine KC.seq ?_
      refine KC.seq ?_
      refine KC.region ?_
      refine KT.step rfl rfl (K.move rfl) ?_
      refine KT.step rfl rfl (K.move rfl) ?_
      refine KT.step rfl rfl (K.lookI rfl (List.getElem?_set_self (lt_of_get ho)) hn.up rfl Try.underlying106 Try.underlying3 zeroI) ?_
      rw [mlk_mup, if_pos rfl]
      refine KT.step rfl rfl (K.eql rfl rfl) ?_
      refine KT.nil ?_
      refine thenK_n ?_
      refine KC.cond rfl (fun hc22 => ?_) (fun hc22 => ?_)
      · skip
        replace hc22 := of_decide_eq_true hc22
        refine KC.region ?_
        refine KT.step rfl rfl (K.move rfl) ?_
        refine KT.step rfl rfl (K.move rfl) ?_
        refine KT.step rfl rfl (K.delI rfl (List.getElem?_set_self (lt_of_get ho)) hn.up rfl Try.underlying106 Try.underlying3) ?_
        refine KT.nil ?_
        refine thenK_n ?_
        refine KC.seq ?_
        refine KC.region ?_
        refine KT.step rfl rfl (K.assign rfl) ?_
        refine KT.nil ?_
        refine thenK_n ?_
        refine KC.ret ?_
        have e : takeM m k h = (true, putT m k (mlk m k - h)) := by unfold takeM; rw [if_neg hc8, if_neg hc13]
        rw [e]
        refine ⟨.inl rfl, rfl, ?_⟩
        unfold putT
        rw [if_pos hc22, List.set_set]
      · skip
        replace hc22 := of_decide_eq_false hc22
        refine KC.skip ?_
        refine thenK_n ?_
        refine KC.seq ?_
        refine KC.region ?_
        refine KT.step rfl rfl (K.assign rfl) ?_
        refine KT.nil ?_
        refine thenK_n ?_
        refine KC.ret ?_
        have e : takeM m k h = (true, putT m k (mlk m k - h)) := by unfold takeM; rw [if_neg hc8, if_neg hc13]
        rw [e]
        refine ⟨.inl rfl, rfl, ?_⟩
        unfold putT
        rw [if_neg hc22]
theorem build108_x (a b : DV) (i j : Nat) : opBuild Try.prog 108 [(0, .d (.agg [a, b])), (1, .omp i), (2, .omp j)] = some (.agg [.d a, .d b, .omp i, .omp j]) := by kernel_rfl
set_option maxRecDepth 10000 in
theorem exchange70 {σ : List VObj} {ds es : List DV} {n m : Nat} {cn cm : Option Nat} : OwnCall Try.prog 70 σ [.d (.agg [(.sl ds n cn), (.sl es m cm)])] (σ ++ [⟨[.d (.sl ds n cn), .d (.sl es m cm)], 0⟩, ⟨[.d (.sl ds n cn), .d (.sl es m cm), .omp (σ.length + 2), .omp (σ.length + 3)], 0⟩, ⟨entI [], 3⟩, ⟨entI [], 3⟩]) (.agg [.d (.sl ds n cn), .d (.sl es m cm), .omp (σ.length + 2), .omp (σ.length + 3)]) := by
  refine ownCall_K Try.func70 rfl (Nat.le_of_ble_eq_true rfl) fun M W0 => ?_
  refine KC.seq ?_
  refine KC.region ?_
  refine KT.step rfl rfl (K.box rfl) ?_
  rw [show cellsX (XV.d (DV.agg [(.sl ds n cn), (.sl es m cm)])) = [XV.d (.sl ds n cn), XV.d (.sl es m cm)] from rfl]
  refine KT.step rfl rfl (K.alloc Try.zero108) ?_
  rw [List.length_append]
  refine KT.nil ?_
  refine thenK_n ?_
  refine KC.seq ?_
  refine KC.region ?_
  refine KT.step rfl rfl (K.loadOA [(.sl ds n cn), (.sl es m cm)] rfl (get_left (List.getElem?_concat_length ..)) (by decide) Try.agg75 Try.size75 rfl) ?_
  refine KT.step rfl rfl (K.makeMap) ?_
  rw [List.length_append, List.length_append]
  refine KT.step rfl rfl (K.makeMap) ?_
  rw [List.length_append, List.length_append, List.length_append]
  refine KT.step rfl rfl (K.buildS rfl (build108_x _ _ _ _)) ?_
  refine KT.putAll (id := σ.length + 1) (cells := [.d Dnil, .d Dnil, .d (.lit (.map none)), .d (.lit (.map none))]) rfl rfl rfl rfl (by simp [Value.cells]) rfl rfl rfl Try.size108 ?_
  refine KT.nil ?_
  refine thenK_n ?_
  refine KC.ret ?_
  refine ⟨.inl rfl, ?_, by simp [entI, cellsX]⟩
  exact resK_cc (md := 0) [.d (.sl ds n cn), .d (.sl es m cm), .omp (σ.length + 2), .omp (σ.length + 3)] rfl rfl (by simp [cellsX]) (by decide) Try.agg108 Try.size108 rfl
theorem gA {σ τ : List VObj} {i : Nat} {o : VObj} (h : τ[i]? = some o) : (σ ++ τ)[σ.length + i]? = some o := by
  rw [List.getElem?_append_right (by omega), Nat.add_sub_cancel_left]; exact h
set_option maxRecDepth 10000 in
theorem pass72 {σ : List VObj} {ds es : List DV} {n m : Nat} {cn cm : Option Nat} {gi wi : Nat} {g w : Acc} {x : Ld} (hgi : σ[gi]? = some ⟨entI g, 3⟩) (hwi : σ[wi]? = some ⟨entI w, 3⟩) (hne : gi ≠ wi) (hg : NdI g) (hw : NdI w) (bg : ∀ k, mlk g k ≤ 1000000000) (bw : ∀ k, mlk w k ≤ 1000000000) :
    OwnCall Try.prog 72 σ [.agg [.d (.sl ds n cn), .d (.sl es m cm), .omp gi, .omp wi], .d (.agg (c4 x))] (((σ ++ ([⟨[.d (.sl ds n cn), .d (.sl es m cm), .omp gi, .omp wi], 0⟩, ⟨(c4 x).map .d, 0⟩] : List VObj)).set gi ⟨entI (passM g w x).2.1, 3⟩).set wi ⟨entI (passM g w x).2.2, 3⟩) (.d (DB (passM g w x).1)) := by
  have lg := lt_of_get hgi
  have lw := lt_of_get hwi
  refine ownCall_K Try.func72 rfl (Nat.le_of_ble_eq_true rfl) fun M W0 => ?_
  refine KC.seq ?_
  refine KC.region ?_
  refine KT.step rfl rfl (K.box rfl) ?_
  refine KT.step rfl rfl (K.box rfl) ?_
  rw [List.append_assoc]
  have hA : (σ ++ ([⟨[.d (.sl ds n cn), .d (.sl es m cm), .omp gi, .omp wi], 0⟩, ⟨(c4 x).map .d, 0⟩] : List VObj))[σ.length]? = some ⟨[.d (.sl ds n cn), .d (.sl es m cm), .omp gi, .omp wi], 0⟩ := gA (i := 0) rfl
  have hB : (σ ++ ([⟨[.d (.sl ds n cn), .d (.sl es m cm), .omp gi, .omp wi], 0⟩, ⟨(c4 x).map .d, 0⟩] : List VObj))[σ.length + 1]? = some ⟨(c4 x).map .d, 0⟩ := gA (i := 1) rfl
  have hG : (σ ++ ([⟨[.d (.sl ds n cn), .d (.sl es m cm), .omp gi, .omp wi], 0⟩, ⟨(c4 x).map .d, 0⟩] : List VObj))[gi]? = some ⟨entI g, 3⟩ := get_left hgi
  have hW : (σ ++ ([⟨[.d (.sl ds n cn), .d (.sl es m cm), .omp gi, .omp wi], 0⟩, ⟨(c4 x).map .d, 0⟩] : List VObj))[wi]? = some ⟨entI w, 3⟩ := get_left hwi
  rw [List.length_append]
  change KT _ _ _ _ (σ ++ [⟨[.d (.sl ds n cn), .d (.sl es m cm), .omp gi, .omp wi], 0⟩, ⟨(c4 x).map .d, 0⟩]) _ _
  have hL : (σ ++ ([⟨[.d (.sl ds n cn), .d (.sl es m cm), .omp gi, .omp wi], 0⟩, ⟨(c4 x).map .d, 0⟩] : List VObj)).length = σ.length + 2 := by simp
  generalize σ ++ ([⟨[.d (.sl ds n cn), .d (.sl es m cm), .omp gi, .omp wi], 0⟩, ⟨(c4 x).map .d, 0⟩] : List VObj) = ρ at *
  refine KT.step rfl rfl (K.assign rfl) ?_
  refine KT.nil ?_
  refine thenK_n ?_
  refine KC.seq ?_
  refine KC.seq ?_
  refine KC.region ?_
  refine KT.step rfl rfl (K.fieldAddrO rfl Try.fld65_3 Try.size3) ?_
  refine KT.step rfl rfl (K.loadO (y := .d (DI x.q)) rfl hB (by simp) rfl Try.agg3) ?_
  refine KT.step rfl rfl (K.leq rfl rfl) ?_
  refine KT.step rfl rfl (K.move rfl) ?_
  refine KT.bcase (fun hb8 => ?_) (fun hb8 => ?_)
  · skip
    replace hb8 := of_decide_eq_true hb8
    refine KT.skip rfl rfl ?_
    refine KT.skip rfl rfl ?_
    refine KT.skip rfl rfl ?_
    refine KT.skip rfl rfl ?_
    refine KT.skip rfl rfl ?_
    refine KT.skip rfl rfl ?_
    refine KT.skip rfl rfl ?_
    refine KT.skip rfl rfl ?_
    refine KT.step rfl rfl (K.pick rfl (fun _ => rfl) (fun h => by cases h)) ?_
    refine KT.nil ?_
    refine thenK_n ?_
    refine KC.cond rfl (fun hc17 => ?_) (fun hc17 => ?_)
    · skip
      refine KC.seq ?_
      refine KC.region ?_
      refine KT.step rfl rfl (K.assign rfl) ?_
      refine KT.nil ?_
      refine thenK_n ?_
      refine KC.ret ?_
      refine thenK_r ?_
      have e : passM g w x = (false, g, w) := by unfold passM; rw [if_pos (.inl hb8)]
      rw [e]
      refine ⟨.inl rfl, rfl, ?_⟩
      rw [set_same hG, set_same hW]
    · cases hc17
  · skip
    replace hb8 := of_decide_eq_false hb8
    refine KT.step rfl rfl (K.fieldAddrO rfl Try.fld65_0 Try.size3) ?_
    refine KT.step rfl rfl (K.loadO (y := .d (DI x.h)) rfl hB (by simp) rfl Try.agg3) ?_
    refine KT.step rfl rfl (K.eql rfl rfl) ?_
    refine KT.step rfl rfl (K.move rfl) ?_
    refine KT.bcase (fun hb12 => ?_) (fun hb12 => ?_)
    · skip
      replace hb12 := of_decide_eq_true hb12
      refine KT.step rfl rfl (K.fieldAddrO rfl Try.fld65_1 Try.size3) ?_
      refine KT.step rfl rfl (K.loadO (y := .d (DI x.c)) rfl hB (by simp) rfl Try.agg3) ?_
      refine KT.step rfl rfl (K.eql rfl rfl) ?_
      refine KT.step rfl rfl (K.pick rfl (fun _ => rfl) (fun h => by cases h)) ?_
      refine KT.step rfl rfl (K.pick rfl (fun h => by cases h) (fun _ => rfl)) ?_
      refine KT.nil ?_
      refine thenK_n ?_
      refine KC.cond rfl (fun hc17 => ?_) (fun hc17 => ?_)
      · skip
        replace hc17 := of_decide_eq_true hc17
        refine KC.seq ?_
        refine KC.region ?_
        refine KT.step rfl rfl (K.assign rfl) ?_
        refine KT.nil ?_
        refine thenK_n ?_
        refine KC.ret ?_
        refine thenK_r ?_
        have e : passM g w x = (false, g, w) := by unfold passM; rw [if_pos (.inr ⟨hb12, hc17⟩)]
        rw [e]
        refine ⟨.inl rfl, rfl, ?_⟩
        rw [set_same hG, set_same hW]
      · skip
        replace hc17 := of_decide_eq_false hc17
        refine KC.skip ?_
        refine thenK_n ?_
        refine KC.seq ?_
        refine KC.region ?_
        refine KT.step rfl rfl (K.fieldAddrO rfl Try.fld108_1 Try.size106) ?_
        refine KT.step rfl rfl (K.loadO rfl hA (by simp) rfl Try.agg106) ?_
        refine KT.step rfl rfl (K.fieldAddrO rfl Try.fld65_0 Try.size3) ?_
        refine KT.step rfl rfl (K.loadO (y := .d (DI x.h)) rfl hB (by simp) rfl Try.agg3) ?_
        refine KT.step rfl rfl (K.fieldAddrO rfl Try.fld65_3 Try.size3) ?_
        refine KT.step rfl rfl (K.loadO (y := .d (DI x.q)) rfl hB (by simp) rfl Try.agg3) ?_
        refine KT.step rfl rfl (K.callO (xs := [.omp gi, .d (DI x.h), .d (DI x.q)]) rfl plainTry_80 (take80 hG hg (bg _) (by omega))) ?_
        have hA2 := (List.getElem?_set_ne (l := ρ) (a := ⟨entI (takeM g x.h x.q).2, 3⟩) (show gi ≠ σ.length by omega)).trans hA
        have hB2 := (List.getElem?_set_ne (l := ρ) (a := ⟨entI (takeM g x.h x.q).2, 3⟩) (show gi ≠ σ.length + 1 by omega)).trans hB
        have hW2 := (List.getElem?_set_ne (l := ρ) (a := ⟨entI (takeM g x.h x.q).2, 3⟩) hne).trans hW
        refine KT.step rfl rfl (K.move rfl) ?_
        refine KT.bcase (fun hb25 => ?_) (fun hb25 => ?_)
        · skip
          refine KT.step rfl rfl (K.fieldAddrO rfl Try.fld108_2 Try.size106) ?_
          refine KT.step rfl rfl (K.loadO rfl hA2 (by simp) rfl Try.agg106) ?_
          refine KT.step rfl rfl (K.fieldAddrO rfl Try.fld65_1 Try.size3) ?_
          refine KT.step rfl rfl (K.loadO (y := .d (DI x.c)) rfl hB2 (by simp) rfl Try.agg3) ?_
          refine KT.step rfl rfl (K.fieldAddrO rfl Try.fld65_3 Try.size3) ?_
          refine KT.step rfl rfl (K.loadO (y := .d (DI x.q)) rfl hB2 (by simp) rfl Try.agg3) ?_
          refine KT.step rfl rfl (K.callO (xs := [.omp wi, .d (DI x.c), .d (DI x.q)]) rfl plainTry_80 (take80 hW2 hw (bw _) (by omega))) ?_
          refine KT.step rfl rfl (K.pick rfl (fun _ => rfl) (fun h => by cases h)) ?_
          refine KT.step rfl rfl (K.assign rfl) ?_
          refine KT.nil ?_
          refine thenK_n ?_
          refine KC.ret ?_
          have hno : ¬ (x.q ≤ 0 ∨ (x.h = -1 ∧ x.c = -1)) := fun h => h.elim hb8 (fun h => hc17 h.2)
          have e : passM g w x = ((takeM w x.c x.q).1, (takeM g x.h x.q).2, (takeM w x.c x.q).2) := by unfold passM; rw [if_neg hno, if_neg (by rw [hb25]; decide)]
          rw [e]
          exact ⟨.inl rfl, rfl, rfl⟩
        · skip
          refine KT.skip rfl rfl ?_
          refine KT.skip rfl rfl ?_
          refine KT.skip rfl rfl ?_
          refine KT.skip rfl rfl ?_
          refine KT.skip rfl rfl ?_
          refine KT.skip rfl rfl ?_
          refine KT.skip rfl rfl ?_
          refine KT.step rfl rfl (K.pick rfl (fun h => by cases h) (fun _ => rfl)) ?_
          refine KT.step rfl rfl (K.assign rfl) ?_
          refine KT.nil ?_
          refine thenK_n ?_
          refine KC.ret ?_
          have hno : ¬ (x.q ≤ 0 ∨ (x.h = -1 ∧ x.c = -1)) := fun h => h.elim hb8 (fun h => hc17 h.2)
          have e : passM g w x = (false, g, w) := by unfold passM; rw [if_neg hno, if_pos hb25]
          have e2 : (takeM g x.h x.q).2 = g := takeM_no hb25
          rw [e, e2]
          refine ⟨.inl rfl, rfl, ?_⟩
          rw [set_same hG, set_same hW]
    · skip
      replace hb12 := of_decide_eq_false hb12
      refine KT.skip rfl rfl ?_
      refine KT.skip rfl rfl ?_
      refine KT.skip rfl rfl ?_
      refine KT.step rfl rfl (K.pick rfl (fun h => by cases h) (fun _ => rfl)) ?_
      refine KT.step rfl rfl (K.pick rfl (fun h => by cases h) (fun _ => rfl)) ?_
      refine KT.nil ?_
      refine thenK_n ?_
      refine KC.cond rfl (fun hc17 => ?_) (fun hc17 => ?_)
      · cases hc17
      · skip
        refine KC.skip ?_
        refine thenK_n ?_
        refine KC.seq ?_
        refine KC.region ?_
        refine KT.step rfl rfl (K.fieldAddrO rfl Try.fld108_1 Try.size106) ?_
        refine KT.step rfl rfl (K.loadO rfl hA (by simp) rfl Try.agg106) ?_
        refine KT.step rfl rfl (K.fieldAddrO rfl Try.fld65_0 Try.size3) ?_
        refine KT.step rfl rfl (K.loadO (y := .d (DI x.h)) rfl hB (by simp) rfl Try.agg3) ?_
        refine KT.step rfl rfl (K.fieldAddrO rfl Try.fld65_3 Try.size3) ?_
        refine KT.step rfl rfl (K.loadO (y := .d (DI x.q)) rfl hB (by simp) rfl Try.agg3) ?_
        refine KT.step rfl rfl (K.callO (xs := [.omp gi, .d (DI x.h), .d (DI x.q)]) rfl plainTry_80 (take80 hG hg (bg _) (by omega))) ?_
        have hA2 := (List.getElem?_set_ne (l := ρ) (a := ⟨entI (takeM g x.h x.q).2, 3⟩) (show gi ≠ σ.length by omega)).trans hA
        have hB2 := (List.getElem?_set_ne (l := ρ) (a := ⟨entI (takeM g x.h x.q).2, 3⟩) (show gi ≠ σ.length + 1 by omega)).trans hB
        have hW2 := (List.getElem?_set_ne (l := ρ) (a := ⟨entI (takeM g x.h x.q).2, 3⟩) hne).trans hW
        refine KT.step rfl rfl (K.move rfl) ?_
        refine KT.bcase (fun hb25 => ?_) (fun hb25 => ?_)
        · skip
          refine KT.step rfl rfl (K.fieldAddrO rfl Try.fld108_2 Try.size106) ?_
          refine KT.step rfl rfl (K.loadO rfl hA2 (by simp) rfl Try.agg106) ?_
          refine KT.step rfl rfl (K.fieldAddrO rfl Try.fld65_1 Try.size3) ?_
          refine KT.step rfl rfl (K.loadO (y := .d (DI x.c)) rfl hB2 (by simp) rfl Try.agg3) ?_
          refine KT.step rfl rfl (K.fieldAddrO rfl Try.fld65_3 Try.size3) ?_
          refine KT.step rfl rfl (K.loadO (y := .d (DI x.q)) rfl hB2 (by simp) rfl Try.agg3) ?_
          refine KT.step rfl rfl (K.callO (xs := [.omp wi, .d (DI x.c), .d (DI x.q)]) rfl plainTry_80 (take80 hW2 hw (bw _) (by omega))) ?_
          refine KT.step rfl rfl (K.pick rfl (fun _ => rfl) (fun h => by cases h)) ?_
          refine KT.step rfl rfl (K.assign rfl) ?_
          refine KT.nil ?_
          refine thenK_n ?_
          refine KC.ret ?_
          have hno : ¬ (x.q ≤ 0 ∨ (x.h = -1 ∧ x.c = -1)) := fun h => h.elim hb8 (fun h => hb12 h.1)
          have e : passM g w x = ((takeM w x.c x.q).1, (takeM g x.h x.q).2, (takeM w x.c x.q).2) := by unfold passM; rw [if_neg hno, if_neg (by rw [hb25]; decide)]
          rw [e]
          exact ⟨.inl rfl, rfl, rfl⟩
        · skip
          refine KT.skip rfl rfl ?_
          refine KT.skip rfl rfl ?_
          refine KT.skip rfl rfl ?_
          refine KT.skip rfl rfl ?_
          refine KT.skip rfl rfl ?_
          refine KT.skip rfl rfl ?_
          refine KT.skip rfl rfl ?_
          refine KT.step rfl rfl (K.pick rfl (fun h => by cases h) (fun _ => rfl)) ?_
          refine KT.step rfl rfl (K.assign rfl) ?_
          refine KT.nil ?_
          refine thenK_n ?_
          refine KC.ret ?_
          have hno : ¬ (x.q ≤ 0 ∨ (x.h = -1 ∧ x.c = -1)) := fun h => h.elim hb8 (fun h => hb12 h.1)
          have e : passM g w x = (false, g, w) := by unfold passM; rw [if_neg hno, if_pos hb25]
          have e2 : (takeM g x.h x.q).2 = g := takeM_no hb25
          rw [e, e2]
          refine ⟨.inl rfl, rfl, ?_⟩
          rw [set_same hG, set_same hW]
set_option maxRecDepth 10000 in
theorem descend73 {σ : List VObj} {l : List Sm} {gap u d : Int} {cs cl : Option Nat} {gi wi : Nat} {g w : Acc} (hok : okH l gap = true) (hgi : σ[gi]? = some ⟨entI g, 3⟩) (hwi : σ[wi]? = some ⟨entI w, 3⟩) (hne : gi ≠ wi) (hg : Gd g) (hw : Gd w) (bg : ∀ k, mlk g k ≤ 100000000) (bw : ∀ k, mlk w k ≤ 100000000) (hu : -2000 ≤ u ∧ u ≤ 2000) (hd : -2000 ≤ d ∧ d ≤ 2000) :
    OwnCall Try.prog 73 σ [.agg [.d (.sl (l.flatMap (c5 gap)) l.length cs), .d (.sl (ints (lvls gap l)) (lvls gap l).length cl), .omp gi, .omp wi], .d (DI u), .d (DI d)] (sw (σ ++ ⟨[.d (.sl (l.flatMap (c5 gap)) l.length cs), .d (.sl (ints (lvls gap l)) (lvls gap l).length cl), .omp gi, .omp wi], 0⟩ :: dsJ gap l l.length) gi wi (dsM gap u d l l.length (g, w)).1 (dsM gap u d l l.length (g, w)).2) (.tup []) := by
  have lg := lt_of_get hgi
  have lw := lt_of_get hwi
  obtain ⟨n1, n8, g0, g20, hall⟩ := okH_iff.1 hok
  refine ownCall_K Try.func73 rfl (Nat.le_of_ble_eq_true rfl) fun M W0 => ?_
  refine KC.seq ?_
  refine KC.region ?_
  refine KT.step rfl rfl (K.box rfl) ?_
  rw [show cellsX (.agg [.d (.sl (l.flatMap (c5 gap)) l.length cs), .d (.sl (ints (lvls gap l)) (lvls gap l).length cl), .omp gi, .omp wi]) = [.d (.sl (l.flatMap (c5 gap)) l.length cs), .d (.sl (ints (lvls gap l)) (lvls gap l).length cl), .omp gi, .omp wi] from rfl]
  refine KT.nil ?_
  refine thenK_n ?_
  refine KC.seq ?_
  refine KC.region ?_
  refine KT.step rfl rfl (K.fieldAddrO rfl Try.fld108_0 Try.size75) ?_
  refine KT.step rfl rfl (K.fieldAddrO rfl Try.fld75_0 Try.size73) ?_
  refine KT.step rfl rfl (K.loadO (y := .d (.sl (l.flatMap (c5 gap)) l.length cs)) rfl (List.getElem?_concat_length ..) (by simp) rfl Try.agg73) ?_
  refine KT.step rfl rfl (K.lenF (f := c5 gap) (k := 5) rfl .sl Try.underlying73) ?_
  refine KT.step rfl rfl (K.move rfl) ?_
  refine KT.nil ?_
  refine thenK_n ?_
  refine KC.block ?_
  have hst : σ ++ [(⟨[.d (.sl (l.flatMap (c5 gap)) l.length cs), .d (.sl (ints (lvls gap l)) (lvls gap l).length cl), .omp gi, .omp wi], 0⟩ : VObj)] = sw (σ ++ ⟨[.d (.sl (l.flatMap (c5 gap)) l.length cs), .d (.sl (ints (lvls gap l)) (lvls gap l).length cl), .omp gi, .omp wi], 0⟩ :: dsJ gap l 0) gi wi (dsM gap u d l 0 (g, w)).1 (dsM gap u d l 0 (g, w)).2 := (sw_same (get_left hgi) (get_left hwi)).symm
  rw [hst]
  refine KC.loop (fun i : Nat => sw (σ ++ ⟨[.d (.sl (l.flatMap (c5 gap)) l.length cs), .d (.sl (ints (lvls gap l)) (lvls gap l).length cl), .omp gi, .omp wi], 0⟩ :: dsJ gap l i) gi wi (dsM gap u d l i (g, w)).1 (dsM gap u d l i (g, w)).2) (fun i => [(1, .d (DI u)), (2, .d (DI d)), (3, .optr σ.length 0), (11, .d (.sl (l.flatMap (c5 gap)) l.length cs)), (12, .d (DI (l.length : Nat))), (13, .d (DI (i : Nat)))]) (fun i => i ≤ l.length) (fun i => l.length - i) 0 (Nat.zero_le _) rfl (by simp [Go.Vm.look, extK, enterK]) ?_
  intro i hi
  have lgA : gi < (σ ++ (⟨[.d (.sl (l.flatMap (c5 gap)) l.length cs), .d (.sl (ints (lvls gap l)) (lvls gap l).length cl), .omp gi, .omp wi], 0⟩ : VObj) :: dsJ gap l i).length := by rw [List.length_append]; omega
  have lwA : wi < (σ ++ (⟨[.d (.sl (l.flatMap (c5 gap)) l.length cs), .d (.sl (ints (lvls gap l)) (lvls gap l).length cl), .omp gi, .omp wi], 0⟩ : VObj) :: dsJ gap l i).length := by rw [List.length_append]; omega
  have yE0 : (sw (σ ++ ⟨[.d (.sl (l.flatMap (c5 gap)) l.length cs), .d (.sl (ints (lvls gap l)) (lvls gap l).length cl), .omp gi, .omp wi], 0⟩ :: dsJ gap l i) gi wi (dsM gap u d l i (g, w)).1 (dsM gap u d l i (g, w)).2)[σ.length]? = some ⟨[.d (.sl (l.flatMap (c5 gap)) l.length cs), .d (.sl (ints (lvls gap l)) (lvls gap l).length cl), .omp gi, .omp wi], 0⟩ := by rw [sw_o (by omega) (by omega)]; exact gA (i := 0) rfl
  have yG0 : (sw (σ ++ ⟨[.d (.sl (l.flatMap (c5 gap)) l.length cs), .d (.sl (ints (lvls gap l)) (lvls gap l).length cl), .omp gi, .omp wi], 0⟩ :: dsJ gap l i) gi wi (dsM gap u d l i (g, w)).1 (dsM gap u d l i (g, w)).2)[gi]? = some ⟨entI (dsM gap u d l i (g, w)).1, 3⟩ := sw_g lgA hne
  have yW0 : (sw (σ ++ ⟨[.d (.sl (l.flatMap (c5 gap)) l.length cs), .d (.sl (ints (lvls gap l)) (lvls gap l).length cl), .omp gi, .omp wi], 0⟩ :: dsJ gap l i) gi wi (dsM gap u d l i (g, w)).1 (dsM gap u d l i (g, w)).2)[wi]? = some ⟨entI (dsM gap u d l i (g, w)).2, 3⟩ := sw_w lwA
  refine KC.seq ?_
  refine KC.region ?_
  refine KT.step rfl rfl (K.lss rfl rfl) ?_
  refine KT.nil ?_
  refine thenK_n ?_
  refine KC.seq ?_
  refine KC.cond rfl (fun hc14 => ?_) (fun hc14 => ?_)
  · skip
    replace hc14 := of_decide_eq_true hc14
    have hil : i < l.length := by omega
    have gdi := Gd.ds (gap := gap) (u := u) (d := d) (m := (g, w)) hall hg hw i hi
    have bdi := ds_le (gap := gap) (u := u) (d := d) (m := (g, w)) hall bg bw i hi i
    have ndi1 := gdi.1.nn i
    have ndi2 := gdi.2.nn i
    have hhb := ht_bd (gap := gap) (hall _ (List.getElem_mem hil)) u d
    refine KC.skip ?_
    refine thenK_n ?_
    refine KC.seq ?_
    refine KC.block ?_
    refine KC.seq ?_
    refine KC.region ?_
    refine KT.step rfl rfl (K.move rfl) ?_
    refine KT.step rfl rfl (K.idxF (c5_len gap) (m := i) rfl .sl rfl (by omega) Try.underlying73 Try.size98) ?_
    refine KT.step rfl rfl (K.loadFl (cs := c5 gap l[i]) rfl rfl Try.agg98 Try.size98) ?_
    refine KT.step rfl rfl (K.alloc Try.zero98) ?_
    refine KT.step rfl rfl (K.assign rfl) ?_
    refine KT.storeL (cs := (c5 gap l[i]).map .d) rfl rfl rfl rfl rfl rfl rfl Try.size98 ?_
    have yL : ((sw (σ ++ ⟨[.d (.sl (l.flatMap (c5 gap)) l.length cs), .d (.sl (ints (lvls gap l)) (lvls gap l).length cl), .omp gi, .omp wi], 0⟩ :: dsJ gap l i) gi wi (dsM gap u d l i (g, w)).1 (dsM gap u d l i (g, w)).2) ++ [(⟨(c5 gap l[i]).map .d, 0⟩ : VObj)])[(sw (σ ++ ⟨[.d (.sl (l.flatMap (c5 gap)) l.length cs), .d (.sl (ints (lvls gap l)) (lvls gap l).length cl), .omp gi, .omp wi], 0⟩ :: dsJ gap l i) gi wi (dsM gap u d l i (g, w)).1 (dsM gap u d l i (g, w)).2).length]? = some ⟨(c5 gap l[i]).map .d, 0⟩ := (List.getElem?_concat_length ..)
    have yE := get_left (B := [(⟨(c5 gap l[i]).map .d, 0⟩ : VObj)]) yE0
    have yG := get_left (B := [(⟨(c5 gap l[i]).map .d, 0⟩ : VObj)]) yG0
    have yW := get_left (B := [(⟨(c5 gap l[i]).map .d, 0⟩ : VObj)]) yW0
    refine KT.nil ?_
    refine thenK_n ?_
    refine KC.seq ?_
    refine KC.region ?_
    refine KT.step rfl rfl (K.loadOA (c5 gap l[i]) rfl yL (by decide) Try.agg98 Try.size98 rfl) ?_
    refine KT.step rfl rfl (K.move rfl) ?_
    refine KT.step rfl rfl (K.move rfl) ?_
    refine KT.step rfl rfl (K.call3 rfl rfl rfl plainTry_69 (heat69 (hall _ (List.getElem_mem _)) g0 g20 hu hd)) ?_
    refine KT.step rfl rfl (K.assign rfl) ?_
    refine KT.nil ?_
    refine thenK_n ?_
    refine KC.block ?_
    refine KC.seq ?_
    refine KC.region ?_
    refine KT.step rfl rfl (K.move rfl) ?_
    refine KT.step rfl rfl (K.eql rfl rfl) ?_
    refine KT.step rfl rfl (K.assign rfl) ?_
    refine KT.nil ?_
    refine thenK_n ?_
    refine KC.cond rfl (fun hc28 => ?_) (fun hc28 => ?_)
    · skip
      replace hc28 := of_decide_eq_true hc28
      refine KC.skip ?_
      refine blockK_n ?_
      refine blockK_n ?_
      refine thenK_n ?_
      refine KC.region ?_
      refine KT.step rfl rfl (K.add rfl rfl (wrap_id (by omega))) ?_
      refine KT.step rfl rfl (K.move rfl) ?_
      refine KT.nil ?_
      refine thenK_n ?_
      have e : ((sw (σ ++ ⟨[.d (.sl (l.flatMap (c5 gap)) l.length cs), .d (.sl (ints (lvls gap l)) (lvls gap l).length cl), .omp gi, .omp wi], 0⟩ :: dsJ gap l i) gi wi (dsM gap u d l i (g, w)).1 (dsM gap u d l i (g, w)).2) ++ [(⟨(c5 gap l[i]).map .d, 0⟩ : VObj)]) = sw (σ ++ ⟨[.d (.sl (l.flatMap (c5 gap)) l.length cs), .d (.sl (ints (lvls gap l)) (lvls gap l).length cl), .omp gi, .omp wi], 0⟩ :: dsJ gap l (i + 1)) gi wi (dsM gap u d l (i + 1) (g, w)).1 (dsM gap u d l (i + 1) (g, w)).2 := by
        rw [dsJ_succ hil, sw_push lgA lwA, dsM_zero hil hc28, List.append_assoc]; rfl
      exact ⟨i + 1, by omega, by omega, e, by simp [Go.Vm.look, extK]⟩
    · skip
      replace hc28 := of_decide_eq_false hc28
      refine KC.seq ?_
      refine KC.region ?_
      refine KT.step rfl rfl (K.fieldAddrO rfl Try.fld98_0 Try.size78) ?_
      refine KT.step rfl rfl (K.loadOP (c5 gap l[i]) rfl yL (by decide) Try.agg78 Try.size78 (Nat.le_of_ble_eq_true rfl)) ?_
      refine KT.step rfl rfl (K.call1 rfl plainTry_68 (hot68 l[i])) ?_
      refine KT.step rfl rfl (K.assign rfl) ?_
      refine KT.nil ?_
      refine thenK_n ?_
      refine KC.cond rfl (fun hc31 => ?_) (fun hc31 => ?_)
      · skip
        refine KC.region ?_
        refine KT.step rfl rfl (K.fieldAddrO rfl Try.fld108_1 Try.size106) ?_
        refine KT.step rfl rfl (K.loadO (y := .omp gi) rfl yE (by simp) rfl Try.agg106) ?_
        refine KT.step rfl rfl (K.move rfl) ?_
        refine KT.step rfl rfl (K.lookI rfl yG gdi.1.1 rfl Try.underlying106 Try.underlying3 zeroI) ?_
        refine KT.step rfl rfl (K.move rfl) ?_
        refine KT.step rfl rfl (K.add rfl rfl (wrap_id (by omega))) ?_
        refine KT.step rfl rfl (K.updI rfl yG gdi.1.1 rfl rfl Try.underlying106 Try.underlying3) ?_
        refine KT.nil ?_
        refine blockK_n ?_
        refine blockK_n ?_
        refine thenK_n ?_
        refine KC.region ?_
        refine KT.step rfl rfl (K.add rfl rfl (wrap_id (by omega))) ?_
        refine KT.step rfl rfl (K.move rfl) ?_
        refine KT.nil ?_
        refine thenK_n ?_
        have e : ((sw (σ ++ ⟨[.d (.sl (l.flatMap (c5 gap)) l.length cs), .d (.sl (ints (lvls gap l)) (lvls gap l).length cl), .omp gi, .omp wi], 0⟩ :: dsJ gap l i) gi wi (dsM gap u d l i (g, w)).1 (dsM gap u d l i (g, w)).2) ++ [(⟨(c5 gap l[i]).map .d, 0⟩ : VObj)]).set gi ⟨entI (mup (dsM gap u d l i (g, w)).1 i (mlk (dsM gap u d l i (g, w)).1 i + ht gap l[i] u d)), 3⟩ = sw (σ ++ ⟨[.d (.sl (l.flatMap (c5 gap)) l.length cs), .d (.sl (ints (lvls gap l)) (lvls gap l).length cl), .omp gi, .omp wi], 0⟩ :: dsJ gap l (i + 1)) gi wi (dsM gap u d l (i + 1) (g, w)).1 (dsM gap u d l (i + 1) (g, w)).2 := by
          rw [dsJ_succ hil, sw_push lgA lwA, sw_sg hne, dsM_hot hil hc28 hc31, List.append_assoc]; rfl
        exact ⟨i + 1, by omega, by omega, e, by simp [Go.Vm.look, extK]⟩
      · skip
        refine KC.region ?_
        refine KT.step rfl rfl (K.fieldAddrO rfl Try.fld108_2 Try.size106) ?_
        refine KT.step rfl rfl (K.loadO (y := .omp wi) rfl yE (by simp) rfl Try.agg106) ?_
        refine KT.step rfl rfl (K.move rfl) ?_
        refine KT.step rfl rfl (K.lookI rfl yW gdi.2.1 rfl Try.underlying106 Try.underlying3 zeroI) ?_
        refine KT.step rfl rfl (K.move rfl) ?_
        refine KT.step rfl rfl (K.add rfl rfl (wrap_id (by omega))) ?_
        refine KT.step rfl rfl (K.updI rfl yW gdi.2.1 rfl rfl Try.underlying106 Try.underlying3) ?_
        refine KT.nil ?_
        refine blockK_n ?_
        refine blockK_n ?_
        refine thenK_n ?_
        refine KC.region ?_
        refine KT.step rfl rfl (K.add rfl rfl (wrap_id (by omega))) ?_
        refine KT.step rfl rfl (K.move rfl) ?_
        refine KT.nil ?_
        refine thenK_n ?_
        have e : ((sw (σ ++ ⟨[.d (.sl (l.flatMap (c5 gap)) l.length cs), .d (.sl (ints (lvls gap l)) (lvls gap l).length cl), .omp gi, .omp wi], 0⟩ :: dsJ gap l i) gi wi (dsM gap u d l i (g, w)).1 (dsM gap u d l i (g, w)).2) ++ [(⟨(c5 gap l[i]).map .d, 0⟩ : VObj)]).set wi ⟨entI (mup (dsM gap u d l i (g, w)).2 i (mlk (dsM gap u d l i (g, w)).2 i + ht gap l[i] u d)), 3⟩ = sw (σ ++ ⟨[.d (.sl (l.flatMap (c5 gap)) l.length cs), .d (.sl (ints (lvls gap l)) (lvls gap l).length cl), .omp gi, .omp wi], 0⟩ :: dsJ gap l (i + 1)) gi wi (dsM gap u d l (i + 1) (g, w)).1 (dsM gap u d l (i + 1) (g, w)).2 := by
          rw [dsJ_succ hil, sw_push lgA lwA, sw_sw, dsM_cold hil hc28 hc31, List.append_assoc]; rfl
        exact ⟨i + 1, by omega, by omega, e, by simp [Go.Vm.look, extK]⟩
  · skip
    replace hc14 := of_decide_eq_false hc14
    refine KC.exit ?_
    refine thenK_x ?_
    refine thenK_x ?_
    refine blockK_e ?_
    obtain rfl : i = l.length := by omega
    exact ⟨.inr rfl, rfl, rfl⟩
end Go.Proofs.Ytmfbakipfobaeaa

