import Derived.Test.YtcjcchceeidgkaaLgPa
import Derived.Test.YtcjcchceeidgkaaLgE
/-
  Logic: paths of the program.
-/
namespace Go.Proofs.Ytcjcchceeidgkaa
open Go.Vm Go.Lg
theorem Try.agg43 : isAggT Try.prog 43 = some true := by kernel_rfl
theorem Try.size43 : sizeT Try.prog 43 = some 2 := by kernel_rfl
theorem Try.zero43 : zeroT Try.prog 43 = some (.agg #[.slice none 0 0, .int .i64 0]) := by kernel_rfl
theorem Try.fld43_0 : fieldT Try.prog 43 0 = some { name := "States", type := 22, offset := 0, embedded := false, tag := "", pkgPath := "", byteOffset := 0 } := by kernel_rfl
theorem Try.fld43_1 : fieldT Try.prog 43 1 = some { name := "Loop", type := 3, offset := 1, embedded := false, tag := "", pkgPath := "", byteOffset := 24 } := by kernel_rfl
theorem Try.places43 : (match Try.prog.underlying 43 with | some (.struct fs) => placesT Try.prog fs | _ => none) = some #[(0, 1), (1, 1)] := by kernel_rfl
theorem Try.agg46 : isAggT Try.prog 46 = some true := by kernel_rfl
theorem Try.size46 : sizeT Try.prog 46 = some 2 := by kernel_rfl
theorem Try.zero46 : zeroT Try.prog 46 = some (.agg #[.slice none 0 0, .int .i64 0]) := by kernel_rfl
theorem Try.fld46_0 : fieldT Try.prog 46 0 = some { name := "States", type := 22, offset := 0, embedded := false, tag := "", pkgPath := "", byteOffset := 0 } := by kernel_rfl
theorem Try.fld46_1 : fieldT Try.prog 46 1 = some { name := "Loop", type := 3, offset := 1, embedded := false, tag := "", pkgPath := "", byteOffset := 24 } := by kernel_rfl
theorem Try.places46 : (match Try.prog.underlying 46 with | some (.struct fs) => placesT Try.prog fs | _ => none) = some #[(0, 1), (1, 1)] := by kernel_rfl
theorem Try.agg86 : isAggT Try.prog 86 = some false := by kernel_rfl
theorem Try.size86 : sizeT Try.prog 86 = some 1 := by kernel_rfl
theorem plainTry_75 : plainFn Try.prog 75 = true := by kernel_rfl
theorem plainTry_76 : plainFn Try.prog 76 = true := by kernel_rfl
theorem plainTry_71 : plainFn Try.prog 71 = true := by kernel_rfl
theorem plainTry_40 : plainFn Try.prog 40 = true := by kernel_rfl
theorem plainTry_38 : plainFn Try.prog 38 = true := by kernel_rfl
theorem plainTry_41 : plainFn Try.prog 41 = true := by kernel_rfl
theorem plainTry_44 : plainFn Try.prog 44 = true := by kernel_rfl
theorem plainTry_72 : plainFn Try.prog 72 = true := by kernel_rfl
theorem plainTry_73 : plainFn Try.prog 73 = true := by kernel_rfl
theorem plainTry_74 : plainFn Try.prog 74 = true := by kernel_rfl
theorem hasI {s : Nat} {x : Int} (hs : s < 2 ^ 63) (hx : 0 ≤ x ∧ x < 64) : DeepCall Try.prog 47 [DI (s : Nat), DI x] (DB (tb s x)) := by
  have := has47 (s := s) (x := x.toNat) hs (by omega)
  rwa [Int.toNat_of_nonneg hx.1] at this
set_option maxRecDepth 10000 in
theorem index76 {d : DV} {l : List Int} {Fn' : FuncId} {cs : List DV} {p : Int → Bool} (hd : Ints d l) (hl : l.length ≤ 9223372036854775807) (hp : plainFn Try.prog Fn' = true) (hc : ∀ i, i < l.length → DeepCall Try.prog Fn' ([DI (l.getD i 0)] ++ cs) (DB (p (l.getD i 0)))) :
    DeepCall Try.prog 76 [d, .fn (.func Fn') [] cs] (DI (ixI p l)) := by
  refine deepCall_K 5 Try.func76 rfl (Nat.le_of_ble_eq_true rfl) fun M W0 => ?_
  refine KC.seq ?_
  refine KC.region ?_
  refine KT.step rfl rfl (K.assign rfl) ?_
  refine KT.nil ?_
  refine thenK_n ?_
  refine KC.seq ?_
  refine KC.seq ?_
  refine KC.region ?_
  refine KT.step rfl rfl (K.move rfl) ?_
  refine KT.step rfl rfl (K.len rfl (by assumption) Try.underlying22) ?_
  refine KT.step rfl rfl (K.move rfl) ?_
  refine KT.nil ?_
  refine thenK_n ?_
  refine KC.block ?_
  refine KC.loop (fun _ : Nat => []) (fun i => [(0, .d d), (1, .d (.fn (.func Fn') [] cs)), (7, .d (DI (l.length : Nat))), (8, .d (DI (i : Nat)))]) (fun i => i ≤ l.length ∧ ∀ j, j < i → p (l.getD j 0) = false) (fun i => l.length - i) 0 ⟨Nat.zero_le _, fun j hj => absurd hj (Nat.not_lt_zero _)⟩ rfl (by simp [Go.Vm.look, extK, enterK]) ?_
  intro i hi
  obtain ⟨hi, hall⟩ := hi
  refine KC.seq ?_
  refine KC.region ?_
  refine KT.step rfl rfl (K.lss rfl rfl) ?_
  refine KT.nil ?_
  refine thenK_n ?_
  refine KC.seq ?_
  refine KC.cond rfl (fun hc9 => ?_) (fun hc9 => ?_)
  · skip
    replace hc9 := of_decide_eq_true hc9
    refine KC.skip ?_
    refine thenK_n ?_
    refine KC.seq ?_
    refine KC.block ?_
    refine KC.seq ?_
    refine KC.region ?_
    refine KT.step rfl rfl (K.move rfl) ?_
    refine KT.step rfl rfl (K.assign rfl) ?_
    refine KT.nil ?_
    refine thenK_n ?_
    refine KC.seq ?_
    refine KC.region ?_
    refine KT.step rfl rfl (K.move rfl) ?_
    refine KT.step rfl rfl (K.move rfl) ?_
    refine KT.step rfl rfl (K.move rfl) ?_
    refine KT.idxD (m := i) rfl rfl rfl hd rfl rfl (by omega) Try.underlying22 Try.size3 fun rest => ?_
    refine KT.step rfl rfl (K.load rfl Try.agg3) ?_
    refine KT.step rfl rfl (K.callC (ds := [DI (l.getD i 0)]) (cs := cs) rfl rfl rfl hp (hc i (by omega))) ?_
    refine KT.nil ?_
    refine thenK_n ?_
    refine KC.cond rfl (fun hc16 => ?_) (fun hc16 => ?_)
    · skip
      refine KC.seq ?_
      refine KC.region ?_
      refine KT.step rfl rfl (K.move rfl) ?_
      refine KT.step rfl rfl (K.assign rfl) ?_
      refine KT.nil ?_
      refine thenK_n ?_
      refine KC.ret ?_
      refine blockK_r ?_
      refine thenK_r ?_
      refine thenK_r ?_
      refine blockK_r ?_
      refine thenK_r ?_
      exact ⟨.inl rfl, _, rfl, fin_d (by rw [ixI_found (by omega) hc16 hall])⟩
    · skip
      refine KC.skip ?_
      refine blockK_n ?_
      refine thenK_n ?_
      refine KC.region ?_
      refine KT.step rfl rfl (K.add rfl rfl (wrap_id (by omega))) ?_
      refine KT.step rfl rfl (K.move rfl) ?_
      refine KT.nil ?_
      refine thenK_n ?_
      refine ⟨i + 1, ⟨by omega, fun j hj => ?_⟩, by omega, rfl, by simp [Go.Vm.look, extK]⟩
      by_cases e : j = i
      · subst e; exact hc16
      · exact hall j (by omega)
  · skip
    replace hc9 := of_decide_eq_false hc9
    refine KC.exit ?_
    refine thenK_x ?_
    refine thenK_x ?_
    refine blockK_e ?_
    refine thenK_n ?_
    refine KC.seq ?_
    refine KC.region ?_
    refine KT.step rfl rfl (K.assign rfl) ?_
    refine KT.nil ?_
    refine thenK_n ?_
    refine KC.ret ?_
    exact ⟨.inl rfl, _, rfl, fin_d (by rw [ixI_none fun j hj => hall j (by omega)])⟩
set_option maxRecDepth 10000 in
theorem contains75 {d : DV} {l : List Int} {Fn' : FuncId} {cs : List DV} {p : Int → Bool} (hd : Ints d l) (hl : l.length ≤ 9223372036854775807) (hp : plainFn Try.prog Fn' = true) (hc : ∀ i, i < l.length → DeepCall Try.prog Fn' ([DI (l.getD i 0)] ++ cs) (DB (p (l.getD i 0)))) :
    DeepCall Try.prog 75 [d, .fn (.func Fn') [] cs] (DB (l.any p)) := by
  refine deepCall_K 5 Try.func75 rfl (Nat.le_of_ble_eq_true rfl) fun M W0 => ?_
  refine KC.seq ?_
  refine KC.region ?_
  refine KT.step rfl rfl (K.assign rfl) ?_
  refine KT.nil ?_
  refine thenK_n ?_
  refine KC.seq ?_
  refine KC.region ?_
  refine KT.step rfl rfl (K.move rfl) ?_
  refine KT.step rfl rfl (K.move rfl) ?_
  refine KT.step rfl rfl (K.call2 rfl rfl plainTry_76 (index76 hd hl hp hc)) ?_
  refine KT.step rfl rfl (K.geq rfl rfl) ?_
  refine KT.step rfl rfl (K.assign rfl) ?_
  refine KT.nil ?_
  refine thenK_n ?_
  refine KC.ret ?_
  exact ⟨.inl rfl, _, rfl, fin_b ixI_any.symm⟩
set_option maxRecDepth 10000 in
theorem in72 {s : Nat} {x : Int} (hs : s < 2 ^ 63) (hx : 0 ≤ x ∧ x < 64) : DeepCall Try.prog 72 [DI x, .ptr [DI (s : Nat)]] (DB (tb s x)) := by
  refine deepCall_K 5 Try.func72 rfl (Nat.le_of_ble_eq_true rfl) fun M W0 => ?_
  refine KC.seq ?_
  refine KC.region ?_
  refine KT.step rfl rfl (K.assign rfl) ?_
  refine KT.nil ?_
  refine thenK_n ?_
  refine KC.seq ?_
  refine KC.region ?_
  refine KT.step rfl rfl (K.load rfl Try.agg3) ?_
  refine KT.step rfl rfl (K.move rfl) ?_
  refine KT.step rfl rfl (K.call2 rfl rfl plainTry_47 (hasI hs hx)) ?_
  refine KT.step rfl rfl (K.assign rfl) ?_
  refine KT.nil ?_
  refine thenK_n ?_
  refine KC.ret ?_
  exact ⟨.inl rfl, _, rfl, fin_b rfl⟩
set_option maxRecDepth 10000 in
theorem in73 {s : Nat} {x : Int} (hs : s < 2 ^ 63) (hx : 0 ≤ x ∧ x < 64) : DeepCall Try.prog 73 [DI x, .ptr [DI (s : Nat)]] (DB (tb s x)) := by
  refine deepCall_K 5 Try.func73 rfl (Nat.le_of_ble_eq_true rfl) fun M W0 => ?_
  refine KC.seq ?_
  refine KC.region ?_
  refine KT.step rfl rfl (K.assign rfl) ?_
  refine KT.nil ?_
  refine thenK_n ?_
  refine KC.seq ?_
  refine KC.region ?_
  refine KT.step rfl rfl (K.load rfl Try.agg3) ?_
  refine KT.step rfl rfl (K.move rfl) ?_
  refine KT.step rfl rfl (K.call2 rfl rfl plainTry_47 (hasI hs hx)) ?_
  refine KT.step rfl rfl (K.assign rfl) ?_
  refine KT.nil ?_
  refine thenK_n ?_
  refine KC.ret ?_
  exact ⟨.inl rfl, _, rfl, fin_b rfl⟩
set_option maxRecDepth 10000 in
theorem out74 {s : Nat} {x : Int} (hs : s < 2 ^ 63) (hx : 0 ≤ x ∧ x < 64) : DeepCall Try.prog 74 [DI x, .ptr [.fn (.func 72) [] [.ptr [DI (s : Nat)]]]] (DB (!tb s x)) := by
  refine deepCall_K 5 Try.func74 rfl (Nat.le_of_ble_eq_true rfl) fun M W0 => ?_
  refine KC.seq ?_
  refine KC.region ?_
  refine KT.step rfl rfl (K.assign rfl) ?_
  refine KT.nil ?_
  refine thenK_n ?_
  refine KC.seq ?_
  refine KC.region ?_
  refine KT.step rfl rfl (K.load rfl Try.agg86) ?_
  refine KT.step rfl rfl (K.move rfl) ?_
  refine KT.step rfl rfl (K.callC (ds := [DI x]) (cs := [.ptr [DI (s : Nat)]]) rfl rfl rfl plainTry_72 (in72 hs hx)) ?_
  refine KT.step rfl rfl (K.not rfl) ?_
  refine KT.step rfl rfl (K.assign rfl) ?_
  refine KT.nil ?_
  refine thenK_n ?_
  refine KC.ret ?_
  exact ⟨.inl rfl, _, rfl, fin_b rfl⟩
set_option maxRecDepth 10000 in
theorem isState44 {dn dl : DV} {nx lb : List Nat} (hS : Str dn dl nx lb) {x : Int} : DeepCall Try.prog 44 [.agg [dn, dl], DI x] (DB (inS nx.length x)) := by
  refine deepCall_K 5 Try.func44 rfl (Nat.le_of_ble_eq_true rfl) fun M W0 => ?_
  refine KC.seq ?_
  refine KC.region ?_
  refine KT.step rfl rfl (K.box rfl) ?_
  refine KT.step rfl rfl (K.assign rfl) ?_
  refine KT.nil ?_
  refine thenK_n ?_
  refine KC.seq ?_
  refine KC.region ?_
  refine KT.step rfl rfl (K.move rfl) ?_
  refine KT.step rfl rfl (K.fieldAddrO rfl Try.fld31_0 Try.size22) ?_
  refine KT.step rfl rfl (K.loadO rfl rfl (by simp) rfl Try.agg22) ?_
  refine KT.step rfl rfl (K.len rfl hS.hn Try.underlying22) ?_
  have h16 := hS.n16
  refine KT.step rfl rfl (K.sub rfl rfl (wrap_id (by omega))) ?_
  refine KT.step rfl rfl (K.call3 rfl rfl rfl plainTry_49 (in49 x 0 ((nx.length : Int) - 1))) ?_
  refine KT.step rfl rfl (K.assign rfl) ?_
  refine KT.nil ?_
  refine thenK_n ?_
  refine KC.ret ?_
  exact ⟨.inl rfl, _, rfl, fin_b (by unfold inS; rw [show decide (x ≤ (nx.length : Int) - 1) = decide (x < (nx.length : Int)) from decide_eq_decide.2 (by omega)])⟩
set_option maxRecDepth 10000 in
theorem isShown38 {op : ByteArray} : DeepCall Try.prog 38 [.lit (.string op)] (DB (shownB op)) := by
  refine deepCall_K 5 Try.func38 rfl (Nat.le_of_ble_eq_true rfl) fun M W0 => ?_
  refine KC.seq ?_
  refine KC.region ?_
  refine KT.step rfl rfl (K.assign rfl) ?_
  refine KT.nil ?_
  refine thenK_n ?_
  refine KC.seq ?_
  refine KC.region ?_
  refine KT.step rfl rfl (K.move rfl) ?_
  refine KT.step rfl rfl (K.eqlS rfl rfl) ?_
  refine KT.step rfl rfl (K.move rfl) ?_
  refine KT.bcase (fun hb5 => ?_) (fun hb5 => ?_)
  · skip
    replace hb5 := of_decide_eq_true hb5
    refine KT.skip rfl rfl ?_
    refine KT.skip rfl rfl ?_
    refine KT.step rfl rfl (K.pick rfl (fun _ => rfl) (fun h => by cases h)) ?_
    refine KT.step rfl rfl (K.move rfl) ?_
    refine KT.skip rfl rfl ?_
    refine KT.skip rfl rfl ?_
    refine KT.step rfl rfl (K.pick rfl (fun _ => rfl) (fun h => by cases h)) ?_
    refine KT.step rfl rfl (K.move rfl) ?_
    refine KT.skip rfl rfl ?_
    refine KT.skip rfl rfl ?_
    refine KT.step rfl rfl (K.pick rfl (fun _ => rfl) (fun h => by cases h)) ?_
    refine KT.step rfl rfl (K.assign rfl) ?_
    refine KT.nil ?_
    refine thenK_n ?_
    refine KC.ret ?_
    exact ⟨.inl rfl, _, rfl, fin_b (by unfold shownB EX' EF' EG' EU'; simp [*])⟩
  · skip
    replace hb5 := of_decide_eq_false hb5
    refine KT.step rfl rfl (K.move rfl) ?_
    refine KT.step rfl rfl (K.eqlS rfl rfl) ?_
    refine KT.step rfl rfl (K.pick rfl (fun h => by cases h) (fun _ => rfl)) ?_
    refine KT.step rfl rfl (K.move rfl) ?_
    refine KT.bcase (fun hb9 => ?_) (fun hb9 => ?_)
    · skip
      replace hb9 := of_decide_eq_true hb9
      refine KT.skip rfl rfl ?_
      refine KT.skip rfl rfl ?_
      refine KT.step rfl rfl (K.pick rfl (fun _ => rfl) (fun h => by cases h)) ?_
      refine KT.step rfl rfl (K.move rfl) ?_
      refine KT.skip rfl rfl ?_
      refine KT.skip rfl rfl ?_
      refine KT.step rfl rfl (K.pick rfl (fun _ => rfl) (fun h => by cases h)) ?_
      refine KT.step rfl rfl (K.assign rfl) ?_
      refine KT.nil ?_
      refine thenK_n ?_
      refine KC.ret ?_
      exact ⟨.inl rfl, _, rfl, fin_b (by unfold shownB EX' EF' EG' EU'; simp [*])⟩
    · skip
      replace hb9 := of_decide_eq_false hb9
      refine KT.step rfl rfl (K.move rfl) ?_
      refine KT.step rfl rfl (K.eqlS rfl rfl) ?_
      refine KT.step rfl rfl (K.pick rfl (fun h => by cases h) (fun _ => rfl)) ?_
      refine KT.step rfl rfl (K.move rfl) ?_
      refine KT.bcase (fun hb13 => ?_) (fun hb13 => ?_)
      · skip
        replace hb13 := of_decide_eq_true hb13
        refine KT.skip rfl rfl ?_
        refine KT.skip rfl rfl ?_
        refine KT.step rfl rfl (K.pick rfl (fun _ => rfl) (fun h => by cases h)) ?_
        refine KT.step rfl rfl (K.assign rfl) ?_
        refine KT.nil ?_
        refine thenK_n ?_
        refine KC.ret ?_
        exact ⟨.inl rfl, _, rfl, fin_b (by unfold shownB EX' EF' EG' EU'; simp [*])⟩
      · skip
        replace hb13 := of_decide_eq_false hb13
        refine KT.step rfl rfl (K.move rfl) ?_
        refine KT.step rfl rfl (K.eqlS rfl rfl) ?_
        refine KT.step rfl rfl (K.pick rfl (fun h => by cases h) (fun _ => rfl)) ?_
        refine KT.step rfl rfl (K.assign rfl) ?_
        refine KT.nil ?_
        refine thenK_n ?_
        refine KC.ret ?_
        exact ⟨.inl rfl, _, rfl, fin_b (by unfold shownB EX' EF' EG' EU'; simp [*])⟩
set_option maxRecDepth 10000 in
theorem after71 {dQ : DV} {Q : List Int} {lp : Int} (hQ : Ints dQ Q) {k : Nat} (hk : k < 64) (hlp : 0 ≤ lp ∧ lp < (Q.length : Int)) (h64 : Q.length ≤ 64) : DeepCall Try.prog 71 [.agg [dQ, DI lp], DI (k : Nat)] (DI (aft Q lp k)) := by
  refine deepCall_K 5 Try.func71 rfl (Nat.le_of_ble_eq_true rfl) fun M W0 => ?_
  refine KC.seq ?_
  refine KC.region ?_
  refine KT.step rfl rfl (K.box rfl) ?_
  refine KT.step rfl rfl (K.assign rfl) ?_
  refine KT.nil ?_
  refine thenK_n ?_
  refine KC.seq ?_
  refine KC.seq ?_
  refine KC.region ?_
  refine KT.step rfl rfl (K.move rfl) ?_
  refine KT.step rfl rfl (K.add rfl rfl (wrap_id (by omega))) ?_
  refine KT.step rfl rfl (K.fieldAddrO rfl Try.fld46_0 Try.size22) ?_
  refine KT.step rfl rfl (K.loadO rfl rfl (by simp) rfl Try.agg22) ?_
  refine KT.step rfl rfl (K.len rfl hQ Try.underlying22) ?_
  refine KT.step rfl rfl (K.lss rfl rfl) ?_
  refine KT.nil ?_
  refine thenK_n ?_
  refine KC.cond rfl (fun hc10 => ?_) (fun hc10 => ?_)
  · skip
    replace hc10 := of_decide_eq_true hc10
    refine KC.seq ?_
    refine KC.region ?_
    refine KT.step rfl rfl (K.fieldAddrO rfl Try.fld46_0 Try.size22) ?_
    refine KT.step rfl rfl (K.loadO rfl rfl (by simp) rfl Try.agg22) ?_
    refine KT.step rfl rfl (K.move rfl) ?_
    refine KT.step rfl rfl (K.add rfl rfl (wrap_id (by omega))) ?_
    refine KT.idxD (m := k + 1) rfl rfl rfl hQ rfl (by push_cast; rfl) (by omega) Try.underlying22 Try.size3 fun rest => ?_
    refine KT.step rfl rfl (K.load rfl Try.agg3) ?_
    refine KT.step rfl rfl (K.assign rfl) ?_
    refine KT.nil ?_
    refine thenK_n ?_
    refine KC.ret ?_
    refine thenK_r ?_
    exact ⟨.inl rfl, _, rfl, fin_d (by unfold aft; rw [if_pos (by omega)])⟩
  · skip
    replace hc10 := of_decide_eq_false hc10
    refine KC.skip ?_
    refine thenK_n ?_
    refine KC.seq ?_
    refine KC.region ?_
    refine KT.step rfl rfl (K.fieldAddrO rfl Try.fld46_0 Try.size22) ?_
    refine KT.step rfl rfl (K.loadO rfl rfl (by simp) rfl Try.agg22) ?_
    refine KT.step rfl rfl (K.fieldAddrO rfl Try.fld46_1 Try.size3) ?_
    refine KT.step rfl rfl (K.loadO rfl rfl (by simp) rfl Try.agg3) ?_
    refine KT.idxD (m := lp.toNat) rfl rfl rfl hQ rfl (Int.toNat_of_nonneg hlp.1).symm (by omega) Try.underlying22 Try.size3 fun rest => ?_
    refine KT.step rfl rfl (K.load rfl Try.agg3) ?_
    refine KT.step rfl rfl (K.assign rfl) ?_
    refine KT.nil ?_
    refine thenK_n ?_
    refine KC.ret ?_
    exact ⟨.inl rfl, _, rfl, fin_d (by unfold aft; rw [if_neg (by omega)])⟩
set_option maxRecDepth 10000 in
theorem fits40 {dn dl : DV} {nx lb : List Nat} (hS : Str dn dl nx lb) {dQ : DV} {Q : List Int} {lp : Int} (hQ : Ints dQ Q) (hl : Q.length ≤ 9223372036854775807) : DeepCall Try.prog 40 [.agg [dn, dl], .agg [dQ, DI lp]] (DB (fitsB nx Q lp)) := by
  refine deepCall_K 5 Try.func40 rfl (Nat.le_of_ble_eq_true rfl) fun M W0 => ?_
  refine KC.seq ?_
  refine KC.region ?_
  refine KT.step rfl rfl (K.box rfl) ?_
  refine KT.step rfl rfl (K.box rfl) ?_
  refine KT.step rfl rfl (K.assign rfl) ?_
  refine KT.nil ?_
  refine thenK_n ?_
  refine KC.seq ?_
  refine KC.seq ?_
  refine KC.region ?_
  refine KT.step rfl rfl (K.fieldAddrO rfl Try.fld46_0 Try.size22) ?_
  refine KT.step rfl rfl (K.loadO rfl rfl (by simp) rfl Try.agg22) ?_
  refine KT.step rfl rfl (K.len rfl hQ Try.underlying22) ?_
  refine KT.step rfl rfl (K.call3 rfl rfl rfl plainTry_49 (in49 _ _ _)) ?_
  refine KT.step rfl rfl (K.not rfl) ?_
  refine KT.step rfl rfl (K.move rfl) ?_
  refine KT.bcase (fun hb13 => ?_) (fun hb13 => ?_)
  · skip
    refine KT.skip rfl rfl ?_
    refine KT.skip rfl rfl ?_
    refine KT.skip rfl rfl ?_
    refine KT.skip rfl rfl ?_
    refine KT.skip rfl rfl ?_
    refine KT.skip rfl rfl ?_
    refine KT.skip rfl rfl ?_
    refine KT.skip rfl rfl ?_
    refine KT.step rfl rfl (K.pick rfl (fun _ => rfl) (fun h => by cases h)) ?_
    refine KT.nil ?_
    refine thenK_n ?_
    refine KC.cond rfl (fun hc22 => ?_) (fun hc22 => ?_)
    · skip
      refine KC.seq ?_
      refine KC.region ?_
      refine KT.step rfl rfl (K.assign rfl) ?_
      refine KT.nil ?_
      refine thenK_n ?_
      refine KC.ret ?_
      refine thenK_r ?_
      have hd : headB Q lp = false := by
        cases hh : headB Q lp with
        | false => rfl
        | true =>
          obtain ⟨g1, g2, g3, g4⟩ := headB_iff.1 hh
          simp only [Bool.not_eq_true', Bool.not_eq_false', Bool.and_eq_true, Bool.and_eq_false_iff, decide_eq_true_iff, decide_eq_false_iff_not] at *
          omega
      exact ⟨.inl rfl, _, rfl, fin_b (fits_head hd)⟩
    · cases hc22
  · skip
    refine KT.step rfl rfl (K.fieldAddrO rfl Try.fld46_1 Try.size3) ?_
    refine KT.step rfl rfl (K.loadO rfl rfl (by simp) rfl Try.agg3) ?_
    refine KT.step rfl rfl (K.fieldAddrO rfl Try.fld46_0 Try.size22) ?_
    refine KT.step rfl rfl (K.loadO rfl rfl (by simp) rfl Try.agg22) ?_
    refine KT.step rfl rfl (K.len rfl hQ Try.underlying22) ?_
    refine KT.step rfl rfl (K.sub rfl rfl (wrap_id (by omega))) ?_
    refine KT.step rfl rfl (K.call3 rfl rfl rfl plainTry_49 (in49 _ _ _)) ?_
    refine KT.step rfl rfl (K.not rfl) ?_
    refine KT.step rfl rfl (K.pick rfl (fun h => by cases h) (fun _ => rfl)) ?_
    refine KT.nil ?_
    refine thenK_n ?_
    refine KC.cond rfl (fun hc22 => ?_) (fun hc22 => ?_)
    · skip
      refine KC.seq ?_
      refine KC.region ?_
      refine KT.step rfl rfl (K.assign rfl) ?_
      refine KT.nil ?_
      refine thenK_n ?_
      refine KC.ret ?_
      refine thenK_r ?_
      have hd : headB Q lp = false := by
        cases hh : headB Q lp with
        | false => rfl
        | true =>
          obtain ⟨g1, g2, g3, g4⟩ := headB_iff.1 hh
          simp only [Bool.not_eq_true', Bool.not_eq_false', Bool.and_eq_true, Bool.and_eq_false_iff, decide_eq_true_iff, decide_eq_false_iff_not] at *
          omega
      exact ⟨.inl rfl, _, rfl, fin_b (fits_head hd)⟩
    · skip
      have hd : headB Q lp = true := headB_iff.2 (by
        simp only [Bool.not_eq_false', Bool.and_eq_true, decide_eq_true_iff] at hb13 hc22
        omega)
      obtain ⟨g1, g2, g3, g4⟩ := headB_iff.1 hd
      refine KC.skip ?_
      refine thenK_n ?_
      refine KC.seq ?_
      refine KC.seq ?_
      refine KC.region ?_
      refine KT.step rfl rfl (K.fieldAddrO rfl Try.fld46_0 Try.size22) ?_
      refine KT.step rfl rfl (K.loadO rfl rfl (by simp) rfl Try.agg22) ?_
      refine KT.step rfl rfl (K.len rfl hQ Try.underlying22) ?_
      refine KT.step rfl rfl (K.move rfl) ?_
      refine KT.nil ?_
      refine thenK_n ?_
      refine KC.block ?_
      refine KC.loop (fun _ : Nat => [⟨[.d dn, .d dl], 0⟩, ⟨[.d dQ, .d (DI lp)], 0⟩]) (fun i => [(2, .optr 0 0), (3, .optr 1 0), (24, .d dQ), (25, .d (DI (Q.length : Nat))), (26, .d (DI (i : Nat)))]) (fun i => i ≤ Q.length ∧ ∀ j, j < i → stepB nx Q lp j = true) (fun i => Q.length - i) 0 ⟨Nat.zero_le _, fun j hj => absurd hj (Nat.not_lt_zero _)⟩ rfl (by simp [Go.Vm.look, extK, enterK]) ?_
      intro i hi
      obtain ⟨hi, hall⟩ := hi
      refine KC.seq ?_
      refine KC.region ?_
      refine KT.step rfl rfl (K.lss rfl rfl) ?_
      refine KT.nil ?_
      refine thenK_n ?_
      refine KC.seq ?_
      refine KC.cond rfl (fun hc27 => ?_) (fun hc27 => ?_)
      · skip
        replace hc27 := of_decide_eq_true hc27
        refine KC.skip ?_
        refine thenK_n ?_
        refine KC.seq ?_
        refine KC.block ?_
        refine KC.seq ?_
        refine KC.region ?_
        refine KT.step rfl rfl (K.move rfl) ?_
        refine KT.idxD (m := i) rfl rfl rfl hQ rfl rfl (by omega) Try.underlying22 Try.size3 fun rest => ?_
        refine KT.step rfl rfl (K.load rfl Try.agg3) ?_
        refine KT.step rfl rfl (K.assign rfl) ?_
        refine KT.step rfl rfl (K.assign rfl) ?_
        refine KT.nil ?_
        refine thenK_n ?_
        refine KC.seq ?_
        refine KC.region ?_
        refine KT.step rfl rfl (K.loadOA ([dQ, DI lp]) rfl rfl (by decide) Try.agg46 Try.size46 rfl) ?_
        refine KT.step rfl rfl (K.move rfl) ?_
        refine KT.step rfl rfl (K.call2 rfl rfl plainTry_71 (after71 hQ (by omega) ⟨g3, g4⟩ g2)) ?_
        refine KT.step rfl rfl (K.assign rfl) ?_
        refine KT.nil ?_
        refine thenK_n ?_
        refine KC.seq ?_
        refine KC.region ?_
        refine KT.step rfl rfl (K.loadOA ([dn, dl]) rfl rfl (by decide) Try.agg31 Try.size31 rfl) ?_
        refine KT.step rfl rfl (K.move rfl) ?_
        refine KT.step rfl rfl (K.call2 rfl rfl plainTry_44 (isState44 hS)) ?_
        refine KT.step rfl rfl (K.not rfl) ?_
        refine KT.step rfl rfl (K.move rfl) ?_
        refine KT.bcase (fun hb38 => ?_) (fun hb38 => ?_)
        · skip
          refine KT.skip rfl rfl ?_
          refine KT.skip rfl rfl ?_
          refine KT.skip rfl rfl ?_
          refine KT.skip rfl rfl ?_
          refine KT.step rfl rfl (K.pick rfl (fun _ => rfl) (fun h => by cases h)) ?_
          refine KT.step rfl rfl (K.move rfl) ?_
          refine KT.skip rfl rfl ?_
          refine KT.skip rfl rfl ?_
          refine KT.skip rfl rfl ?_
          refine KT.skip rfl rfl ?_
          refine KT.skip rfl rfl ?_
          refine KT.skip rfl rfl ?_
          refine KT.skip rfl rfl ?_
          refine KT.skip rfl rfl ?_
          refine KT.step rfl rfl (K.pick rfl (fun _ => rfl) (fun h => by cases h)) ?_
          refine KT.nil ?_
          refine thenK_n ?_
          refine KC.cond rfl (fun hc53 => ?_) (fun hc53 => ?_)
          · skip
            refine KC.seq ?_
            refine KC.region ?_
            refine KT.step rfl rfl (K.assign rfl) ?_
            refine KT.nil ?_
            refine thenK_n ?_
            refine KC.ret ?_
            refine blockK_r ?_
            refine thenK_r ?_
            refine thenK_r ?_
            refine blockK_r ?_
            refine thenK_r ?_
            have hs : stepB nx Q lp i = false := by
              unfold stepB
              first
                | (rw [Bool.not_eq_true'] at hb38; rw [hb38]; rfl)
                | (rw [Bool.not_eq_true'] at hb44; rw [hb44, Bool.and_false]; rfl)
                | (rw [Bool.not_eq_true'] at hc53; rw [show (nx.getD (Q.getD i 0).toNat 0).testBit (Go.Lg.aft Q lp i).toNat = false from hc53, Bool.and_false])
            exact ⟨.inl rfl, _, rfl, fin_b (fits_no (by omega) hs)⟩
          · cases hc53
        · skip
          refine KT.step rfl rfl (K.loadOA ([dn, dl]) rfl rfl (by decide) Try.agg31 Try.size31 rfl) ?_
          refine KT.step rfl rfl (K.move rfl) ?_
          refine KT.step rfl rfl (K.call2 rfl rfl plainTry_44 (isState44 hS)) ?_
          refine KT.step rfl rfl (K.not rfl) ?_
          refine KT.step rfl rfl (K.pick rfl (fun h => by cases h) (fun _ => rfl)) ?_
          refine KT.step rfl rfl (K.move rfl) ?_
          refine KT.bcase (fun hb44 => ?_) (fun hb44 => ?_)
          · skip
            refine KT.skip rfl rfl ?_
            refine KT.skip rfl rfl ?_
            refine KT.skip rfl rfl ?_
            refine KT.skip rfl rfl ?_
            refine KT.skip rfl rfl ?_
            refine KT.skip rfl rfl ?_
            refine KT.skip rfl rfl ?_
            refine KT.skip rfl rfl ?_
            refine KT.step rfl rfl (K.pick rfl (fun _ => rfl) (fun h => by cases h)) ?_
            refine KT.nil ?_
            refine thenK_n ?_
            refine KC.cond rfl (fun hc53 => ?_) (fun hc53 => ?_)
            · skip
              refine KC.seq ?_
              refine KC.region ?_
              refine KT.step rfl rfl (K.assign rfl) ?_
              refine KT.nil ?_
              refine thenK_n ?_
              refine KC.ret ?_
              refine blockK_r ?_
              refine thenK_r ?_
              refine thenK_r ?_
              refine blockK_r ?_
              refine thenK_r ?_
              have hs : stepB nx Q lp i = false := by
                unfold stepB
                first
                  | (rw [Bool.not_eq_true'] at hb38; rw [hb38]; rfl)
                  | (rw [Bool.not_eq_true'] at hb44; rw [hb44, Bool.and_false]; rfl)
                  | (rw [Bool.not_eq_true'] at hc53; rw [show (nx.getD (Q.getD i 0).toNat 0).testBit (Go.Lg.aft Q lp i).toNat = false from hc53, Bool.and_false])
              exact ⟨.inl rfl, _, rfl, fin_b (fits_no (by omega) hs)⟩
            · cases hc53
          · skip
            refine KT.step rfl rfl (K.fieldAddrO rfl Try.fld31_0 Try.size22) ?_
            refine KT.step rfl rfl (K.loadO rfl rfl (by simp) rfl Try.agg22) ?_
            refine KT.step rfl rfl (K.move rfl) ?_
            have hx := inS_iff.1 (by rw [Bool.not_eq_false'] at hb38; exact hb38)
            have hy := inS_iff.1 (by rw [Bool.not_eq_false'] at hb44; exact hb44)
            refine KT.idxN (m := (Q.getD i 0).toNat) rfl rfl rfl hS.hn rfl (Int.toNat_of_nonneg hx.1).symm (by omega) Try.underlying22 Try.size3 fun rest => ?_
            refine KT.step rfl rfl (K.load rfl Try.agg3) ?_
            refine KT.step rfl rfl (K.move rfl) ?_
            refine KT.step rfl rfl (K.call2 rfl rfl plainTry_47 (hasI (lt63 (hS.hnx _)) ⟨hy.1, by have := hS.n16; omega⟩)) ?_
            refine KT.step rfl rfl (K.not rfl) ?_
            refine KT.step rfl rfl (K.pick rfl (fun h => by cases h) (fun _ => rfl)) ?_
            refine KT.nil ?_
            refine thenK_n ?_
            refine KC.cond rfl (fun hc53 => ?_) (fun hc53 => ?_)
            · skip
              refine KC.seq ?_
              refine KC.region ?_
              refine KT.step rfl rfl (K.assign rfl) ?_
              refine KT.nil ?_
              refine thenK_n ?_
              refine KC.ret ?_
              refine blockK_r ?_
              refine thenK_r ?_
              refine thenK_r ?_
              refine blockK_r ?_
              refine thenK_r ?_
              have hs : stepB nx Q lp i = false := by
                unfold stepB
                first
                  | (rw [Bool.not_eq_true'] at hb38; rw [hb38]; rfl)
                  | (rw [Bool.not_eq_true'] at hb44; rw [hb44, Bool.and_false]; rfl)
                  | (rw [Bool.not_eq_true'] at hc53; rw [show (nx.getD (Q.getD i 0).toNat 0).testBit (Go.Lg.aft Q lp i).toNat = false from hc53, Bool.and_false])
              exact ⟨.inl rfl, _, rfl, fin_b (fits_no (by omega) hs)⟩
            · skip
              refine KC.skip ?_
              refine blockK_n ?_
              refine thenK_n ?_
              refine KC.region ?_
              refine KT.step rfl rfl (K.add rfl rfl (wrap_id (by omega))) ?_
              refine KT.step rfl rfl (K.move rfl) ?_
              refine KT.nil ?_
              refine thenK_n ?_
              have hs : stepB nx Q lp i = true := by
                unfold stepB
                rw [Bool.not_eq_false'] at hb38 hb44 hc53
                rw [hb38, hb44]; exact hc53
              refine ⟨i + 1, ⟨by omega, fun j hj => ?_⟩, by omega, rfl, by simp [Go.Vm.look, extK]⟩
              by_cases e : j = i
              · subst e; exact hs
              · exact hall j (by omega)
      · skip
        replace hc27 := of_decide_eq_false hc27
        refine KC.exit ?_
        refine thenK_x ?_
        refine thenK_x ?_
        refine blockK_e ?_
        refine thenK_n ?_
        refine KC.seq ?_
        refine KC.region ?_
        refine KT.step rfl rfl (K.assign rfl) ?_
        refine KT.nil ?_
        refine thenK_n ?_
        refine KC.ret ?_
        exact ⟨.inl rfl, _, rfl, fin_b (fits_yes hd fun j hj => hall j (by omega))⟩
set_option maxRecDepth 10000 in
theorem shows41 {dQ : DV} {Q : List Int} {lp : Int} (hQ : Ints dQ Q) {op : ByteArray} {x y : Nat} (hx : x < 65536) (hy : y < 65536) (hd : headB Q lp = true) (hin : ∀ k, k < Q.length → 0 ≤ Q.getD k 0 ∧ Q.getD k 0 < 64) :
    DeepCall Try.prog 41 [.agg [dQ, DI lp], .lit (.string op), DI (x : Nat), DI (y : Nat)] (DB (showB op Q lp x y)) := by
  obtain ⟨g1, g2, g3, g4⟩ := headB_iff.1 hd
  refine deepCall_K 5 Try.func41 rfl (Nat.le_of_ble_eq_true rfl) fun M W0 => ?_
  refine KC.seq ?_
  refine KC.region ?_
  refine KT.step rfl rfl (K.box rfl) ?_
  refine KT.step rfl rfl (K.box rfl) ?_
  refine KT.step rfl rfl (K.box rfl) ?_
  refine KT.step rfl rfl (K.assign rfl) ?_
  refine KT.nil ?_
  refine thenK_n ?_
  refine KC.seq ?_
  refine KC.region ?_
  refine KT.step rfl rfl (K.makeF (m := 0) rfl rfl rfl rfl) ?_
  refine KT.step rfl rfl (K.alloc (z := .nilFunc) (by kernel_rfl)) ?_
  refine KT.step rfl rfl (K.storeO rfl rfl rfl (by decide) rfl rfl Try.size86) ?_
  refine KT.nil ?_
  refine thenK_n ?_
  refine KC.seq ?_
  refine KC.region ?_
  refine KT.step rfl rfl (K.makeF (m := 0) rfl rfl rfl rfl) ?_
  refine KT.step rfl rfl (K.assign rfl) ?_
  refine KT.nil ?_
  refine thenK_n ?_
  refine KC.seq ?_
  refine KC.region ?_
  refine KT.step rfl rfl (K.makeF (m := 0) rfl rfl rfl rfl) ?_
  refine KT.step rfl rfl (K.assign rfl) ?_
  refine KT.nil ?_
  refine thenK_n ?_
  refine KC.seq ?_
  refine KC.seq ?_
  refine KC.region ?_
  refine KT.step rfl rfl (K.move rfl) ?_
  refine KT.nil ?_
  refine thenK_n ?_
  refine KC.block ?_
  refine KC.seq ?_
  refine KC.region ?_
  refine KT.step rfl rfl (K.eqlS rfl rfl) ?_
  refine KT.step rfl rfl (K.assign rfl) ?_
  refine KT.nil ?_
  refine thenK_n ?_
  refine KC.cond rfl (fun hc17 => ?_) (fun hc17 => ?_)
  · skip
    replace hc17 := of_decide_eq_true hc17
    refine KC.seq ?_
    refine KC.draw Try.mixed ?_
    refine KT.step rfl rfl (K.loadO rfl rfl (by simp) rfl Try.agg86) ?_
    refine KT.step rfl rfl (K.loadOA ([dQ, DI lp]) rfl rfl (by decide) Try.agg46 Try.size46 rfl) ?_
    refine KT.step rfl rfl (K.call2 rfl rfl plainTry_71 (after71 (k := 0) hQ (by decide) ⟨g3, g4⟩ g2)) ?_
    have haft : 0 ≤ aft Q lp 0 ∧ aft Q lp 0 < 64 := by
      unfold aft
      split
      · exact hin _ (by omega)
      · exact hin _ (by omega)
    refine KT.step rfl rfl (K.callZV [1, 2, 3] 6 (ds := [DI (aft Q lp 0), .ptr [DI (x : Nat)]]) rfl rfl rfl plainTry_72 rfl (in72 (lt63 hx) haft)) ?_
    refine KT.step rfl rfl (K.assign rfl) ?_
    refine KT.nil ?_
    refine ⟨by kernel_rfl, ?_⟩
    refine thenK_n ?_
    refine KC.ret ?_
    refine blockK_r ?_
    refine thenK_r ?_
    exact ⟨.inl rfl, _, rfl, fin_b (by unfold showB; rw [if_pos (show op = EX' from hc17)])⟩
  · skip
    replace hc17 := of_decide_eq_false hc17
    refine KC.seq ?_
    refine KC.region ?_
    refine KT.step rfl rfl (K.eqlS rfl rfl) ?_
    refine KT.step rfl rfl (K.assign rfl) ?_
    refine KT.nil ?_
    refine thenK_n ?_
    refine KC.cond rfl (fun hc23 => ?_) (fun hc23 => ?_)
    · skip
      replace hc23 := of_decide_eq_true hc23
      refine KC.seq ?_
      refine KC.region ?_
      refine KT.step rfl rfl (K.fieldAddrO rfl Try.fld46_0 Try.size22) ?_
      refine KT.step rfl rfl (K.loadO rfl rfl (by simp) rfl Try.agg22) ?_
      refine KT.step rfl rfl (K.loadO rfl rfl (by simp) rfl Try.agg86) ?_
      refine KT.step rfl rfl (K.callZ [1, 2, 3] 6 (ds := [dQ, .fn (.func 72) [] [.ptr [DI (x : Nat)]]]) rfl plainTry_75 rfl (contains75 (p := tb x) hQ (by omega) plainTry_72 (fun i hi => in72 (lt63 hx) (hin i hi)))) ?_
      refine KT.step rfl rfl (K.assign rfl) ?_
      refine KT.nil ?_
      refine thenK_n ?_
      refine KC.ret ?_
      refine blockK_r ?_
      refine thenK_r ?_
      exact ⟨.inl rfl, _, rfl, fin_b (by unfold showB; rw [if_neg (show ¬ op = EX' from hc17), if_pos (show op = EF' from hc23)])⟩
    · skip
      replace hc23 := of_decide_eq_false hc23
      refine KC.seq ?_
      refine KC.region ?_
      refine KT.step rfl rfl (K.eqlS rfl rfl) ?_
      refine KT.step rfl rfl (K.assign rfl) ?_
      refine KT.nil ?_
      refine thenK_n ?_
      refine KC.cond rfl (fun hc29 => ?_) (fun hc29 => ?_)
      · skip
        replace hc29 := of_decide_eq_true hc29
        refine KC.seq ?_
        refine KC.region ?_
        refine KT.step rfl rfl (K.fieldAddrO rfl Try.fld46_0 Try.size22) ?_
        refine KT.step rfl rfl (K.loadO rfl rfl (by simp) rfl Try.agg22) ?_
        refine KT.step rfl rfl (K.move rfl) ?_
        refine KT.step rfl rfl (K.callZ [1, 2, 3] 6 (ds := [dQ, .fn (.func 73) [] [.ptr [DI (y : Nat)]]]) rfl plainTry_76 rfl (index76 (p := tb y) hQ (by omega) plainTry_73 (fun i hi => in73 (lt63 hy) (hin i hi)))) ?_
        refine KT.step rfl rfl (K.assign rfl) ?_
        refine KT.nil ?_
        refine thenK_n ?_
        refine KC.seq ?_
        refine KC.region ?_
        refine KT.step rfl rfl (K.move rfl) ?_
        refine KT.step rfl rfl (K.geq rfl rfl) ?_
        refine KT.step rfl rfl (K.move rfl) ?_
        refine KT.bcase (fun hb37 => ?_) (fun hb37 => ?_)
        · skip
          replace hb37 := of_decide_eq_true hb37
          refine KT.step rfl rfl (K.fieldAddrO rfl Try.fld46_0 Try.size22) ?_
          refine KT.step rfl rfl (K.loadO rfl rfl (by simp) rfl Try.agg22) ?_
          refine KT.step rfl rfl (K.move rfl) ?_
          obtain ⟨k, hk1, hk2, hk3, hk4⟩ := ixI_lt hb37
          refine KT.step rfl rfl (K.takeV (m := k) rfl hQ (congrArg (fun z => some (XV.d (DI z))) hk1) hk2 Try.underlying22 Try.size3) ?_
          refine KT.step rfl rfl (K.move rfl) ?_
          have htk : ∀ i, i < (Q.take k).length → 0 ≤ (Q.take k).getD i 0 ∧ (Q.take k).getD i 0 < 64 := fun i hi => by
            have h2 : i < k := by simp at hi; omega
            rw [show (Q.take k).getD i 0 = Q.getD i 0 by simp only [List.getD_eq_getElem?_getD, List.getElem?_take, if_pos h2]]
            exact hin i (by omega)
          refine KT.step rfl rfl (K.callZ [1, 2, 3] 6 (ds := [takeV k dQ, .fn (.func 74) [] [.ptr [.fn (.func 72) [] [.ptr [DI (x : Nat)]]]]]) rfl plainTry_75 rfl (contains75 (p := fun s => !tb x s) (takeV_vec hQ hk2) (by simp; omega) plainTry_74 (fun i hi => out74 (lt63 hx) (htk i hi)))) ?_
          refine KT.step rfl rfl (K.not rfl) ?_
          refine KT.step rfl rfl (K.pick rfl (fun _ => rfl) (fun h => by cases h)) ?_
          refine KT.step rfl rfl (K.assign rfl) ?_
          refine KT.nil ?_
          refine thenK_n ?_
          refine KC.ret ?_
          refine blockK_r ?_
          refine thenK_r ?_
          exact ⟨.inl rfl, _, rfl, fin_b (by unfold showB; rw [if_neg (show ¬ op = EX' from hc17), if_neg (show ¬ op = EF' from hc23), if_pos (show op = EU' from hc29), unt_ix, hk3, hk4]; rfl)⟩
        · skip
          replace hb37 := of_decide_eq_false hb37
          refine KT.skip rfl rfl ?_
          refine KT.skip rfl rfl ?_
          refine KT.skip rfl rfl ?_
          refine KT.skip rfl rfl ?_
          refine KT.skip rfl rfl ?_
          refine KT.skip rfl rfl ?_
          refine KT.skip rfl rfl ?_
          refine KT.step rfl rfl (K.pick rfl (fun h => by cases h) (fun _ => rfl)) ?_
          refine KT.step rfl rfl (K.assign rfl) ?_
          refine KT.nil ?_
          refine thenK_n ?_
          refine KC.ret ?_
          refine blockK_r ?_
          refine thenK_r ?_
          exact ⟨.inl rfl, _, rfl, fin_b (by unfold showB; rw [if_neg (show ¬ op = EX' from hc17), if_neg (show ¬ op = EF' from hc23), if_pos (show op = EU' from hc29), unt_ix, ← ixI_any, decide_eq_false hb37]; rfl)⟩
      · skip
        replace hc29 := of_decide_eq_false hc29
        refine KC.skip ?_
        refine blockK_n ?_
        refine thenK_n ?_
        refine KC.seq ?_
        refine KC.region ?_
        refine KT.step rfl rfl (K.fieldAddrO rfl Try.fld46_0 Try.size22) ?_
        refine KT.step rfl rfl (K.loadO rfl rfl (by simp) rfl Try.agg22) ?_
        refine KT.step rfl rfl (K.move rfl) ?_
        refine KT.step rfl rfl (K.callZ [1, 2, 3] 6 (ds := [dQ, .fn (.func 74) [] [.ptr [.fn (.func 72) [] [.ptr [DI (x : Nat)]]]]]) rfl plainTry_75 rfl (contains75 (p := fun s => !tb x s) hQ (by omega) plainTry_74 (fun i hi => out74 (lt63 hx) (hin i hi)))) ?_
        refine KT.step rfl rfl (K.not rfl) ?_
        refine KT.step rfl rfl (K.assign rfl) ?_
        refine KT.nil ?_
        refine thenK_n ?_
        refine KC.ret ?_
        exact ⟨.inl rfl, _, rfl, fin_b (by unfold showB; rw [if_neg (show ¬ op = EX' from hc17), if_neg (show ¬ op = EF' from hc23), if_neg (show ¬ op = EU' from hc29), all_not])⟩
end Go.Proofs.Ytcjcchceeidgkaa

