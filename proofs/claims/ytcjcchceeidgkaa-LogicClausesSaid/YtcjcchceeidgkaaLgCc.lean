import Derived.Test.YtcjcchceeidgkaaLgCb
import Derived.Test.YtcjcchceeidgkaaLgH
/-
  Logic: CheckApart, and how the statement converts clauses.
-/
namespace Go.Proofs.Ytcjcchceeidgkaa
open Go.Vm Go.Lg
theorem plainTry_20 : plainFn Try.prog 20 = true := by kernel_rfl
theorem plainTry_21 : plainFn Try.prog 21 = true := by kernel_rfl
theorem Try.bytes91 : bytesT Try.prog 91 ≤ 65536 := of_decide_eq_true (by kernel_rfl)
theorem Try.zsz91 : (zeroT Try.prog 91).map (·.cells.size) = some 3 := by kernel_rfl
theorem build91 (op : ByteArray) (x y : Int) : pureRun Try.prog (Instr.build 91 #[(0, .string op), (1, .int .i64 x), (2, .int .i64 y)]) = some (.agg #[.string op, .int .i64 x, .int .i64 y]) := by kernel_rfl
theorem take_snoc {l : List Cl} {i : Nat} (hi : i < l.length) : l.take (i + 1) = l.take i ++ [cg l i] := by
  rw [List.take_succ_eq_append_getElem hi]
  congr 2
  show _ = l.getD i default
  rw [List.getD_eq_getElem?_getD, List.getElem?_eq_getElem hi]; rfl
def caB (N L : List Int) (l : List Cl) (x y : Int) : Bool := ((validS N L && okC l) && inS N.length x) && inS N.length y
def caD (N L : List Int) (l : List Cl) (x y : Int) : Int := if caB N L l x y then (depC l l.length).getD (l.length - 1) 0 else 0
def caP (N L : List Int) (l : List Cl) (x y : Int) : Bool := caB N L l x y && (tb ((satC (toN N) (toN L) l l.length).getD (l.length - 1) 0) x && !tb ((satC (toN N) (toN L) l l.length).getD (l.length - 1) 0) y)
def caE (N L : List Int) (l : List Cl) (x y : Int) : Int := if caB N L l x y then 0 else 2
theorem toN_len (N : List Int) : (toN N).length = N.length := by simp
set_option maxRecDepth 10000 in
theorem clauses21 {d : DV} {l : List Cl} (hd : ClsD d l) (hl : l.length ≤ 9223372036854775807) : DeepCall Try.prog 21 [d] (clsV (l.take 5002)) := by
  refine deepCall_K 5 Try.func21 rfl (Nat.le_of_ble_eq_true rfl) fun M W0 => ?_
  refine KC.seq ?_
  refine KC.region ?_
  refine KT.step rfl rfl (K.assign rfl) ?_
  refine KT.nil ?_
  refine thenK_n ?_
  refine KC.seq ?_
  refine KC.region ?_
  refine KT.step rfl rfl (K.assign rfl) ?_
  refine KT.nil ?_
  refine thenK_n ?_
  refine KC.seq ?_
  refine KC.seq ?_
  refine KC.region ?_
  refine KT.step rfl rfl (K.move rfl) ?_
  refine KT.step rfl rfl (K.lenCls rfl hd Try.underlying49) ?_
  refine KT.step rfl rfl (K.move rfl) ?_
  refine KT.nil ?_
  refine thenK_n ?_
  refine KC.block ?_
  refine KC.loop (fun p : List VObj × XV × Nat => p.1) (fun p => [(3, p.2.1), (6, .d d), (7, .d (DI (l.length : Nat))), (8, .d (DI (p.2.2 : Nat)))]) (fun p => p.2.2 ≤ l.length ∧ p.2.2 ≤ 5002 ∧ OwnK 3 p.1 p.2.1 ((flatC (l.take p.2.2)).map .d) ∧ (p.2.2 = 0 → p.2.1 = .d Dnil)) (fun p => l.length - p.2.2) (_, .d Dnil, 0) ⟨Nat.zero_le _, by decide, .nil, fun _ => rfl⟩ rfl (by simp [Go.Vm.look, extK, enterK]) ?_
  intro p hp
  obtain ⟨hi, hi5, hown, hnil⟩ := hp
  refine KC.seq ?_
  refine KC.region ?_
  refine KT.step rfl rfl (K.lss rfl rfl) ?_
  refine KT.nil ?_
  refine thenK_n ?_
  refine KC.seq ?_
  refine KC.cond rfl (fun hc9 => ?_) (fun hc9 => ?_)
  · skip
    replace hc9 := of_decide_eq_true hc9
    refine KC.skip ?_
    refine thenK_n ?_
    refine KC.seq ?_
    refine KC.block ?_
    refine KC.seq ?_
    refine KC.region ?_
    refine KT.step rfl rfl (K.move rfl) ?_
    refine KT.idxCls (m := p.2.2) rfl rfl rfl hd rfl (by omega) Try.underlying49 Try.size90 fun rest => ?_
    refine KT.step rfl rfl (K.loadAgg (cs := .lit (.string (cg l p.2.2).op) :: DI (cg l p.2.2).x :: DI (cg l p.2.2).y :: rest) (m := 3) rfl Try.agg90 Try.size90 (by simp)) ?_
    refine KT.step rfl rfl (K.alloc Try.zero90) ?_
    refine KT.step rfl rfl (K.assign rfl) ?_
    refine KT.storeL (cs := [.d (.lit (.string (cg l p.2.2).op)), .d (DI (cg l p.2.2).x), .d (DI (cg l p.2.2).y)]) rfl rfl rfl rfl rfl rfl rfl Try.size90 ?_
    refine KT.nil ?_
    refine thenK_n ?_
    refine KC.seq ?_
    refine KC.seq ?_
    refine KC.region ?_
    refine KT.step rfl rfl (K.move rfl) ?_
    refine KT.step rfl rfl (K.gtr rfl rfl) ?_
    refine KT.nil ?_
    refine thenK_n ?_
    refine KC.cond rfl (fun hc14 => ?_) (fun hc14 => ?_)
    · skip
      replace hc14 := of_decide_eq_true hc14
      refine KC.exit ?_
      refine thenK_x ?_
      refine blockK_x (by decide) ?_
      refine thenK_x ?_
      refine thenK_x ?_
      refine blockK_e ?_
      refine thenK_n ?_
      refine KC.seq ?_
      refine KC.region ?_
      refine KT.step rfl rfl (K.move rfl) ?_
      refine KT.step rfl rfl (K.assign rfl) ?_
      refine KT.nil ?_
      refine thenK_n ?_
      refine KC.ret ?_
      have e : l.take p.2.2 = l.take 5002 := by
        rw [show p.2.2 = 5002 by omega]
      rw [e] at hown
      have hn2 : l.take 5002 = [] → p.2.1 = .d Dnil := fun h => hnil (by
        have := congrArg List.length h
        rw [List.length_take, List.length_nil] at this
        omega)
      exact ⟨.inl rfl, _, rfl, own_cls (hown.pushed _) hn2⟩
    · skip
      replace hc14 := of_decide_eq_false hc14
      refine KC.skip ?_
      refine thenK_n ?_
      refine KC.region ?_
      refine KT.step rfl rfl (K.move rfl) ?_
      refine KT.step rfl rfl (K.fieldAddrO rfl Try.fld90_0 Try.size9) ?_
      refine KT.step rfl rfl (K.loadO rfl (List.getElem?_concat_length ..) (by simp) rfl Try.agg9) ?_
      refine KT.step rfl rfl (K.fieldAddrO rfl Try.fld90_1 Try.size3) ?_
      refine KT.step rfl rfl (K.loadO rfl (List.getElem?_concat_length ..) (by simp) rfl Try.agg3) ?_
      refine KT.step rfl rfl (K.fieldAddrO rfl Try.fld90_2 Try.size3) ?_
      refine KT.step rfl rfl (K.loadO rfl (List.getElem?_concat_length ..) (by simp) rfl Try.agg3) ?_
      refine KT.step rfl rfl (K.buildL (us := [(0, .string (cg l p.2.2).op), (1, .int .i64 (cg l p.2.2).x), (2, .int .i64 (cg l p.2.2).y)]) rfl (build91 _ _ _)) ?_
      refine KT.step rfl rfl (K.buildC (k := 3) (cs := [.d (.lit (.string (cg l p.2.2).op)), .d (DI (cg l p.2.2).x), .d (DI (cg l p.2.2).y)]) rfl rfl rfl Try.underlying52 Try.size91 Try.zero91 (by decide)) ?_
      have hown2 := (hown.pushed (⟨[.d (.lit (.string (cg l p.2.2).op)), .d (DI (cg l p.2.2).x), .d (DI (cg l p.2.2).y)], 0⟩ : VObj)).pushed (⟨[.d (.lit (.string (cg l p.2.2).op)), .d (DI (cg l p.2.2).x), .d (DI (cg l p.2.2).y)], 0⟩ : VObj)
      refine KT.appK (k := 3) rfl rfl rfl rfl hown2 (List.getElem?_concat_length ..) rfl rfl (by rw [List.length_map, flatC_len]; simp; omega) Try.underlying52 Try.size91 Try.bytes91 Try.zsz91 (by decide) fun σa xa hwa hva hna => ?_
      refine KT.step rfl rfl (K.assign rfl) ?_
      refine KT.nil ?_
      refine blockK_n ?_
      refine thenK_n ?_
      refine KC.region ?_
      refine KT.step rfl rfl (K.add rfl rfl (wrap_id (by omega))) ?_
      refine KT.step rfl rfl (K.move rfl) ?_
      refine KT.nil ?_
      refine thenK_n ?_
      obtain ⟨ja, hja, _⟩ := hna
      refine ⟨(σa, xa, p.2.2 + 1), ⟨by simp only; omega, by simp only; omega, ?_, fun h => absurd h (Nat.succ_ne_zero _)⟩, by simp only; omega, rfl, by simp [Go.Vm.look, extK]⟩
      simp only
      rw [take_snoc (by omega), flatC_app, List.map_append]
      exact hwa
  · skip
    replace hc9 := of_decide_eq_false hc9
    refine KC.exit ?_
    refine thenK_x ?_
    refine thenK_x ?_
    refine blockK_e ?_
    refine thenK_n ?_
    refine KC.seq ?_
    refine KC.region ?_
    refine KT.step rfl rfl (K.move rfl) ?_
    refine KT.step rfl rfl (K.assign rfl) ?_
    refine KT.nil ?_
    refine thenK_n ?_
    refine KC.ret ?_
    have e : l.take p.2.2 = l.take 5002 := by
      rw [List.take_of_length_le (show l.length ≤ p.2.2 by omega), List.take_of_length_le (show l.length ≤ 5002 by omega)]
    rw [e] at hown
    have hn2 : l.take 5002 = [] → p.2.1 = .d Dnil := fun h => hnil (by
      have := congrArg List.length h
      rw [List.length_take, List.length_nil] at this
      omega)
    exact ⟨.inl rfl, _, rfl, own_cls hown hn2⟩
set_option maxRecDepth 10000 in
theorem CheckApart20 {dn dl d : DV} {N L : List Int} {l : List Cl} {x y : Int} (hN : Ints dn N) (hL : Ints dl L) (hl : N.length ≤ 9223372036854775807 ∧ L.length ≤ 9223372036854775807) (hd : ClsD d l) (hdl : l.length ≤ 9223372036854775807) : DeepCall Try.prog 20 [.agg [dn, dl], d, DI x, DI y] (.tup [DI (caD N L l x y), DB (caP N L l x y), DI (caE N L l x y)]) := by
  refine deepCall_K 5 Try.func20 rfl (Nat.le_of_ble_eq_true rfl) fun M W0 => ?_
  refine KC.seq ?_
  refine KC.region ?_
  refine KT.step rfl rfl (K.box rfl) ?_
  refine KT.step rfl rfl (K.assign rfl) ?_
  refine KT.step rfl rfl (K.assign rfl) ?_
  refine KT.step rfl rfl (K.assign rfl) ?_
  refine KT.nil ?_
  refine thenK_n ?_
  refine KC.seq ?_
  refine KC.seq ?_
  refine KC.region ?_
  refine KT.step rfl rfl (K.loadOA ([dn, dl]) rfl rfl (by decide) Try.agg31 Try.size31 rfl) ?_
  refine KT.step rfl rfl (K.call1 rfl plainTry_27 (valid27 hN hL hl)) ?_
  refine KT.step rfl rfl (K.not rfl) ?_
  refine KT.step rfl rfl (K.move rfl) ?_
  refine KT.bcase (fun hb15 => ?_) (fun hb15 => ?_)
  · skip
    refine KT.skip rfl rfl ?_
    refine KT.skip rfl rfl ?_
    refine KT.skip rfl rfl ?_
    refine KT.step rfl rfl (K.pick rfl (fun _ => rfl) (fun h => by cases h)) ?_
    refine KT.step rfl rfl (K.move rfl) ?_
    refine KT.skip rfl rfl ?_
    refine KT.skip rfl rfl ?_
    refine KT.skip rfl rfl ?_
    refine KT.skip rfl rfl ?_
    refine KT.step rfl rfl (K.pick rfl (fun _ => rfl) (fun h => by cases h)) ?_
    refine KT.step rfl rfl (K.move rfl) ?_
    refine KT.skip rfl rfl ?_
    refine KT.skip rfl rfl ?_
    refine KT.skip rfl rfl ?_
    refine KT.skip rfl rfl ?_
    refine KT.step rfl rfl (K.pick rfl (fun _ => rfl) (fun h => by cases h)) ?_
    refine KT.nil ?_
    refine thenK_n ?_
    refine KC.cond rfl (fun hc31 => ?_) (fun hc31 => ?_)
    · skip
      refine KC.seq ?_
      refine KC.region ?_
      refine KT.step rfl rfl (K.assign rfl) ?_
      refine KT.step rfl rfl (K.assign rfl) ?_
      refine KT.step rfl rfl (K.assign rfl) ?_
      refine KT.nil ?_
      refine thenK_n ?_
      refine KC.ret ?_
      refine thenK_r ?_
      have eca : caB N L l x y = false := by
        unfold caB
        first
          | (rw [Bool.not_eq_true'] at hb15; rw [hb15]; rfl)
          | (rw [Bool.not_eq_true'] at hb20; rw [hb20, Bool.and_false]; rfl)
          | (rw [Bool.not_eq_true'] at hb26; rw [hb26, Bool.and_false, Bool.false_and])
          | (rw [Bool.not_eq_true'] at hc31; rw [hc31, Bool.and_false])
      exact ⟨.inl rfl, _, rfl, by unfold caD caP caE; rw [eca]; rfl⟩
    · cases hc31
  · skip
    refine KT.step rfl rfl (K.move rfl) ?_
    refine KT.step rfl rfl (K.call1 rfl plainTry_43 (areClauses43 hd hdl)) ?_
    refine KT.step rfl rfl (K.not rfl) ?_
    refine KT.step rfl rfl (K.pick rfl (fun h => by cases h) (fun _ => rfl)) ?_
    refine KT.step rfl rfl (K.move rfl) ?_
    refine KT.bcase (fun hb20 => ?_) (fun hb20 => ?_)
    · skip
      refine KT.skip rfl rfl ?_
      refine KT.skip rfl rfl ?_
      refine KT.skip rfl rfl ?_
      refine KT.skip rfl rfl ?_
      refine KT.step rfl rfl (K.pick rfl (fun _ => rfl) (fun h => by cases h)) ?_
      refine KT.step rfl rfl (K.move rfl) ?_
      refine KT.skip rfl rfl ?_
      refine KT.skip rfl rfl ?_
      refine KT.skip rfl rfl ?_
      refine KT.skip rfl rfl ?_
      refine KT.step rfl rfl (K.pick rfl (fun _ => rfl) (fun h => by cases h)) ?_
      refine KT.nil ?_
      refine thenK_n ?_
      refine KC.cond rfl (fun hc31 => ?_) (fun hc31 => ?_)
      · skip
        refine KC.seq ?_
        refine KC.region ?_
        refine KT.step rfl rfl (K.assign rfl) ?_
        refine KT.step rfl rfl (K.assign rfl) ?_
        refine KT.step rfl rfl (K.assign rfl) ?_
        refine KT.nil ?_
        refine thenK_n ?_
        refine KC.ret ?_
        refine thenK_r ?_
        have eca : caB N L l x y = false := by
          unfold caB
          first
            | (rw [Bool.not_eq_true'] at hb15; rw [hb15]; rfl)
            | (rw [Bool.not_eq_true'] at hb20; rw [hb20, Bool.and_false]; rfl)
            | (rw [Bool.not_eq_true'] at hb26; rw [hb26, Bool.and_false, Bool.false_and])
            | (rw [Bool.not_eq_true'] at hc31; rw [hc31, Bool.and_false])
        exact ⟨.inl rfl, _, rfl, by unfold caD caP caE; rw [eca]; rfl⟩
      · cases hc31
    · skip
      refine KT.step rfl rfl (K.loadOA ([dn, dl]) rfl rfl (by decide) Try.agg31 Try.size31 rfl) ?_
      refine KT.step rfl rfl (K.move rfl) ?_
      have hv : validS N L = true := by rw [Bool.not_eq_false'] at hb15; exact hb15
      have hok : okC l = true := by rw [Bool.not_eq_false'] at hb20; exact hb20
      have hS := str_of hN hL hv
      refine KT.step rfl rfl (K.call2 rfl rfl plainTry_44 (toN_len N ▸ isState44 hS)) ?_
      refine KT.step rfl rfl (K.not rfl) ?_
      refine KT.step rfl rfl (K.pick rfl (fun h => by cases h) (fun _ => rfl)) ?_
      refine KT.step rfl rfl (K.move rfl) ?_
      refine KT.bcase (fun hb26 => ?_) (fun hb26 => ?_)
      · skip
        refine KT.skip rfl rfl ?_
        refine KT.skip rfl rfl ?_
        refine KT.skip rfl rfl ?_
        refine KT.skip rfl rfl ?_
        refine KT.step rfl rfl (K.pick rfl (fun _ => rfl) (fun h => by cases h)) ?_
        refine KT.nil ?_
        refine thenK_n ?_
        refine KC.cond rfl (fun hc31 => ?_) (fun hc31 => ?_)
        · skip
          refine KC.seq ?_
          refine KC.region ?_
          refine KT.step rfl rfl (K.assign rfl) ?_
          refine KT.step rfl rfl (K.assign rfl) ?_
          refine KT.step rfl rfl (K.assign rfl) ?_
          refine KT.nil ?_
          refine thenK_n ?_
          refine KC.ret ?_
          refine thenK_r ?_
          have eca : caB N L l x y = false := by
            unfold caB
            first
              | (rw [Bool.not_eq_true'] at hb15; rw [hb15]; rfl)
              | (rw [Bool.not_eq_true'] at hb20; rw [hb20, Bool.and_false]; rfl)
              | (rw [Bool.not_eq_true'] at hb26; rw [hb26, Bool.and_false, Bool.false_and])
              | (rw [Bool.not_eq_true'] at hc31; rw [hc31, Bool.and_false])
          exact ⟨.inl rfl, _, rfl, by unfold caD caP caE; rw [eca]; rfl⟩
        · cases hc31
      · skip
        refine KT.step rfl rfl (K.loadOA ([dn, dl]) rfl rfl (by decide) Try.agg31 Try.size31 rfl) ?_
        refine KT.step rfl rfl (K.move rfl) ?_
        refine KT.step rfl rfl (K.call2 rfl rfl plainTry_44 (toN_len N ▸ isState44 hS)) ?_
        refine KT.step rfl rfl (K.not rfl) ?_
        refine KT.step rfl rfl (K.pick rfl (fun h => by cases h) (fun _ => rfl)) ?_
        refine KT.nil ?_
        refine thenK_n ?_
        refine KC.cond rfl (fun hc31 => ?_) (fun hc31 => ?_)
        · skip
          refine KC.seq ?_
          refine KC.region ?_
          refine KT.step rfl rfl (K.assign rfl) ?_
          refine KT.step rfl rfl (K.assign rfl) ?_
          refine KT.step rfl rfl (K.assign rfl) ?_
          refine KT.nil ?_
          refine thenK_n ?_
          refine KC.ret ?_
          refine thenK_r ?_
          have eca : caB N L l x y = false := by
            unfold caB
            first
              | (rw [Bool.not_eq_true'] at hb15; rw [hb15]; rfl)
              | (rw [Bool.not_eq_true'] at hb20; rw [hb20, Bool.and_false]; rfl)
              | (rw [Bool.not_eq_true'] at hb26; rw [hb26, Bool.and_false, Bool.false_and])
              | (rw [Bool.not_eq_true'] at hc31; rw [hc31, Bool.and_false])
          exact ⟨.inl rfl, _, rfl, by unfold caD caP caE; rw [eca]; rfl⟩
        · skip
          have hxb : inS N.length x = true := by rw [Bool.not_eq_false'] at hb26; exact hb26
          have hyb : inS N.length y = true := by rw [Bool.not_eq_false'] at hc31; exact hc31
          have eca : caB N L l x y = true := by
            unfold caB
            rw [hv, hok, hxb, hyb]; rfl
          have hx := inS_iff.1 hxb
          have hy := inS_iff.1 hyb
          have h16 := hS.n16
          rw [toN_len] at h16
          have hsl := lt63 (pow16 hS.n16 (satC_lt hS.len l l.length (l.length - 1)))
          refine KC.skip ?_
          refine thenK_n ?_
          refine KC.seq ?_
          refine KC.region ?_
          refine KT.step rfl rfl (K.loadOA ([dn, dl]) rfl rfl (by decide) Try.agg31 Try.size31 rfl) ?_
          refine KT.step rfl rfl (K.call1 rfl plainTry_29 (operators29)) ?_
          refine KT.step rfl rfl (K.move rfl) ?_
          refine KT.step rfl rfl (K.call2 rfl rfl plainTry_45 (last45 hS hd hok)) ?_
          refine KT.step rfl rfl (K.assign rfl) ?_
          refine KT.nil ?_
          refine thenK_n ?_
          refine KC.seq ?_
          refine KC.region ?_
          refine KT.step rfl rfl (K.move rfl) ?_
          refine KT.step rfl rfl (K.call1 rfl plainTry_46 (deepest46 hd hok)) ?_
          refine KT.step rfl rfl (K.move rfl) ?_
          refine KT.step rfl rfl (K.move rfl) ?_
          refine KT.step rfl rfl (K.call2 rfl rfl plainTry_47 (hasI hsl ⟨hx.1, by omega⟩)) ?_
          refine KT.step rfl rfl (K.move rfl) ?_
          refine KT.bcase (fun hb41 => ?_) (fun hb41 => ?_)
          · skip
            refine KT.step rfl rfl (K.move rfl) ?_
            refine KT.step rfl rfl (K.move rfl) ?_
            refine KT.step rfl rfl (K.call2 rfl rfl plainTry_47 (hasI hsl ⟨hy.1, by omega⟩)) ?_
            refine KT.step rfl rfl (K.not rfl) ?_
            refine KT.step rfl rfl (K.pick rfl (fun _ => rfl) (fun h => by cases h)) ?_
            refine KT.step rfl rfl (K.assign rfl) ?_
            refine KT.step rfl rfl (K.assign rfl) ?_
            refine KT.step rfl rfl (K.assign rfl) ?_
            refine KT.nil ?_
            refine thenK_n ?_
            refine KC.ret ?_
            exact ⟨.inl rfl, _, rfl, by unfold caD caP caE; rw [eca, hb41]; rfl⟩
          · skip
            refine KT.skip rfl rfl ?_
            refine KT.skip rfl rfl ?_
            refine KT.skip rfl rfl ?_
            refine KT.skip rfl rfl ?_
            refine KT.step rfl rfl (K.pick rfl (fun h => by cases h) (fun _ => rfl)) ?_
            refine KT.step rfl rfl (K.assign rfl) ?_
            refine KT.step rfl rfl (K.assign rfl) ?_
            refine KT.step rfl rfl (K.assign rfl) ?_
            refine KT.nil ?_
            refine thenK_n ?_
            refine KC.ret ?_
            exact ⟨.inl rfl, _, rfl, by unfold caD caP caE; rw [eca, hb41]; rfl⟩
end Go.Proofs.Ytcjcchceeidgkaa

