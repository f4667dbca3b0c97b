/-
  CONTRACTS for LatticeChecks: products of big numbers; big numbers by their values.
-/
import Derived.Test.YtlomhajhoecoiaaChkF
namespace Go.Proofs.Ytlomhajhoecoiaa
open Go.Vm Go.Big

def timL (a b : List Nat) : List Nat := (List.range (a.length + b.length)).map (outT a b a.length)
theorem timL_len (a b : List Nat) : (timL a b).length = a.length + b.length := by simp [timL]
def timM (a b : List Nat) : DV := takeV (trimN (timL a b) (a.length + b.length)) (.sl ((timL a b).map U32) (a.length + b.length) (some (a.length + b.length)))
theorem timM_mag (a b : List Nat) : Mag (timM a b) (trimL (timL a b)) := by
  have h := takeV_vec (mag_sl (l := timL a b) (cap := some (a.length + b.length)) (timL_len a b)) (trimN_le (timL a b) (timL a b).length)
  rw [timL_len] at h
  unfold timM trimL
  rw [timL_len]; exact h
theorem timL_dig {a b : List Nat} (da : Dig a) (db : Dig b) : Dig (timL a b) := fun d hd => by
  obtain ⟨i, _, rfl⟩ := List.mem_map.1 hd
  exact (outT_facts da db _).1 i
theorem timL_val {a b : List Nat} (da : Dig a) (db : Dig b) : val (timL a b) = val a * val b := by rw [timL, valF_list, times_full da db]
theorem mulN {x y : Nat} (hx : x < B) (hy : y < B) : IntKind.u64.wrap ((x : Int) * (y : Int)) = ((x * y : Nat) : Int) := by
  rw [← Int.natCast_mul]
  refine wide64 ?_
  have : x * y ≤ (B - 1) * (B - 1) := Nat.mul_le_mul (by omega) (by omega)
  exact Nat.lt_of_le_of_lt this (by decide)
set_option maxRecDepth 10000 in
theorem times88 {na nb : Bool} {ma mb : DV} {a b : List Nat} (hma : Mag ma a) (hmb : Mag mb b) (da : Dig a) (db : Dig b) (hla : a.length ≤ 1000) (hlb : b.length ≤ 1000) : DeepCall Try.prog 88 [.agg [DB na, ma], .agg [DB nb, mb]] (.agg [DB (na != nb), timM a b]) := by
  refine deepCall_K 5 Try.func88 rfl (Nat.le_of_ble_eq_true rfl) fun M W0 => ?_
  refine KC.seq ?_
  refine KC.region ?_
  refine KT.step rfl rfl (K.box rfl) ?_
  refine KT.step rfl rfl (K.box rfl) ?_
  refine KT.step rfl rfl (K.alloc Try.zero87) ?_
  refine KT.nil ?_
  refine thenK_n ?_
  refine KC.seq ?_
  refine KC.region ?_
  refine KT.step rfl rfl (K.fieldAddrO rfl Try.fld87_1 Try.size85) ?_
  refine KT.step rfl rfl (K.loadO rfl rfl (by simp) rfl Try.agg85) ?_
  refine KT.step rfl rfl (K.len rfl hma Try.underlying85) ?_
  refine KT.step rfl rfl (K.fieldAddrO rfl Try.fld87_1 Try.size85) ?_
  refine KT.step rfl rfl (K.loadO rfl rfl (by simp) rfl Try.agg85) ?_
  refine KT.step rfl rfl (K.len rfl hmb Try.underlying85) ?_
  refine KT.step rfl rfl (K.add rfl rfl (show IntKind.i64.wrap ((a.length : Int) + (b.length : Int)) = ((a.length + b.length : Nat) : Int) from by rw [wrap_id (by omega)]; omega)) ?_
  refine KT.step rfl rfl (K.make rfl rfl (Nat.le_refl _) (by omega) Try.underlying85 Try.one96) ?_
  rw [cellsU_zero]
  refine KT.step rfl rfl (K.assign rfl) ?_
  refine KT.nil ?_
  refine thenK_n ?_
  refine KC.seq ?_
  refine KC.seq ?_
  refine KC.region ?_
  refine KT.step rfl rfl (K.fieldAddrO rfl Try.fld87_1 Try.size85) ?_
  refine KT.step rfl rfl (K.loadO rfl rfl (by simp) rfl Try.agg85) ?_
  refine KT.step rfl rfl (K.len rfl hma Try.underlying85) ?_
  refine KT.step rfl rfl (K.move rfl) ?_
  refine KT.nil ?_
  refine thenK_n ?_
  refine KC.block ?_
  refine KC.loop (fun i => [⟨[.d (DB na), .d ma], 0⟩, ⟨[.d (DB nb), .d mb], 0⟩, ⟨[.d (DB false), .d Dnil], 0⟩, ⟨cellsU (a.length + b.length) (outT a b i), 0⟩]) (fun i => [(2, .optr 0 0), (3, .optr 1 0), (4, .optr 2 0), (5, .osl 3 0 (a.length + b.length) 1 (a.length + b.length) true), (20, .d ma), (21, .d (DI a.length)), (22, .d (DI i))]) (fun i => i ≤ a.length) (fun i => a.length - i) 0 (Nat.zero_le _) rfl (by simp [Go.Vm.look, extK, enterK]) ?_
  intro i hi
  obtain ⟨o1, o2, _⟩ := outT_facts da db i
  refine KC.seq ?_
  refine KC.region ?_
  refine KT.step rfl rfl (K.lss rfl rfl) ?_
  refine KT.nil ?_
  refine thenK_n ?_
  refine KC.seq ?_
  refine KC.cond rfl (fun hc23 => ?_) (fun hc23 => ?_)
  · skip
    replace hc23 := of_decide_eq_true hc23
    have hia : i < a.length := by omega
    have hA : a.getD i 0 = a[i] := by simp [hia]
    have hab := da _ (List.getElem_mem hia)
    refine KC.skip ?_
    refine thenK_n ?_
    refine KC.seq ?_
    refine KC.block ?_
    refine KC.seq ?_
    refine KC.region ?_
    refine KT.step rfl rfl (K.move rfl) ?_
    refine KT.idx rfl rfl rfl hma rfl hia Try.underlying85 Try.size96 fun c25 cs25 hq25 => ?_
    obtain rfl := hq25
    refine KT.step rfl rfl (K.load rfl Try.agg96) ?_
    refine KT.step rfl rfl (K.assign rfl) ?_
    refine KT.step rfl rfl (K.assign rfl) ?_
    refine KT.nil ?_
    refine thenK_n ?_
    refine KC.seq ?_
    refine KC.region ?_
    refine KT.step rfl rfl (K.assign rfl) ?_
    refine KT.nil ?_
    refine thenK_n ?_
    refine KC.seq ?_
    refine KC.seq ?_
    refine KC.region ?_
    refine KT.step rfl rfl (K.fieldAddrO rfl Try.fld87_1 Try.size85) ?_
    refine KT.step rfl rfl (K.loadO rfl rfl (by simp) rfl Try.agg85) ?_
    refine KT.step rfl rfl (K.len rfl hmb Try.underlying85) ?_
    refine KT.step rfl rfl (K.move rfl) ?_
    refine KT.nil ?_
    refine thenK_n ?_
    refine KC.block ?_
    refine KC.loop (fun k => [⟨[.d (DB na), .d ma], 0⟩, ⟨[.d (DB nb), .d mb], 0⟩, ⟨[.d (DB false), .d Dnil], 0⟩, ⟨cellsU (a.length + b.length) (inn a[i] b i k (0, outT a b i)).2, 0⟩]) (fun k => [(2, .optr 0 0), (3, .optr 1 0), (4, .optr 2 0), (5, .osl 3 0 (a.length + b.length) 1 (a.length + b.length) true), (20, .d ma), (21, .d (DI a.length)), (22, .d (DI i)), (6, .d (DI i)), (7, .d (U32 a[i])), (8, .d (U (inn a[i] b i k (0, outT a b i)).1)), (28, .d mb), (29, .d (DI b.length)), (30, .d (DI k))]) (fun k => k ≤ b.length) (fun k => b.length - k) 0 (Nat.zero_le _) rfl (by simp [Go.Vm.look, extK, inn]) ?_
    intro k hk
    obtain ⟨f1, f2, f3, _⟩ := inn_facts (i := i) hab db o1 k
    obtain ⟨r, hr⟩ : ∃ r, inn a[i] b i k (0, outT a b i) = r := ⟨_, rfl⟩
    rw [hr] at f1 f2 f3 ⊢
    refine KC.seq ?_
    refine KC.region ?_
    refine KT.step rfl rfl (K.lss rfl rfl) ?_
    refine KT.nil ?_
    refine thenK_n ?_
    refine KC.seq ?_
    refine KC.cond rfl (fun hc31 => ?_) (fun hc31 => ?_)
    · skip
      replace hc31 := of_decide_eq_true hc31
      have hkb : k < b.length := by omega
      have hBk : b.getD k 0 = b[k] := by simp [hkb]
      have hbb := db _ (List.getElem_mem hkb)
      have hok := f2 (i + k)
      have hmul : a[i] * b[k] ≤ (B - 1) * (B - 1) := Nat.mul_le_mul (by omega) (by omega)
      have hB2 : (B - 1) * (B - 1) + (B - 1) + (B - 1) < 2 ^ 64 := by decide
      refine KC.skip ?_
      refine thenK_n ?_
      refine KC.seq ?_
      refine KC.block ?_
      refine KC.seq ?_
      refine KC.region ?_
      refine KT.step rfl rfl (K.move rfl) ?_
      refine KT.idx rfl rfl rfl hmb rfl hkb Try.underlying85 Try.size96 fun c33 cs33 hq33 => ?_
      obtain rfl := hq33
      refine KT.step rfl rfl (K.load rfl Try.agg96) ?_
      refine KT.step rfl rfl (K.assign rfl) ?_
      refine KT.step rfl rfl (K.assign rfl) ?_
      refine KT.nil ?_
      refine thenK_n ?_
      refine KC.seq ?_
      refine KC.region ?_
      refine KT.step rfl rfl (K.move rfl) ?_
      refine KT.step rfl rfl (K.move rfl) ?_
      refine KT.step rfl rfl (K.move rfl) ?_
      refine KT.step rfl rfl (K.move rfl) ?_
      refine KT.step rfl rfl (K.add rfl rfl (show IntKind.i64.wrap ((i : Int) + (k : Int)) = ((i + k : Nat) : Int) from by rw [wrap_id (by omega)]; omega)) ?_
      refine KT.step rfl rfl (K.idxO rfl rfl (by omega) Try.underlying85 Try.size96) ?_
      refine KT.step rfl rfl (K.loadO (y := .d (U32 (r.2 (i + k)))) rfl rfl (by simp) (cellsU_get _ (by omega)) Try.agg96) ?_
      refine KT.step rfl rfl (K.conv rfl Try.underlying96 Try.underlying103 (wide32 hok)) ?_
      refine KT.step rfl rfl (K.move rfl) ?_
      refine KT.step rfl rfl (K.conv rfl Try.underlying96 Try.underlying103 (wide32 hab)) ?_
      refine KT.step rfl rfl (K.move rfl) ?_
      refine KT.step rfl rfl (K.conv rfl Try.underlying96 Try.underlying103 (wide32 hbb)) ?_
      refine KT.step rfl rfl (K.mul rfl rfl (mulN hab hbb)) ?_
      refine KT.step rfl rfl (K.add rfl rfl (addN (by omega))) ?_
      refine KT.step rfl rfl (K.add rfl rfl (addN (by omega))) ?_
      refine KT.step rfl rfl (K.assign rfl) ?_
      refine KT.nil ?_
      refine thenK_n ?_
      refine KC.seq ?_
      refine KC.region ?_
      refine KT.step rfl rfl (K.move rfl) ?_
      refine KT.step rfl rfl (K.move rfl) ?_
      refine KT.step rfl rfl (K.move rfl) ?_
      refine KT.step rfl rfl (K.add rfl rfl (show IntKind.i64.wrap ((i : Int) + (k : Int)) = ((i + k : Nat) : Int) from by rw [wrap_id (by omega)]; omega)) ?_
      refine KT.step rfl rfl (K.move rfl) ?_
      refine KT.step rfl rfl (K.conv rfl Try.underlying103 Try.underlying96 (wrapU32 _)) ?_
      refine KT.step rfl rfl (K.idxO rfl rfl (by omega) Try.underlying85 Try.size96) ?_
      refine KT.step rfl rfl (K.storeO rfl rfl rfl (by rw [cellsU_len]; omega) rfl rfl Try.size96) ?_
      refine KT.nil ?_
      refine thenK_n ?_
      refine KC.region ?_
      refine KT.step rfl rfl (K.move rfl) ?_
      refine KT.step rfl rfl (K.shrU (b := 32) rfl rfl (by decide)) ?_
      refine KT.step rfl rfl (K.assign rfl) ?_
      refine KT.nil ?_
      refine blockK_n ?_
      refine thenK_n ?_
      refine KC.region ?_
      refine KT.step rfl rfl (K.add rfl rfl (wrap_id (by omega))) ?_
      refine KT.step rfl rfl (K.move rfl) ?_
      refine KT.nil ?_
      refine thenK_n ?_
      have e2 : inn a[i] b i (k + 1) (0, outT a b i) = ((r.1 + (r.2 (i + k) + a[i] * b[k])) / B, Big.upd r.2 (i + k) ((r.1 + (r.2 (i + k) + a[i] * b[k])) % B)) := by
        simp only [inn]
        rw [hr, hBk]
      refine ⟨k + 1, by omega, by omega, ?_, by rw [e2]; simp [Go.Vm.look, extK, B]⟩
      rw [e2]
      simp only
      rw [← cellsU_set _ (by omega)]
      rfl
    · skip
      replace hc31 := of_decide_eq_false hc31
      obtain rfl : k = b.length := by omega
      rw [← hr] at f1 f2 f3 ⊢
      refine KC.exit ?_
      refine thenK_x ?_
      refine thenK_x ?_
      refine blockK_e ?_
      refine thenK_n ?_
      refine KC.region ?_
      refine KT.step rfl rfl (K.move rfl) ?_
      refine KT.step rfl rfl (K.move rfl) ?_
      refine KT.step rfl rfl (K.fieldAddrO rfl Try.fld87_1 Try.size85) ?_
      refine KT.step rfl rfl (K.loadO rfl rfl (by simp) rfl Try.agg85) ?_
      refine KT.step rfl rfl (K.len rfl hmb Try.underlying85) ?_
      refine KT.step rfl rfl (K.add rfl rfl (show IntKind.i64.wrap ((i : Int) + (b.length : Int)) = ((i + b.length : Nat) : Int) from by rw [wrap_id (by omega)]; omega)) ?_
      refine KT.step rfl rfl (K.move rfl) ?_
      refine KT.step rfl rfl (K.conv rfl Try.underlying103 Try.underlying96 (show IntKind.u32.wrap (((inn a[i] b i b.length (0, outT a b i)).1 : Nat) : Int) = (((inn a[i] b i b.length (0, outT a b i)).1 : Nat) : Int) from by rw [wrapU32, Nat.mod_eq_of_lt f1])) ?_
      refine KT.step rfl rfl (K.idxO rfl rfl (by omega) Try.underlying85 Try.size96) ?_
      refine KT.step rfl rfl (K.storeO rfl rfl rfl (by rw [cellsU_len]; omega) rfl rfl Try.size96) ?_
      refine KT.nil ?_
      refine blockK_n ?_
      refine thenK_n ?_
      refine KC.region ?_
      refine KT.step rfl rfl (K.add rfl rfl (wrap_id (by omega))) ?_
      refine KT.step rfl rfl (K.move rfl) ?_
      refine KT.nil ?_
      refine thenK_n ?_
      refine ⟨i + 1, by omega, by omega, ?_, by simp [Go.Vm.look, extK]⟩
      have e1 : outT a b (i + 1) = Big.upd (inn a[i] b i b.length (0, outT a b i)).2 (i + b.length) (inn a[i] b i b.length (0, outT a b i)).1 := by
        simp only [outT, rowT]
        rw [hA]
      rw [e1, ← cellsU_set _ (by omega)]
      rfl
  · skip
    replace hc23 := of_decide_eq_false hc23
    obtain rfl : i = a.length := by omega
    refine KC.exit ?_
    refine thenK_x ?_
    refine thenK_x ?_
    refine blockK_e ?_
    refine thenK_n ?_
    refine KC.seq ?_
    refine KC.draw Try.mixed ?_
    refine KT.step rfl rfl (K.fieldAddrO rfl Try.fld87_0 Try.size4) ?_
    refine KT.step rfl rfl (K.loadO rfl rfl (by simp) rfl Try.agg4) ?_
    refine KT.step rfl rfl (K.fieldAddrO rfl Try.fld87_0 Try.size4) ?_
    refine KT.step rfl rfl (K.loadO rfl rfl (by simp) rfl Try.agg4) ?_
    refine KT.step rfl rfl (K.neqB Try.underlying4 rfl rfl) ?_
    refine KT.step rfl rfl (K.move rfl) ?_
    have hdp : (([.osl 3 0 (a.length + b.length) 1 (a.length + b.length) true] : List XV).mapM (deepen (freezeIds [⟨[.d (DB na), .d ma], 0⟩, ⟨[.d (DB nb), .d mb], 0⟩, ⟨[.d (DB false), .d Dnil], 0⟩, ⟨cellsU (a.length + b.length) (outT a b a.length), 0⟩] [3]) 5)) = some [.sl ((timL a b).map U32) (a.length + b.length) (some (a.length + b.length))] := by
      rw [List.mapM_cons, deepen_osl (ob := ⟨cellsU (a.length + b.length) (outT a b a.length), 1⟩) rfl rfl (by simp [cellsU]), List.drop_zero, List.take_of_length_le (by simp [cellsU]), cellsU_map, mapM_deep]
      rfl
    have htr := trim107 (mag_sl (l := timL a b) (cap := some (a.length + b.length)) (timL_len a b)) (by rw [timL_len]; omega)
    rw [timL_len] at htr
    have hsl : SlD (timM a b) := SlD.of (timM_mag a b)
    refine KT.step rfl rfl (K.callZ [3] 5 rfl plainTry_107 hdp htr) ?_
    refine KT.step rfl rfl (K.build2 (m := timM a b) rfl rfl hsl) ?_
    refine KT.step rfl rfl (K.storeN rfl rfl rfl (by rw [mk2_cells hsl]; simp [Value.cells]) (by rw [mk2_cells hsl]; simp only [List.all_cons, hsl.one]; rfl) (by rw [mk2_cells hsl]; exact Try.size87)) ?_
    refine KT.nil ?_
    refine ⟨by kernel_rfl, ?_⟩
    refine thenK_n ?_
    refine KC.ret ?_
    refine ⟨.inl rfl, _, resK_agg (m := 2) rfl rfl rfl (by simp) Try.agg87 Try.size87 (by rw [mk2_cells hsl]; simp [splice, Value.cells]), ?_⟩
    rw [mk2_cells hsl]
    rfl
end Go.Proofs.Ytlomhajhoecoiaa
