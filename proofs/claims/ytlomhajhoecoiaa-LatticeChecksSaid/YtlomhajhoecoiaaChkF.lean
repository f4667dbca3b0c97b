/-
  CONTRACTS for LatticeChecks: sums and products of big numbers.
-/
import Derived.Test.YtlomhajhoecoiaaChkE
namespace Go.Proofs.Ytlomhajhoecoiaa
open Go.Vm Go.Big
section
variable {P : Program} {σ : List VObj} {kn : Kn} {dst : Option Tmp} {ty : TypeId} {pos : String} {af : Array Edge} {g : Option (Nat × Bool)}
theorem K.neqB {t u : TypeId} {x y : Operand} {a b : Bool} (ht : P.underlying t = some .bool) (hx : evK kn x = some (.d (DB a))) (hy : evK kn y = some (.d (DB b))) :
    KEv P ⟨dst, .binOp .neq t x y u, ty, pos, af, g⟩ σ kn (.d (DB (a != b))) σ 0 := K.bin hx hy (by
    rw [pureRun_bind]
    show (some ()).bind _ = _
    simp only [Option.bind_some]
    show pureRun P (do pure (Value.bool (!(← Op.equal t (.bool a) (.bool b)))) : Sem Value) = _
    rw [pureRun_bind, equal_bool ht]; rfl)
end
/-- A struct of a sign and digits, just built. -/
def mk2 (b : Bool) (m : DV) : DV := if isNilD m then .lit (.agg #[.bool b, .slice none 0 0]) else .agg [DB b, m]
theorem mk2_cells {b : Bool} {m : DV} (h : SlD m) : cellsX (.d (mk2 b m)) = [.d (DB b), .d m] := by cases h <;> rfl
theorem build87b (b : Bool) : pureRun Try.prog (Instr.build 87 #[(0, .bool b), (1, .slice none 0 0)]) = some (.agg #[.bool b, .slice none 0 0]) := by kernel_rfl
set_option maxRecDepth 4000 in
theorem build87m {b : Bool} {m : DV} (h : SlD m) : opBuild Try.prog 87 [(0, .d (DB b)), (1, .d m)] = some (.d (.agg [DB b, m])) := by
  have hp := Try.places87
  rw [Try.underlying87] at hp
  simp only at hp
  have e1 : ((#[(0, 1), (1, 1)] : Array (Nat × Nat))[0]?) = some (0, 1) := rfl
  have e2 : ((#[(0, 1), (1, 1)] : Array (Nat × Nat))[1]?) = some (1, 1) := rfl
  have e3 : cellsX (.d (DB b)) = [.d (DB b)] := rfl
  simp [opBuild, Try.zero87, Try.underlying87, hp, fillP, h.cells, e3, splice, Value.cells, aggX, allD]
theorem K.build2 {σ : List VObj} {kn : Kn} {dst : Option Tmp} {ty : TypeId} {pos : String} {af : Array Edge} {g : Option (Nat × Bool)} {x y : Operand} {b : Bool} {m : DV} (hx : evK kn x = some (.d (DB b))) (hy : evK kn y = some (.d m)) (h : SlD m) :
    KEv Try.prog ⟨dst, .build 87 #[(0, x), (1, y)], ty, pos, af, g⟩ σ kn (.d (mk2 b m)) σ 0 := by
  cases h with
  | nil => exact K.buildL (us := [(0, .bool b), (1, .slice none 0 0)]) (by simp [hx, hy, litOf]) (build87b b)
  | sl cs len cap => exact K.build (x := y) (qs := [(0, .d (DB b)), (1, .d (.sl cs len cap))]) (by simp [hx, hy]) (by simp) hy rfl (build87m (.sl cs len cap))
theorem take_sl {α : Type} {R : DV → α → Prop} {d : DV} {l : List α} {k : Nat} (h : Vec R d l) (hk : k ≤ l.length) : SlD (takeV k d) := SlD.of (takeV_vec h hk)

theorem above_le {a b : List Nat} (ca : Big.Can a) (db : Dig b) (h : aboveB b a = false) : b.length ≤ a.length ∧ val b ≤ val a := by
  unfold aboveB at h
  by_cases e : b.length = a.length
  · rw [if_neg (by omega)] at h
    simp at h
    exact ⟨by omega, h⟩
  · rw [if_pos e] at h
    simp at h
    have h1 : b.length < a.length := by omega
    have h2 := val_ge ca (by omega)
    have h3 := val_lt db
    have h4 : B ^ b.length ≤ B ^ (a.length - 1) := Nat.pow_le_pow_right (by decide) (by omega)
    exact ⟨by omega, by omega⟩
theorem above_ge {a b : List Nat} (cb : Big.Can b) (da : Dig a) (h : aboveB b a = true) : a.length ≤ b.length ∧ val a ≤ val b := by
  unfold aboveB at h
  by_cases e : b.length = a.length
  · rw [if_neg (by omega)] at h
    simp at h
    exact ⟨by omega, by omega⟩
  · rw [if_pos e] at h
    simp at h
    have h2 := val_ge cb (by omega)
    have h3 := val_lt da
    have h4 : B ^ a.length ≤ B ^ (b.length - 1) := Nat.pow_le_pow_right (by decide) (by omega)
    exact ⟨by omega, by omega⟩
def sumN (a b : List Nat) : Nat := max a.length b.length + car a b (max a.length b.length)
def sumL (a b : List Nat) : List Nat := (List.range (sumN a b)).map (sumDig a b)
def sumM (a b : List Nat) : DV := takeV (trimN (sumL a b) (sumL a b).length) (slOf ((sumL a b).map U32))
theorem car_end {a b : List Nat} (da : Dig a) (db : Dig b) : car a b (max a.length b.length + 1) = 0 := by
  have h1 := car_le da db (max a.length b.length)
  simp only [car]
  rw [show a.getD (max a.length b.length) 0 = 0 by simp [show ¬ max a.length b.length < a.length by omega], show b.getD (max a.length b.length) 0 = 0 by simp [show ¬ max a.length b.length < b.length by omega]]
  exact Nat.div_eq_of_lt (by simp only [B]; omega)
theorem sumL_dig (a b : List Nat) : Dig (sumL a b) := fun d hd => by
  obtain ⟨i, _, rfl⟩ := List.mem_map.1 hd
  exact Nat.mod_lt _ (by decide)
theorem sumL_val {a b : List Nat} (da : Dig a) (db : Dig b) : val (sumL a b) = val a + val b := by
  have hc : car a b (sumN a b) = 0 := by
    unfold sumN
    have h1 := car_le da db (max a.length b.length)
    rcases Nat.lt_or_ge 0 (car a b (max a.length b.length)) with h | h
    · rw [show car a b (max a.length b.length) = 1 by omega]; exact car_end da db
    · rw [show car a b (max a.length b.length) = 0 by omega]; simpa using (show car a b (max a.length b.length) = 0 by omega)
  have h := sum_val a b (sumN a b)
  rw [hc, valF_more a _ (by unfold sumN; omega), valF_more b _ (by unfold sumN; omega)] at h
  rw [sumL, valF_list]; omega
theorem sumM_mag (a b : List Nat) : Mag (sumM a b) (trimL (sumL a b)) := takeV_vec (mag_slOf _) (trimN_le _ _)
theorem addN {x y : Nat} (h : x + y < 2 ^ 64) : IntKind.u64.wrap ((x : Int) + (y : Int)) = ((x + y : Nat) : Int) := by
  rw [show (x : Int) + (y : Int) = ((x + y : Nat) : Int) by omega]; exact wide64 h
structure SumI (na nb : Bool) (ma mb : DV) (a b : List Nat) (σ : List VObj) (x : XV) (i : Nat) : Prop where
  le : i ≤ sumN a b
  h0 : σ[0]? = some ⟨[.d (DB na), .d ma], 0⟩
  h1 : σ[1]? = some ⟨[.d (DB nb), .d mb], 0⟩
  h2 : σ[2]? = some ⟨[.d (DB false), .d Dnil], 0⟩
  own : OwnK 1 σ x (digX ((List.range i).map (sumDig a b)))
  id0 : ∀ j, idX x = some j → 3 ≤ j
  nil : (List.range i).map (sumDig a b) = [] → x = .d Dnil
def sumD (na nb : Bool) (a b : List Nat) : DV :=
  if na != nb then (if aboveB b a then .agg [DB nb, minusD b a] else .agg [DB na, minusD a b]) else .agg [DB na, sumM a b]
set_option maxRecDepth 10000 in
theorem sum87 {na nb : Bool} {ma mb : DV} {a b : List Nat} (hma : Mag ma a) (hmb : Mag mb b) (da : Dig a) (db : Dig b) (hla : a.length ≤ 1000) (hlb : b.length ≤ 1000) : DeepCall Try.prog 87 [.agg [DB na, ma], .agg [DB nb, mb]] (sumD na nb a b) := by
  have sa := SlD.of hma
  have sb := SlD.of hmb
  have hla : a.length ≤ 1073741824 := by omega
  have hlb : b.length ≤ 1073741824 := by omega
  refine deepCall_K 5 Try.func87 rfl (Nat.le_of_ble_eq_true rfl) fun M W0 => ?_
  refine KC.seq ?_
  refine KC.region ?_
  refine KT.step rfl rfl (K.box rfl) ?_
  refine KT.step rfl rfl (K.box rfl) ?_
  refine KT.step rfl rfl (K.alloc Try.zero87) ?_
  refine KT.nil ?_
  refine thenK_n ?_
  refine KC.seq ?_
  refine KC.seq ?_
  refine KC.region ?_
  refine KT.step rfl rfl (K.fieldAddrO rfl Try.fld87_0 Try.size4) ?_
  refine KT.step rfl rfl (K.loadO rfl rfl (by simp) rfl Try.agg4) ?_
  refine KT.step rfl rfl (K.fieldAddrO rfl Try.fld87_0 Try.size4) ?_
  refine KT.step rfl rfl (K.loadO rfl rfl (by simp) rfl Try.agg4) ?_
  refine KT.step rfl rfl (K.neqB Try.underlying4 rfl rfl) ?_
  refine KT.nil ?_
  refine thenK_n ?_
  refine KC.cond rfl (fun hc12 => ?_) (fun hc12 => ?_)
  · skip
    refine KC.seq ?_
    refine KC.seq ?_
    refine KC.region ?_
    refine KT.step rfl rfl (K.fieldAddrO rfl Try.fld87_1 Try.size85) ?_
    refine KT.step rfl rfl (K.loadO rfl rfl (by simp) rfl Try.agg85) ?_
    refine KT.step rfl rfl (K.fieldAddrO rfl Try.fld87_1 Try.size85) ?_
    refine KT.step rfl rfl (K.loadO rfl rfl (by simp) rfl Try.agg85) ?_
    refine KT.step rfl rfl (K.call2 rfl rfl plainTry_105 (above105 hmb hma db da (by omega) (by omega))) ?_
    refine KT.nil ?_
    refine thenK_n ?_
    refine KC.cond rfl (fun hc17 => ?_) (fun hc17 => ?_)
    · skip
      refine KC.region ?_
      refine KT.step rfl rfl (K.loadOAgg (m := 2) rfl rfl (by simp) Try.agg87 Try.size87 (by simp [cellsX])) ?_
      refine KT.step rfl rfl (K.loadOAgg (m := 2) rfl rfl (by simp) Try.agg87 Try.size87 (by simp [cellsX])) ?_
      refine KT.step rfl rfl (K.storeN (v := .d (.agg [DB nb, mb])) rfl rfl rfl (by simp [cellsX]) (by simp only [cellsX, List.map_cons, List.all_cons, sb.one]; rfl) Try.size87) ?_
      refine KT.step rfl rfl (K.storeN (v := .d (.agg [DB na, ma])) rfl rfl rfl (by simp [cellsX]) (by simp only [cellsX, List.map_cons, List.all_cons, sa.one]; rfl) Try.size87) ?_
      refine KT.nil ?_
      refine thenK_n ?_
      refine KC.seq ?_
      refine KC.draw Try.mixed ?_
      refine KT.step rfl rfl (K.fieldAddrO rfl Try.fld87_0 Try.size4) ?_
      refine KT.step rfl rfl (K.loadO rfl rfl (by simp) rfl Try.agg4) ?_
      refine KT.step rfl rfl (K.fieldAddrO rfl Try.fld87_1 Try.size85) ?_
      refine KT.step rfl rfl (K.loadO rfl rfl (by simp) rfl Try.agg85) ?_
      refine KT.step rfl rfl (K.fieldAddrO rfl Try.fld87_1 Try.size85) ?_
      refine KT.step rfl rfl (K.loadO rfl rfl (by simp) rfl Try.agg85) ?_
      first
        | refine KT.step rfl rfl (K.call2 rfl rfl plainTry_106 (minus106 hmb hma db da hlb hla)) ?_
        | refine KT.step rfl rfl (K.call2 rfl rfl plainTry_106 (minus106 hma hmb da db hla hlb)) ?_
      first
        | have hsl : SlD (minusD b a) := SlD.of (minusD_mag _ _)
          refine KT.step rfl rfl (K.build2 rfl rfl hsl) ?_
        | have hsl : SlD (minusD a b) := SlD.of (minusD_mag _ _)
          refine KT.step rfl rfl (K.build2 rfl rfl hsl) ?_
      refine KT.step rfl rfl (K.storeN rfl rfl rfl (by rw [mk2_cells hsl]; simp [Value.cells]) (by rw [mk2_cells hsl]; simp only [List.all_cons, hsl.one]; rfl) (by rw [mk2_cells hsl]; exact Try.size87)) ?_
      refine KT.nil ?_
      refine ⟨by kernel_rfl, ?_⟩
      refine thenK_n ?_
      refine KC.ret ?_
      refine thenK_r ?_
      refine ⟨.inl rfl, _, resK_agg (m := 2) rfl rfl rfl (by simp) Try.agg87 Try.size87 (by rw [mk2_cells hsl]; simp [splice, Value.cells]), ?_⟩
      rw [mk2_cells hsl]
      unfold sumD
      rw [if_pos hc12, if_pos hc17]
      rfl
    · skip
      refine KC.skip ?_
      refine thenK_n ?_
      refine KC.seq ?_
      refine KC.draw Try.mixed ?_
      refine KT.step rfl rfl (K.fieldAddrO rfl Try.fld87_0 Try.size4) ?_
      refine KT.step rfl rfl (K.loadO rfl rfl (by simp) rfl Try.agg4) ?_
      refine KT.step rfl rfl (K.fieldAddrO rfl Try.fld87_1 Try.size85) ?_
      refine KT.step rfl rfl (K.loadO rfl rfl (by simp) rfl Try.agg85) ?_
      refine KT.step rfl rfl (K.fieldAddrO rfl Try.fld87_1 Try.size85) ?_
      refine KT.step rfl rfl (K.loadO rfl rfl (by simp) rfl Try.agg85) ?_
      first
        | refine KT.step rfl rfl (K.call2 rfl rfl plainTry_106 (minus106 hmb hma db da hlb hla)) ?_
        | refine KT.step rfl rfl (K.call2 rfl rfl plainTry_106 (minus106 hma hmb da db hla hlb)) ?_
      first
        | have hsl : SlD (minusD b a) := SlD.of (minusD_mag _ _)
          refine KT.step rfl rfl (K.build2 rfl rfl hsl) ?_
        | have hsl : SlD (minusD a b) := SlD.of (minusD_mag _ _)
          refine KT.step rfl rfl (K.build2 rfl rfl hsl) ?_
      refine KT.step rfl rfl (K.storeN rfl rfl rfl (by rw [mk2_cells hsl]; simp [Value.cells]) (by rw [mk2_cells hsl]; simp only [List.all_cons, hsl.one]; rfl) (by rw [mk2_cells hsl]; exact Try.size87)) ?_
      refine KT.nil ?_
      refine ⟨by kernel_rfl, ?_⟩
      refine thenK_n ?_
      refine KC.ret ?_
      refine thenK_r ?_
      refine ⟨.inl rfl, _, resK_agg (m := 2) rfl rfl rfl (by simp) Try.agg87 Try.size87 (by rw [mk2_cells hsl]; simp [splice, Value.cells]), ?_⟩
      rw [mk2_cells hsl]
      unfold sumD
      rw [if_pos hc12, if_neg (by simp [hc17])]
      rfl
  · skip
    refine KC.skip ?_
    refine thenK_n ?_
    refine KC.seq ?_
    refine KC.region ?_
    refine KT.step rfl rfl (K.assign rfl) ?_
    refine KT.nil ?_
    refine thenK_n ?_
    refine KC.seq ?_
    refine KC.region ?_
    refine KT.step rfl rfl (K.assign rfl) ?_
    refine KT.nil ?_
    refine thenK_n ?_
    refine KC.seq ?_
    refine KC.seq ?_
    refine KC.region ?_
    refine KT.step rfl rfl (K.assign rfl) ?_
    refine KT.nil ?_
    refine thenK_n ?_
    refine KC.block ?_
    refine KC.loop (fun p : List VObj × XV × Nat => p.1) (fun p => [(2, .optr 0 0), (3, .optr 1 0), (4, .optr 2 0), (5, p.2.1), (6, .d (U (car a b p.2.2))), (7, .d (DI (p.2.2 : Nat)))]) (fun p => SumI na nb ma mb a b p.1 p.2.1 p.2.2) (fun p => sumN a b - p.2.2) ([⟨[.d (DB na), .d ma], 0⟩, ⟨[.d (DB nb), .d mb], 0⟩, ⟨[.d (DB false), .d Dnil], 0⟩], .d Dnil, 0) ⟨Nat.zero_le _, rfl, rfl, rfl, .nil, (fun j h => by cases h), fun _ => rfl⟩ rfl (by simp [Go.Vm.look, extK, enterK, car]) ?_
    intro p hp
    obtain ⟨σ0, x0, i⟩ := p
    obtain ⟨le, h0, h1, h2, own, id0, nil⟩ := hp
    simp only at le h0 h1 h2 own id0 nil ⊢
    have hcar := car_le da db i
    have hmx : car a b (max a.length b.length) ≤ 1 := car_le da db _
    have hsN : sumN a b ≤ 1001 + 1000000 := by unfold sumN; omega
    refine KC.seq ?_
    refine KC.seq ?_
    refine KC.region ?_
    refine KT.step rfl rfl (K.move rfl) ?_
    refine KT.step rfl rfl (K.fieldAddrO rfl Try.fld87_1 Try.size85) ?_
    refine KT.step rfl rfl (K.loadO rfl h0 (by simp) rfl Try.agg85) ?_
    refine KT.step rfl rfl (K.len rfl hma Try.underlying85) ?_
    refine KT.step rfl rfl (K.lss rfl rfl) ?_
    refine KT.step rfl rfl (K.move rfl) ?_
    refine KT.bcase (fun hb33 => ?_) (fun hb33 => ?_)
    · skip
      replace hb33 := of_decide_eq_true hb33
      have hsn : i + 1 ≤ sumN a b := by
        unfold sumN
        omega
      refine KT.skip rfl rfl ?_
      refine KT.skip rfl rfl ?_
      refine KT.skip rfl rfl ?_
      refine KT.skip rfl rfl ?_
      refine KT.skip rfl rfl ?_
      refine KT.step rfl rfl (K.pick rfl (fun _ => rfl) (fun h => by cases h)) ?_
      refine KT.step rfl rfl (K.move rfl) ?_
      refine KT.skip rfl rfl ?_
      refine KT.skip rfl rfl ?_
      refine KT.step rfl rfl (K.pick rfl (fun _ => rfl) (fun h => by cases h)) ?_
      refine KT.nil ?_
      refine thenK_n ?_
      refine KC.cond rfl (fun hc43 => ?_) (fun hc43 => ?_)
      · skip
        refine KC.skip ?_
        refine thenK_n ?_
        refine KC.seq ?_
        refine KC.block ?_
        refine KC.seq ?_
        refine KC.seq ?_
        refine KC.region ?_
        refine KT.step rfl rfl (K.move rfl) ?_
        refine KT.step rfl rfl (K.fieldAddrO rfl Try.fld87_1 Try.size85) ?_
        refine KT.step rfl rfl (K.loadO rfl h0 (by simp) rfl Try.agg85) ?_
        refine KT.step rfl rfl (K.len rfl hma Try.underlying85) ?_
        refine KT.step rfl rfl (K.lss rfl rfl) ?_
        refine KT.nil ?_
        refine thenK_n ?_
        refine KC.cond rfl (fun hc50 => ?_) (fun hc50 => ?_)
        · skip
          replace hc50 := of_decide_eq_true hc50
          have hia : i < a.length := by omega
          have hA : a.getD i 0 = a[i] := by simp [hia]
          have hab := da _ (List.getElem_mem hia)
          refine KC.region ?_
          refine KT.step rfl rfl (K.move rfl) ?_
          refine KT.step rfl rfl (K.fieldAddrO rfl Try.fld87_1 Try.size85) ?_
          refine KT.step rfl rfl (K.loadO rfl h0 (by simp) rfl Try.agg85) ?_
          refine KT.step rfl rfl (K.move rfl) ?_
          refine KT.idx rfl rfl rfl hma rfl hia Try.underlying85 Try.size96 fun c55 cs55 hq55 => ?_
          obtain rfl := hq55
          refine KT.step rfl rfl (K.load rfl Try.agg96) ?_
          refine KT.step rfl rfl (K.conv rfl Try.underlying96 Try.underlying103 (wide32 hab)) ?_
          refine KT.step rfl rfl (K.add rfl rfl (addN (by simp only [B] at hab; omega))) ?_
          refine KT.step rfl rfl (K.assign rfl) ?_
          refine KT.nil ?_
          refine thenK_n ?_
          refine KC.seq ?_
          refine KC.seq ?_
          refine KC.region ?_
          refine KT.step rfl rfl (K.move rfl) ?_
          refine KT.step rfl rfl (K.fieldAddrO rfl Try.fld87_1 Try.size85) ?_
          refine KT.step rfl rfl (K.loadO rfl h1 (by simp) rfl Try.agg85) ?_
          refine KT.step rfl rfl (K.len rfl hmb Try.underlying85) ?_
          refine KT.step rfl rfl (K.lss rfl rfl) ?_
          refine KT.nil ?_
          refine thenK_n ?_
          refine KC.cond rfl (fun hc63 => ?_) (fun hc63 => ?_)
          · skip
            replace hc63 := of_decide_eq_true hc63
            have hib : i < b.length := by omega
            have hB : b.getD i 0 = b[i] := by simp [hib]
            have hbb := db _ (List.getElem_mem hib)
            refine KC.region ?_
            refine KT.step rfl rfl (K.move rfl) ?_
            refine KT.step rfl rfl (K.fieldAddrO rfl Try.fld87_1 Try.size85) ?_
            refine KT.step rfl rfl (K.loadO rfl h1 (by simp) rfl Try.agg85) ?_
            refine KT.step rfl rfl (K.move rfl) ?_
            refine KT.idx rfl rfl rfl hmb rfl hib Try.underlying85 Try.size96 fun c68 cs68 hq68 => ?_
            obtain rfl := hq68
            refine KT.step rfl rfl (K.load rfl Try.agg96) ?_
            refine KT.step rfl rfl (K.conv rfl Try.underlying96 Try.underlying103 (wide32 hbb)) ?_
            refine KT.step rfl rfl (K.add rfl rfl (addN (by simp only [B] at *; omega))) ?_
            refine KT.step rfl rfl (K.assign rfl) ?_
            refine KT.nil ?_
            refine thenK_n ?_
            refine KC.seq ?_
            refine KC.region ?_
            refine KT.step rfl rfl (K.move rfl) ?_
            refine KT.step rfl rfl (K.move rfl) ?_
            refine KT.step rfl rfl (K.conv rfl Try.underlying103 Try.underlying96 (show _ = ((sumDig a b i : Nat) : Int) from by rw [wrapU32]; unfold sumDig; rw [hA, hB]; try (simp only [Nat.add_zero]))) ?_
            refine KT.step rfl rfl (K.build1' (v := .d (U32 (sumDig a b i))) rfl rfl Try.underlying85 Try.one96) ?_
            refine KT.appK (k := 1) (vs := [.d (U32 (sumDig a b i))]) rfl rfl rfl rfl (own.pushed _) (by simp) rfl rfl (by simp [digX]; omega) Try.underlying85 Try.size96 bytes96 cells96 (by omega) fun σ1 x1 ho1 k1 w1 => ?_
            refine KT.step rfl rfl (K.assign rfl) ?_
            refine KT.nil ?_
            refine thenK_n ?_
            refine KC.region ?_
            refine KT.step rfl rfl (K.move rfl) ?_
            refine KT.step rfl rfl (K.shrU (b := 32) rfl rfl (by decide)) ?_
            refine KT.step rfl rfl (K.assign rfl) ?_
            refine KT.nil ?_
            refine blockK_n ?_
            refine thenK_n ?_
            refine KC.region ?_
            refine KT.step rfl rfl (K.move rfl) ?_
            refine KT.step rfl rfl (K.add rfl rfl (wrap_id (by omega))) ?_
            refine KT.step rfl rfl (K.assign rfl) ?_
            refine KT.nil ?_
            refine thenK_n ?_
            have hcn : car a b (i + 1) = ((car a b i + a[i]) + b[i]) / 2 ^ 32 := by simp only [car]; rw [hA, hB]; try (simp only [Nat.add_zero]; try rfl)
            refine ⟨(σ1, x1, i + 1), ⟨hsn, ?_, ?_, ?_, ?_, ?_, ?_⟩, by simp only; omega, rfl, by simp [Go.Vm.look, extK, hcn]⟩
            · rw [k1 0 (fun e => by have := id0 _ e; omega) (by simp), List.getElem?_append_left (List.getElem?_eq_some_iff.1 h0).1]; exact h0
            · rw [k1 1 (fun e => by have := id0 _ e; omega) (by have := (List.getElem?_eq_some_iff.1 h1).1; simp; omega), List.getElem?_append_left (List.getElem?_eq_some_iff.1 h1).1]; exact h1
            · rw [k1 2 (fun e => by have := id0 _ e; omega) (by have := (List.getElem?_eq_some_iff.1 h2).1; simp; omega), List.getElem?_append_left (List.getElem?_eq_some_iff.1 h2).1]; exact h2
            · rw [List.range_succ, List.map_append]
              simpa [digX] using ho1
            · intro j hj; obtain ⟨j', a1, a2⟩ := w1; rw [a1] at hj; cases hj; have := (List.getElem?_eq_some_iff.1 h2).1; simp at a2; omega
            · intro e; simp at e
          · skip
            replace hc63 := of_decide_eq_false hc63
            have hB : b.getD i 0 = 0 := by simp [show ¬ i < b.length by omega]
            refine KC.skip ?_
            refine thenK_n ?_
            refine KC.seq ?_
            refine KC.region ?_
            refine KT.step rfl rfl (K.move rfl) ?_
            refine KT.step rfl rfl (K.move rfl) ?_
            refine KT.step rfl rfl (K.conv rfl Try.underlying103 Try.underlying96 (show _ = ((sumDig a b i : Nat) : Int) from by rw [wrapU32]; unfold sumDig; rw [hA, hB]; try (simp only [Nat.add_zero]))) ?_
            refine KT.step rfl rfl (K.build1' (v := .d (U32 (sumDig a b i))) rfl rfl Try.underlying85 Try.one96) ?_
            refine KT.appK (k := 1) (vs := [.d (U32 (sumDig a b i))]) rfl rfl rfl rfl (own.pushed _) (by simp) rfl rfl (by simp [digX]; omega) Try.underlying85 Try.size96 bytes96 cells96 (by omega) fun σ1 x1 ho1 k1 w1 => ?_
            refine KT.step rfl rfl (K.assign rfl) ?_
            refine KT.nil ?_
            refine thenK_n ?_
            refine KC.region ?_
            refine KT.step rfl rfl (K.move rfl) ?_
            refine KT.step rfl rfl (K.shrU (b := 32) rfl rfl (by decide)) ?_
            refine KT.step rfl rfl (K.assign rfl) ?_
            refine KT.nil ?_
            refine blockK_n ?_
            refine thenK_n ?_
            refine KC.region ?_
            refine KT.step rfl rfl (K.move rfl) ?_
            refine KT.step rfl rfl (K.add rfl rfl (wrap_id (by omega))) ?_
            refine KT.step rfl rfl (K.assign rfl) ?_
            refine KT.nil ?_
            refine thenK_n ?_
            have hcn : car a b (i + 1) = (car a b i + a[i]) / 2 ^ 32 := by simp only [car]; rw [hA, hB]; try (simp only [Nat.add_zero]; try rfl)
            refine ⟨(σ1, x1, i + 1), ⟨hsn, ?_, ?_, ?_, ?_, ?_, ?_⟩, by simp only; omega, rfl, by simp [Go.Vm.look, extK, hcn]⟩
            · rw [k1 0 (fun e => by have := id0 _ e; omega) (by simp), List.getElem?_append_left (List.getElem?_eq_some_iff.1 h0).1]; exact h0
            · rw [k1 1 (fun e => by have := id0 _ e; omega) (by have := (List.getElem?_eq_some_iff.1 h1).1; simp; omega), List.getElem?_append_left (List.getElem?_eq_some_iff.1 h1).1]; exact h1
            · rw [k1 2 (fun e => by have := id0 _ e; omega) (by have := (List.getElem?_eq_some_iff.1 h2).1; simp; omega), List.getElem?_append_left (List.getElem?_eq_some_iff.1 h2).1]; exact h2
            · rw [List.range_succ, List.map_append]
              simpa [digX] using ho1
            · intro j hj; obtain ⟨j', a1, a2⟩ := w1; rw [a1] at hj; cases hj; have := (List.getElem?_eq_some_iff.1 h2).1; simp at a2; omega
            · intro e; simp at e
        · skip
          replace hc50 := of_decide_eq_false hc50
          have hA : a.getD i 0 = 0 := by simp [show ¬ i < a.length by omega]
          refine KC.skip ?_
          refine thenK_n ?_
          refine KC.seq ?_
          refine KC.seq ?_
          refine KC.region ?_
          refine KT.step rfl rfl (K.move rfl) ?_
          refine KT.step rfl rfl (K.fieldAddrO rfl Try.fld87_1 Try.size85) ?_
          refine KT.step rfl rfl (K.loadO rfl h1 (by simp) rfl Try.agg85) ?_
          refine KT.step rfl rfl (K.len rfl hmb Try.underlying85) ?_
          refine KT.step rfl rfl (K.lss rfl rfl) ?_
          refine KT.nil ?_
          refine thenK_n ?_
          refine KC.cond rfl (fun hc63 => ?_) (fun hc63 => ?_)
          · skip
            replace hc63 := of_decide_eq_true hc63
            have hib : i < b.length := by omega
            have hB : b.getD i 0 = b[i] := by simp [hib]
            have hbb := db _ (List.getElem_mem hib)
            refine KC.region ?_
            refine KT.step rfl rfl (K.move rfl) ?_
            refine KT.step rfl rfl (K.fieldAddrO rfl Try.fld87_1 Try.size85) ?_
            refine KT.step rfl rfl (K.loadO rfl h1 (by simp) rfl Try.agg85) ?_
            refine KT.step rfl rfl (K.move rfl) ?_
            refine KT.idx rfl rfl rfl hmb rfl hib Try.underlying85 Try.size96 fun c68 cs68 hq68 => ?_
            obtain rfl := hq68
            refine KT.step rfl rfl (K.load rfl Try.agg96) ?_
            refine KT.step rfl rfl (K.conv rfl Try.underlying96 Try.underlying103 (wide32 hbb)) ?_
            refine KT.step rfl rfl (K.add rfl rfl (addN (by simp only [B] at *; omega))) ?_
            refine KT.step rfl rfl (K.assign rfl) ?_
            refine KT.nil ?_
            refine thenK_n ?_
            refine KC.seq ?_
            refine KC.region ?_
            refine KT.step rfl rfl (K.move rfl) ?_
            refine KT.step rfl rfl (K.move rfl) ?_
            refine KT.step rfl rfl (K.conv rfl Try.underlying103 Try.underlying96 (show _ = ((sumDig a b i : Nat) : Int) from by rw [wrapU32]; unfold sumDig; rw [hA, hB]; try (simp only [Nat.add_zero]))) ?_
            refine KT.step rfl rfl (K.build1' (v := .d (U32 (sumDig a b i))) rfl rfl Try.underlying85 Try.one96) ?_
            refine KT.appK (k := 1) (vs := [.d (U32 (sumDig a b i))]) rfl rfl rfl rfl (own.pushed _) (by simp) rfl rfl (by simp [digX]; omega) Try.underlying85 Try.size96 bytes96 cells96 (by omega) fun σ1 x1 ho1 k1 w1 => ?_
            refine KT.step rfl rfl (K.assign rfl) ?_
            refine KT.nil ?_
            refine thenK_n ?_
            refine KC.region ?_
            refine KT.step rfl rfl (K.move rfl) ?_
            refine KT.step rfl rfl (K.shrU (b := 32) rfl rfl (by decide)) ?_
            refine KT.step rfl rfl (K.assign rfl) ?_
            refine KT.nil ?_
            refine blockK_n ?_
            refine thenK_n ?_
            refine KC.region ?_
            refine KT.step rfl rfl (K.move rfl) ?_
            refine KT.step rfl rfl (K.add rfl rfl (wrap_id (by omega))) ?_
            refine KT.step rfl rfl (K.assign rfl) ?_
            refine KT.nil ?_
            refine thenK_n ?_
            have hcn : car a b (i + 1) = (car a b i + b[i]) / 2 ^ 32 := by simp only [car]; rw [hA, hB]; try (simp only [Nat.add_zero]; try rfl)
            refine ⟨(σ1, x1, i + 1), ⟨hsn, ?_, ?_, ?_, ?_, ?_, ?_⟩, by simp only; omega, rfl, by simp [Go.Vm.look, extK, hcn]⟩
            · rw [k1 0 (fun e => by have := id0 _ e; omega) (by simp), List.getElem?_append_left (List.getElem?_eq_some_iff.1 h0).1]; exact h0
            · rw [k1 1 (fun e => by have := id0 _ e; omega) (by have := (List.getElem?_eq_some_iff.1 h1).1; simp; omega), List.getElem?_append_left (List.getElem?_eq_some_iff.1 h1).1]; exact h1
            · rw [k1 2 (fun e => by have := id0 _ e; omega) (by have := (List.getElem?_eq_some_iff.1 h2).1; simp; omega), List.getElem?_append_left (List.getElem?_eq_some_iff.1 h2).1]; exact h2
            · rw [List.range_succ, List.map_append]
              simpa [digX] using ho1
            · intro j hj; obtain ⟨j', a1, a2⟩ := w1; rw [a1] at hj; cases hj; have := (List.getElem?_eq_some_iff.1 h2).1; simp at a2; omega
            · intro e; simp at e
          · skip
            replace hc63 := of_decide_eq_false hc63
            have hB : b.getD i 0 = 0 := by simp [show ¬ i < b.length by omega]
            refine KC.skip ?_
            refine thenK_n ?_
            refine KC.seq ?_
            refine KC.region ?_
            refine KT.step rfl rfl (K.move rfl) ?_
            refine KT.step rfl rfl (K.move rfl) ?_
            refine KT.step rfl rfl (K.conv rfl Try.underlying103 Try.underlying96 (show _ = ((sumDig a b i : Nat) : Int) from by rw [wrapU32]; unfold sumDig; rw [hA, hB]; try (simp only [Nat.add_zero]))) ?_
            refine KT.step rfl rfl (K.build1' (v := .d (U32 (sumDig a b i))) rfl rfl Try.underlying85 Try.one96) ?_
            refine KT.appK (k := 1) (vs := [.d (U32 (sumDig a b i))]) rfl rfl rfl rfl (own.pushed _) (by simp) rfl rfl (by simp [digX]; omega) Try.underlying85 Try.size96 bytes96 cells96 (by omega) fun σ1 x1 ho1 k1 w1 => ?_
            refine KT.step rfl rfl (K.assign rfl) ?_
            refine KT.nil ?_
            refine thenK_n ?_
            refine KC.region ?_
            refine KT.step rfl rfl (K.move rfl) ?_
            refine KT.step rfl rfl (K.shrU (b := 32) rfl rfl (by decide)) ?_
            refine KT.step rfl rfl (K.assign rfl) ?_
            refine KT.nil ?_
            refine blockK_n ?_
            refine thenK_n ?_
            refine KC.region ?_
            refine KT.step rfl rfl (K.move rfl) ?_
            refine KT.step rfl rfl (K.add rfl rfl (wrap_id (by omega))) ?_
            refine KT.step rfl rfl (K.assign rfl) ?_
            refine KT.nil ?_
            refine thenK_n ?_
            have hcn : car a b (i + 1) = car a b i / 2 ^ 32 := by simp only [car]; rw [hA, hB]; try (simp only [Nat.add_zero]; try rfl)
            refine ⟨(σ1, x1, i + 1), ⟨hsn, ?_, ?_, ?_, ?_, ?_, ?_⟩, by simp only; omega, rfl, by simp [Go.Vm.look, extK, hcn]⟩
            · rw [k1 0 (fun e => by have := id0 _ e; omega) (by simp), List.getElem?_append_left (List.getElem?_eq_some_iff.1 h0).1]; exact h0
            · rw [k1 1 (fun e => by have := id0 _ e; omega) (by have := (List.getElem?_eq_some_iff.1 h1).1; simp; omega), List.getElem?_append_left (List.getElem?_eq_some_iff.1 h1).1]; exact h1
            · rw [k1 2 (fun e => by have := id0 _ e; omega) (by have := (List.getElem?_eq_some_iff.1 h2).1; simp; omega), List.getElem?_append_left (List.getElem?_eq_some_iff.1 h2).1]; exact h2
            · rw [List.range_succ, List.map_append]
              simpa [digX] using ho1
            · intro j hj; obtain ⟨j', a1, a2⟩ := w1; rw [a1] at hj; cases hj; have := (List.getElem?_eq_some_iff.1 h2).1; simp at a2; omega
            · intro e; simp at e
      · cases hc43
    · skip
      replace hb33 := of_decide_eq_false hb33
      refine KT.step rfl rfl (K.move rfl) ?_
      refine KT.step rfl rfl (K.fieldAddrO rfl Try.fld87_1 Try.size85) ?_
      refine KT.step rfl rfl (K.loadO rfl h1 (by simp) rfl Try.agg85) ?_
      refine KT.step rfl rfl (K.len rfl hmb Try.underlying85) ?_
      refine KT.step rfl rfl (K.lss rfl rfl) ?_
      refine KT.step rfl rfl (K.pick rfl (fun h => by cases h) (fun _ => rfl)) ?_
      refine KT.step rfl rfl (K.move rfl) ?_
      refine KT.bcase (fun hb40 => ?_) (fun hb40 => ?_)
      · skip
        replace hb40 := of_decide_eq_true hb40
        have hsn : i + 1 ≤ sumN a b := by
          unfold sumN
          omega
        refine KT.skip rfl rfl ?_
        refine KT.skip rfl rfl ?_
        refine KT.step rfl rfl (K.pick rfl (fun _ => rfl) (fun h => by cases h)) ?_
        refine KT.nil ?_
        refine thenK_n ?_
        refine KC.cond rfl (fun hc43 => ?_) (fun hc43 => ?_)
        · skip
          refine KC.skip ?_
          refine thenK_n ?_
          refine KC.seq ?_
          refine KC.block ?_
          refine KC.seq ?_
          refine KC.seq ?_
          refine KC.region ?_
          refine KT.step rfl rfl (K.move rfl) ?_
          refine KT.step rfl rfl (K.fieldAddrO rfl Try.fld87_1 Try.size85) ?_
          refine KT.step rfl rfl (K.loadO rfl h0 (by simp) rfl Try.agg85) ?_
          refine KT.step rfl rfl (K.len rfl hma Try.underlying85) ?_
          refine KT.step rfl rfl (K.lss rfl rfl) ?_
          refine KT.nil ?_
          refine thenK_n ?_
          refine KC.cond rfl (fun hc50 => ?_) (fun hc50 => ?_)
          · skip
            replace hc50 := of_decide_eq_true hc50
            have hia : i < a.length := by omega
            have hA : a.getD i 0 = a[i] := by simp [hia]
            have hab := da _ (List.getElem_mem hia)
            refine KC.region ?_
            refine KT.step rfl rfl (K.move rfl) ?_
            refine KT.step rfl rfl (K.fieldAddrO rfl Try.fld87_1 Try.size85) ?_
            refine KT.step rfl rfl (K.loadO rfl h0 (by simp) rfl Try.agg85) ?_
            refine KT.step rfl rfl (K.move rfl) ?_
            refine KT.idx rfl rfl rfl hma rfl hia Try.underlying85 Try.size96 fun c55 cs55 hq55 => ?_
            obtain rfl := hq55
            refine KT.step rfl rfl (K.load rfl Try.agg96) ?_
            refine KT.step rfl rfl (K.conv rfl Try.underlying96 Try.underlying103 (wide32 hab)) ?_
            refine KT.step rfl rfl (K.add rfl rfl (addN (by simp only [B] at hab; omega))) ?_
            refine KT.step rfl rfl (K.assign rfl) ?_
            refine KT.nil ?_
            refine thenK_n ?_
            refine KC.seq ?_
            refine KC.seq ?_
            refine KC.region ?_
            refine KT.step rfl rfl (K.move rfl) ?_
            refine KT.step rfl rfl (K.fieldAddrO rfl Try.fld87_1 Try.size85) ?_
            refine KT.step rfl rfl (K.loadO rfl h1 (by simp) rfl Try.agg85) ?_
            refine KT.step rfl rfl (K.len rfl hmb Try.underlying85) ?_
            refine KT.step rfl rfl (K.lss rfl rfl) ?_
            refine KT.nil ?_
            refine thenK_n ?_
            refine KC.cond rfl (fun hc63 => ?_) (fun hc63 => ?_)
            · skip
              replace hc63 := of_decide_eq_true hc63
              have hib : i < b.length := by omega
              have hB : b.getD i 0 = b[i] := by simp [hib]
              have hbb := db _ (List.getElem_mem hib)
              refine KC.region ?_
              refine KT.step rfl rfl (K.move rfl) ?_
              refine KT.step rfl rfl (K.fieldAddrO rfl Try.fld87_1 Try.size85) ?_
              refine KT.step rfl rfl (K.loadO rfl h1 (by simp) rfl Try.agg85) ?_
              refine KT.step rfl rfl (K.move rfl) ?_
              refine KT.idx rfl rfl rfl hmb rfl hib Try.underlying85 Try.size96 fun c68 cs68 hq68 => ?_
              obtain rfl := hq68
              refine KT.step rfl rfl (K.load rfl Try.agg96) ?_
              refine KT.step rfl rfl (K.conv rfl Try.underlying96 Try.underlying103 (wide32 hbb)) ?_
              refine KT.step rfl rfl (K.add rfl rfl (addN (by simp only [B] at *; omega))) ?_
              refine KT.step rfl rfl (K.assign rfl) ?_
              refine KT.nil ?_
              refine thenK_n ?_
              refine KC.seq ?_
              refine KC.region ?_
              refine KT.step rfl rfl (K.move rfl) ?_
              refine KT.step rfl rfl (K.move rfl) ?_
              refine KT.step rfl rfl (K.conv rfl Try.underlying103 Try.underlying96 (show _ = ((sumDig a b i : Nat) : Int) from by rw [wrapU32]; unfold sumDig; rw [hA, hB]; try (simp only [Nat.add_zero]))) ?_
              refine KT.step rfl rfl (K.build1' (v := .d (U32 (sumDig a b i))) rfl rfl Try.underlying85 Try.one96) ?_
              refine KT.appK (k := 1) (vs := [.d (U32 (sumDig a b i))]) rfl rfl rfl rfl (own.pushed _) (by simp) rfl rfl (by simp [digX]; omega) Try.underlying85 Try.size96 bytes96 cells96 (by omega) fun σ1 x1 ho1 k1 w1 => ?_
              refine KT.step rfl rfl (K.assign rfl) ?_
              refine KT.nil ?_
              refine thenK_n ?_
              refine KC.region ?_
              refine KT.step rfl rfl (K.move rfl) ?_
              refine KT.step rfl rfl (K.shrU (b := 32) rfl rfl (by decide)) ?_
              refine KT.step rfl rfl (K.assign rfl) ?_
              refine KT.nil ?_
              refine blockK_n ?_
              refine thenK_n ?_
              refine KC.region ?_
              refine KT.step rfl rfl (K.move rfl) ?_
              refine KT.step rfl rfl (K.add rfl rfl (wrap_id (by omega))) ?_
              refine KT.step rfl rfl (K.assign rfl) ?_
              refine KT.nil ?_
              refine thenK_n ?_
              have hcn : car a b (i + 1) = ((car a b i + a[i]) + b[i]) / 2 ^ 32 := by simp only [car]; rw [hA, hB]; try (simp only [Nat.add_zero]; try rfl)
              refine ⟨(σ1, x1, i + 1), ⟨hsn, ?_, ?_, ?_, ?_, ?_, ?_⟩, by simp only; omega, rfl, by simp [Go.Vm.look, extK, hcn]⟩
              · rw [k1 0 (fun e => by have := id0 _ e; omega) (by simp), List.getElem?_append_left (List.getElem?_eq_some_iff.1 h0).1]; exact h0
              · rw [k1 1 (fun e => by have := id0 _ e; omega) (by have := (List.getElem?_eq_some_iff.1 h1).1; simp; omega), List.getElem?_append_left (List.getElem?_eq_some_iff.1 h1).1]; exact h1
              · rw [k1 2 (fun e => by have := id0 _ e; omega) (by have := (List.getElem?_eq_some_iff.1 h2).1; simp; omega), List.getElem?_append_left (List.getElem?_eq_some_iff.1 h2).1]; exact h2
              · rw [List.range_succ, List.map_append]
                simpa [digX] using ho1
              · intro j hj; obtain ⟨j', a1, a2⟩ := w1; rw [a1] at hj; cases hj; have := (List.getElem?_eq_some_iff.1 h2).1; simp at a2; omega
              · intro e; simp at e
            · skip
              replace hc63 := of_decide_eq_false hc63
              have hB : b.getD i 0 = 0 := by simp [show ¬ i < b.length by omega]
              refine KC.skip ?_
              refine thenK_n ?_
              refine KC.seq ?_
              refine KC.region ?_
              refine KT.step rfl rfl (K.move rfl) ?_
              refine KT.step rfl rfl (K.move rfl) ?_
              refine KT.step rfl rfl (K.conv rfl Try.underlying103 Try.underlying96 (show _ = ((sumDig a b i : Nat) : Int) from by rw [wrapU32]; unfold sumDig; rw [hA, hB]; try (simp only [Nat.add_zero]))) ?_
              refine KT.step rfl rfl (K.build1' (v := .d (U32 (sumDig a b i))) rfl rfl Try.underlying85 Try.one96) ?_
              refine KT.appK (k := 1) (vs := [.d (U32 (sumDig a b i))]) rfl rfl rfl rfl (own.pushed _) (by simp) rfl rfl (by simp [digX]; omega) Try.underlying85 Try.size96 bytes96 cells96 (by omega) fun σ1 x1 ho1 k1 w1 => ?_
              refine KT.step rfl rfl (K.assign rfl) ?_
              refine KT.nil ?_
              refine thenK_n ?_
              refine KC.region ?_
              refine KT.step rfl rfl (K.move rfl) ?_
              refine KT.step rfl rfl (K.shrU (b := 32) rfl rfl (by decide)) ?_
              refine KT.step rfl rfl (K.assign rfl) ?_
              refine KT.nil ?_
              refine blockK_n ?_
              refine thenK_n ?_
              refine KC.region ?_
              refine KT.step rfl rfl (K.move rfl) ?_
              refine KT.step rfl rfl (K.add rfl rfl (wrap_id (by omega))) ?_
              refine KT.step rfl rfl (K.assign rfl) ?_
              refine KT.nil ?_
              refine thenK_n ?_
              have hcn : car a b (i + 1) = (car a b i + a[i]) / 2 ^ 32 := by simp only [car]; rw [hA, hB]; try (simp only [Nat.add_zero]; try rfl)
              refine ⟨(σ1, x1, i + 1), ⟨hsn, ?_, ?_, ?_, ?_, ?_, ?_⟩, by simp only; omega, rfl, by simp [Go.Vm.look, extK, hcn]⟩
              · rw [k1 0 (fun e => by have := id0 _ e; omega) (by simp), List.getElem?_append_left (List.getElem?_eq_some_iff.1 h0).1]; exact h0
              · rw [k1 1 (fun e => by have := id0 _ e; omega) (by have := (List.getElem?_eq_some_iff.1 h1).1; simp; omega), List.getElem?_append_left (List.getElem?_eq_some_iff.1 h1).1]; exact h1
              · rw [k1 2 (fun e => by have := id0 _ e; omega) (by have := (List.getElem?_eq_some_iff.1 h2).1; simp; omega), List.getElem?_append_left (List.getElem?_eq_some_iff.1 h2).1]; exact h2
              · rw [List.range_succ, List.map_append]
                simpa [digX] using ho1
              · intro j hj; obtain ⟨j', a1, a2⟩ := w1; rw [a1] at hj; cases hj; have := (List.getElem?_eq_some_iff.1 h2).1; simp at a2; omega
              · intro e; simp at e
          · skip
            replace hc50 := of_decide_eq_false hc50
            have hA : a.getD i 0 = 0 := by simp [show ¬ i < a.length by omega]
            refine KC.skip ?_
            refine thenK_n ?_
            refine KC.seq ?_
            refine KC.seq ?_
            refine KC.region ?_
            refine KT.step rfl rfl (K.move rfl) ?_
            refine KT.step rfl rfl (K.fieldAddrO rfl Try.fld87_1 Try.size85) ?_
            refine KT.step rfl rfl (K.loadO rfl h1 (by simp) rfl Try.agg85) ?_
            refine KT.step rfl rfl (K.len rfl hmb Try.underlying85) ?_
            refine KT.step rfl rfl (K.lss rfl rfl) ?_
            refine KT.nil ?_
            refine thenK_n ?_
            refine KC.cond rfl (fun hc63 => ?_) (fun hc63 => ?_)
            · skip
              replace hc63 := of_decide_eq_true hc63
              have hib : i < b.length := by omega
              have hB : b.getD i 0 = b[i] := by simp [hib]
              have hbb := db _ (List.getElem_mem hib)
              refine KC.region ?_
              refine KT.step rfl rfl (K.move rfl) ?_
              refine KT.step rfl rfl (K.fieldAddrO rfl Try.fld87_1 Try.size85) ?_
              refine KT.step rfl rfl (K.loadO rfl h1 (by simp) rfl Try.agg85) ?_
              refine KT.step rfl rfl (K.move rfl) ?_
              refine KT.idx rfl rfl rfl hmb rfl hib Try.underlying85 Try.size96 fun c68 cs68 hq68 => ?_
              obtain rfl := hq68
              refine KT.step rfl rfl (K.load rfl Try.agg96) ?_
              refine KT.step rfl rfl (K.conv rfl Try.underlying96 Try.underlying103 (wide32 hbb)) ?_
              refine KT.step rfl rfl (K.add rfl rfl (addN (by simp only [B] at *; omega))) ?_
              refine KT.step rfl rfl (K.assign rfl) ?_
              refine KT.nil ?_
              refine thenK_n ?_
              refine KC.seq ?_
              refine KC.region ?_
              refine KT.step rfl rfl (K.move rfl) ?_
              refine KT.step rfl rfl (K.move rfl) ?_
              refine KT.step rfl rfl (K.conv rfl Try.underlying103 Try.underlying96 (show _ = ((sumDig a b i : Nat) : Int) from by rw [wrapU32]; unfold sumDig; rw [hA, hB]; try (simp only [Nat.add_zero]))) ?_
              refine KT.step rfl rfl (K.build1' (v := .d (U32 (sumDig a b i))) rfl rfl Try.underlying85 Try.one96) ?_
              refine KT.appK (k := 1) (vs := [.d (U32 (sumDig a b i))]) rfl rfl rfl rfl (own.pushed _) (by simp) rfl rfl (by simp [digX]; omega) Try.underlying85 Try.size96 bytes96 cells96 (by omega) fun σ1 x1 ho1 k1 w1 => ?_
              refine KT.step rfl rfl (K.assign rfl) ?_
              refine KT.nil ?_
              refine thenK_n ?_
              refine KC.region ?_
              refine KT.step rfl rfl (K.move rfl) ?_
              refine KT.step rfl rfl (K.shrU (b := 32) rfl rfl (by decide)) ?_
              refine KT.step rfl rfl (K.assign rfl) ?_
              refine KT.nil ?_
              refine blockK_n ?_
              refine thenK_n ?_
              refine KC.region ?_
              refine KT.step rfl rfl (K.move rfl) ?_
              refine KT.step rfl rfl (K.add rfl rfl (wrap_id (by omega))) ?_
              refine KT.step rfl rfl (K.assign rfl) ?_
              refine KT.nil ?_
              refine thenK_n ?_
              have hcn : car a b (i + 1) = (car a b i + b[i]) / 2 ^ 32 := by simp only [car]; rw [hA, hB]; try (simp only [Nat.add_zero]; try rfl)
              refine ⟨(σ1, x1, i + 1), ⟨hsn, ?_, ?_, ?_, ?_, ?_, ?_⟩, by simp only; omega, rfl, by simp [Go.Vm.look, extK, hcn]⟩
              · rw [k1 0 (fun e => by have := id0 _ e; omega) (by simp), List.getElem?_append_left (List.getElem?_eq_some_iff.1 h0).1]; exact h0
              · rw [k1 1 (fun e => by have := id0 _ e; omega) (by have := (List.getElem?_eq_some_iff.1 h1).1; simp; omega), List.getElem?_append_left (List.getElem?_eq_some_iff.1 h1).1]; exact h1
              · rw [k1 2 (fun e => by have := id0 _ e; omega) (by have := (List.getElem?_eq_some_iff.1 h2).1; simp; omega), List.getElem?_append_left (List.getElem?_eq_some_iff.1 h2).1]; exact h2
              · rw [List.range_succ, List.map_append]
                simpa [digX] using ho1
              · intro j hj; obtain ⟨j', a1, a2⟩ := w1; rw [a1] at hj; cases hj; have := (List.getElem?_eq_some_iff.1 h2).1; simp at a2; omega
              · intro e; simp at e
            · skip
              replace hc63 := of_decide_eq_false hc63
              have hB : b.getD i 0 = 0 := by simp [show ¬ i < b.length by omega]
              refine KC.skip ?_
              refine thenK_n ?_
              refine KC.seq ?_
              refine KC.region ?_
              refine KT.step rfl rfl (K.move rfl) ?_
              refine KT.step rfl rfl (K.move rfl) ?_
              refine KT.step rfl rfl (K.conv rfl Try.underlying103 Try.underlying96 (show _ = ((sumDig a b i : Nat) : Int) from by rw [wrapU32]; unfold sumDig; rw [hA, hB]; try (simp only [Nat.add_zero]))) ?_
              refine KT.step rfl rfl (K.build1' (v := .d (U32 (sumDig a b i))) rfl rfl Try.underlying85 Try.one96) ?_
              refine KT.appK (k := 1) (vs := [.d (U32 (sumDig a b i))]) rfl rfl rfl rfl (own.pushed _) (by simp) rfl rfl (by simp [digX]; omega) Try.underlying85 Try.size96 bytes96 cells96 (by omega) fun σ1 x1 ho1 k1 w1 => ?_
              refine KT.step rfl rfl (K.assign rfl) ?_
              refine KT.nil ?_
              refine thenK_n ?_
              refine KC.region ?_
              refine KT.step rfl rfl (K.move rfl) ?_
              refine KT.step rfl rfl (K.shrU (b := 32) rfl rfl (by decide)) ?_
              refine KT.step rfl rfl (K.assign rfl) ?_
              refine KT.nil ?_
              refine blockK_n ?_
              refine thenK_n ?_
              refine KC.region ?_
              refine KT.step rfl rfl (K.move rfl) ?_
              refine KT.step rfl rfl (K.add rfl rfl (wrap_id (by omega))) ?_
              refine KT.step rfl rfl (K.assign rfl) ?_
              refine KT.nil ?_
              refine thenK_n ?_
              have hcn : car a b (i + 1) = car a b i / 2 ^ 32 := by simp only [car]; rw [hA, hB]; try (simp only [Nat.add_zero]; try rfl)
              refine ⟨(σ1, x1, i + 1), ⟨hsn, ?_, ?_, ?_, ?_, ?_, ?_⟩, by simp only; omega, rfl, by simp [Go.Vm.look, extK, hcn]⟩
              · rw [k1 0 (fun e => by have := id0 _ e; omega) (by simp), List.getElem?_append_left (List.getElem?_eq_some_iff.1 h0).1]; exact h0
              · rw [k1 1 (fun e => by have := id0 _ e; omega) (by have := (List.getElem?_eq_some_iff.1 h1).1; simp; omega), List.getElem?_append_left (List.getElem?_eq_some_iff.1 h1).1]; exact h1
              · rw [k1 2 (fun e => by have := id0 _ e; omega) (by have := (List.getElem?_eq_some_iff.1 h2).1; simp; omega), List.getElem?_append_left (List.getElem?_eq_some_iff.1 h2).1]; exact h2
              · rw [List.range_succ, List.map_append]
                simpa [digX] using ho1
              · intro j hj; obtain ⟨j', a1, a2⟩ := w1; rw [a1] at hj; cases hj; have := (List.getElem?_eq_some_iff.1 h2).1; simp at a2; omega
              · intro e; simp at e
        · cases hc43
      · skip
        replace hb40 := of_decide_eq_false hb40
        refine KT.step rfl rfl (K.move rfl) ?_
        refine KT.step rfl rfl (K.gtr rfl rfl) ?_
        refine KT.step rfl rfl (K.pick rfl (fun h => by cases h) (fun _ => rfl)) ?_
        refine KT.nil ?_
        refine thenK_n ?_
        refine KC.cond rfl (fun hc43 => ?_) (fun hc43 => ?_)
        · skip
          have hsn : i + 1 ≤ sumN a b := by
            replace hc43 := of_decide_eq_true hc43
            unfold sumN at le ⊢
            by_cases e : i = max a.length b.length
            · rw [← e] at hmx le ⊢; omega
            · have e2 : max a.length b.length + 1 = i := by omega
              have := car_end da db
              rw [e2] at this; omega
          refine KC.skip ?_
          refine thenK_n ?_
          refine KC.seq ?_
          refine KC.block ?_
          refine KC.seq ?_
          refine KC.seq ?_
          refine KC.region ?_
          refine KT.step rfl rfl (K.move rfl) ?_
          refine KT.step rfl rfl (K.fieldAddrO rfl Try.fld87_1 Try.size85) ?_
          refine KT.step rfl rfl (K.loadO rfl h0 (by simp) rfl Try.agg85) ?_
          refine KT.step rfl rfl (K.len rfl hma Try.underlying85) ?_
          refine KT.step rfl rfl (K.lss rfl rfl) ?_
          refine KT.nil ?_
          refine thenK_n ?_
          refine KC.cond rfl (fun hc50 => ?_) (fun hc50 => ?_)
          · skip
            replace hc50 := of_decide_eq_true hc50
            have hia : i < a.length := by omega
            have hA : a.getD i 0 = a[i] := by simp [hia]
            have hab := da _ (List.getElem_mem hia)
            refine KC.region ?_
            refine KT.step rfl rfl (K.move rfl) ?_
            refine KT.step rfl rfl (K.fieldAddrO rfl Try.fld87_1 Try.size85) ?_
            refine KT.step rfl rfl (K.loadO rfl h0 (by simp) rfl Try.agg85) ?_
            refine KT.step rfl rfl (K.move rfl) ?_
            refine KT.idx rfl rfl rfl hma rfl hia Try.underlying85 Try.size96 fun c55 cs55 hq55 => ?_
            obtain rfl := hq55
            refine KT.step rfl rfl (K.load rfl Try.agg96) ?_
            refine KT.step rfl rfl (K.conv rfl Try.underlying96 Try.underlying103 (wide32 hab)) ?_
            refine KT.step rfl rfl (K.add rfl rfl (addN (by simp only [B] at hab; omega))) ?_
            refine KT.step rfl rfl (K.assign rfl) ?_
            refine KT.nil ?_
            refine thenK_n ?_
            refine KC.seq ?_
            refine KC.seq ?_
            refine KC.region ?_
            refine KT.step rfl rfl (K.move rfl) ?_
            refine KT.step rfl rfl (K.fieldAddrO rfl Try.fld87_1 Try.size85) ?_
            refine KT.step rfl rfl (K.loadO rfl h1 (by simp) rfl Try.agg85) ?_
            refine KT.step rfl rfl (K.len rfl hmb Try.underlying85) ?_
            refine KT.step rfl rfl (K.lss rfl rfl) ?_
            refine KT.nil ?_
            refine thenK_n ?_
            refine KC.cond rfl (fun hc63 => ?_) (fun hc63 => ?_)
            · skip
              replace hc63 := of_decide_eq_true hc63
              have hib : i < b.length := by omega
              have hB : b.getD i 0 = b[i] := by simp [hib]
              have hbb := db _ (List.getElem_mem hib)
              refine KC.region ?_
              refine KT.step rfl rfl (K.move rfl) ?_
              refine KT.step rfl rfl (K.fieldAddrO rfl Try.fld87_1 Try.size85) ?_
              refine KT.step rfl rfl (K.loadO rfl h1 (by simp) rfl Try.agg85) ?_
              refine KT.step rfl rfl (K.move rfl) ?_
              refine KT.idx rfl rfl rfl hmb rfl hib Try.underlying85 Try.size96 fun c68 cs68 hq68 => ?_
              obtain rfl := hq68
              refine KT.step rfl rfl (K.load rfl Try.agg96) ?_
              refine KT.step rfl rfl (K.conv rfl Try.underlying96 Try.underlying103 (wide32 hbb)) ?_
              refine KT.step rfl rfl (K.add rfl rfl (addN (by simp only [B] at *; omega))) ?_
              refine KT.step rfl rfl (K.assign rfl) ?_
              refine KT.nil ?_
              refine thenK_n ?_
              refine KC.seq ?_
              refine KC.region ?_
              refine KT.step rfl rfl (K.move rfl) ?_
              refine KT.step rfl rfl (K.move rfl) ?_
              refine KT.step rfl rfl (K.conv rfl Try.underlying103 Try.underlying96 (show _ = ((sumDig a b i : Nat) : Int) from by rw [wrapU32]; unfold sumDig; rw [hA, hB]; try (simp only [Nat.add_zero]))) ?_
              refine KT.step rfl rfl (K.build1' (v := .d (U32 (sumDig a b i))) rfl rfl Try.underlying85 Try.one96) ?_
              refine KT.appK (k := 1) (vs := [.d (U32 (sumDig a b i))]) rfl rfl rfl rfl (own.pushed _) (by simp) rfl rfl (by simp [digX]; omega) Try.underlying85 Try.size96 bytes96 cells96 (by omega) fun σ1 x1 ho1 k1 w1 => ?_
              refine KT.step rfl rfl (K.assign rfl) ?_
              refine KT.nil ?_
              refine thenK_n ?_
              refine KC.region ?_
              refine KT.step rfl rfl (K.move rfl) ?_
              refine KT.step rfl rfl (K.shrU (b := 32) rfl rfl (by decide)) ?_
              refine KT.step rfl rfl (K.assign rfl) ?_
              refine KT.nil ?_
              refine blockK_n ?_
              refine thenK_n ?_
              refine KC.region ?_
              refine KT.step rfl rfl (K.move rfl) ?_
              refine KT.step rfl rfl (K.add rfl rfl (wrap_id (by omega))) ?_
              refine KT.step rfl rfl (K.assign rfl) ?_
              refine KT.nil ?_
              refine thenK_n ?_
              have hcn : car a b (i + 1) = ((car a b i + a[i]) + b[i]) / 2 ^ 32 := by simp only [car]; rw [hA, hB]; try (simp only [Nat.add_zero]; try rfl)
              refine ⟨(σ1, x1, i + 1), ⟨hsn, ?_, ?_, ?_, ?_, ?_, ?_⟩, by simp only; omega, rfl, by simp [Go.Vm.look, extK, hcn]⟩
              · rw [k1 0 (fun e => by have := id0 _ e; omega) (by simp), List.getElem?_append_left (List.getElem?_eq_some_iff.1 h0).1]; exact h0
              · rw [k1 1 (fun e => by have := id0 _ e; omega) (by have := (List.getElem?_eq_some_iff.1 h1).1; simp; omega), List.getElem?_append_left (List.getElem?_eq_some_iff.1 h1).1]; exact h1
              · rw [k1 2 (fun e => by have := id0 _ e; omega) (by have := (List.getElem?_eq_some_iff.1 h2).1; simp; omega), List.getElem?_append_left (List.getElem?_eq_some_iff.1 h2).1]; exact h2
              · rw [List.range_succ, List.map_append]
                simpa [digX] using ho1
              · intro j hj; obtain ⟨j', a1, a2⟩ := w1; rw [a1] at hj; cases hj; have := (List.getElem?_eq_some_iff.1 h2).1; simp at a2; omega
              · intro e; simp at e
            · skip
              replace hc63 := of_decide_eq_false hc63
              have hB : b.getD i 0 = 0 := by simp [show ¬ i < b.length by omega]
              refine KC.skip ?_
              refine thenK_n ?_
              refine KC.seq ?_
              refine KC.region ?_
              refine KT.step rfl rfl (K.move rfl) ?_
              refine KT.step rfl rfl (K.move rfl) ?_
              refine KT.step rfl rfl (K.conv rfl Try.underlying103 Try.underlying96 (show _ = ((sumDig a b i : Nat) : Int) from by rw [wrapU32]; unfold sumDig; rw [hA, hB]; try (simp only [Nat.add_zero]))) ?_
              refine KT.step rfl rfl (K.build1' (v := .d (U32 (sumDig a b i))) rfl rfl Try.underlying85 Try.one96) ?_
              refine KT.appK (k := 1) (vs := [.d (U32 (sumDig a b i))]) rfl rfl rfl rfl (own.pushed _) (by simp) rfl rfl (by simp [digX]; omega) Try.underlying85 Try.size96 bytes96 cells96 (by omega) fun σ1 x1 ho1 k1 w1 => ?_
              refine KT.step rfl rfl (K.assign rfl) ?_
              refine KT.nil ?_
              refine thenK_n ?_
              refine KC.region ?_
              refine KT.step rfl rfl (K.move rfl) ?_
              refine KT.step rfl rfl (K.shrU (b := 32) rfl rfl (by decide)) ?_
              refine KT.step rfl rfl (K.assign rfl) ?_
              refine KT.nil ?_
              refine blockK_n ?_
              refine thenK_n ?_
              refine KC.region ?_
              refine KT.step rfl rfl (K.move rfl) ?_
              refine KT.step rfl rfl (K.add rfl rfl (wrap_id (by omega))) ?_
              refine KT.step rfl rfl (K.assign rfl) ?_
              refine KT.nil ?_
              refine thenK_n ?_
              have hcn : car a b (i + 1) = (car a b i + a[i]) / 2 ^ 32 := by simp only [car]; rw [hA, hB]; try (simp only [Nat.add_zero]; try rfl)
              refine ⟨(σ1, x1, i + 1), ⟨hsn, ?_, ?_, ?_, ?_, ?_, ?_⟩, by simp only; omega, rfl, by simp [Go.Vm.look, extK, hcn]⟩
              · rw [k1 0 (fun e => by have := id0 _ e; omega) (by simp), List.getElem?_append_left (List.getElem?_eq_some_iff.1 h0).1]; exact h0
              · rw [k1 1 (fun e => by have := id0 _ e; omega) (by have := (List.getElem?_eq_some_iff.1 h1).1; simp; omega), List.getElem?_append_left (List.getElem?_eq_some_iff.1 h1).1]; exact h1
              · rw [k1 2 (fun e => by have := id0 _ e; omega) (by have := (List.getElem?_eq_some_iff.1 h2).1; simp; omega), List.getElem?_append_left (List.getElem?_eq_some_iff.1 h2).1]; exact h2
              · rw [List.range_succ, List.map_append]
                simpa [digX] using ho1
              · intro j hj; obtain ⟨j', a1, a2⟩ := w1; rw [a1] at hj; cases hj; have := (List.getElem?_eq_some_iff.1 h2).1; simp at a2; omega
              · intro e; simp at e
          · skip
            replace hc50 := of_decide_eq_false hc50
            have hA : a.getD i 0 = 0 := by simp [show ¬ i < a.length by omega]
            refine KC.skip ?_
            refine thenK_n ?_
            refine KC.seq ?_
            refine KC.seq ?_
            refine KC.region ?_
            refine KT.step rfl rfl (K.move rfl) ?_
            refine KT.step rfl rfl (K.fieldAddrO rfl Try.fld87_1 Try.size85) ?_
            refine KT.step rfl rfl (K.loadO rfl h1 (by simp) rfl Try.agg85) ?_
            refine KT.step rfl rfl (K.len rfl hmb Try.underlying85) ?_
            refine KT.step rfl rfl (K.lss rfl rfl) ?_
            refine KT.nil ?_
            refine thenK_n ?_
            refine KC.cond rfl (fun hc63 => ?_) (fun hc63 => ?_)
            · skip
              replace hc63 := of_decide_eq_true hc63
              have hib : i < b.length := by omega
              have hB : b.getD i 0 = b[i] := by simp [hib]
              have hbb := db _ (List.getElem_mem hib)
              refine KC.region ?_
              refine KT.step rfl rfl (K.move rfl) ?_
              refine KT.step rfl rfl (K.fieldAddrO rfl Try.fld87_1 Try.size85) ?_
              refine KT.step rfl rfl (K.loadO rfl h1 (by simp) rfl Try.agg85) ?_
              refine KT.step rfl rfl (K.move rfl) ?_
              refine KT.idx rfl rfl rfl hmb rfl hib Try.underlying85 Try.size96 fun c68 cs68 hq68 => ?_
              obtain rfl := hq68
              refine KT.step rfl rfl (K.load rfl Try.agg96) ?_
              refine KT.step rfl rfl (K.conv rfl Try.underlying96 Try.underlying103 (wide32 hbb)) ?_
              refine KT.step rfl rfl (K.add rfl rfl (addN (by simp only [B] at *; omega))) ?_
              refine KT.step rfl rfl (K.assign rfl) ?_
              refine KT.nil ?_
              refine thenK_n ?_
              refine KC.seq ?_
              refine KC.region ?_
              refine KT.step rfl rfl (K.move rfl) ?_
              refine KT.step rfl rfl (K.move rfl) ?_
              refine KT.step rfl rfl (K.conv rfl Try.underlying103 Try.underlying96 (show _ = ((sumDig a b i : Nat) : Int) from by rw [wrapU32]; unfold sumDig; rw [hA, hB]; try (simp only [Nat.add_zero]))) ?_
              refine KT.step rfl rfl (K.build1' (v := .d (U32 (sumDig a b i))) rfl rfl Try.underlying85 Try.one96) ?_
              refine KT.appK (k := 1) (vs := [.d (U32 (sumDig a b i))]) rfl rfl rfl rfl (own.pushed _) (by simp) rfl rfl (by simp [digX]; omega) Try.underlying85 Try.size96 bytes96 cells96 (by omega) fun σ1 x1 ho1 k1 w1 => ?_
              refine KT.step rfl rfl (K.assign rfl) ?_
              refine KT.nil ?_
              refine thenK_n ?_
              refine KC.region ?_
              refine KT.step rfl rfl (K.move rfl) ?_
              refine KT.step rfl rfl (K.shrU (b := 32) rfl rfl (by decide)) ?_
              refine KT.step rfl rfl (K.assign rfl) ?_
              refine KT.nil ?_
              refine blockK_n ?_
              refine thenK_n ?_
              refine KC.region ?_
              refine KT.step rfl rfl (K.move rfl) ?_
              refine KT.step rfl rfl (K.add rfl rfl (wrap_id (by omega))) ?_
              refine KT.step rfl rfl (K.assign rfl) ?_
              refine KT.nil ?_
              refine thenK_n ?_
              have hcn : car a b (i + 1) = (car a b i + b[i]) / 2 ^ 32 := by simp only [car]; rw [hA, hB]; try (simp only [Nat.add_zero]; try rfl)
              refine ⟨(σ1, x1, i + 1), ⟨hsn, ?_, ?_, ?_, ?_, ?_, ?_⟩, by simp only; omega, rfl, by simp [Go.Vm.look, extK, hcn]⟩
              · rw [k1 0 (fun e => by have := id0 _ e; omega) (by simp), List.getElem?_append_left (List.getElem?_eq_some_iff.1 h0).1]; exact h0
              · rw [k1 1 (fun e => by have := id0 _ e; omega) (by have := (List.getElem?_eq_some_iff.1 h1).1; simp; omega), List.getElem?_append_left (List.getElem?_eq_some_iff.1 h1).1]; exact h1
              · rw [k1 2 (fun e => by have := id0 _ e; omega) (by have := (List.getElem?_eq_some_iff.1 h2).1; simp; omega), List.getElem?_append_left (List.getElem?_eq_some_iff.1 h2).1]; exact h2
              · rw [List.range_succ, List.map_append]
                simpa [digX] using ho1
              · intro j hj; obtain ⟨j', a1, a2⟩ := w1; rw [a1] at hj; cases hj; have := (List.getElem?_eq_some_iff.1 h2).1; simp at a2; omega
              · intro e; simp at e
            · skip
              replace hc63 := of_decide_eq_false hc63
              have hB : b.getD i 0 = 0 := by simp [show ¬ i < b.length by omega]
              refine KC.skip ?_
              refine thenK_n ?_
              refine KC.seq ?_
              refine KC.region ?_
              refine KT.step rfl rfl (K.move rfl) ?_
              refine KT.step rfl rfl (K.move rfl) ?_
              refine KT.step rfl rfl (K.conv rfl Try.underlying103 Try.underlying96 (show _ = ((sumDig a b i : Nat) : Int) from by rw [wrapU32]; unfold sumDig; rw [hA, hB]; try (simp only [Nat.add_zero]))) ?_
              refine KT.step rfl rfl (K.build1' (v := .d (U32 (sumDig a b i))) rfl rfl Try.underlying85 Try.one96) ?_
              refine KT.appK (k := 1) (vs := [.d (U32 (sumDig a b i))]) rfl rfl rfl rfl (own.pushed _) (by simp) rfl rfl (by simp [digX]; omega) Try.underlying85 Try.size96 bytes96 cells96 (by omega) fun σ1 x1 ho1 k1 w1 => ?_
              refine KT.step rfl rfl (K.assign rfl) ?_
              refine KT.nil ?_
              refine thenK_n ?_
              refine KC.region ?_
              refine KT.step rfl rfl (K.move rfl) ?_
              refine KT.step rfl rfl (K.shrU (b := 32) rfl rfl (by decide)) ?_
              refine KT.step rfl rfl (K.assign rfl) ?_
              refine KT.nil ?_
              refine blockK_n ?_
              refine thenK_n ?_
              refine KC.region ?_
              refine KT.step rfl rfl (K.move rfl) ?_
              refine KT.step rfl rfl (K.add rfl rfl (wrap_id (by omega))) ?_
              refine KT.step rfl rfl (K.assign rfl) ?_
              refine KT.nil ?_
              refine thenK_n ?_
              have hcn : car a b (i + 1) = car a b i / 2 ^ 32 := by simp only [car]; rw [hA, hB]; try (simp only [Nat.add_zero]; try rfl)
              refine ⟨(σ1, x1, i + 1), ⟨hsn, ?_, ?_, ?_, ?_, ?_, ?_⟩, by simp only; omega, rfl, by simp [Go.Vm.look, extK, hcn]⟩
              · rw [k1 0 (fun e => by have := id0 _ e; omega) (by simp), List.getElem?_append_left (List.getElem?_eq_some_iff.1 h0).1]; exact h0
              · rw [k1 1 (fun e => by have := id0 _ e; omega) (by have := (List.getElem?_eq_some_iff.1 h1).1; simp; omega), List.getElem?_append_left (List.getElem?_eq_some_iff.1 h1).1]; exact h1
              · rw [k1 2 (fun e => by have := id0 _ e; omega) (by have := (List.getElem?_eq_some_iff.1 h2).1; simp; omega), List.getElem?_append_left (List.getElem?_eq_some_iff.1 h2).1]; exact h2
              · rw [List.range_succ, List.map_append]
                simpa [digX] using ho1
              · intro j hj; obtain ⟨j', a1, a2⟩ := w1; rw [a1] at hj; cases hj; have := (List.getElem?_eq_some_iff.1 h2).1; simp at a2; omega
              · intro e; simp at e
        · skip
          obtain rfl : i = sumN a b := by
            replace hc43 := of_decide_eq_false hc43
            unfold sumN at le ⊢
            by_cases e : i = max a.length b.length
            · rw [← e] at hmx le ⊢; omega
            · omega
          refine KC.exit ?_
          refine thenK_x ?_
          refine thenK_x ?_
          refine blockK_e ?_
          refine thenK_n ?_
          refine KC.seq ?_
          refine KC.draw Try.mixed ?_
          refine KT.step rfl rfl (K.fieldAddrO rfl Try.fld87_0 Try.size4) ?_
          refine KT.step rfl rfl (K.loadO rfl h0 (by simp) rfl Try.agg4) ?_
          refine KT.step rfl rfl (K.move rfl) ?_
          obtain ⟨ids, hids, hdp⟩ := freeze_dig (l := sumL a b) own nil
          have hf2 : (freezeIds σ0 ids)[2]? = some ⟨[.d (DB false), .d Dnil], 0⟩ := by rw [freezeIds_other (fun h => by have := id0 2 (hids 2 h); omega)]; exact h2
          have hsl := take_sl (mag_slOf (sumL a b)) (trimN_le (sumL a b) (sumL a b).length)
          refine KT.step rfl rfl (K.callZ ids 5 rfl plainTry_107 hdp (trim107 (mag_slOf (sumL a b)) (by simp [sumL]; omega))) ?_
          refine KT.step rfl rfl (K.build2 rfl rfl hsl) ?_
          refine KT.step rfl rfl (K.storeN rfl rfl hf2 (by rw [mk2_cells hsl]; simp) (by rw [mk2_cells hsl]; simp only [List.all_cons, hsl.one]; rfl) (by rw [mk2_cells hsl]; exact Try.size87)) ?_
          refine KT.nil ?_
          refine ⟨by kernel_rfl, ?_⟩
          refine thenK_n ?_
          refine KC.ret ?_
          refine ⟨.inl rfl, _, resK_agg (m := 2) rfl rfl (by rw [List.getElem?_set, if_pos rfl, if_pos (List.getElem?_eq_some_iff.1 hf2).1]) (by simp) Try.agg87 Try.size87 (by rw [mk2_cells hsl]; simp [splice]), ?_⟩
          rw [mk2_cells hsl]
          unfold sumD
          rw [if_neg (by simp [hc12])]
          rfl
end Go.Proofs.Ytlomhajhoecoiaa
