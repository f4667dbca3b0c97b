/-
  CONTRACTS for LatticeChecks: differences of digits; an int as a big number.
-/
import Derived.Test.YtlomhajhoecoiaaChkC
namespace Go.Proofs.Ytlomhajhoecoiaa
open Go.Vm Go.Big

theorem cellsX_aggX (xs : List XV) : cellsX (aggX xs) = xs := by
  unfold aggX
  cases h : allD xs with
  | none => rfl
  | some ds => exact (allD_eq h).symm
theorem deepen_aggX {σ : List VObj} {k : Nat} {xs : List XV} : deepen σ (k + 2) (aggX xs) = (xs.mapM (deepen σ (k + 1))).map .agg := by
  unfold aggX
  cases h : allD xs with
  | none => rfl
  | some ds =>
    have := allD_eq h
    subst this
    rw [mapM_deep]; rfl
/-- Cells of digits. -/
def cellsU (n : Nat) (f : Nat → Nat) : List XV := (List.range n).map fun k => .d (U32 (f k))
theorem cellsU_len (n : Nat) (f : Nat → Nat) : (cellsU n f).length = n := by simp [cellsU]
theorem cellsU_get {n : Nat} (f : Nat → Nat) {i : Nat} (hi : i < n) : (cellsU n f)[0 + i]? = some (.d (U32 (f i))) := by rw [Nat.zero_add]; simp [cellsU, hi]
theorem cellsU_set {n : Nat} (f : Nat → Nat) {i v : Nat} (hi : i < n) : (cellsU n f).set (0 + i) (.d (U32 v)) = cellsU n (Big.upd f i v) := by
  rw [Nat.zero_add]
  refine List.ext_getElem? fun k => ?_
  rw [List.getElem?_set]
  by_cases hk : k < n
  · by_cases e : i = k
    · subst e; simp [cellsU, hk, Big.upd]
    · rw [if_neg e]
      simp only [cellsU, List.getElem?_map, List.getElem?_range hk, Option.map_some, Option.some.injEq, XV.d.injEq, Big.upd]
      rw [if_neg (fun h => e h.symm)]
  · rw [if_neg (by omega), List.getElem?_eq_none (by simp [cellsU]; omega), List.getElem?_eq_none (by simp [cellsU]; omega)]
theorem cellsU_zero (n : Nat) : List.replicate n (.d (.lit (.int .u32 0))) = cellsU n fun _ => 0 := by
  refine List.ext_getElem? fun k => ?_
  by_cases hk : k < n
  · simp [cellsU, hk]
  · rw [List.getElem?_eq_none (by simp; omega), List.getElem?_eq_none (by simp [cellsU]; omega)]
theorem cellsU_map (n : Nat) (f : Nat → Nat) : cellsU n f = (((List.range n).map f).map U32).map XV.d := by simp [cellsU]
theorem mag_sl {l : List Nat} {n : Nat} {cap : Option Nat} (h : l.length = n) : Mag (.sl (l.map U32) n cap) l := by
  subst h
  exact .sl (by simp) fun i c x hc hx => by rw [List.getElem?_map, hx] at hc; simp at hc; exact hc.symm
theorem mag_slOf (l : List Nat) : Mag (slOf (l.map U32)) l := by
  cases l with
  | nil => exact .nil
  | cons a l => exact mag_sl (by simp)
/-- What is made so far of the digits of f. -/
def upTo (f : Nat → Nat) (i k : Nat) : Nat := if k < i then f k else 0
theorem upTo_zero (f : Nat → Nat) : upTo f 0 = fun _ => 0 := by funext k; simp [upTo]
theorem upTo_step (f : Nat → Nat) (i : Nat) : Big.upd (upTo f i) i (f i) = upTo f (i + 1) := by
  funext k
  simp only [Big.upd, upTo]
  by_cases e : k = i
  · subst e; simp
  · rw [if_neg e]
    by_cases h : k < i
    · rw [if_pos h, if_pos (by omega)]
    · rw [if_neg h, if_neg (by omega)]
theorem cellsU_full (n : Nat) (f : Nat → Nat) : cellsU n (upTo f n) = cellsU n f := by
  unfold cellsU
  refine List.map_congr_left fun k hk => ?_
  simp only [upTo]; rw [if_pos (by simpa using hk)]
def minL (a b : List Nat) : List Nat := (List.range a.length).map (minDig a b)
theorem minL_len (a b : List Nat) : (minL a b).length = a.length := by simp [minL]
theorem minL_dig (a b : List Nat) : Dig (minL a b) := fun d hd => by
  obtain ⟨i, _, rfl⟩ := List.mem_map.1 hd
  exact Nat.mod_lt _ (by decide)
def minusD (a b : List Nat) : DV := takeV (trimN (minL a b) a.length) (.sl ((minL a b).map U32) a.length (some a.length))
theorem minusD_mag (a b : List Nat) : Mag (minusD a b) (trimL (minL a b)) := by
  have h := takeV_vec (mag_sl (l := minL a b) (cap := some a.length) (minL_len a b)) (trimN_le (minL a b) (minL a b).length)
  rw [minL_len] at h
  unfold minusD trimL
  rw [minL_len]; exact h
theorem minus_trim {a b : List Nat} (da : Dig a) (db : Dig b) (hl : b.length ≤ a.length) (hv : val b ≤ val a) : val (trimL (minL a b)) = val a - val b := by
  rw [trim_val, ← minus_full da db hl hv, minL, valF_list]
theorem subU {x y : Nat} (hy : y ≤ 2 ^ 64) : IntKind.u64.wrap ((x : Int) - (y : Int)) = (((x + (2 ^ 64 - y)) % 2 ^ 64 : Nat) : Int) := by
  rw [wrapUI]; omega
set_option maxRecDepth 10000 in
theorem minus106 {d e : DV} {a b : List Nat} (hd : Mag d a) (he : Mag e b) (da : Dig a) (db : Dig b) (ha : a.length ≤ 1073741824) (hb : b.length ≤ 1073741824) : DeepCall Try.prog 106 [d, e] (minusD a b) := by
  refine deepCall_K 5 Try.func106 rfl (Nat.le_of_ble_eq_true rfl) fun M W0 => ?_
  refine KC.seq ?_
  refine KC.region ?_
  refine KT.step rfl rfl (K.assign rfl) ?_
  refine KT.nil ?_
  refine thenK_n ?_
  refine KC.seq ?_
  refine KC.region ?_
  refine KT.step rfl rfl (K.move rfl) ?_
  refine KT.step rfl rfl (K.len rfl hd Try.underlying85) ?_
  refine KT.step rfl rfl (K.make rfl rfl (Nat.le_refl _) ha Try.underlying85 Try.one96) ?_
  rw [cellsU_zero]
  refine KT.step rfl rfl (K.assign rfl) ?_
  refine KT.nil ?_
  refine thenK_n ?_
  refine KC.seq ?_
  refine KC.region ?_
  refine KT.step rfl rfl (K.assign rfl) ?_
  refine KT.nil ?_
  refine thenK_n ?_
  refine KC.seq ?_
  refine KC.seq ?_
  refine KC.region ?_
  refine KT.step rfl rfl (K.move rfl) ?_
  refine KT.step rfl rfl (K.len rfl hd Try.underlying85) ?_
  refine KT.step rfl rfl (K.move rfl) ?_
  refine KT.nil ?_
  refine thenK_n ?_
  refine KC.block ?_
  refine KC.loop (fun i => [⟨cellsU a.length (upTo (minDig a b) i), 0⟩]) (fun i => [(0, .d d), (1, .d e), (5, .osl 0 0 a.length 1 a.length true), (6, .d (U (bor a b i))), (13, .d (DI a.length)), (14, .d (DI i))]) (fun i => i ≤ a.length) (fun i => a.length - i) 0 (Nat.zero_le _) (by rw [upTo_zero]; rfl) (by simp [Go.Vm.look, extK, enterK, bor]) ?_
  intro i hi
  have hbo := bor_le da db i
  refine KC.seq ?_
  refine KC.region ?_
  refine KT.step rfl rfl (K.lss rfl rfl) ?_
  refine KT.nil ?_
  refine thenK_n ?_
  refine KC.seq ?_
  refine KC.cond rfl (fun hc15 => ?_) (fun hc15 => ?_)
  · skip
    replace hc15 := of_decide_eq_true hc15
    have hia : i < a.length := by omega
    have hai : a.getD i 0 = a[i] := by simp [hia]
    have hab := da _ (List.getElem_mem hia)
    refine KC.skip ?_
    refine thenK_n ?_
    refine KC.seq ?_
    refine KC.block ?_
    refine KC.seq ?_
    refine KC.region ?_
    refine KT.step rfl rfl (K.move rfl) ?_
    refine KT.step rfl rfl (K.assign rfl) ?_
    refine KT.nil ?_
    refine thenK_n ?_
    refine KC.seq ?_
    refine KC.region ?_
    refine KT.step rfl rfl (K.move rfl) ?_
    refine KT.step rfl rfl (K.move rfl) ?_
    refine KT.idx rfl rfl rfl hd rfl hia Try.underlying85 Try.size96 fun c19 cs19 hq19 => ?_
    obtain rfl := hq19
    refine KT.step rfl rfl (K.load rfl Try.agg96) ?_
    refine KT.step rfl rfl (K.conv rfl Try.underlying96 Try.underlying103 (wide32 hab)) ?_
    refine KT.step rfl rfl (K.move rfl) ?_
    refine KT.step rfl rfl (K.sub rfl rfl (subU (by omega))) ?_
    refine KT.step rfl rfl (K.assign rfl) ?_
    refine KT.nil ?_
    refine thenK_n ?_
    refine KC.seq ?_
    refine KC.seq ?_
    refine KC.region ?_
    refine KT.step rfl rfl (K.move rfl) ?_
    refine KT.step rfl rfl (K.move rfl) ?_
    refine KT.step rfl rfl (K.len rfl he Try.underlying85) ?_
    refine KT.step rfl rfl (K.lss rfl rfl) ?_
    refine KT.nil ?_
    refine thenK_n ?_
    refine KC.cond rfl (fun hc27 => ?_) (fun hc27 => ?_)
    · skip
      replace hc27 := of_decide_eq_true hc27
      have hib : i < b.length := by omega
      have hbi : b.getD i 0 = b[i] := by simp [hib]
      have hbb := db _ (List.getElem_mem hib)
      obtain ⟨dv, hdv⟩ : ∃ dv, (a.getD i 0 + (2 ^ 64 - bor a b i) + (2 ^ 64 - b.getD i 0)) % 2 ^ 64 = dv := ⟨_, rfl⟩
      have hbs : bor a b (i + 1) = dv / 2 ^ 63 := by rw [← hdv]; rfl
      refine KC.region ?_
      refine KT.step rfl rfl (K.move rfl) ?_
      refine KT.step rfl rfl (K.move rfl) ?_
      refine KT.step rfl rfl (K.move rfl) ?_
      refine KT.idx rfl rfl rfl he rfl hib Try.underlying85 Try.size96 fun c31 cs31 hq31 => ?_
      obtain rfl := hq31
      refine KT.step rfl rfl (K.load rfl Try.agg96) ?_
      refine KT.step rfl rfl (K.conv rfl Try.underlying96 Try.underlying103 (wide32 hbb)) ?_
      refine KT.step rfl rfl (K.sub rfl rfl (show IntKind.u64.wrap ((((a[i] + (2 ^ 64 - bor a b i)) % 2 ^ 64 : Nat) : Int) - (b[i] : Int)) = (dv : Int) by rw [subU (by simp only [B] at hbb; omega), ← hdv, hai, hbi]; omega)) ?_
      refine KT.step rfl rfl (K.assign rfl) ?_
      refine KT.nil ?_
      refine thenK_n ?_
      refine KC.seq ?_
      refine KC.region ?_
      refine KT.step rfl rfl (K.move rfl) ?_
      refine KT.step rfl rfl (K.move rfl) ?_
      refine KT.step rfl rfl (K.move rfl) ?_
      refine KT.step rfl rfl (K.conv rfl Try.underlying103 Try.underlying96 (show IntKind.u32.wrap (dv : Int) = ((minDig a b i : Nat) : Int) by rw [wrapU32, minDig, hdv])) ?_
      refine KT.step rfl rfl (K.idxO rfl rfl (by omega) Try.underlying85 Try.size96) ?_
      refine KT.step rfl rfl (K.storeO rfl rfl rfl (by rw [cellsU_len]; omega) rfl rfl Try.size96) ?_
      refine KT.nil ?_
      refine thenK_n ?_
      refine KC.region ?_
      refine KT.step rfl rfl (K.move rfl) ?_
      refine KT.step rfl rfl (K.shrU (b := 63) rfl rfl (by decide)) ?_
      refine KT.step rfl rfl (K.assign rfl) ?_
      refine KT.nil ?_
      refine blockK_n ?_
      refine thenK_n ?_
      refine KC.region ?_
      refine KT.step rfl rfl (K.add rfl rfl (wrap_id (by omega))) ?_
      refine KT.step rfl rfl (K.move rfl) ?_
      refine KT.nil ?_
      refine thenK_n ?_
      refine ⟨i + 1, by omega, by omega, ?_, by simp [Go.Vm.look, extK, hbs]⟩
      rw [← upTo_step, ← cellsU_set _ (by omega)]
      rfl
    · skip
      replace hc27 := of_decide_eq_false hc27
      have hbi : b.getD i 0 = 0 := by simp [show ¬ i < b.length by omega]
      obtain ⟨dv, hdv⟩ : ∃ dv, (a.getD i 0 + (2 ^ 64 - bor a b i) + (2 ^ 64 - b.getD i 0)) % 2 ^ 64 = dv := ⟨_, rfl⟩
      have hbs : bor a b (i + 1) = dv / 2 ^ 63 := by rw [← hdv]; rfl
      rw [show (a[i] + (2 ^ 64 - bor a b i)) % 2 ^ 64 = dv by rw [← hdv, hai, hbi]; omega]
      refine KC.skip ?_
      refine thenK_n ?_
      refine KC.seq ?_
      refine KC.region ?_
      refine KT.step rfl rfl (K.move rfl) ?_
      refine KT.step rfl rfl (K.move rfl) ?_
      refine KT.step rfl rfl (K.move rfl) ?_
      refine KT.step rfl rfl (K.conv rfl Try.underlying103 Try.underlying96 (show IntKind.u32.wrap (dv : Int) = ((minDig a b i : Nat) : Int) by rw [wrapU32, minDig, hdv])) ?_
      refine KT.step rfl rfl (K.idxO rfl rfl (by omega) Try.underlying85 Try.size96) ?_
      refine KT.step rfl rfl (K.storeO rfl rfl rfl (by rw [cellsU_len]; omega) rfl rfl Try.size96) ?_
      refine KT.nil ?_
      refine thenK_n ?_
      refine KC.region ?_
      refine KT.step rfl rfl (K.move rfl) ?_
      refine KT.step rfl rfl (K.shrU (b := 63) rfl rfl (by decide)) ?_
      refine KT.step rfl rfl (K.assign rfl) ?_
      refine KT.nil ?_
      refine blockK_n ?_
      refine thenK_n ?_
      refine KC.region ?_
      refine KT.step rfl rfl (K.add rfl rfl (wrap_id (by omega))) ?_
      refine KT.step rfl rfl (K.move rfl) ?_
      refine KT.nil ?_
      refine thenK_n ?_
      refine ⟨i + 1, by omega, by omega, ?_, by simp [Go.Vm.look, extK, hbs]⟩
      rw [← upTo_step, ← cellsU_set _ (by omega)]
      rfl
  · skip
    replace hc15 := of_decide_eq_false hc15
    obtain rfl : i = a.length := by omega
    refine KC.exit ?_
    refine thenK_x ?_
    refine thenK_x ?_
    refine blockK_e ?_
    refine thenK_n ?_
    refine KC.seq ?_
    refine KC.region ?_
    refine KT.step rfl rfl (K.move rfl) ?_
    rw [cellsU_full]
    have hdp : (([.osl 0 0 a.length 1 a.length true] : List XV).mapM (deepen (freezeIds [⟨cellsU a.length (minDig a b), 0⟩] [0]) 5)) = some [.sl ((minL a b).map U32) a.length (some a.length)] := by
      rw [List.mapM_cons, deepen_osl (ob := ⟨cellsU a.length (minDig a b), 1⟩) rfl rfl (by simp [cellsU]), List.drop_zero, List.take_of_length_le (by simp [cellsU]), cellsU_map, mapM_deep]
      rfl
    have htr := trim107 (mag_sl (l := minL a b) (cap := some a.length) (minL_len a b)) (by rw [minL_len]; omega)
    rw [minL_len] at htr
    refine KT.step rfl rfl (K.callZ [0] 5 rfl plainTry_107 hdp htr) ?_
    refine KT.step rfl rfl (K.assign rfl) ?_
    refine KT.nil ?_
    refine thenK_n ?_
    refine KC.ret ?_
    exact ⟨.inl rfl, _, rfl, fin_d rfl⟩
end Go.Proofs.Ytlomhajhoecoiaa
