/-
  A test: numbers of four words.
-/
import Derived.Test.YtlomhajhoecoiaaLatB
import Derived.Test.YtlomhajhoecoiaaBigB
import Derived.Test.YtlomhajhoecoiaaDetB
import Derived.Test.YtlomhajhoecoiaaProg
import Derived.KernelRfl
namespace Go.Proofs.Ytlomhajhoecoiaa
open Go.Vm
theorem Try.agg4 : isAggT Try.prog 4 = some false := by kernel_rfl
theorem Try.size4 : sizeT Try.prog 4 = some 1 := by kernel_rfl
theorem Try.one4 : OneT Try.prog 4 (.bool false) := ⟨by kernel_rfl, by kernel_rfl, rfl, of_decide_eq_true (by kernel_rfl)⟩
theorem Try.agg103 : isAggT Try.prog 103 = some false := by kernel_rfl
theorem Try.size103 : sizeT Try.prog 103 = some 1 := by kernel_rfl
theorem Try.one103 : OneT Try.prog 103 (.int .u64 0) := ⟨by kernel_rfl, by kernel_rfl, rfl, of_decide_eq_true (by kernel_rfl)⟩
theorem Try.agg108 : isAggT Try.prog 108 = some true := by kernel_rfl
theorem plainTry_118 : plainFn Try.prog 118 = true := by kernel_rfl
theorem plainTry_112 : plainFn Try.prog 112 = true := by kernel_rfl
theorem plainTry_117 : plainFn Try.prog 117 = true := by kernel_rfl
theorem plainTry_116 : plainFn Try.prog 116 = true := by kernel_rfl
theorem plainTry_113 : plainFn Try.prog 113 = true := by kernel_rfl
theorem plainTry_119 : plainFn Try.prog 119 = true := by kernel_rfl
theorem Try.size108 : sizeT Try.prog 108 = some 4 := by kernel_rfl
theorem Try.zero108 : zeroT Try.prog 108 = some (.agg #[.int .u64 0, .int .u64 0, .int .u64 0, .int .u64 0]) := by kernel_rfl
theorem add64_0 (x y : Nat) : pureRun Try.prog (callFunc 120 #[.int .u64 x, .int .u64 y, .int .u64 0]) = some (.value (.tuple #[.int .u64 ((x + y + 0) % 2 ^ 64 : Nat), .int .u64 ((x + y + 0) / 2 ^ 64 : Nat)])) := by kernel_rfl
theorem add64_1 (x y : Nat) : pureRun Try.prog (callFunc 120 #[.int .u64 x, .int .u64 y, .int .u64 1]) = some (.value (.tuple #[.int .u64 ((x + y + 1) % 2 ^ 64 : Nat), .int .u64 ((x + y + 1) / 2 ^ 64 : Nat)])) := by kernel_rfl
theorem add64 (x y c : Nat) (hc : c < 2) : pureRun Try.prog (callFunc 120 #[.int .u64 x, .int .u64 y, .int .u64 c]) = some (.value (.tuple #[.int .u64 ((x + y + c) % 2 ^ 64 : Nat), .int .u64 ((x + y + c) / 2 ^ 64 : Nat)])) := by
  match c, hc with
  | 0, _ => exact add64_0 x y
  | 1, _ => exact add64_1 x y
/-- A number of four words. -/
def words (X : Nat → Nat) : List DV := (List.range 4).map fun i => U (X i)
abbrev longD (X : Nat → Nat) : DV := .agg (words X)
def carry (X Y : Nat → Nat) : Nat → Nat
  | 0 => 0
  | i + 1 => (X i + Y i + carry X Y i) / 2 ^ 64
def sumW (X Y : Nat → Nat) (i : Nat) : Nat := (X i + Y i + carry X Y i) % 2 ^ 64
def outW (F : Nat → Nat) (i : Nat) : List XV := (List.range 4).map fun k => .d (U (if k < i then F k else 0))
theorem carry_lt {X Y : Nat → Nat} (hX : ∀ i, X i < 2 ^ 64) (hY : ∀ i, Y i < 2 ^ 64) : ∀ i, carry X Y i < 2
  | 0 => by simp [carry]
  | i + 1 => by
    have := carry_lt hX hY i
    have h1 := hX i
    have h2 := hY i
    simp only [carry]
    omega
theorem words_get (X : Nat → Nat) (i : Nat) (hi : i < 4) : ((words X).map XV.d)[0 + i * 1]? = some (.d (U (X i))) := by
  rw [Nat.zero_add, Nat.mul_one]
  simp [words, hi]
theorem outW_len (F : Nat → Nat) (i : Nat) : (outW F i).length = 4 := by simp [outW]
theorem outW_set (F : Nat → Nat) (i : Nat) (hi : i < 4) : (outW F i).set (0 + i * 1) (.d (U (F i))) = outW F (i + 1) := by
  rw [Nat.zero_add, Nat.mul_one]
  refine List.ext_getElem? fun k => ?_
  rw [List.getElem?_set]
  by_cases hk : k < 4
  · by_cases e : i = k
    · subst e; simp [outW, hk]
    · rw [if_neg e]
      simp only [outW, List.getElem?_map, List.getElem?_range hk, Option.map_some, Option.some.injEq, XV.d.injEq]
      by_cases h : k < i
      · rw [if_pos h, if_pos (by omega)]
      · rw [if_neg h, if_neg (by omega)]
  · rw [if_neg (by omega), List.getElem?_eq_none (by simp [outW]; omega), List.getElem?_eq_none (by simp [outW]; omega)]
theorem words_agg (F : Nat → Nat) : aggX ((((words F).map XV.d).drop 0).take 4) = .d (longD F) := by
  rw [List.drop_zero, List.take_of_length_le (by simp [words]), aggX_d]
theorem outW_full (F : Nat → Nat) : outW F 4 = (words F).map XV.d := by simp [outW, words, List.range_succ]
set_option maxRecDepth 10000 in
theorem plus118 {X Y : Nat → Nat} (hX : ∀ i, X i < 2 ^ 64) (hY : ∀ i, Y i < 2 ^ 64) : DeepCall Try.prog 118 [longD X, longD Y] (longD (sumW X Y)) := by
  refine deepCall_K 5 Try.func118 rfl (Nat.le_of_ble_eq_true rfl) fun M W0 => ?_
  refine KC.seq ?_
  refine KC.region ?_
  refine KT.step rfl rfl (K.box rfl) ?_
  refine KT.step rfl rfl (K.box rfl) ?_
  refine KT.step rfl rfl (K.alloc Try.zero108) ?_
  refine KT.nil ?_
  refine thenK_n ?_
  refine KC.seq ?_
  refine KC.region ?_
  refine KT.step rfl rfl (K.alloc Try.zero108) ?_
  refine KT.nil ?_
  refine thenK_n ?_
  refine KC.seq ?_
  refine KC.region ?_
  refine KT.step rfl rfl (K.assign rfl) ?_
  refine KT.nil ?_
  refine thenK_n ?_
  refine KC.seq ?_
  refine KC.seq ?_
  refine KC.region ?_
  refine KT.step rfl rfl (K.move rfl) ?_
  refine KT.nil ?_
  refine thenK_n ?_
  refine KC.block ?_
  refine KC.loop (fun i => [⟨(words X).map .d, 0⟩, ⟨(words Y).map .d, 0⟩, ⟨outW (fun _ => 0) 0, 0⟩, ⟨outW (sumW X Y) i, 0⟩]) (fun i => [(2, .optr 0 0), (3, .optr 1 0), (4, .optr 2 0), (5, .optr 3 0), (6, .d (U (carry X Y i))), (8, .d (DI i))]) (fun i => i ≤ 4) (fun i => 4 - i) 0 (Nat.zero_le _) rfl (by simp [Go.Vm.look, extK, enterK, carry]) ?_
  intro i hi
  refine KC.seq ?_
  refine KC.region ?_
  refine KT.step rfl rfl (K.lss rfl rfl) ?_
  refine KT.nil ?_
  refine thenK_n ?_
  refine KC.seq ?_
  refine KC.cond rfl (fun hc9 => ?_) (fun hc9 => ?_)
  · skip
    replace hc9 : (i : Int) < 4 := of_decide_eq_true hc9
    refine KC.skip ?_
    refine thenK_n ?_
    refine KC.seq ?_
    refine KC.block ?_
    refine KC.seq ?_
    refine KC.region ?_
    refine KT.step rfl rfl (K.move rfl) ?_
    refine KT.step rfl rfl (K.assign rfl) ?_
    refine KT.nil ?_
    refine thenK_n ?_
    refine KC.draw Try.mixed ?_
    refine KT.step rfl rfl (K.move rfl) ?_
    refine KT.step rfl rfl (K.move rfl) ?_
    refine KT.step rfl rfl (K.idxA rfl rfl (by omega) Try.underlying108 Try.size103) ?_
    refine KT.step rfl rfl (K.loadO rfl rfl (by simp) (words_get X i (by omega)) Try.agg103) ?_
    refine KT.step rfl rfl (K.move rfl) ?_
    refine KT.step rfl rfl (K.idxA rfl rfl (by omega) Try.underlying108 Try.size103) ?_
    refine KT.step rfl rfl (K.loadO rfl rfl (by simp) (words_get Y i (by omega)) Try.agg103) ?_
    refine KT.step rfl rfl (K.move rfl) ?_
    refine KT.step rfl rfl (K.ext (us := [.int .u64 (X i), .int .u64 (Y i), .int .u64 (carry X Y i)]) rfl (add64 _ _ _ (carry_lt hX hY i))) ?_
    refine KT.step rfl rfl (K.move rfl) ?_
    refine KT.step rfl rfl (K.extractL rfl rfl) ?_
    refine KT.step rfl rfl (K.extractL rfl rfl) ?_
    refine KT.step rfl rfl (K.idxA rfl rfl (by omega) Try.underlying108 Try.size103) ?_
    refine KT.step rfl rfl (K.storeO rfl rfl rfl (by rw [outW_len]; omega) rfl rfl Try.size103) ?_
    refine KT.step rfl rfl (K.assign rfl) ?_
    refine KT.nil ?_
    refine ⟨by kernel_rfl, ?_⟩
    refine blockK_n ?_
    refine thenK_n ?_
    refine KC.region ?_
    refine KT.step rfl rfl (K.add rfl rfl (wrap_id (by omega))) ?_
    refine KT.step rfl rfl (K.move rfl) ?_
    refine KT.nil ?_
    refine thenK_n ?_
    refine ⟨i + 1, by omega, by omega, ?_, by simp [Go.Vm.look, extK, carry]⟩
    rw [← outW_set _ i (by omega)]
    rfl
  · skip
    replace hc9 : ¬ (i : Int) < 4 := of_decide_eq_false hc9
    have : i = 4 := by omega
    subst this
    refine KC.exit ?_
    refine thenK_x ?_
    refine thenK_x ?_
    refine blockK_e ?_
    refine thenK_n ?_
    refine KC.seq ?_
    refine KC.region ?_
    refine KT.step rfl rfl (K.loadOAgg (m := 4) rfl rfl (by simp) Try.agg108 Try.size108 (by simp [outW_len])) ?_
    rw [show (⟨outW (sumW X Y) 4, 0⟩ : VObj).cells = (words (sumW X Y)).map XV.d from outW_full _, words_agg]
    refine KT.step rfl rfl (K.storeN (v := .d (longD (sumW X Y))) rfl rfl rfl (by simp [cellsX, words, outW_len]) rfl Try.size108) ?_
    refine KT.nil ?_
    refine thenK_n ?_
    refine KC.ret ?_
    refine ⟨.inl rfl, _, resK_agg (m := 4) rfl rfl rfl (by simp) Try.agg108 Try.size108 (Nat.le_refl 4), ?_⟩
    rfl

/-- The words of a whole number in the two's complement. -/
def W (z : Int) (i : Nat) : Nat := ((z / 2 ^ (64 * i)) % 2 ^ 64).toNat
theorem W_lt (z : Int) (i : Nat) : W z i < 2 ^ 64 := by unfold W; omega
theorem div_chain (z : Int) (i : Nat) : z / 2 ^ (64 * (i + 1)) = (z / 2 ^ (64 * i)) / 2 ^ 64 := by
  rw [show 64 * (i + 1) = 64 * i + 64 by omega, Int.pow_add, Int.mul_comm, Int.mul_comm, Int.ediv_ediv_of_nonneg (by exact Int.pow_nonneg (by decide))]
theorem carry_W (a b : Int) : ∀ i, (a + b) / 2 ^ (64 * i) = a / 2 ^ (64 * i) + b / 2 ^ (64 * i) + carry (W a) (W b) i
  | 0 => by simp [carry]
  | i + 1 => by
    have ih := carry_W a b i
    rw [div_chain, div_chain, div_chain, ih]
    simp only [carry, W]
    generalize a / 2 ^ (64 * i) = p
    generalize b / 2 ^ (64 * i) = q
    generalize carry (W a) (W b) i = c
    omega
theorem sum_W (a b : Int) : sumW (W a) (W b) = W (a + b) := by
  funext i
  have h := carry_W a b i
  simp only [sumW, W]
  rw [h]
  generalize a / 2 ^ (64 * i) = p
  generalize b / 2 ^ (64 * i) = q
  generalize carry (W a) (W b) i = c
  omega
/-- A whole number modulo 2^256. -/
abbrev longZ (z : Int) : DV := longD (W z)
theorem plusZ118 (a b : Int) : DeepCall Try.prog 118 [longZ a, longZ b] (longZ (a + b)) := by
  have h := plus118 (W_lt a) (W_lt b)
  rwa [sum_W] at h
theorem sub64_0 (y : Nat) : pureRun Try.prog (callFunc 121 #[.int .u64 0, .int .u64 y, .int .u64 0]) = some (.value (.tuple #[.int .u64 ((0 + 2 ^ 64 - y - 0) % 2 ^ 64 : Nat), .int .u64 (if 0 < y + 0 then 1 else 0 : Nat)])) := by kernel_rfl
theorem sub64_1 (y : Nat) : pureRun Try.prog (callFunc 121 #[.int .u64 0, .int .u64 y, .int .u64 1]) = some (.value (.tuple #[.int .u64 ((0 + 2 ^ 64 - y - 1) % 2 ^ 64 : Nat), .int .u64 (if 0 < y + 1 then 1 else 0 : Nat)])) := by kernel_rfl
theorem sub64 (y c : Nat) (hc : c < 2) : pureRun Try.prog (callFunc 121 #[.int .u64 0, .int .u64 y, .int .u64 c]) = some (.value (.tuple #[.int .u64 ((0 + 2 ^ 64 - y - c) % 2 ^ 64 : Nat), .int .u64 (if 0 < y + c then 1 else 0 : Nat)])) := by
  match c, hc with
  | 0, _ => exact sub64_0 y
  | 1, _ => exact sub64_1 y
def borrow (Y : Nat → Nat) : Nat → Nat
  | 0 => 0
  | i + 1 => if 0 < Y i + borrow Y i then 1 else 0
theorem borrow_lt (Y : Nat → Nat) : ∀ i, borrow Y i < 2
  | 0 => by simp [borrow]
  | i + 1 => by simp only [borrow]; split <;> omega
def negW (Y : Nat → Nat) (i : Nat) : Nat := (0 + 2 ^ 64 - Y i - borrow Y i) % 2 ^ 64
theorem borrow_W (a : Int) : ∀ i, (0 - a) / 2 ^ (64 * i) = 0 - a / 2 ^ (64 * i) - borrow (W a) i
  | 0 => by simp [borrow]
  | i + 1 => by
    have ih := borrow_W a i
    rw [div_chain, div_chain, ih]
    have hb := borrow_lt (W a) i
    simp only [borrow]
    have hw : (W a i : Int) = (a / 2 ^ (64 * i)) % 2 ^ 64 := by unfold W; omega
    generalize a / 2 ^ (64 * i) = p at hw ⊢
    generalize borrow (W a) i = c at hb ⊢
    generalize W a i = y at hw ⊢
    split <;> omega
theorem neg_W (a : Int) : negW (W a) = W (0 - a) := by
  funext i
  have h := borrow_W a i
  have hb := borrow_lt (W a) i
  simp only [negW, W]
  rw [h]
  generalize a / 2 ^ (64 * i) = p
  generalize borrow (W a) i = c at hb ⊢
  omega
set_option maxRecDepth 10000 in
theorem neg117 (Y : Nat → Nat) : DeepCall Try.prog 117 [longD Y] (longD (negW Y)) := by
  refine deepCall_K 5 Try.func117 rfl (Nat.le_of_ble_eq_true rfl) fun M W0 => ?_
  refine KC.seq ?_
  refine KC.region ?_
  refine KT.step rfl rfl (K.box rfl) ?_
  refine KT.step rfl rfl (K.alloc Try.zero108) ?_
  refine KT.nil ?_
  refine thenK_n ?_
  refine KC.seq ?_
  refine KC.region ?_
  refine KT.step rfl rfl (K.alloc Try.zero108) ?_
  refine KT.nil ?_
  refine thenK_n ?_
  refine KC.seq ?_
  refine KC.region ?_
  refine KT.step rfl rfl (K.assign rfl) ?_
  refine KT.nil ?_
  refine thenK_n ?_
  refine KC.seq ?_
  refine KC.seq ?_
  refine KC.region ?_
  refine KT.step rfl rfl (K.move rfl) ?_
  refine KT.nil ?_
  refine thenK_n ?_
  refine KC.block ?_
  refine KC.loop (fun i => [⟨(words Y).map .d, 0⟩, ⟨outW (fun _ => 0) 0, 0⟩, ⟨outW (negW Y) i, 0⟩]) (fun i => [(1, .optr 0 0), (2, .optr 1 0), (3, .optr 2 0), (4, .d (U (borrow Y i))), (6, .d (DI i))]) (fun i => i ≤ 4) (fun i => 4 - i) 0 (Nat.zero_le _) rfl (by simp [Go.Vm.look, extK, enterK, borrow]) ?_
  intro i hi
  refine KC.seq ?_
  refine KC.region ?_
  refine KT.step rfl rfl (K.lss rfl rfl) ?_
  refine KT.nil ?_
  refine thenK_n ?_
  refine KC.seq ?_
  refine KC.cond rfl (fun hc7 => ?_) (fun hc7 => ?_)
  · skip
    replace hc7 : (i : Int) < 4 := of_decide_eq_true hc7
    refine KC.skip ?_
    refine thenK_n ?_
    refine KC.seq ?_
    refine KC.block ?_
    refine KC.seq ?_
    refine KC.region ?_
    refine KT.step rfl rfl (K.move rfl) ?_
    refine KT.step rfl rfl (K.assign rfl) ?_
    refine KT.nil ?_
    refine thenK_n ?_
    refine KC.region ?_
    refine KT.step rfl rfl (K.move rfl) ?_
    refine KT.step rfl rfl (K.move rfl) ?_
    refine KT.step rfl rfl (K.idxA rfl rfl (by omega) Try.underlying108 Try.size103) ?_
    refine KT.step rfl rfl (K.loadO rfl rfl (by simp) (words_get Y i (by omega)) Try.agg103) ?_
    refine KT.step rfl rfl (K.move rfl) ?_
    refine KT.step rfl rfl (K.ext (us := [.int .u64 0, .int .u64 (Y i), .int .u64 (borrow Y i)]) rfl (sub64 _ _ (borrow_lt Y i))) ?_
    refine KT.step rfl rfl (K.move rfl) ?_
    refine KT.step rfl rfl (K.extractL rfl rfl) ?_
    refine KT.step rfl rfl (K.extractL rfl rfl) ?_
    refine KT.step rfl rfl (K.idxA rfl rfl (by omega) Try.underlying108 Try.size103) ?_
    refine KT.step rfl rfl (K.storeO rfl rfl rfl (by rw [outW_len]; omega) rfl rfl Try.size103) ?_
    refine KT.step rfl rfl (K.assign rfl) ?_
    refine KT.nil ?_
    refine blockK_n ?_
    refine thenK_n ?_
    refine KC.region ?_
    refine KT.step rfl rfl (K.add rfl rfl (wrap_id (by omega))) ?_
    refine KT.step rfl rfl (K.move rfl) ?_
    refine KT.nil ?_
    refine thenK_n ?_
    refine ⟨i + 1, by omega, by omega, ?_, by simp [Go.Vm.look, extK, borrow]⟩
    rw [← outW_set _ i (by omega)]
    rfl
  · skip
    replace hc7 : ¬ (i : Int) < 4 := of_decide_eq_false hc7
    have : i = 4 := by omega
    subst this
    refine KC.exit ?_
    refine thenK_x ?_
    refine thenK_x ?_
    refine blockK_e ?_
    refine thenK_n ?_
    refine KC.seq ?_
    refine KC.region ?_
    refine KT.step rfl rfl (K.loadOAgg (m := 4) rfl rfl (by simp) Try.agg108 Try.size108 (by simp [outW_len])) ?_
    rw [show (⟨outW (negW Y) 4, 0⟩ : VObj).cells = (words (negW Y)).map XV.d from outW_full _, words_agg]
    refine KT.step rfl rfl (K.storeN (v := .d (longD (negW Y))) rfl rfl rfl (by simp [cellsX, words, outW_len]) rfl Try.size108) ?_
    refine KT.nil ?_
    refine thenK_n ?_
    refine KC.ret ?_
    refine ⟨.inl rfl, _, resK_agg (m := 4) rfl rfl rfl (by simp) Try.agg108 Try.size108 (Nat.le_refl 4), ?_⟩
    rfl
theorem negZ117 (a : Int) : DeepCall Try.prog 117 [longZ a] (longZ (0 - a)) := by
  have h := neg117 (W a)
  rwa [neg_W] at h
set_option maxRecDepth 10000 in
theorem mul119 {x y : Nat} (hx : x < 2 ^ 64) (hy : y < 2 ^ 64) : DeepCall Try.prog 119 [U x, U y] (.tup [U (x * y / 2 ^ 64), U ((x * y) % 2 ^ 64)]) := by
  refine deepCall_K 5 Try.func119 rfl (Nat.le_of_ble_eq_true rfl) fun M W0 => ?_
  refine KC.seq ?_
  refine KC.region ?_
  refine KT.step rfl rfl (K.assign rfl) ?_
  refine KT.step rfl rfl (K.assign rfl) ?_
  refine KT.nil ?_
  refine thenK_n ?_
  refine KC.seq ?_
  refine KC.region ?_
  refine KT.step rfl rfl (K.move rfl) ?_
  refine KT.step rfl rfl (K.maskU (m := 32) rfl rfl (by decide)) ?_
  refine KT.step rfl rfl (K.assign rfl) ?_
  refine KT.nil ?_
  refine thenK_n ?_
  refine KC.seq ?_
  refine KC.region ?_
  refine KT.step rfl rfl (K.move rfl) ?_
  refine KT.step rfl rfl (K.shrU (b := 32) rfl rfl (by decide)) ?_
  refine KT.step rfl rfl (K.assign rfl) ?_
  refine KT.nil ?_
  refine thenK_n ?_
  refine KC.seq ?_
  refine KC.region ?_
  refine KT.step rfl rfl (K.move rfl) ?_
  refine KT.step rfl rfl (K.maskU (m := 32) rfl rfl (by decide)) ?_
  refine KT.step rfl rfl (K.assign rfl) ?_
  refine KT.nil ?_
  refine thenK_n ?_
  refine KC.seq ?_
  refine KC.region ?_
  refine KT.step rfl rfl (K.move rfl) ?_
  refine KT.step rfl rfl (K.shrU (b := 32) rfl rfl (by decide)) ?_
  refine KT.step rfl rfl (K.assign rfl) ?_
  refine KT.nil ?_
  refine thenK_n ?_
  refine KC.seq ?_
  refine KC.region ?_
  refine KT.step rfl rfl (K.move rfl) ?_
  refine KT.step rfl rfl (K.move rfl) ?_
  refine KT.step rfl rfl (K.mulU rfl rfl) ?_
  refine KT.step rfl rfl (K.assign rfl) ?_
  refine KT.nil ?_
  refine thenK_n ?_
  refine KC.seq ?_
  refine KC.region ?_
  refine KT.step rfl rfl (K.move rfl) ?_
  refine KT.step rfl rfl (K.move rfl) ?_
  refine KT.step rfl rfl (K.mulU rfl rfl) ?_
  refine KT.step rfl rfl (K.move rfl) ?_
  refine KT.step rfl rfl (K.shrU (b := 32) rfl rfl (by decide)) ?_
  refine KT.step rfl rfl (K.addU rfl rfl) ?_
  refine KT.step rfl rfl (K.assign rfl) ?_
  refine KT.nil ?_
  refine thenK_n ?_
  refine KC.seq ?_
  refine KC.region ?_
  refine KT.step rfl rfl (K.move rfl) ?_
  refine KT.step rfl rfl (K.maskU (m := 32) rfl rfl (by decide)) ?_
  refine KT.step rfl rfl (K.assign rfl) ?_
  refine KT.nil ?_
  refine thenK_n ?_
  refine KC.seq ?_
  refine KC.region ?_
  refine KT.step rfl rfl (K.move rfl) ?_
  refine KT.step rfl rfl (K.shrU (b := 32) rfl rfl (by decide)) ?_
  refine KT.step rfl rfl (K.assign rfl) ?_
  refine KT.nil ?_
  refine thenK_n ?_
  refine KC.seq ?_
  refine KC.region ?_
  refine KT.step rfl rfl (K.move rfl) ?_
  refine KT.step rfl rfl (K.move rfl) ?_
  refine KT.step rfl rfl (K.move rfl) ?_
  refine KT.step rfl rfl (K.mulU rfl rfl) ?_
  refine KT.step rfl rfl (K.addU rfl rfl) ?_
  refine KT.step rfl rfl (K.assign rfl) ?_
  refine KT.nil ?_
  refine thenK_n ?_
  refine KC.seq ?_
  refine KC.region ?_
  refine KT.step rfl rfl (K.move rfl) ?_
  refine KT.step rfl rfl (K.move rfl) ?_
  refine KT.step rfl rfl (K.mulU rfl rfl) ?_
  refine KT.step rfl rfl (K.move rfl) ?_
  refine KT.step rfl rfl (K.addU rfl rfl) ?_
  refine KT.step rfl rfl (K.move rfl) ?_
  refine KT.step rfl rfl (K.shrU (b := 32) rfl rfl (by decide)) ?_
  refine KT.step rfl rfl (K.addU rfl rfl) ?_
  refine KT.step rfl rfl (K.assign rfl) ?_
  refine KT.nil ?_
  refine thenK_n ?_
  refine KC.seq ?_
  refine KC.region ?_
  refine KT.step rfl rfl (K.move rfl) ?_
  refine KT.step rfl rfl (K.move rfl) ?_
  refine KT.step rfl rfl (K.mulU rfl rfl) ?_
  refine KT.step rfl rfl (K.assign rfl) ?_
  refine KT.nil ?_
  refine thenK_n ?_
  refine KC.ret ?_
  rw [← mul64_hi hx hy]
  exact ⟨.inl rfl, _, rfl, rfl⟩
theorem build_long (a b c d : Int) : pureRun Try.prog (Instr.build 108 #[(0, .int .u64 a), (1, .int .u64 b), (2, .int .u64 c), (3, .int .u64 d)]) = some (.agg #[.int .u64 a, .int .u64 b, .int .u64 c, .int .u64 d]) := by kernel_rfl
theorem words4 (X : Nat → Nat) : words X = [U (X 0), U (X 1), U (X 2), U (X 3)] := rfl
theorem W_pos {x : Int} (h : 0 ≤ x) (h2 : x ≤ 9223372036854775807) : words (W x) = [U (x % 2 ^ 64).toNat, U 0, U 0, U 0] := by
  rw [words4]
  have e0 : W x 0 = (x % 2 ^ 64).toNat := by unfold W; congr 2; simp
  have e1 : W x 1 = 0 := by unfold W; simp only [Nat.mul_one]; omega
  have e2 : W x 2 = 0 := by unfold W; rw [show 64 * 2 = 128 by rfl]; omega
  have e3 : W x 3 = 0 := by unfold W; rw [show 64 * 3 = 192 by rfl]; omega
  rw [e0, e1, e2, e3]
theorem W_neg {x : Int} (h : x < 0) (h2 : -9223372036854775808 ≤ x) : words (W x) = [U (x % 2 ^ 64).toNat, U (2 ^ 64 - 1), U (2 ^ 64 - 1), U (2 ^ 64 - 1)] := by
  rw [words4]
  have e0 : W x 0 = (x % 2 ^ 64).toNat := by unfold W; congr 2; simp
  have e1 : W x 1 = 2 ^ 64 - 1 := by unfold W; simp only [Nat.mul_one]; omega
  have e2 : W x 2 = 2 ^ 64 - 1 := by unfold W; rw [show 64 * 2 = 128 by rfl]; omega
  have e3 : W x 3 = 2 ^ 64 - 1 := by unfold W; rw [show 64 * 3 = 192 by rfl]; omega
  rw [e0, e1, e2, e3]
set_option maxRecDepth 10000 in
theorem longOf112 {x : Int} (h1 : -9223372036854775808 ≤ x) (h2 : x ≤ 9223372036854775807) : DeepCall Try.prog 112 [DI x] (longZ x) := by
  refine deepCall_K 5 Try.func112 rfl (Nat.le_of_ble_eq_true rfl) fun M W0 => ?_
  refine KC.seq ?_
  refine KC.region ?_
  refine KT.step rfl rfl (K.alloc Try.zero108) ?_
  refine KT.nil ?_
  refine thenK_n ?_
  refine KC.seq ?_
  refine KC.region ?_
  refine KT.step rfl rfl (K.assign rfl) ?_
  refine KT.nil ?_
  refine thenK_n ?_
  refine KC.seq ?_
  refine KC.seq ?_
  refine KC.region ?_
  refine KT.step rfl rfl (K.move rfl) ?_
  refine KT.step rfl rfl (K.lss rfl rfl) ?_
  refine KT.nil ?_
  refine thenK_n ?_
  refine KC.cond rfl (fun hc5 => ?_) (fun hc5 => ?_)
  · skip
    replace hc5 : x < 0 := of_decide_eq_true hc5
    refine KC.region ?_
    refine KT.step rfl rfl (K.move rfl) ?_
    refine KT.step rfl rfl (K.sub rfl rfl (c := ((2 ^ 64 - 1 : Nat) : Int)) rfl) ?_
    refine KT.step rfl rfl (K.assign rfl) ?_
    refine KT.nil ?_
    refine thenK_n ?_
    refine KC.seq ?_
    refine KC.region ?_
    refine KT.step rfl rfl (K.move rfl) ?_
    refine KT.step rfl rfl (K.conv rfl Try.underlying3 Try.underlying103 (wrapUI _)) ?_
    refine KT.step rfl rfl (K.move rfl) ?_
    refine KT.step rfl rfl (K.move rfl) ?_
    refine KT.step rfl rfl (K.move rfl) ?_
    refine KT.step rfl rfl (K.buildL rfl (build_long _ _ _ _)) ?_
    refine KT.step rfl rfl (K.storeN rfl rfl rfl (Nat.le_refl 4) rfl Try.size108) ?_
    refine KT.nil ?_
    refine thenK_n ?_
    refine KC.ret ?_
    have e : longZ x = _ := congrArg DV.agg (W_neg hc5 h1)
    rw [e]
    exact ⟨.inl rfl, _, resK_agg (m := 4) rfl rfl rfl (by simp) Try.agg108 Try.size108 (Nat.le_refl 4), rfl⟩
  · skip
    replace hc5 : ¬ x < 0 := of_decide_eq_false hc5
    refine KC.skip ?_
    refine thenK_n ?_
    refine KC.seq ?_
    refine KC.region ?_
    refine KT.step rfl rfl (K.move rfl) ?_
    refine KT.step rfl rfl (K.conv rfl Try.underlying3 Try.underlying103 (wrapUI _)) ?_
    refine KT.step rfl rfl (K.move rfl) ?_
    refine KT.step rfl rfl (K.move rfl) ?_
    refine KT.step rfl rfl (K.move rfl) ?_
    refine KT.step rfl rfl (K.buildL rfl (build_long _ _ _ _)) ?_
    refine KT.step rfl rfl (K.storeN rfl rfl rfl (Nat.le_refl 4) rfl Try.size108) ?_
    refine KT.nil ?_
    refine thenK_n ?_
    refine KC.ret ?_
    have e : longZ x = _ := congrArg DV.agg (W_pos (by omega) h2)
    rw [e]
    exact ⟨.inl rfl, _, resK_agg (m := 4) rfl rfl rfl (by simp) Try.agg108 Try.size108 (Nat.le_refl 4), rfl⟩

def overW (Z : Nat → Nat) (m : Nat) : Nat → Nat
  | 0 => 0
  | i + 1 => (Z i * m / 2 ^ 64 + ((Z i * m) % 2 ^ 64 + overW Z m i + 0) / 2 ^ 64) % 2 ^ 64
def mulW (Z : Nat → Nat) (m i : Nat) : Nat := ((Z i * m) % 2 ^ 64 + overW Z m i + 0) % 2 ^ 64
theorem over_W (z : Int) (m : Nat) (hm : m < 2 ^ 64) : ∀ i, (z * m) / 2 ^ (64 * i) = (z / 2 ^ (64 * i)) * m + overW (W z) m i ∧ overW (W z) m i < 2 ^ 64
  | 0 => by simp [overW]
  | i + 1 => by
    obtain ⟨ih, hb⟩ := over_W z m hm i
    rw [div_chain, div_chain, ih]
    simp only [overW]
    have hw : (W z i : Int) = (z / 2 ^ (64 * i)) % 2 ^ 64 := by unfold W; omega
    have hlt := W_lt z i
    generalize z / 2 ^ (64 * i) = p at hw ⊢
    generalize overW (W z) m i = o at hb ⊢
    generalize W z i = w at hw hlt ⊢
    have hA : w * m ≤ (2 ^ 64 - 1) * (2 ^ 64 - 1) := Nat.mul_le_mul (by omega) (by omega)
    have hp : p = p / 2 ^ 64 * 2 ^ 64 + (w : Int) := by omega
    have e : p * (m : Int) = (p / 2 ^ 64 * m) * 2 ^ 64 + ((w * m : Nat) : Int) := by
      rw [Int.natCast_mul]
      generalize p / 2 ^ 64 = r at hp ⊢
      subst hp
      grind
    rw [e]
    generalize p / 2 ^ 64 * (m : Int) = B
    generalize w * m = A at hA ⊢
    omega
theorem mul_W (z : Int) (m : Nat) (hm : m < 2 ^ 64) : mulW (W z) m = W (z * m) := by
  funext i
  obtain ⟨h, hb⟩ := over_W z m hm i
  simp only [mulW]
  have hw : (W z i : Int) = (z / 2 ^ (64 * i)) % 2 ^ 64 := by unfold W; omega
  have hlt := W_lt z i
  rw [show W (z * m) i = (((z * m) / 2 ^ (64 * i)) % 2 ^ 64).toNat from rfl, h]
  generalize z / 2 ^ (64 * i) = p at hw ⊢
  generalize overW (W z) m i = o at hb ⊢
  generalize W z i = w at hw hlt ⊢
  have hA : w * m ≤ (2 ^ 64 - 1) * (2 ^ 64 - 1) := Nat.mul_le_mul (by omega) (by omega)
  have hp : p = p / 2 ^ 64 * 2 ^ 64 + (w : Int) := by omega
  have e : p * (m : Int) = (p / 2 ^ 64 * m) * 2 ^ 64 + ((w * m : Nat) : Int) := by
    rw [Int.natCast_mul]
    generalize p / 2 ^ 64 = r at hp ⊢
    subst hp
    grind
  rw [e]
  generalize p / 2 ^ 64 * (m : Int) = B
  generalize w * m = A at hA ⊢
  omega
theorem K.loadLong {σ : List VObj} {kn : Kn} {dst : Option Tmp} {ty : TypeId} {pos : String} {af : Array Edge} {g : Option (Nat × Bool)} {x : Operand} {id : Nat} {Z : Nat → Nat} (hx : evK kn x = some (.optr id 0)) (ho : σ[id]? = some ⟨(words Z).map .d, 0⟩) :
    KEv Try.prog ⟨dst, .load 108 x, ty, pos, af, g⟩ σ kn (.d (longD Z)) σ 1 := by
  have h := K.loadOAgg (P := Try.prog) (dst := dst) (ty := ty) (pos := pos) (af := af) (g := g) (m := 4) hx ho (by simp) Try.agg108 Try.size108 (by simp [words])
  rwa [words_agg] at h
theorem negConv {m : Nat} (h0 : 0 < m) (h : m ≤ 9223372036854775808) : IntKind.u64.wrap (IntKind.i64.wrap (0 - -(m : Int))) = (m : Int) := by
  simp [IntKind.wrap, IntKind.bits, IntKind.signed]; omega
set_option maxRecDepth 10000 in
theorem times116_pos {Z : Nat → Nat} (hZ : ∀ i, Z i < 2 ^ 64) {m : Nat} (h : m ≤ 9223372036854775807) : DeepCall Try.prog 116 [longD Z, DI (m : Int)] (longD (mulW Z m)) := by
  refine deepCall_K 5 Try.func116 rfl (Nat.le_of_ble_eq_true rfl) fun M W0 => ?_
  refine KC.seq ?_
  refine KC.region ?_
  refine KT.step rfl rfl (K.box rfl) ?_
  refine KT.step rfl rfl (K.alloc Try.zero108) ?_
  refine KT.nil ?_
  refine thenK_n ?_
  refine KC.seq ?_
  refine KC.seq ?_
  refine KC.region ?_
  refine KT.step rfl rfl (K.move rfl) ?_
  refine KT.step rfl rfl (K.lss' (c := false) rfl rfl (decide_eq_false (by omega))) ?_
  refine KT.nil ?_
  refine thenK_n ?_
  refine KC.cond rfl (fun hc13 => ?_) (fun hc13 => ?_)
  · cases hc13
  · skip
    refine KC.skip ?_
    refine thenK_n ?_
    refine KC.seq ?_
    refine KC.region ?_
    refine KT.step rfl rfl (K.alloc Try.zero108) ?_
    refine KT.nil ?_
    refine thenK_n ?_
    refine KC.seq ?_
    refine KC.region ?_
    refine KT.step rfl rfl (K.assign rfl) ?_
    refine KT.nil ?_
    refine thenK_n ?_
    refine KC.seq ?_
    refine KC.seq ?_
    refine KC.region ?_
    refine KT.step rfl rfl (K.move rfl) ?_
    refine KT.nil ?_
    refine thenK_n ?_
    refine KC.block ?_
    refine KC.loop (fun i => [⟨(words Z).map .d, 0⟩, ⟨outW (fun _ => 0) 0, 0⟩, ⟨outW (mulW Z m) i, 0⟩]) (fun i => [(2, .optr 0 0), (1, .d (DI m)), (4, .optr 1 0), (5, .optr 2 0), (6, .d (U (overW Z m i))), (18, .d (DI i))]) (fun i => i ≤ 4) (fun i => 4 - i) 0 (Nat.zero_le _) rfl (by simp [Go.Vm.look, extK, enterK, overW]) ?_
    intro i hi
    refine KC.seq ?_
    refine KC.region ?_
    refine KT.step rfl rfl (K.lss rfl rfl) ?_
    refine KT.nil ?_
    refine thenK_n ?_
    refine KC.seq ?_
    refine KC.cond rfl (fun hc19 => ?_) (fun hc19 => ?_)
    · skip
      replace hc19 : (i : Int) < 4 := of_decide_eq_true hc19
      refine KC.skip ?_
      refine thenK_n ?_
      refine KC.seq ?_
      refine KC.block ?_
      refine KC.seq ?_
      refine KC.region ?_
      refine KT.step rfl rfl (K.move rfl) ?_
      refine KT.step rfl rfl (K.assign rfl) ?_
      refine KT.nil ?_
      refine thenK_n ?_
      refine KC.seq ?_
      refine KC.region ?_
      refine KT.step rfl rfl (K.move rfl) ?_
      refine KT.step rfl rfl (K.idxA rfl rfl (by omega) Try.underlying108 Try.size103) ?_
      refine KT.step rfl rfl (K.loadO rfl rfl (by simp) (words_get Z i (by omega)) Try.agg103) ?_
      refine KT.step rfl rfl (K.move rfl) ?_
      refine KT.step rfl rfl (K.conv (c := (m : Int)) rfl Try.underlying3 Try.underlying103 (by rw [wrapU, Nat.mod_eq_of_lt (by omega)])) ?_
      refine KT.step rfl rfl (K.call2 (d := U (Z i)) (e := U m) rfl rfl plainTry_119 (mul119 (hZ i) (by omega))) ?_
      refine KT.step rfl rfl (K.move rfl) ?_
      refine KT.step rfl rfl (K.extract rfl rfl) ?_
      refine KT.step rfl rfl (K.extract rfl rfl) ?_
      refine KT.step rfl rfl (K.assign rfl) ?_
      refine KT.step rfl rfl (K.assign rfl) ?_
      refine KT.nil ?_
      refine thenK_n ?_
      refine KC.seq ?_
      refine KC.region ?_
      refine KT.step rfl rfl (K.move rfl) ?_
      refine KT.step rfl rfl (K.move rfl) ?_
      refine KT.step rfl rfl (K.ext (us := [.int .u64 ((Z i * m) % 2 ^ 64 : Nat), .int .u64 (overW Z m i), .int .u64 0]) rfl (add64_0 _ _)) ?_
      refine KT.step rfl rfl (K.move rfl) ?_
      refine KT.step rfl rfl (K.extractL rfl rfl) ?_
      refine KT.step rfl rfl (K.extractL rfl rfl) ?_
      refine KT.step rfl rfl (K.assign rfl) ?_
      refine KT.step rfl rfl (K.assign rfl) ?_
      refine KT.nil ?_
      refine thenK_n ?_
      refine KC.seq ?_
      refine KC.region ?_
      refine KT.step rfl rfl (K.move rfl) ?_
      refine KT.step rfl rfl (K.move rfl) ?_
      refine KT.step rfl rfl (K.idxA rfl rfl (by omega) Try.underlying108 Try.size103) ?_
      refine KT.step rfl rfl (K.storeO rfl rfl rfl (by rw [outW_len]; omega) rfl rfl Try.size103) ?_
      refine KT.nil ?_
      refine thenK_n ?_
      refine KC.region ?_
      refine KT.step rfl rfl (K.move rfl) ?_
      refine KT.step rfl rfl (K.move rfl) ?_
      refine KT.step rfl rfl (K.addU rfl rfl) ?_
      refine KT.step rfl rfl (K.assign rfl) ?_
      refine KT.nil ?_
      refine blockK_n ?_
      refine thenK_n ?_
      refine KC.region ?_
      refine KT.step rfl rfl (K.add rfl rfl (wrap_id (by omega))) ?_
      refine KT.step rfl rfl (K.move rfl) ?_
      refine KT.nil ?_
      refine thenK_n ?_
      refine ⟨i + 1, by omega, by omega, ?_, by simp [Go.Vm.look, extK, overW]⟩
      rw [← outW_set _ i (by omega)]
      rfl
    · skip
      replace hc19 : ¬ (i : Int) < 4 := of_decide_eq_false hc19
      have : i = 4 := by omega
      subst this
      refine KC.exit ?_
      refine thenK_x ?_
      refine thenK_x ?_
      refine blockK_e ?_
      refine thenK_n ?_
      refine KC.seq ?_
      refine KC.region ?_
      refine KT.step rfl rfl (K.loadOAgg (m := 4) rfl rfl (by simp) Try.agg108 Try.size108 (by simp [outW_len])) ?_
      rw [show (⟨outW (mulW Z m) 4, 0⟩ : VObj).cells = (words (mulW Z m)).map XV.d from outW_full _, words_agg]
      refine KT.step rfl rfl (K.storeN (v := .d (longD (mulW Z m))) rfl rfl rfl (by simp [cellsX, words, outW_len]) rfl Try.size108) ?_
      refine KT.nil ?_
      refine thenK_n ?_
      refine KC.ret ?_
      refine ⟨.inl rfl, _, resK_agg (m := 4) rfl rfl rfl (by simp) Try.agg108 Try.size108 (Nat.le_refl 4), ?_⟩
      rfl
set_option maxRecDepth 10000 in
theorem times116_neg {Z : Nat → Nat} (hZ : ∀ i, (negW Z) i < 2 ^ 64) {m : Nat} (h0 : 0 < m) (h : m ≤ 9223372036854775808) : DeepCall Try.prog 116 [longD Z, DI (-(m : Int))] (longD (mulW (negW Z) m)) := by
  refine deepCall_K 5 Try.func116 rfl (Nat.le_of_ble_eq_true rfl) fun M W0 => ?_
  refine KC.seq ?_
  refine KC.region ?_
  refine KT.step rfl rfl (K.box rfl) ?_
  refine KT.step rfl rfl (K.alloc Try.zero108) ?_
  refine KT.nil ?_
  refine thenK_n ?_
  refine KC.seq ?_
  refine KC.seq ?_
  refine KC.region ?_
  refine KT.step rfl rfl (K.move rfl) ?_
  refine KT.step rfl rfl (K.lss' (c := true) rfl rfl (decide_eq_true (by omega))) ?_
  refine KT.nil ?_
  refine thenK_n ?_
  refine KC.cond rfl (fun hc13 => ?_) (fun hc13 => ?_)
  · skip
    refine KC.seq ?_
    refine KC.region ?_
    refine KT.step rfl rfl (K.loadLong (Z := Z) rfl rfl) ?_
    refine KT.step rfl rfl (K.call1 rfl plainTry_117 (neg117 Z)) ?_
    refine KT.step rfl rfl (K.storeN (v := .d (longD (negW Z))) rfl rfl rfl (by simp [cellsX, words, outW_len, words]) rfl Try.size108) ?_
    refine KT.nil ?_
    refine thenK_n ?_
    refine KC.region ?_
    refine KT.step rfl rfl (K.move rfl) ?_
    refine KT.step rfl rfl (K.unI rfl rfl) ?_
    refine KT.step rfl rfl (K.assign rfl) ?_
    refine KT.nil ?_
    refine thenK_n ?_
    refine KC.seq ?_
    refine KC.region ?_
    refine KT.step rfl rfl (K.alloc Try.zero108) ?_
    refine KT.nil ?_
    refine thenK_n ?_
    refine KC.seq ?_
    refine KC.region ?_
    refine KT.step rfl rfl (K.assign rfl) ?_
    refine KT.nil ?_
    refine thenK_n ?_
    refine KC.seq ?_
    refine KC.seq ?_
    refine KC.region ?_
    refine KT.step rfl rfl (K.move rfl) ?_
    refine KT.nil ?_
    refine thenK_n ?_
    refine KC.block ?_
    refine KC.loop (fun i => [⟨(words (negW Z)).map .d, 0⟩, ⟨outW (fun _ => 0) 0, 0⟩, ⟨outW (mulW (negW Z) m) i, 0⟩]) (fun i => [(2, .optr 0 0), (1, .d (DI (IntKind.i64.wrap (0 - -(m : Int))))), (4, .optr 1 0), (5, .optr 2 0), (6, .d (U (overW (negW Z) m i))), (18, .d (DI i))]) (fun i => i ≤ 4) (fun i => 4 - i) 0 (Nat.zero_le _) rfl (by simp [Go.Vm.look, extK, enterK, overW]) ?_
    intro i hi
    refine KC.seq ?_
    refine KC.region ?_
    refine KT.step rfl rfl (K.lss rfl rfl) ?_
    refine KT.nil ?_
    refine thenK_n ?_
    refine KC.seq ?_
    refine KC.cond rfl (fun hc19 => ?_) (fun hc19 => ?_)
    · skip
      replace hc19 : (i : Int) < 4 := of_decide_eq_true hc19
      refine KC.skip ?_
      refine thenK_n ?_
      refine KC.seq ?_
      refine KC.block ?_
      refine KC.seq ?_
      refine KC.region ?_
      refine KT.step rfl rfl (K.move rfl) ?_
      refine KT.step rfl rfl (K.assign rfl) ?_
      refine KT.nil ?_
      refine thenK_n ?_
      refine KC.seq ?_
      refine KC.region ?_
      refine KT.step rfl rfl (K.move rfl) ?_
      refine KT.step rfl rfl (K.idxA rfl rfl (by omega) Try.underlying108 Try.size103) ?_
      refine KT.step rfl rfl (K.loadO rfl rfl (by simp) (words_get (negW Z) i (by omega)) Try.agg103) ?_
      refine KT.step rfl rfl (K.move rfl) ?_
      refine KT.step rfl rfl (K.conv (c := (m : Int)) rfl Try.underlying3 Try.underlying103 (negConv h0 h)) ?_
      refine KT.step rfl rfl (K.call2 (d := U ((negW Z) i)) (e := U m) rfl rfl plainTry_119 (mul119 (hZ i) (by omega))) ?_
      refine KT.step rfl rfl (K.move rfl) ?_
      refine KT.step rfl rfl (K.extract rfl rfl) ?_
      refine KT.step rfl rfl (K.extract rfl rfl) ?_
      refine KT.step rfl rfl (K.assign rfl) ?_
      refine KT.step rfl rfl (K.assign rfl) ?_
      refine KT.nil ?_
      refine thenK_n ?_
      refine KC.seq ?_
      refine KC.region ?_
      refine KT.step rfl rfl (K.move rfl) ?_
      refine KT.step rfl rfl (K.move rfl) ?_
      refine KT.step rfl rfl (K.ext (us := [.int .u64 (((negW Z) i * m) % 2 ^ 64 : Nat), .int .u64 (overW (negW Z) m i), .int .u64 0]) rfl (add64_0 _ _)) ?_
      refine KT.step rfl rfl (K.move rfl) ?_
      refine KT.step rfl rfl (K.extractL rfl rfl) ?_
      refine KT.step rfl rfl (K.extractL rfl rfl) ?_
      refine KT.step rfl rfl (K.assign rfl) ?_
      refine KT.step rfl rfl (K.assign rfl) ?_
      refine KT.nil ?_
      refine thenK_n ?_
      refine KC.seq ?_
      refine KC.region ?_
      refine KT.step rfl rfl (K.move rfl) ?_
      refine KT.step rfl rfl (K.move rfl) ?_
      refine KT.step rfl rfl (K.idxA rfl rfl (by omega) Try.underlying108 Try.size103) ?_
      refine KT.step rfl rfl (K.storeO rfl rfl rfl (by rw [outW_len]; omega) rfl rfl Try.size103) ?_
      refine KT.nil ?_
      refine thenK_n ?_
      refine KC.region ?_
      refine KT.step rfl rfl (K.move rfl) ?_
      refine KT.step rfl rfl (K.move rfl) ?_
      refine KT.step rfl rfl (K.addU rfl rfl) ?_
      refine KT.step rfl rfl (K.assign rfl) ?_
      refine KT.nil ?_
      refine blockK_n ?_
      refine thenK_n ?_
      refine KC.region ?_
      refine KT.step rfl rfl (K.add rfl rfl (wrap_id (by omega))) ?_
      refine KT.step rfl rfl (K.move rfl) ?_
      refine KT.nil ?_
      refine thenK_n ?_
      refine ⟨i + 1, by omega, by omega, ?_, by simp [Go.Vm.look, extK, overW]⟩
      rw [← outW_set _ i (by omega)]
      rfl
    · skip
      replace hc19 : ¬ (i : Int) < 4 := of_decide_eq_false hc19
      have : i = 4 := by omega
      subst this
      refine KC.exit ?_
      refine thenK_x ?_
      refine thenK_x ?_
      refine blockK_e ?_
      refine thenK_n ?_
      refine KC.seq ?_
      refine KC.region ?_
      refine KT.step rfl rfl (K.loadOAgg (m := 4) rfl rfl (by simp) Try.agg108 Try.size108 (by simp [outW_len])) ?_
      rw [show (⟨outW (mulW (negW Z) m) 4, 0⟩ : VObj).cells = (words (mulW (negW Z) m)).map XV.d from outW_full _, words_agg]
      refine KT.step rfl rfl (K.storeN (v := .d (longD (mulW (negW Z) m))) rfl rfl rfl (by simp [cellsX, words, outW_len]) rfl Try.size108) ?_
      refine KT.nil ?_
      refine thenK_n ?_
      refine KC.ret ?_
      refine ⟨.inl rfl, _, resK_agg (m := 4) rfl rfl rfl (by simp) Try.agg108 Try.size108 (Nat.le_refl 4), ?_⟩
      rfl
  · cases hc13
theorem timesZ116 (z : Int) {y : Int} (h1 : -9223372036854775808 ≤ y) (h2 : y ≤ 9223372036854775807) : DeepCall Try.prog 116 [longZ z, DI y] (longZ (z * y)) := by
  by_cases h0 : 0 ≤ y
  · obtain ⟨m, rfl⟩ := Int.eq_ofNat_of_zero_le h0
    have h := times116_pos (W_lt z) (m := m) (by omega)
    rwa [mul_W z m (by omega)] at h
  · obtain ⟨m, hm⟩ := Int.eq_ofNat_of_zero_le (show 0 ≤ -y by omega)
    obtain rfl : y = -(m : Int) := by omega
    have h := times116_neg (Z := W z) (by rw [neg_W]; exact W_lt _) (m := m) (by omega) (by omega)
    rw [neg_W, mul_W _ m (by omega)] at h
    rwa [show (0 - z) * (m : Int) = z * -(m : Int) by grind] at h
theorem words_zero : words (W 0) = [U 0, U 0, U 0, U 0] := by simp [words4, W]
/-- The sum of products. -/
def dotZ (f g : Nat → Int) : Nat → Int
  | 0 => 0
  | k + 1 => dotZ f g k + f k * g k
def at0' (l : List Int) (k : Nat) : Int := l.getD k 0
set_option maxRecDepth 10000 in
theorem longDot113 {d e : DV} {x y : List Int} (hd : Ints d x) (he : Ints e y) (hl : x.length ≤ y.length) (hb : x.length ≤ 9223372036854775807) (hx : ∀ n ∈ x, -9223372036854775808 ≤ n ∧ n ≤ 9223372036854775807) (hy : ∀ n ∈ y, -9223372036854775808 ≤ n ∧ n ≤ 9223372036854775807) :
    DeepCall Try.prog 113 [d, e] (longZ (dotZ (at0' x) (at0' y) x.length)) := by
  refine deepCall_K 5 Try.func113 rfl (Nat.le_of_ble_eq_true rfl) fun M W0 => ?_
  refine KC.seq ?_
  refine KC.region ?_
  refine KT.step rfl rfl (K.alloc Try.zero108) ?_
  refine KT.nil ?_
  refine thenK_n ?_
  refine KC.seq ?_
  refine KC.region ?_
  refine KT.step rfl rfl (K.alloc Try.zero108) ?_
  refine KT.nil ?_
  refine thenK_n ?_
  refine KC.seq ?_
  refine KC.seq ?_
  refine KC.region ?_
  refine KT.step rfl rfl (K.move rfl) ?_
  refine KT.step rfl rfl (K.len rfl (by assumption) Try.underlying35) ?_
  refine KT.step rfl rfl (K.move rfl) ?_
  refine KT.nil ?_
  refine thenK_n ?_
  refine KC.block ?_
  refine KC.loop (fun i => [⟨outW (fun _ => 0) 0, 0⟩, ⟨(words (W (dotZ (at0' x) (at0' y) i))).map .d, 0⟩]) (fun i => [(0, .d d), (1, .d e), (4, .optr 0 0), (5, .optr 1 0), (8, .d (DI x.length)), (9, .d (DI i))]) (fun i => i ≤ x.length) (fun i => x.length - i) 0 (Nat.zero_le _) (by rw [dotZ, words_zero]; rfl) (by simp [Go.Vm.look, extK, enterK]) ?_
  intro i hi
  refine KC.seq ?_
  refine KC.region ?_
  refine KT.step rfl rfl (K.lss rfl rfl) ?_
  refine KT.nil ?_
  refine thenK_n ?_
  refine KC.seq ?_
  refine KC.cond rfl (fun hc10 => ?_) (fun hc10 => ?_)
  · skip
    replace hc10 := of_decide_eq_true hc10
    have b1 := hx x[i] (List.getElem_mem (by omega))
    have b2 := hy y[i] (List.getElem_mem (by omega))
    refine KC.skip ?_
    refine thenK_n ?_
    refine KC.seq ?_
    refine KC.block ?_
    refine KC.seq ?_
    refine KC.region ?_
    refine KT.step rfl rfl (K.move rfl) ?_
    refine KT.step rfl rfl (K.assign rfl) ?_
    refine KT.nil ?_
    refine thenK_n ?_
    refine KC.draw Try.mixed ?_
    refine KT.step rfl rfl (K.loadLong (Z := W (dotZ (at0' x) (at0' y) i)) rfl rfl) ?_
    refine KT.step rfl rfl (K.move rfl) ?_
    refine KT.step rfl rfl (K.move rfl) ?_
    refine KT.idxI rfl rfl rfl (by assumption) rfl (by omega) Try.underlying35 Try.size3 fun cs15 => ?_
    refine KT.step rfl rfl (K.load rfl Try.agg3) ?_
    refine KT.step rfl rfl (K.call1 rfl plainTry_112 (longOf112 b1.1 b1.2)) ?_
    refine KT.step rfl rfl (K.move rfl) ?_
    refine KT.step rfl rfl (K.move rfl) ?_
    refine KT.idxI rfl rfl rfl (by assumption) rfl (by omega) Try.underlying35 Try.size3 fun cs20 => ?_
    refine KT.step rfl rfl (K.load rfl Try.agg3) ?_
    refine KT.step rfl rfl (K.call2 rfl rfl plainTry_116 (timesZ116 _ b2.1 b2.2)) ?_
    refine KT.step rfl rfl (K.call2 rfl rfl plainTry_118 (plusZ118 _ _)) ?_
    refine KT.step rfl rfl (K.storeN rfl rfl rfl (by simp [cellsX, words]) rfl Try.size108) ?_
    refine KT.nil ?_
    refine ⟨by kernel_rfl, ?_⟩
    refine blockK_n ?_
    refine thenK_n ?_
    refine KC.region ?_
    refine KT.step rfl rfl (K.add rfl rfl (wrap_id (by omega))) ?_
    refine KT.step rfl rfl (K.move rfl) ?_
    refine KT.nil ?_
    refine thenK_n ?_
    refine ⟨i + 1, by omega, by omega, ?_, by simp [Go.Vm.look, extK]⟩
    rw [dotZ, show at0' x i = x[i] by simp [at0', show i < x.length by omega], show at0' y i = y[i] by simp [at0', show i < y.length by omega]]
    rfl
  · skip
    replace hc10 := of_decide_eq_false hc10
    have : i = x.length := by omega
    subst this
    refine KC.exit ?_
    refine thenK_x ?_
    refine thenK_x ?_
    refine blockK_e ?_
    refine thenK_n ?_
    refine KC.seq ?_
    refine KC.region ?_
    refine KT.step rfl rfl (K.loadLong (Z := W (dotZ (at0' x) (at0' y) x.length)) rfl rfl) ?_
    refine KT.step rfl rfl (K.storeN rfl rfl rfl (by simp [cellsX, words, outW_len]) rfl Try.size108) ?_
    refine KT.nil ?_
    refine thenK_n ?_
    refine KC.ret ?_
    refine ⟨.inl rfl, _, resK_agg (m := 4) rfl rfl rfl (by simp) Try.agg108 Try.size108 (Nat.le_refl 4), ?_⟩
    rfl
end Go.Proofs.Ytlomhajhoecoiaa
