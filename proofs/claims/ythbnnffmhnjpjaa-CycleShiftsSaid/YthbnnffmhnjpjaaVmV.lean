import Derived.Test.YthbnnffmhnjpjaaVmU
/-
  VALUES WITHOUT ADDRESSES, 22: words of 64 bits.
-/
namespace Go.Vm
open Go.RowKit

abbrev U (n : Nat) : DV := .lit (.int .u64 n)

theorem wrapU (n : Nat) : IntKind.u64.wrap (n : Int) = ((n % 2 ^ 64 : Nat) : Int) := by
  simp [IntKind.wrap, IntKind.bits, IntKind.signed]

theorem wrapUI (n : Int) : IntKind.u64.wrap n = ((n % 2 ^ 64).toNat : Int) := by
  simp only [IntKind.wrap, IntKind.bits, IntKind.signed]
  have h : 0 ≤ n % 2 ^ 64 := Int.emod_nonneg _ (by decide)
  simp
  omega

section
variable {P : Program} {n : Nat} {ops : Array Oper} {l : List Oper} {σ : List VObj} {kn : Kn} {dst : Option Tmp} {ty : TypeId} {pos : String} {af : Array Edge} {g : Option (Nat × Bool)}
variable {t u : TypeId} {x y : Operand} {a b : Nat}

theorem K.addU (hx : evK kn x = some (.d (U a))) (hy : evK kn y = some (.d (U b))) : KEv P ⟨dst, .binOp .add t x y u, ty, pos, af, g⟩ σ kn (.d (U ((a + b) % 2 ^ 64))) σ 0 :=
  K.add hx hy (by rw [show (a : Int) + (b : Int) = ((a + b : Nat) : Int) by omega, wrapU])
theorem K.mulU (hx : evK kn x = some (.d (U a))) (hy : evK kn y = some (.d (U b))) : KEv P ⟨dst, .binOp .mul t x y u, ty, pos, af, g⟩ σ kn (.d (U ((a * b) % 2 ^ 64))) σ 0 :=
  K.mul hx hy (by rw [← Int.natCast_mul, wrapU])
theorem K.shrU (hx : evK kn x = some (.d (U a))) (hy : evK kn y = some (.d (U b))) (hb : b ≤ 64) : KEv P ⟨dst, .binOp .shr t x y u, ty, pos, af, g⟩ σ kn (.d (U (a / 2 ^ b))) σ 0 :=
  K.shr hx hy (by omega) (by
    have h1 : min (b : Int).toNat IntKind.u64.bits = b := by
      show min b 64 = b
      omega
    rw [h1]
    have h2 : ((2 : Int) ^ b) = ((2 ^ b : Nat) : Int) := by simp
    rw [h2, Int.fdiv_eq_ediv_of_nonneg _ (Int.natCast_nonneg _)]
    rfl)
theorem K.maskU {m : Nat} (hx : evK kn x = some (.d (U a))) (hy : evK kn y = some (.d (U (2 ^ m - 1)))) (hm : m ≤ 64) : KEv P ⟨dst, .binOp .and t x y u, ty, pos, af, g⟩ σ kn (.d (U (a % 2 ^ m))) σ 0 :=
  K.band hx hy (by
    have h1 : (BitVec.ofInt IntKind.u64.bits (a : Int) &&& BitVec.ofInt IntKind.u64.bits ((2 ^ m - 1 : Nat) : Int)).toNat = a % 2 ^ m := by
      rw [BitVec.toNat_and, BitVec.ofInt_natCast, BitVec.ofInt_natCast, BitVec.toNat_ofNat, BitVec.toNat_ofNat]
      have h2 : (2 ^ m - 1) % 2 ^ IntKind.u64.bits = 2 ^ m - 1 := Nat.mod_eq_of_lt (by
        have h3 : 2 ^ m ≤ 2 ^ 64 := Nat.pow_le_pow_right (by decide) hm
        have h4 : 0 < 2 ^ m := Nat.two_pow_pos m
        show 2 ^ m - 1 < 2 ^ 64
        omega)
      rw [h2, Nat.and_two_pow_sub_one_eq_mod]
      exact Nat.mod_mod_of_dvd _ (Nat.pow_dvd_pow 2 hm)
    rw [h1, wrapU]
    have h5 : a % 2 ^ m < 2 ^ 64 := Nat.lt_of_lt_of_le (Nat.mod_lt _ (Nat.two_pow_pos m)) (Nat.pow_le_pow_right (by decide) hm)
    rw [Nat.mod_eq_of_lt h5])

end

section
variable {P : Program} {n : Nat} {ops : Array Oper} {l : List Oper} {σ : List VObj} {kn : Kn} {dst : Option Tmp} {ty : TypeId} {pos : String} {af : Array Edge} {g : Option (Nat × Bool)}
theorem K.lss' {t u : TypeId} {x y : Operand} {k : IntKind} {a b : Int} {c : Bool} (hx : evK kn x = some (.d (.lit (.int k a)))) (hy : evK kn y = some (.d (.lit (.int k b)))) (h : decide (a < b) = c) :
    KEv P ⟨dst, .binOp .lss t x y u, ty, pos, af, g⟩ σ kn (.d (DB c)) σ 0 := by subst h; exact K.lss hx hy

/-- A struct or array of plain values that is built. -/
theorem K.buildL {t : TypeId} {parts : Array (Nat × Operand)} {us : List (Nat × Value)} {v : Value} (ha : parts.toList.mapM (fun p => ((evK kn p.2).bind litOf).map fun v => (p.1, v)) = some us) (hr : pureRun P (Instr.build t us.toArray) = some v) :
    KEv P ⟨dst, .build t parts, ty, pos, af, g⟩ σ kn (.d (.lit v)) σ 0 := by
  obtain ⟨h1, h2⟩ := mapM_get ha
  have la : ∀ z w, litOf z = some w → z = .d (.lit w) := fun z w hz => by
    unfold litOf at hz
    split at hz
    · cases hz; rfl
    · cases hz
  refine K.lit (ρ := fun x => ((evK kn x).bind litOf).getD undef) (fun x hx => ?_) rfl ?_
  · simp only [Op.operands, List.mem_toArray, List.mem_map] at hx
    have hx' : x ∈ (parts.map (·.2)) := by simpa [Op.operands] using hx
    obtain ⟨i, hi, he⟩ := Array.getElem_of_mem hx'
    have hi' : i < parts.toList.length := by simpa using hi
    have hiu : i < us.length := by omega
    have h3 := h2 i _ _ (List.getElem?_eq_getElem hi') (List.getElem?_eq_getElem hiu)
    obtain ⟨w, hw, _⟩ := Option.map_eq_some_iff.1 h3
    have e1 : parts.toList[i].2 = x := by simpa using he
    rw [e1] at hw
    rw [hw, Option.getD_some]
    obtain ⟨z, hz, hzw⟩ := Option.bind_eq_some_iff.1 hw
    rw [hz, la z w hzw]
  · simp only [execOp]
    refine pureRun_v ?_
    have e : (parts.map fun p => (p.1, ((evK kn p.2).bind litOf).getD undef)) = us.toArray := by
      apply Array.ext
      · simpa using h1
      · intro i hi hj
        have hi' : i < parts.toList.length := by simpa using hi
        have hiu : i < us.length := by omega
        have h3 := h2 i _ _ (List.getElem?_eq_getElem hi') (List.getElem?_eq_getElem hiu)
        obtain ⟨w, hw, h4⟩ := Option.map_eq_some_iff.1 h3
        simp only [Array.getElem_toList] at hw h4
        simp [hw, ← h4]
    rw [e]; exact hr
end

/-- The product of two words. -/
theorem mul64_hi {x y : Nat} (hx : x < 2 ^ 64) (hy : y < 2 ^ 64) :
    ((((x / 2 ^ 32 * (y / 2 ^ 32)) % 2 ^ 64 + ((x / 2 ^ 32 * (y % 2 ^ 32)) % 2 ^ 64 + ((x % 2 ^ 32 * (y % 2 ^ 32)) % 2 ^ 64) / 2 ^ 32) % 2 ^ 64 / 2 ^ 32) % 2 ^ 64 +
      (((x / 2 ^ 32 * (y % 2 ^ 32)) % 2 ^ 64 + ((x % 2 ^ 32 * (y % 2 ^ 32)) % 2 ^ 64) / 2 ^ 32) % 2 ^ 64 % 2 ^ 32 + (x % 2 ^ 32 * (y / 2 ^ 32)) % 2 ^ 64) % 2 ^ 64 / 2 ^ 32) % 2 ^ 64) = x * y / 2 ^ 64 := by
  have hx1 : x / 2 ^ 32 ≤ 2 ^ 32 - 1 := by omega
  have hx0 : x % 2 ^ 32 ≤ 2 ^ 32 - 1 := by omega
  have hy1 : y / 2 ^ 32 ≤ 2 ^ 32 - 1 := by omega
  have hy0 : y % 2 ^ 32 ≤ 2 ^ 32 - 1 := by omega
  have b11 := Nat.mul_le_mul hx1 hy1
  have b10 := Nat.mul_le_mul hx1 hy0
  have b01 := Nat.mul_le_mul hx0 hy1
  have b00 := Nat.mul_le_mul hx0 hy0
  have e : x * y = (x / 2 ^ 32 * (y / 2 ^ 32)) * 2 ^ 64 + (x / 2 ^ 32 * (y % 2 ^ 32) + x % 2 ^ 32 * (y / 2 ^ 32)) * 2 ^ 32 + x % 2 ^ 32 * (y % 2 ^ 32) := by
    have h1 : x = x / 2 ^ 32 * 2 ^ 32 + x % 2 ^ 32 := by omega
    have h2 : y = y / 2 ^ 32 * 2 ^ 32 + y % 2 ^ 32 := by omega
    generalize x / 2 ^ 32 = p at h1 ⊢
    generalize x % 2 ^ 32 = q at h1 ⊢
    generalize y / 2 ^ 32 = r at h2 ⊢
    generalize y % 2 ^ 32 = s at h2 ⊢
    subst h1 h2
    grind
  rw [e]
  generalize x / 2 ^ 32 * (y / 2 ^ 32) = A at *
  generalize x / 2 ^ 32 * (y % 2 ^ 32) = B at *
  generalize x % 2 ^ 32 * (y / 2 ^ 32) = C at *
  generalize x % 2 ^ 32 * (y % 2 ^ 32) = D at *
  clear e hx1 hx0 hy1 hy0
  omega

end Go.Vm

