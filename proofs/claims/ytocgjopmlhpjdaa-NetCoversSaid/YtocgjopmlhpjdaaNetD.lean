import Derived.Test.YtocgjopmlhpjdaaNetC
/-
  Nets: firing, by the program and by the reference.
-/
namespace Go.Proofs.Ytocgjopmlhpjdaa
open Go.Vm
theorem plainTry_19 : plainFn Try.prog 19 = true := by kernel_rfl

def halfN (n : Nat) (F G : Nat → Int) (i : Nat) : List XV := (List.range n).map fun k => .d (DI (if k < i then F k else G k))
theorem halfN_len (n : Nat) (F G : Nat → Int) (i : Nat) : (halfN n F G i).length = n := by simp [halfN]
theorem halfN_get {n : Nat} (F G : Nat → Int) {i : Nat} (hi : i < n) : (halfN n F G i)[0 + i]? = some (.d (DI (G i))) := by
  rw [Nat.zero_add]; simp [halfN, hi]
theorem halfN_full (n : Nat) (F G : Nat → Int) : halfN n F G n = ((List.range n).map fun p => DI (F p)).map .d := by
  rw [List.map_map]
  refine List.map_congr_left fun k hk => ?_
  rw [if_pos (by simpa using hk)]; rfl
theorem halfN_set {n : Nat} (F G : Nat → Int) {i : Nat} (hi : i < n) : (halfN n F G i).set (0 + i) (.d (DI (F i))) = halfN n F G (i + 1) := by
  rw [Nat.zero_add]
  refine List.ext_getElem? fun k => ?_
  rw [List.getElem?_set]
  by_cases hk : k < n
  · by_cases e : i = k
    · subst e; simp [halfN, hk]
    · rw [if_neg e]
      simp only [halfN, List.getElem?_map, List.getElem?_range hk, Option.map_some, Option.some.injEq, XV.d.injEq]
      by_cases h : k < i
      · rw [if_pos h, if_pos (by omega)]
      · rw [if_neg h, if_neg (by omega)]
  · rw [if_neg (by omega), List.getElem?_eq_none (by simp [halfN]; omega), List.getElem?_eq_none (by simp [halfN]; omega)]
theorem halfN_same {n : Nat} (F G : Nat → Int) {i : Nat} (hi : i < n) (h : F i = G i) : halfN n F G i = halfN n F G (i + 1) := by
  rw [← halfN_set F G hi, h]
  refine List.ext_getElem? fun k => ?_
  rw [List.getElem?_set]
  by_cases e : 0 + i = k
  · subst e; rw [if_pos rfl, if_pos (by rw [halfN_len]; omega), halfN_get _ _ hi]
  · rw [if_neg e]
theorem halfN_zero (F : Nat → Int) (x : List Int) : ((x.map DI).take x.length).map XV.d = halfN x.length F (tk x) 0 := by
  rw [List.take_of_length_le (by simp), List.map_map]
  refine List.ext_getElem? fun k => ?_
  by_cases hk : k < x.length
  · simp [halfN, hk, tk]
  · rw [List.getElem?_eq_none (by simp; omega), List.getElem?_eq_none (by simp [halfN]; omega)]
theorem tk_get {l : List Int} {p : Nat} (h : p < l.length) : tk l p = l[p] := by simp [tk, h]
end Go.Proofs.Ytocgjopmlhpjdaa

