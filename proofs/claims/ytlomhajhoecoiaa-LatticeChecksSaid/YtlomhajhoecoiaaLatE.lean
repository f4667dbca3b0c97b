/-
  THE LAW of package lattice's refutations, on deep values.
-/
import Derived.Test.YtlomhajhoecoiaaLatD
namespace Go.Vm
section
variable {P : Program} {σ : List VObj} {kn : Kn} {dst : Option Tmp} {ty : TypeId} {pos : String} {af : Array Edge} {g : Option (Nat × Bool)}
theorem K.eqB' {t u : TypeId} {x y : Operand} {a b c : Bool} (ht : P.underlying t = some .bool) (hx : evK kn x = some (.d (DB a))) (hy : evK kn y = some (.d (DB b))) (h : (a == b) = c) :
    KEv P ⟨dst, .binOp .eql t x y u, ty, pos, af, g⟩ σ kn (.d (DB c)) σ 0 := by subst h; exact K.eqB ht hx hy
theorem K.eql' {t u : TypeId} {x y : Operand} {k : IntKind} {a b : Int} {c : Bool} (hx : evK kn x = some (.d (.lit (.int k a)))) (hy : evK kn y = some (.d (.lit (.int k b)))) (h : decide (a = b) = c) :
    KEv P ⟨dst, .binOp .eql t x y u, ty, pos, af, g⟩ σ kn (.d (DB c)) σ 0 := by subst h; exact K.eql hx hy
end
end Go.Vm
namespace Go.Proofs.Ytlomhajhoecoiaa
open Go.Vm

abbrev m8 (m : List (List Int)) : List (List Int) := (m.take 8).map (List.take 8)
theorem right8_eq {m : List (List Int)} {b : List Int} (h : rightB m b = true) : m8 m = m ∧ b.take 8 = b := by
  obtain ⟨h1, h2, h3, h4, h5, h6⟩ := right_len h
  refine ⟨?_, List.take_of_length_le (by omega)⟩
  rw [m8, List.take_of_length_le (by omega)]
  refine List.ext_getElem? fun i => ?_
  rw [List.getElem?_map]
  cases hi : m[i]? with
  | none => rfl
  | some r =>
    have := h6 r (List.mem_of_getElem? hi)
    simp only [Option.map_some]
    rw [List.take_of_length_le (by omega)]
theorem right8_back {m : List (List Int)} {b : List Int} (h : rightB (m8 m) (b.take 8) = true) : m8 m = m ∧ b.take 8 = b := by
  obtain ⟨h1, h2, h3, h4, h5, h6⟩ := right_len h
  have e1 : m.length ≤ 4 := by
    have : (m8 m).length = min 8 m.length := by simp [m8]
    omega
  have e2 : b.length ≤ 4 := by
    have : (b.take 8).length = min 8 b.length := by simp
    omega
  refine ⟨?_, List.take_of_length_le (by omega)⟩
  have e3 : m8 m = m.map (List.take 8) := by rw [m8, List.take_of_length_le (by omega)]
  rw [e3]
  refine List.ext_getElem? fun i => ?_
  rw [List.getElem?_map]
  cases hi : m[i]? with
  | none => rfl
  | some r =>
    have := h6 (r.take 8) (by rw [e3]; exact List.mem_map_of_mem (List.mem_of_getElem? hi))
    have e4 : (r.take 8).length = min 8 r.length := by simp
    simp only [Option.map_some]
    rw [List.take_of_length_le (by omega)]
theorem right8 (m : List (List Int)) (b : List Int) : rightB (m8 m) (b.take 8) = rightB m b := by
  cases h : rightB m b with
  | true =>
    obtain ⟨h1, h2⟩ := right8_eq h
    rw [h1, h2, h]
  | false =>
    cases h8 : rightB (m8 m) (b.take 8) with
    | false => rfl
    | true =>
      obtain ⟨h1, h2⟩ := right8_back h8
      rw [h1, h2, h] at h8; cases h8
theorem ref8 {m : List (List Int)} {b y : List Int} {den : Int} (h : rightB m b = true) : refB (m8 m) (b.take 8) (y.take 8) den = refB m b y den := by
  obtain ⟨h1, h2⟩ := right8_eq h
  obtain ⟨g1, g2, g3, g4, g5, g6⟩ := right_len h
  rw [h1, h2]
  by_cases hy : y.length = m.length
  · rw [List.take_of_length_le (by omega)]
  · have h3 : ¬ (y.take 8).length = m.length := by simp; omega
    unfold refB
    rw [decide_eq_false h3, decide_eq_false hy]
    simp

theorem m8_rows {m : List (List Int)} : ∀ row ∈ m8 m, row.length ≤ 9223372036854775807 := by
  intro row h
  obtain ⟨r, _, rfl⟩ := List.mem_map.1 h
  simp; omega

theorem awake19 : DeepCall Try.prog 19 [] (DB true) := runFn_sound (inl := fun f => f == 114) (len := 3000) (k := 60) (f := 19) Try.mixed (by kernel_rfl)

set_option maxRecDepth 10000 in
theorem law9_no {d e f : DV} {m : List (List Int)} {b y : List Int} {den : Int} (hR : rightB m b = false) (hd : Mat d m) (he : Ints e b) (hf : Ints f y) (hl : m.length ≤ 9223372036854775807) (hr : ∀ row ∈ m, row.length ≤ 9223372036854775807) (hbl : b.length ≤ 9223372036854775807) (hy : y.length ≤ 9223372036854775807) :
    DeepCall Try.prog 9 [d, e, f, DI den] (DB true) := by
  have h40 := check40 (den := den) (rows8_mat hd) (list8_ints he) (list8_ints hf) (by simp; omega) m8_rows (by simp; omega) (by simp; omega)
  rw [right8, hR] at h40
  have h37 := right37 hd he hl hr hbl
  rw [hR] at h37
  replace h40 : DeepCall Try.prog 40 _ (.tup [DB false, DI 2]) := h40
  refine deepCall_K 5 Try.func9 rfl (Nat.le_of_ble_eq_true rfl) fun M W0 => ?_
  refine KC.seq ?_
  refine KC.region ?_
  refine KT.step rfl rfl (K.assign rfl) ?_
  refine KT.nil ?_
  refine thenK_n ?_
  refine KC.seq ?_
  refine KC.region ?_
  refine KT.step rfl rfl (K.move rfl) ?_
  refine KT.step rfl rfl (K.call1 rfl plainTry_16 (few16 hd hl (fun i hi => by rw [show m.getD i [] = m[i] by simp [hi]]; exact hr _ (List.getElem_mem hi)))) ?_
  refine KT.step rfl rfl (K.move rfl) ?_
  refine KT.step rfl rfl (K.call1 rfl plainTry_32 (list32 he)) ?_
  refine KT.step rfl rfl (K.move rfl) ?_
  refine KT.step rfl rfl (K.call1 rfl plainTry_32 (list32 hf)) ?_
  refine KT.step rfl rfl (K.move rfl) ?_
  refine KT.step rfl rfl (K.call4 rfl rfl rfl rfl plainTry_40 (h40)) ?_
  refine KT.step rfl rfl (K.move rfl) ?_
  refine KT.step rfl rfl (K.extract rfl rfl) ?_
  refine KT.step rfl rfl (K.extract rfl rfl) ?_
  refine KT.step rfl rfl (K.assign rfl) ?_
  refine KT.step rfl rfl (K.assign rfl) ?_
  refine KT.nil ?_
  refine thenK_n ?_
  refine KC.seq ?_
  refine KC.seq ?_
  refine KC.region ?_
  refine KT.step rfl rfl (K.move rfl) ?_
  refine KT.step rfl rfl (K.move rfl) ?_
  refine KT.step rfl rfl (K.call2 rfl rfl plainTry_37 (h37)) ?_
  refine KT.step rfl rfl (K.not rfl) ?_
  refine KT.nil ?_
  refine thenK_n ?_
  refine KC.cond rfl (fun hc25 => ?_) (fun hc25 => ?_)
  · skip
    refine KC.seq ?_
    refine KC.region ?_
    refine KT.step rfl rfl (K.move rfl) ?_
    refine KT.step rfl rfl (K.not rfl) ?_
    refine KT.step rfl rfl (K.move rfl) ?_
    refine KT.step rfl rfl (K.move rfl) ?_
    refine KT.step rfl rfl (K.eql' (c := true) rfl rfl rfl) ?_
    refine KT.step rfl rfl (K.pick rfl (fun _ => rfl) (fun h => by cases h)) ?_
    refine KT.step rfl rfl (K.move rfl) ?_
    refine KT.step rfl rfl (K.call0 plainTry_19 (awake19)) ?_
    refine KT.step rfl rfl (K.pick rfl (fun _ => rfl) (fun h => by cases h)) ?_
    refine KT.step rfl rfl (K.assign rfl) ?_
    refine KT.nil ?_
    refine thenK_n ?_
    refine KC.ret ?_
    refine thenK_r ?_
    exact ⟨.inl rfl, _, rfl, fin_d rfl⟩
  · cases hc25

set_option maxRecDepth 10000 in
theorem law9_yes {d e f : DV} {m : List (List Int)} {b y : List Int} {den : Int} (hR : rightB m b = true) (hd : Mat d m) (he : Ints e b) (hf : Ints f y) (hl : m.length ≤ 9223372036854775807) (hr : ∀ row ∈ m, row.length ≤ 9223372036854775807) (hbl : b.length ≤ 9223372036854775807) (hy : y.length ≤ 9223372036854775807) :
    DeepCall Try.prog 9 [d, e, f, DI den] (DB true) := by
  have h40 := check40 (den := den) (rows8_mat hd) (list8_ints he) (list8_ints hf) (by simp; omega) m8_rows (by simp; omega) (by simp; omega)
  rw [right8, hR] at h40
  have h37 := right37 hd he hl hr hbl
  rw [hR] at h37
  rw [ref8 hR] at h40
  replace h40 : DeepCall Try.prog 40 _ (.tup [DB (refB m b y den), DI 0]) := h40
  refine deepCall_K 5 Try.func9 rfl (Nat.le_of_ble_eq_true rfl) fun M W0 => ?_
  refine KC.seq ?_
  refine KC.region ?_
  refine KT.step rfl rfl (K.assign rfl) ?_
  refine KT.nil ?_
  refine thenK_n ?_
  refine KC.seq ?_
  refine KC.region ?_
  refine KT.step rfl rfl (K.move rfl) ?_
  refine KT.step rfl rfl (K.call1 rfl plainTry_16 (few16 hd hl (fun i hi => by rw [show m.getD i [] = m[i] by simp [hi]]; exact hr _ (List.getElem_mem hi)))) ?_
  refine KT.step rfl rfl (K.move rfl) ?_
  refine KT.step rfl rfl (K.call1 rfl plainTry_32 (list32 he)) ?_
  refine KT.step rfl rfl (K.move rfl) ?_
  refine KT.step rfl rfl (K.call1 rfl plainTry_32 (list32 hf)) ?_
  refine KT.step rfl rfl (K.move rfl) ?_
  refine KT.step rfl rfl (K.call4 rfl rfl rfl rfl plainTry_40 (h40)) ?_
  refine KT.step rfl rfl (K.move rfl) ?_
  refine KT.step rfl rfl (K.extract rfl rfl) ?_
  refine KT.step rfl rfl (K.extract rfl rfl) ?_
  refine KT.step rfl rfl (K.assign rfl) ?_
  refine KT.step rfl rfl (K.assign rfl) ?_
  refine KT.nil ?_
  refine thenK_n ?_
  refine KC.seq ?_
  refine KC.seq ?_
  refine KC.region ?_
  refine KT.step rfl rfl (K.move rfl) ?_
  refine KT.step rfl rfl (K.move rfl) ?_
  refine KT.step rfl rfl (K.call2 rfl rfl plainTry_37 (h37)) ?_
  refine KT.step rfl rfl (K.not rfl) ?_
  refine KT.nil ?_
  refine thenK_n ?_
  refine KC.cond rfl (fun hc25 => ?_) (fun hc25 => ?_)
  · cases hc25
  · skip
    refine KC.skip ?_
    refine thenK_n ?_
    refine KC.seq ?_
    refine KC.region ?_
    refine KT.step rfl rfl (K.move rfl) ?_
    refine KT.step rfl rfl (K.move rfl) ?_
    refine KT.step rfl rfl (K.move rfl) ?_
    refine KT.step rfl rfl (K.move rfl) ?_
    refine KT.step rfl rfl (K.move rfl) ?_
    refine KT.step rfl rfl (K.call4 rfl rfl rfl rfl plainTry_39 (refuses39 hd he hf hR hy)) ?_
    refine KT.step rfl rfl (K.eqB' (c := true) Try.underlying4 rfl rfl (by simp)) ?_
    refine KT.step rfl rfl (K.move rfl) ?_
    refine KT.step rfl rfl (K.move rfl) ?_
    refine KT.step rfl rfl (K.eql' (c := true) rfl rfl rfl) ?_
    refine KT.step rfl rfl (K.pick rfl (fun _ => rfl) (fun h => by cases h)) ?_
    refine KT.step rfl rfl (K.move rfl) ?_
    refine KT.step rfl rfl (K.call0 plainTry_19 (awake19)) ?_
    refine KT.step rfl rfl (K.pick rfl (fun _ => rfl) (fun h => by cases h)) ?_
    refine KT.step rfl rfl (K.assign rfl) ?_
    refine KT.nil ?_
    refine thenK_n ?_
    refine KC.ret ?_
    exact ⟨.inl rfl, _, rfl, fin_d rfl⟩

theorem law9 {d e f : DV} {m : List (List Int)} {b y : List Int} {den : Int} (hd : Mat d m) (he : Ints e b) (hf : Ints f y) (hl : m.length ≤ 9223372036854775807) (hr : ∀ row ∈ m, row.length ≤ 9223372036854775807) (hbl : b.length ≤ 9223372036854775807) (hy : y.length ≤ 9223372036854775807) : DeepCall Try.prog 9 [d, e, f, DI den] (DB true) := by
  cases hR : rightB m b with
  | false => exact law9_no hR hd he hf hl hr hbl hy
  | true => exact law9_yes hR hd he hf hl hr hbl hy

end Go.Proofs.Ytlomhajhoecoiaa