/-
  THE LAW of package lattice's checks, on deep values.
-/
import Derived.Test.YtlomhajhoecoiaaChkQ
import Derived.Test.YtlomhajhoecoiaaVmS
import Derived.OpenShut
namespace Go.Vm
open Go.RowKit Go.ChangeShapes Go.WideShapes Go.Deep
section
variable {H : Type} {enc : TypeId × Value → H} {P : Program} {w : World} {held : Bool}
/-- A slice of ints, with the bounds of its elements. -/
theorem open_deep_intsB {t e : TypeId} {a : Option Addr} {len cap : Nat} {d : DataW H} {p : List MemPlace} (ht : P.underlying t = some (.slice e)) (he : P.underlying e = some (.int .i64)) (hc : P.cellsOf e = 1)
    (h : DataW.Trod enc P w 0 (fun _ => true) held t (.slice a len cap) d p) :
    ∃ dv l, DRep w Noone (.slice a len cap) dv ∧ Ints dv l ∧ l.length ≤ 9223372036854775807 ∧ ∀ x ∈ l, -9223372036854775808 ≤ x ∧ x ≤ 9223372036854775807 := by
  obtain ⟨fuel, hf⟩ := h
  rcases open_ints ht he hc hf with ⟨hcs, _⟩ | ⟨x, l, c, zs, hcs, _, hl, hm, hz, _, hcell, hwz⟩
  · simp [Value.cells] at hcs
    obtain ⟨rfl, rfl, rfl⟩ := hcs
    exact ⟨Dnil, [], .lit _, .nil, by simp, by simp⟩
  · simp [Value.cells] at hcs
    obtain ⟨rfl, rfl, rfl⟩ := hcs
    simp only [if_true] at hz
    refine ⟨_, _, rep_cells (fun i => .int .i64 (zs.getD i 0)) (fun i => DI (zs.getD i 0)) hl (fun i hi => hcell i (by omega)) (fun i _ => .lit _), vec_range (A := fun i => zs.getD i 0) fun i _ => rfl, ?_, ?_⟩
    · have := maxLen_is
      simp; omega
    · intro y hy
      obtain ⟨i, _, rfl⟩ := List.mem_map.1 hy
      rw [List.getD_eq_getElem?_getD]
      cases hh : zs[i]? with
      | none => simp
      | some z => exact bounds_i64 (hwz z (List.mem_of_getElem? hh))
end
end Go.Vm
namespace Go.Proofs.Ytlomhajhoecoiaa
open Go.Vm Go.Big Go.Det

set_option maxRecDepth 10000 in
theorem law5 {da dh du dv ds : DV} {a h u v : List (List Int)} {s : List Int} (ha : Mat da a) (hh : Mat dh h) (hu : Mat du u) (hv : Mat dv v) (hs : Ints ds s)
    (hla : a.length ≤ 9223372036854775807) (hra : ∀ row ∈ a, row.length ≤ 9223372036854775807) (hlh : h.length ≤ 9223372036854775807) (hrh : ∀ row ∈ h, row.length ≤ 9223372036854775807) (hlu : u.length ≤ 9223372036854775807) (hru : ∀ row ∈ u, row.length ≤ 9223372036854775807) (hlv : v.length ≤ 9223372036854775807) (hrv : ∀ row ∈ v, row.length ≤ 9223372036854775807)
    (hls : s.length ≤ 9223372036854775807) (bs : ∀ x ∈ s, -9223372036854775808 ≤ x ∧ x ≤ 9223372036854775807) : DeepCall Try.prog 5 [da, dh, du, dv, ds] (DB true) := by
  have L8 : ∀ m : List (List Int), (m8 m).length ≤ 9223372036854775807 := fun m => by simp; omega
  have hsl8 : (s.take 8).length ≤ 9223372036854775807 := by simp; omega
  have bs8 : ∀ x ∈ s.take 8, -9223372036854775808 ≤ x ∧ x ≤ 9223372036854775807 := fun x hx => bs x (List.mem_of_mem_take hx)
  have c30 := checkH30 (rows8_mat ha) (rows8_mat hh) (rows8_mat hu) (L8 a) m8_rows (L8 h) m8_rows (L8 u) m8_rows
  have c20 := checkHr20 (rows8_mat ha) (rows8_mat hh) (rows8_mat hu) (L8 a) m8_rows (L8 h) m8_rows (L8 u) m8_rows
  have c31 := checkS31 (rows8_mat ha) (list8_ints hs) (rows8_mat hu) (rows8_mat hv) (L8 a) m8_rows hsl8 bs8 (L8 u) m8_rows (L8 v) m8_rows
  have c26 := checkSr26 (rows8_mat ha) (list8_ints hs) (rows8_mat hu) (rows8_mat hv) (L8 a) m8_rows hsl8 bs8 (L8 u) m8_rows (L8 v) m8_rows
  rw [← checkH_same] at c20
  rw [← checkS_same] at c26
  unfold checkH at c30 c20
  unfold checkS at c31 c26
  refine deepCall_K 5 Try.func5 rfl (Nat.le_of_ble_eq_true rfl) fun M W0 => ?_
  refine KC.seq ?_
  refine KC.region ?_
  refine KT.step rfl rfl (K.assign rfl) ?_
  refine KT.nil ?_
  refine thenK_n ?_
  refine KC.seq ?_
  refine KC.region ?_
  refine KT.step rfl rfl (K.move rfl) ?_
  refine KT.step rfl rfl (K.call1 rfl plainTry_16 (few16 ha hla (fun i hi => by rw [show a.getD i [] = a[i] by simp [hi]]; exact hra _ (List.getElem_mem hi)))) ?_
  refine KT.step rfl rfl (K.move rfl) ?_
  refine KT.step rfl rfl (K.call1 rfl plainTry_16 (few16 hh hlh (fun i hi => by rw [show h.getD i [] = h[i] by simp [hi]]; exact hrh _ (List.getElem_mem hi)))) ?_
  refine KT.step rfl rfl (K.move rfl) ?_
  refine KT.step rfl rfl (K.call1 rfl plainTry_16 (few16 hu hlu (fun i hi => by rw [show u.getD i [] = u[i] by simp [hi]]; exact hru _ (List.getElem_mem hi)))) ?_
  refine KT.step rfl rfl (K.call3 rfl rfl rfl plainTry_30 (c30)) ?_
  refine KT.step rfl rfl (K.move rfl) ?_
  refine KT.step rfl rfl (K.extract rfl rfl) ?_
  refine KT.step rfl rfl (K.extract rfl rfl) ?_
  refine KT.step rfl rfl (K.assign rfl) ?_
  refine KT.step rfl rfl (K.assign rfl) ?_
  refine KT.nil ?_
  refine thenK_n ?_
  refine KC.seq ?_
  refine KC.region ?_
  refine KT.step rfl rfl (K.move rfl) ?_
  refine KT.step rfl rfl (K.call1 rfl plainTry_16 (few16 ha hla (fun i hi => by rw [show a.getD i [] = a[i] by simp [hi]]; exact hra _ (List.getElem_mem hi)))) ?_
  refine KT.step rfl rfl (K.move rfl) ?_
  refine KT.step rfl rfl (K.call1 rfl plainTry_16 (few16 hh hlh (fun i hi => by rw [show h.getD i [] = h[i] by simp [hi]]; exact hrh _ (List.getElem_mem hi)))) ?_
  refine KT.step rfl rfl (K.move rfl) ?_
  refine KT.step rfl rfl (K.call1 rfl plainTry_16 (few16 hu hlu (fun i hi => by rw [show u.getD i [] = u[i] by simp [hi]]; exact hru _ (List.getElem_mem hi)))) ?_
  refine KT.step rfl rfl (K.call3 rfl rfl rfl plainTry_20 (c20)) ?_
  refine KT.step rfl rfl (K.move rfl) ?_
  refine KT.step rfl rfl (K.extract rfl rfl) ?_
  refine KT.step rfl rfl (K.extract rfl rfl) ?_
  refine KT.step rfl rfl (K.assign rfl) ?_
  refine KT.step rfl rfl (K.assign rfl) ?_
  refine KT.nil ?_
  refine thenK_n ?_
  refine KC.seq ?_
  refine KC.region ?_
  refine KT.step rfl rfl (K.move rfl) ?_
  refine KT.step rfl rfl (K.call1 rfl plainTry_16 (few16 ha hla (fun i hi => by rw [show a.getD i [] = a[i] by simp [hi]]; exact hra _ (List.getElem_mem hi)))) ?_
  refine KT.step rfl rfl (K.move rfl) ?_
  refine KT.step rfl rfl (K.call1 rfl plainTry_32 (list32 hs)) ?_
  refine KT.step rfl rfl (K.move rfl) ?_
  refine KT.step rfl rfl (K.call1 rfl plainTry_16 (few16 hu hlu (fun i hi => by rw [show u.getD i [] = u[i] by simp [hi]]; exact hru _ (List.getElem_mem hi)))) ?_
  refine KT.step rfl rfl (K.move rfl) ?_
  refine KT.step rfl rfl (K.call1 rfl plainTry_16 (few16 hv hlv (fun i hi => by rw [show v.getD i [] = v[i] by simp [hi]]; exact hrv _ (List.getElem_mem hi)))) ?_
  refine KT.step rfl rfl (K.call4 rfl rfl rfl rfl plainTry_31 (c31)) ?_
  refine KT.step rfl rfl (K.move rfl) ?_
  refine KT.step rfl rfl (K.extract rfl rfl) ?_
  refine KT.step rfl rfl (K.extract rfl rfl) ?_
  refine KT.step rfl rfl (K.assign rfl) ?_
  refine KT.step rfl rfl (K.assign rfl) ?_
  refine KT.nil ?_
  refine thenK_n ?_
  refine KC.seq ?_
  refine KC.region ?_
  refine KT.step rfl rfl (K.move rfl) ?_
  refine KT.step rfl rfl (K.call1 rfl plainTry_16 (few16 ha hla (fun i hi => by rw [show a.getD i [] = a[i] by simp [hi]]; exact hra _ (List.getElem_mem hi)))) ?_
  refine KT.step rfl rfl (K.move rfl) ?_
  refine KT.step rfl rfl (K.call1 rfl plainTry_32 (list32 hs)) ?_
  refine KT.step rfl rfl (K.move rfl) ?_
  refine KT.step rfl rfl (K.call1 rfl plainTry_16 (few16 hu hlu (fun i hi => by rw [show u.getD i [] = u[i] by simp [hi]]; exact hru _ (List.getElem_mem hi)))) ?_
  refine KT.step rfl rfl (K.move rfl) ?_
  refine KT.step rfl rfl (K.call1 rfl plainTry_16 (few16 hv hlv (fun i hi => by rw [show v.getD i [] = v[i] by simp [hi]]; exact hrv _ (List.getElem_mem hi)))) ?_
  refine KT.step rfl rfl (K.call4 rfl rfl rfl rfl plainTry_26 (c26)) ?_
  refine KT.step rfl rfl (K.move rfl) ?_
  refine KT.step rfl rfl (K.extract rfl rfl) ?_
  refine KT.step rfl rfl (K.extract rfl rfl) ?_
  refine KT.step rfl rfl (K.assign rfl) ?_
  refine KT.step rfl rfl (K.assign rfl) ?_
  refine KT.nil ?_
  refine thenK_n ?_
  refine KC.seq ?_
  refine KC.region ?_
  refine KT.step rfl rfl (K.move rfl) ?_
  refine KT.step rfl rfl (K.move rfl) ?_
  refine KT.step rfl rfl (K.eqB' (c := true) Try.underlying4 rfl rfl (by simp)) ?_
  refine KT.step rfl rfl (K.move rfl) ?_
  refine KT.step rfl rfl (K.move rfl) ?_
  refine KT.step rfl rfl (K.move rfl) ?_
  refine KT.step rfl rfl (K.eql' (c := true) rfl rfl (by simp)) ?_
  refine KT.step rfl rfl (K.pick rfl (fun _ => rfl) (fun h => by cases h)) ?_
  refine KT.step rfl rfl (K.move rfl) ?_
  refine KT.step rfl rfl (K.move rfl) ?_
  refine KT.step rfl rfl (K.move rfl) ?_
  refine KT.step rfl rfl (K.eqB' (c := true) Try.underlying4 rfl rfl (by simp)) ?_
  refine KT.step rfl rfl (K.pick rfl (fun _ => rfl) (fun h => by cases h)) ?_
  refine KT.step rfl rfl (K.move rfl) ?_
  refine KT.step rfl rfl (K.move rfl) ?_
  refine KT.step rfl rfl (K.move rfl) ?_
  refine KT.step rfl rfl (K.eql' (c := true) rfl rfl (by simp)) ?_
  refine KT.step rfl rfl (K.pick rfl (fun _ => rfl) (fun h => by cases h)) ?_
  refine KT.step rfl rfl (K.move rfl) ?_
  refine KT.step rfl rfl (K.call0 plainTry_19 (awake19)) ?_
  refine KT.step rfl rfl (K.pick rfl (fun _ => rfl) (fun h => by cases h)) ?_
  refine KT.step rfl rfl (K.assign rfl) ?_
  refine KT.nil ?_
  refine thenK_n ?_
  refine KC.ret ?_
  exact ⟨.inl rfl, _, rfl, fin_d rfl⟩
end Go.Proofs.Ytlomhajhoecoiaa
