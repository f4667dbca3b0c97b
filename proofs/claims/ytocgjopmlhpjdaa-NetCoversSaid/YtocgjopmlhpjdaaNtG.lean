import Derived.Test.YtocgjopmlhpjdaaNtF
import Derived.Test.YtocgjopmlhpjdaaVmKi
import Derived.Test.YtocgjopmlhpjdaaVmK
/-
  Nets: explored, Reverse, word; what the laws copy; awake.
-/
namespace Go.Proofs.Ytocgjopmlhpjdaa
open Go.Vm Go.RowKit Go.Nt Go.Ht
/-- The copy of a matrix. -/
def cp (m : List (List Int)) : List (List Int) := (m.take 8).map (List.take 8)
theorem cp_same {m : List (List Int)} (hm : m.length ≤ 8) (hr : ∀ r ∈ m, r.length ≤ 8) : cp m = m := by
  unfold cp
  rw [List.take_of_length_le hm]
  conv => rhs; rw [← List.map_id m]
  refine List.map_congr_left fun r hr' => ?_
  simpa using List.take_of_length_le (hr r hr')
theorem cp_row {m : List (List Int)} (hm : m.length ≤ 8) {r : List Int} (hr : r ∈ m) : r.take 8 ∈ cp m := by
  unfold cp
  rw [List.take_of_length_le hm]
  exact List.mem_map_of_mem hr
theorem take_len {l : List Int} {n : Nat} (h : (l.take 8).length = n) (hn : n ≤ 6) : l.length = n := by simp at h; omega
theorem cp_len {m : List (List Int)} : (cp m).length = min 8 m.length := by simp [cp]
theorem cp_back {m : List (List Int)} {n : Nat} {most : Int} (hn : n ≤ 6) (hm : m.length ≤ 8) (h : allB (cp m) n most = true) : cp m = m := by
  refine cp_same hm fun r hr => ?_
  have := take_len (fitsB_len (allB_mem h _ (cp_row hm hr))) hn
  omega
theorem valid_cp {pre post : List (List Int)} {start : List Int} (h : validB pre post start = true ∨ validB (cp pre) (cp post) (start.take 8) = true) : cp pre = pre ∧ cp post = post ∧ start.take 8 = start := by
  rcases h with h | h
  · obtain ⟨v1, v2, v3, v4, v5, v6, v7, v8⟩ := validB_iff.1 h
    exact ⟨cp_same (by omega) fun r hr => by rw [fitsB_len (allB_mem v7 r hr)]; omega, cp_same (by omega) fun r hr => by rw [fitsB_len (allB_mem v8 r hr)]; omega, List.take_of_length_le (by omega)⟩
  · obtain ⟨v1, v2, v3, v4, v5, v6, v7, v8⟩ := validB_iff.1 h
    have hs : start.length ≤ 6 := by simp at v2; omega
    rw [cp_len] at v4 v5 v6
    rw [cp_len] at v6
    rw [List.take_of_length_le (show start.length ≤ 8 by omega)] at v7 v8
    exact ⟨cp_back hs (by omega) v7, cp_back hs (by omega) v8, List.take_of_length_le (by omega)⟩
theorem validB_cp (pre post : List (List Int)) (start : List Int) : validB (cp pre) (cp post) (start.take 8) = validB pre post start := by
  by_cases h : validB pre post start = true ∨ validB (cp pre) (cp post) (start.take 8) = true
  · obtain ⟨e1, e2, e3⟩ := valid_cp h
    rw [e1, e2, e3]
  · have h1 : validB pre post start = false := by simpa using fun e => h (.inl e)
    have h2 : validB (cp pre) (cp post) (start.take 8) = false := by simpa using fun e => h (.inr e)
    rw [h1, h2]
theorem NetD.cp {a b c : DV} {pre post : List (List Int)} {start : List Int} (h : NetD a b c pre post start) : NetD (rows8 pre a) (rows8 post b) (list8 start c) (cp pre) (cp post) (start.take 8) := by
  have hr : ∀ (m : List (List Int)), ∀ r ∈ Go.Proofs.Ytocgjopmlhpjdaa.cp m, r.length ≤ 9223372036854775807 := fun m r hr => by
    unfold Go.Proofs.Ytocgjopmlhpjdaa.cp at hr
    obtain ⟨q, _, rfl⟩ := List.mem_map.1 hr
    simp; omega
  exact ⟨rows8_mat h.ha, rows8_mat h.hb, list8_ints h.hc, by rw [cp_len]; omega, by rw [cp_len]; omega, by simp; omega, hr pre, hr post⟩
theorem awake19 : DeepCall Try.prog 19 [] (DB true) := runFn_sound (inl := fun f => f == 9999) (len := 3000) (k := 60) (f := 19) Try.mixed (by kernel_rfl)
theorem build66_0 : opBuild Try.prog 66 [] = some (.d (.agg [DI 0, Dnil, Dnil, DI 0, DI 0, DI 0, DI 0, DI 0, DI 0])) := by kernel_rfl
def zsD : DV := .agg (DI 0 :: Dnil :: Dnil :: w6 fun _ => 0)
theorem start_bd {pre post : List (List Int)} {start : List Int} (h : validB pre post start = true) : ∀ x ∈ start, 0 ≤ x ∧ x ≤ 5 := fitsB_mem (validB_iff.1 h).2.2.1
theorem KTZ.putAll {P : Program} {n : Nat} {ops : Array Oper} {Z : Nat → Prop} {l : List Oper} {σ : List VObj} {kn : Kn} {dst : Option Tmp} {ty : TypeId} {pos : String} {af : Array Edge} {g : Option (Nat × Bool)} {R : List Nat → List Nat → List VObj → Kn → Prop} {x y : Operand} {t : TypeId} {id : Nat} {cells cs : List XV} {v : XV} (hg : guardK ops kn ⟨dst, .store t x y, ty, pos, af, g⟩ = some true) (hd : dstOk n dst = true) (hZ : Z id) (hx : evK kn x = some (.optr id 0)) (hy : evK kn y = some v)
    (ho : σ[id]? = some ⟨cells, 0⟩) (hc : cellsX v = cs) (hz : cells.length = cs.length) (h1 : cs.all oneX = true) (hs : sizeT P t = some cs.length)
    (h : KTZ P n ops Z l (σ.set id ⟨cs, 0⟩) (extK dst undefX kn) (fun fls gs τ k => R (2 :: fls) (2 :: gs) τ k)) :
    KTZ P n ops Z (⟨dst, .store t x y, ty, pos, af, g⟩ :: l) σ kn R := by
  subst hc
  have hk := K.storeN (P := P) (dst := dst) (ty := ty) (pos := pos) (af := af) (g := g) hx hy ho (by omega) h1 hs
  rw [splice_all hz] at hk
  refine KTZ.write hg hd (fun j ob hj hob => ?_) hk h
  exact ⟨ob, by rw [List.getElem?_set_ne (fun e => by subst e; exact hj hZ)]; exact hob, rfl, Iff.rfl⟩
end Go.Proofs.Ytocgjopmlhpjdaa

