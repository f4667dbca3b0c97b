import Derived.Test.YtjfpeiioddfjcaaZnU
import Derived.Test.YtjfpeiioddfjcaaZnE
import Derived.Test.YtjfpeiioddfjcaaVmV
/-
  Zones: And, Delay, Reset, Includes; what the laws share.
-/
namespace Go.Proofs.Ytjfpeiioddfjcaa
open Go.Vm Go.Zn
theorem plainTry_16 : plainFn Try.prog 16 = true := by kernel_rfl
theorem plainTry_20 : plainFn Try.prog 20 = true := by kernel_rfl
theorem plainTry_35 : plainFn Try.prog 35 = true := by kernel_rfl
theorem plainTry_56 : plainFn Try.prog 56 = true := by kernel_rfl
theorem plainTry_21 : plainFn Try.prog 21 = true := by kernel_rfl
theorem plainTry_76 : plainFn Try.prog 76 = true := by kernel_rfl
theorem plainTry_36 : plainFn Try.prog 36 = true := by kernel_rfl
theorem plainTry_49 : plainFn Try.prog 49 = true := by kernel_rfl

def andM (z : List (List Int)) (i j : Nat) (b : Int) : Nat → Nat → Int := set2 (zf z) i j (min (zf z i j) b)
def anA (z : List (List Int)) (i j : Nat) (b : Int) : Nat → Nat → Nat → Int
  | 0 => zf z
  | _ => tightM z.length (andM z i j b)
def anE (z : List (List Int)) (i j b : Int) : Int := if guardB ((z.length : Int) - 1) 1000 i j b then opE z 1 (anA z i.toNat j.toNat b) else 2
def dlA (z : List (List Int)) : Nat → Nat → Nat → Int
  | 0 => zf z
  | 1 => tightM z.length (zf z)
  | _ => delM z.length (tightM z.length (zf z))
def dlE (z : List (List Int)) : Int := opE z 2 (dlA z)
def rsA (z : List (List Int)) (s : Nat) : Nat → Nat → Nat → Int
  | 0 => zf z
  | 1 => tightM z.length (zf z)
  | _ => resM z.length s (tightM z.length (zf z))
def rsE (z : List (List Int)) (s : Int) : Int := if setB z.length s then opE z 2 (rsA z s.toNat) else 2
theorem andM_lim {z : List (List Int)} {i j : Nat} {b : Int} (hv : validZ z = true) (hb : bndB 1000 b = true) : ZgM 2001 (andM z i j b) := fun x y => by
  have hz := zf_lim hv
  unfold andM set2
  split
  · exact min_lim (hz i j) (by have := bnd_lim hb; unfold Lim; omega)
  · exact hz x y
theorem lim5 {n : Nat} {a : Nat → Nat → Int} (h : ZgM 2001 a) : ZgM 5000 (Go.Zn.flo n a) := flo_lim (by omega) fun i j => Lim.mono (h i j) (by omega) (by omega)
theorem and_ok {z : List (List Int)} {i j : Nat} {b : Int} (hv : validZ z = true) (hi : i < z.length) (hj : j < z.length) (hb : bndB 1000 b = true) : FnOk Try.prog (.fn (.func 96) [] [.ptr [.fn (.func 63) [] []], .ptr [DI i, DI j, DI b]]) [.agg (mc z.length (zf z))] (.agg (mc z.length (tightM z.length (andM z i j b)))) :=
  ⟨96, [.ptr [.fn (.func 63) [] []], .ptr [DI i, DI j, DI b]], rfl, plainTry_96, withC96 (validZ_rows hv).2.1 hi hj (lim5 (andM_lim hv hb))⟩
theorem delay_ok {z : List (List Int)} {a : Nat → Nat → Int} (hv : validZ z = true) : FnOk Try.prog (.fn (.func 65) [] []) [.agg (mc z.length a)] (.agg (mc z.length (delM z.length a))) :=
  ⟨65, [], rfl, plainTry_65, delay65 (validZ_rows hv).2.1 (by have := (validZ_rows hv).1; omega)⟩
theorem reset_ok {z : List (List Int)} {a : Nat → Nat → Int} {s : Nat} (hv : validZ z = true) (hs : s < 2 ^ 63) : FnOk Try.prog (.fn (.func 97) [] [.ptr [.fn (.func 68) [] []], .ptr [DI s]]) [.agg (mc z.length a)] (.agg (mc z.length (resM z.length s a))) :=
  ⟨97, [.ptr [.fn (.func 68) [] []], .ptr [DI s]], rfl, plainTry_97, withC97 (validZ_rows hv).2.1 (by have := (validZ_rows hv).1; omega) hs⟩
set_option maxRecDepth 10000 in
theorem And23 {d : DV} {z : List (List Int)} {i j b : Int} (hd : Mat d z) (hl : z.length ≤ 9223372036854775807) (hr : ∀ r ∈ z, r.length ≤ 9223372036854775807) : DeepCall Try.prog 23 [d, .agg [DI i, DI j, DI b]] (.tup [resD (anE z i j b) z.length (tightM z.length (andM z i.toNat j.toNat b)), DI (anE z i j b)]) := by
  refine deepCall_K 5 Try.func23 rfl (Nat.le_of_ble_eq_true rfl) fun M W0 => ?_
  refine KC.seq ?_
  refine KC.region ?_
  refine KT.step rfl rfl (K.box rfl) ?_
  refine KT.step rfl rfl (K.assign rfl) ?_
  refine KT.step rfl rfl (K.assign rfl) ?_
  refine KT.nil ?_
  refine thenK_n ?_
  refine KC.seq ?_
  refine KC.seq ?_
  refine KC.region ?_
  refine KT.step rfl rfl (K.loadOA ([DI i, DI j, DI b]) rfl rfl (by decide) Try.agg38 Try.size38 rfl) ?_
  refine KT.step rfl rfl (K.move rfl) ?_
  refine KT.step rfl rfl (K.len rfl hd Try.underlying22) ?_
  refine KT.step rfl rfl (K.sub rfl rfl (wrap_id (by omega))) ?_
  refine KT.step rfl rfl (K.call3 rfl rfl rfl plainTry_61 (validGuard61 _ _ _ _ _ (by omega))) ?_
  refine KT.step rfl rfl (K.not rfl) ?_
  refine KT.nil ?_
  refine thenK_n ?_
  refine KC.cond rfl (fun hc11 => ?_) (fun hc11 => ?_)
  · skip
    rw [Bool.not_eq_true'] at hc11
    refine KC.seq ?_
    refine KC.region ?_
    refine KT.step rfl rfl (K.assign rfl) ?_
    refine KT.step rfl rfl (K.assign rfl) ?_
    refine KT.nil ?_
    refine thenK_n ?_
    refine KC.ret ?_
    refine thenK_r ?_
    have he : anE z i j b = 2 := if_neg (by rw [hc11]; decide)
    rw [he]
    exact ⟨.inl rfl, _, rfl, rfl⟩
  · skip
    rw [Bool.not_eq_false'] at hc11
    have hg := hc11
    unfold guardB at hg
    simp only [Bool.and_eq_true, decide_eq_true_eq] at hg
    obtain ⟨⟨⟨hi0, hi1⟩, hj0, hj1⟩, hgb⟩ := hg
    obtain ⟨i, rfl⟩ := Int.eq_ofNat_of_zero_le hi0
    obtain ⟨j, rfl⟩ := Int.eq_ofNat_of_zero_le hj0
    refine KC.skip ?_
    refine thenK_n ?_
    refine KC.seq ?_
    refine KC.region ?_
    refine KT.step rfl rfl (K.move rfl) ?_
    refine KT.step rfl rfl (K.loadOA ([DI i, DI j, DI b]) rfl rfl (by decide) Try.agg38 Try.size38 rfl) ?_
    refine KT.step rfl rfl (K.call2 rfl rfl plainTry_62 (with62)) ?_
    refine KT.step rfl rfl (K.build1' rfl rfl Try.underlying137 one82) ?_
    refine KT.step rfl rfl (K.callZ (ds := [d, .sl [.fn (.func 96) [] [.ptr [.fn (.func 63) [] []], .ptr [DI i, DI j, DI b]]] 1 (some 1)]) [1] 6 rfl plainTry_50 rfl (operated50 (A := anA z i j b) hd hl hr (fns_of [.fn (.func 96) [] [.ptr [.fn (.func 63) [] []], .ptr [DI i, DI j, DI b]]] (some 1)) (by simp) rfl (fun hv q h hall => by
      have e : q = 0 := by simp at h; omega
      subst e
      exact and_ok hv (by omega) (by omega) hgb))) ?_
    refine KT.step rfl rfl (K.extract rfl rfl) ?_
    refine KT.step rfl rfl (K.extract rfl rfl) ?_
    refine KT.step rfl rfl (K.assign rfl) ?_
    refine KT.step rfl rfl (K.assign rfl) ?_
    refine KT.nil ?_
    refine thenK_n ?_
    refine KC.ret ?_
    have he : anE z i j b = opE z 1 (anA z i j b) := if_pos hc11
    rw [he]
    exact ⟨.inl rfl, _, rfl, rfl⟩
set_option maxRecDepth 10000 in
theorem Delay25 {d : DV} {z : List (List Int)} (hd : Mat d z) (hl : z.length ≤ 9223372036854775807) (hr : ∀ r ∈ z, r.length ≤ 9223372036854775807) : DeepCall Try.prog 25 [d] (.tup [resD (dlE z) z.length (delM z.length (tightM z.length (zf z))), DI (dlE z)]) := by
  refine deepCall_K 5 Try.func25 rfl (Nat.le_of_ble_eq_true rfl) fun M W0 => ?_
  refine KC.seq ?_
  refine KC.region ?_
  refine KT.step rfl rfl (K.assign rfl) ?_
  refine KT.step rfl rfl (K.assign rfl) ?_
  refine KT.nil ?_
  refine thenK_n ?_
  refine KC.seq ?_
  refine KC.region ?_
  refine KT.step rfl rfl (K.move rfl) ?_
  refine KT.step rfl rfl (K.build2s rfl rfl rfl rfl Try.underlying137 one82) ?_
  refine KT.step rfl rfl (K.callZ (ds := [d, .sl [.fn (.func 51) [] [], .fn (.func 65) [] []] 2 (some 2)]) [0] 6 rfl plainTry_50 rfl (operated50 (A := dlA z) hd hl hr (fns_of [.fn (.func 51) [] [], .fn (.func 65) [] []] (some 2)) (by simp) rfl (fun hv q h hall => by
    have e : q = 0 ∨ q = 1 := by simp at h; omega
    rcases e with rfl | rfl
    · exact tight_ok hv
    · exact delay_ok hv))) ?_
  refine KT.step rfl rfl (K.extract rfl rfl) ?_
  refine KT.step rfl rfl (K.extract rfl rfl) ?_
  refine KT.step rfl rfl (K.assign rfl) ?_
  refine KT.step rfl rfl (K.assign rfl) ?_
  refine KT.nil ?_
  refine thenK_n ?_
  refine KC.ret ?_
  exact ⟨.inl rfl, _, rfl, rfl⟩
set_option maxRecDepth 10000 in
theorem Reset27 {d : DV} {z : List (List Int)} {s : Int} (hd : Mat d z) (hl : z.length ≤ 9223372036854775807) (hr : ∀ r ∈ z, r.length ≤ 9223372036854775807) (h6 : z.length ≤ 6) : DeepCall Try.prog 27 [d, DI s] (.tup [resD (rsE z s) z.length (resM z.length s.toNat (tightM z.length (zf z))), DI (rsE z s)]) := by
  refine deepCall_K 5 Try.func27 rfl (Nat.le_of_ble_eq_true rfl) fun M W0 => ?_
  refine KC.seq ?_
  refine KC.region ?_
  refine KT.step rfl rfl (K.assign rfl) ?_
  refine KT.step rfl rfl (K.assign rfl) ?_
  refine KT.nil ?_
  refine thenK_n ?_
  refine KC.seq ?_
  refine KC.seq ?_
  refine KC.region ?_
  refine KT.step rfl rfl (K.move rfl) ?_
  refine KT.step rfl rfl (K.move rfl) ?_
  refine KT.step rfl rfl (K.len rfl hd Try.underlying22) ?_
  refine KT.step rfl rfl (K.sub rfl rfl (wrap_id (by omega))) ?_
  refine KT.step rfl rfl (K.call2 rfl rfl plainTry_66 (isSet66 s h6)) ?_
  refine KT.step rfl rfl (K.not rfl) ?_
  refine KT.nil ?_
  refine thenK_n ?_
  refine KC.cond rfl (fun hc11 => ?_) (fun hc11 => ?_)
  · skip
    rw [Bool.not_eq_true'] at hc11
    refine KC.seq ?_
    refine KC.region ?_
    refine KT.step rfl rfl (K.assign rfl) ?_
    refine KT.step rfl rfl (K.assign rfl) ?_
    refine KT.nil ?_
    refine thenK_n ?_
    refine KC.ret ?_
    refine thenK_r ?_
    have he : rsE z s = 2 := if_neg (by rw [hc11]; decide)
    rw [he]
    exact ⟨.inl rfl, _, rfl, rfl⟩
  · skip
    rw [Bool.not_eq_false'] at hc11
    have hg := hc11
    unfold setB at hg
    simp only [Bool.and_eq_true, decide_eq_true_eq] at hg
    obtain ⟨⟨hs0, hs1⟩, _⟩ := hg
    obtain ⟨s, rfl⟩ := Int.eq_ofNat_of_zero_le hs0
    have hp : 2 ^ z.length ≤ 2 ^ 6 := Nat.pow_le_pow_right (by decide) h6
    have hs2 : s < 2 ^ 63 := by generalize 2 ^ z.length = q at *; omega
    refine KC.skip ?_
    refine thenK_n ?_
    refine KC.seq ?_
    refine KC.region ?_
    refine KT.step rfl rfl (K.move rfl) ?_
    refine KT.step rfl rfl (K.move rfl) ?_
    refine KT.step rfl rfl (K.call2 rfl rfl plainTry_67 (with67)) ?_
    refine KT.step rfl rfl (K.build2s rfl rfl rfl rfl Try.underlying137 one82) ?_
    refine KT.step rfl rfl (K.callZ (ds := [d, .sl [.fn (.func 51) [] [], .fn (.func 97) [] [.ptr [.fn (.func 68) [] []], .ptr [DI s]]] 2 (some 2)]) [0] 6 rfl plainTry_50 rfl (operated50 (A := rsA z s) hd hl hr (fns_of [.fn (.func 51) [] [], .fn (.func 97) [] [.ptr [.fn (.func 68) [] []], .ptr [DI s]]] (some 2)) (by simp) rfl (fun hv q h hall => by
      have e : q = 0 ∨ q = 1 := by simp at h; omega
      rcases e with rfl | rfl
      · exact tight_ok hv
      · exact reset_ok hv hs2))) ?_
    refine KT.step rfl rfl (K.extract rfl rfl) ?_
    refine KT.step rfl rfl (K.extract rfl rfl) ?_
    refine KT.step rfl rfl (K.assign rfl) ?_
    refine KT.step rfl rfl (K.assign rfl) ?_
    refine KT.nil ?_
    refine thenK_n ?_
    refine KC.ret ?_
    have he : rsE z s = opE z 2 (rsA z s) := if_pos hc11
    rw [he]
    exact ⟨.inl rfl, _, rfl, rfl⟩

def inOk (z w : List (List Int)) : Bool := (validZ z && validZ w) && decide (z.length = w.length)
def inB (z w : List (List Int)) : Bool := inOk z w && (emptyB w.length (tightM w.length (zf w)) || inclB w.length (zf z) (tightM w.length (zf w)))
def inE (z w : List (List Int)) : Int := if inOk z w then 0 else 2
theorem fin_be {σ : List VObj} {k : Nat} {b b' : Bool} {e e' : Int} (h1 : b = b') (h2 : e = e') : deepen σ (k + 3) (.tup [.d (DB b), .d (DI e)]) = some (.tup [DB b', DI e']) := by subst h1 h2; rfl
theorem rd_pos {z : List (List Int)} (h : validZ z = true) : rdN z = z.length ∧ rdA z = zf z := ⟨if_pos h, if_pos h⟩
set_option maxRecDepth 10000 in
theorem Includes29 {d e : DV} {z w : List (List Int)} (hd : Mat d z) (hl : z.length ≤ 9223372036854775807) (hr : ∀ r ∈ z, r.length ≤ 9223372036854775807) (he : Mat e w) (hl2 : w.length ≤ 9223372036854775807) (hr2 : ∀ r ∈ w, r.length ≤ 9223372036854775807) : DeepCall Try.prog 29 [d, e] (.tup [DB (inB z w), DI (inE z w)]) := by
  refine deepCall_K 5 Try.func29 rfl (Nat.le_of_ble_eq_true rfl) fun M W0 => ?_
  refine KC.seq ?_
  refine KC.region ?_
  refine KT.step rfl rfl (K.assign rfl) ?_
  refine KT.step rfl rfl (K.assign rfl) ?_
  refine KT.nil ?_
  refine thenK_n ?_
  refine KC.seq ?_
  refine KC.region ?_
  refine KT.step rfl rfl (K.move rfl) ?_
  refine KT.step rfl rfl (K.call1 rfl plainTry_53 (read53 hd hl hr)) ?_
  refine KT.step rfl rfl (K.move rfl) ?_
  refine KT.step rfl rfl (K.extract rfl rfl) ?_
  refine KT.step rfl rfl (K.extract rfl rfl) ?_
  refine KT.step rfl rfl (K.alloc Try.zero87) ?_
  refine KT.putAll (cs := mcx (rdN z) (rdA z)) rfl rfl rfl rfl rfl rfl rfl rfl Try.size87 ?_
  refine KT.step rfl rfl (K.assign rfl) ?_
  refine KT.nil ?_
  refine thenK_n ?_
  refine KC.seq ?_
  refine KC.region ?_
  refine KT.step rfl rfl (K.move rfl) ?_
  refine KT.step rfl rfl (K.call1 rfl plainTry_53 (read53 he hl2 hr2)) ?_
  refine KT.step rfl rfl (K.move rfl) ?_
  refine KT.step rfl rfl (K.extract rfl rfl) ?_
  refine KT.step rfl rfl (K.extract rfl rfl) ?_
  refine KT.step rfl rfl (K.alloc Try.zero87) ?_
  refine KT.putAll (cs := mcx (rdN w) (rdA w)) rfl rfl rfl rfl rfl rfl rfl rfl Try.size87 ?_
  refine KT.step rfl rfl (K.assign rfl) ?_
  refine KT.nil ?_
  refine thenK_n ?_
  refine KC.seq ?_
  refine KC.seq ?_
  refine KC.region ?_
  refine KT.step rfl rfl (K.move rfl) ?_
  refine KT.step rfl rfl (K.not rfl) ?_
  refine KT.step rfl rfl (K.move rfl) ?_
  refine KT.bcase (fun hb22 => ?_) (fun hb22 => ?_)
  · skip
    rw [Bool.not_eq_true'] at hb22
    refine KT.skip rfl rfl ?_
    refine KT.skip rfl rfl ?_
    refine KT.step rfl rfl (K.pick rfl (fun _ => rfl) (fun h => by cases h)) ?_
    refine KT.step rfl rfl (K.move rfl) ?_
    refine KT.skip rfl rfl ?_
    refine KT.skip rfl rfl ?_
    refine KT.skip rfl rfl ?_
    refine KT.skip rfl rfl ?_
    refine KT.skip rfl rfl ?_
    refine KT.step rfl rfl (K.pick rfl (fun _ => rfl) (fun h => by cases h)) ?_
    refine KT.nil ?_
    refine thenK_n ?_
    refine KC.cond rfl (fun hc32 => ?_) (fun hc32 => ?_)
    · skip
      refine KC.seq ?_
      refine KC.region ?_
      refine KT.step rfl rfl (K.assign rfl) ?_
      refine KT.step rfl rfl (K.assign rfl) ?_
      refine KT.nil ?_
      refine thenK_n ?_
      refine KC.ret ?_
      refine thenK_r ?_
      exact ⟨.inl rfl, _, rfl, fin_be (by unfold inB inOk; rw [hb22]; rfl) (by unfold inE inOk; rw [hb22]; rfl)⟩
    · cases hc32
  · skip
    rw [Bool.not_eq_false'] at hb22
    refine KT.step rfl rfl (K.move rfl) ?_
    refine KT.step rfl rfl (K.not rfl) ?_
    refine KT.step rfl rfl (K.pick rfl (fun h => by cases h) (fun _ => rfl)) ?_
    refine KT.step rfl rfl (K.move rfl) ?_
    refine KT.bcase (fun hb26 => ?_) (fun hb26 => ?_)
    · skip
      rw [Bool.not_eq_true'] at hb26
      refine KT.skip rfl rfl ?_
      refine KT.skip rfl rfl ?_
      refine KT.skip rfl rfl ?_
      refine KT.skip rfl rfl ?_
      refine KT.skip rfl rfl ?_
      refine KT.step rfl rfl (K.pick rfl (fun _ => rfl) (fun h => by cases h)) ?_
      refine KT.nil ?_
      refine thenK_n ?_
      refine KC.cond rfl (fun hc32 => ?_) (fun hc32 => ?_)
      · skip
        refine KC.seq ?_
        refine KC.region ?_
        refine KT.step rfl rfl (K.assign rfl) ?_
        refine KT.step rfl rfl (K.assign rfl) ?_
        refine KT.nil ?_
        refine thenK_n ?_
        refine KC.ret ?_
        refine thenK_r ?_
        exact ⟨.inl rfl, _, rfl, fin_be (by unfold inB inOk; rw [hb26, Bool.and_false]; rfl) (by unfold inE inOk; rw [hb26, Bool.and_false]; rfl)⟩
      · cases hc32
    · skip
      rw [Bool.not_eq_false'] at hb26
      refine KT.step rfl rfl (K.fieldAddrO rfl Try.fld87_0 Try.size3) ?_
      refine KT.step rfl rfl (K.loadO rfl rfl (by simp) rfl Try.agg3) ?_
      refine KT.step rfl rfl (K.fieldAddrO rfl Try.fld87_0 Try.size3) ?_
      refine KT.step rfl rfl (K.loadO rfl rfl (by simp) rfl Try.agg3) ?_
      refine KT.step rfl rfl (K.neq rfl rfl) ?_
      refine KT.step rfl rfl (K.pick rfl (fun h => by cases h) (fun _ => rfl)) ?_
      refine KT.nil ?_
      refine thenK_n ?_
      refine KC.cond rfl (fun hc32 => ?_) (fun hc32 => ?_)
      · skip
        replace hc32 := of_decide_eq_true hc32
        refine KC.seq ?_
        refine KC.region ?_
        refine KT.step rfl rfl (K.assign rfl) ?_
        refine KT.step rfl rfl (K.assign rfl) ?_
        refine KT.nil ?_
        refine thenK_n ?_
        refine KC.ret ?_
        refine thenK_r ?_
        have q1 := rd_pos hb22
        have q2 := rd_pos hb26
        have hzw : ¬ z.length = w.length := by rw [q1.1, q2.1] at hc32; omega
        exact ⟨.inl rfl, _, rfl, fin_be (by unfold inB inOk; rw [decide_eq_false hzw, Bool.and_false]; rfl) (by unfold inE inOk; rw [decide_eq_false hzw, Bool.and_false]; rfl)⟩
      · skip
        replace hc32 := of_decide_eq_false hc32
        have q1 := rd_pos hb22
        have q2 := rd_pos hb26
        have hzw : z.length = w.length := by have := Classical.not_not.1 hc32; rw [q1.1, q2.1] at this; omega
        have hz4 : w.length ≤ 4 := (validZ_rows hb26).2.1
        rw [q1.1, q1.2, q2.1, q2.2, hzw]
        have hok : inOk z w = true := by unfold inOk; rw [hb22, hb26, decide_eq_true hzw]; rfl
        refine KC.skip ?_
        refine thenK_n ?_
        refine KC.seq ?_
        refine KC.region ?_
        refine KT.step rfl rfl (K.loadOA (mc (w.length) (zf w)) rfl rfl (by decide) Try.agg87 Try.size87 rfl) ?_
        refine KT.step rfl rfl (K.call1 rfl plainTry_51 (tight51 hz4 (lim5 (zf_lim hb26)))) ?_
        refine KT.putAll (cs := mcx w.length (tightM w.length (zf w))) rfl rfl rfl rfl rfl rfl rfl rfl Try.size87 ?_
        refine KT.nil ?_
        refine thenK_n ?_
        refine KC.seq ?_
        refine KC.region ?_
        refine KT.step rfl rfl (K.loadOA (mc (w.length) (tightM w.length (zf w))) rfl rfl (by decide) Try.agg87 Try.size87 rfl) ?_
        refine KT.step rfl rfl (K.call1 rfl plainTry_69 (empty69 hz4)) ?_
        refine KT.step rfl rfl (K.move rfl) ?_
        refine KT.bcase (fun hb37 => ?_) (fun hb37 => ?_)
        · skip
          refine KT.skip rfl rfl ?_
          refine KT.skip rfl rfl ?_
          refine KT.skip rfl rfl ?_
          refine KT.step rfl rfl (K.pick rfl (fun _ => rfl) (fun h => by cases h)) ?_
          refine KT.step rfl rfl (K.assign rfl) ?_
          refine KT.step rfl rfl (K.assign rfl) ?_
          refine KT.nil ?_
          refine thenK_n ?_
          refine KC.ret ?_
          exact ⟨.inl rfl, _, rfl, fin_be (by unfold inB; rw [hok, hb37]; rfl) (by unfold inE; rw [hok]; rfl)⟩
        · skip
          refine KT.step rfl rfl (K.loadOA (mc (w.length) (zf z)) rfl rfl (by decide) Try.agg87 Try.size87 rfl) ?_
          refine KT.step rfl rfl (K.loadOA (mc (w.length) (tightM w.length (zf w))) rfl rfl (by decide) Try.agg87 Try.size87 rfl) ?_
          refine KT.step rfl rfl (K.call2 rfl rfl plainTry_70 (includes70 hz4)) ?_
          refine KT.step rfl rfl (K.pick rfl (fun h => by cases h) (fun _ => rfl)) ?_
          refine KT.step rfl rfl (K.assign rfl) ?_
          refine KT.step rfl rfl (K.assign rfl) ?_
          refine KT.nil ?_
          refine thenK_n ?_
          refine KC.ret ?_
          exact ⟨.inl rfl, _, rfl, fin_be (by unfold inB; rw [hok, hb37]; rfl) (by unfold inE; rw [hok]; rfl)⟩
/-- The first eight. -/
def list6 (l : List Int) (d : DV) : DV := cloneD (takeV (min l.length 6) d)
theorem list6_ints {d : DV} {l : List Int} (hd : Ints d l) : Ints (list6 l d) (l.take 6) := by
  have h := cloneD_vec (takeV_vec hd (m := min l.length 6) (by omega))
  have e : l.take (min l.length 6) = l.take 6 := by
    by_cases h6 : l.length ≤ 6
    · rw [List.take_of_length_le (by omega), List.take_of_length_le h6]
    · rw [show min l.length 6 = 6 by omega]
  rwa [e] at h
def row6 (m : List (List Int)) (d : DV) (i : Nat) : DV := list6 (m.getD i []) (getV d i)
def rows6 (m : List (List Int)) (d : DV) : DV := slOf ((List.range (min m.length 6)).map (row6 m d))

theorem row6_ints {d : DV} {m : List (List Int)} (hd : Mat d m) {i : Nat} (hi : i < m.length) : Ints (getV d i) (m.getD i []) := by
  have := getV_vec hd hi
  rwa [show m.getD i [] = m[i] by simp [hi]]

theorem rows6_mat {d : DV} {m : List (List Int)} (hd : Mat d m) : Mat (rows6 m d) ((m.take 6).map (List.take 6)) := by
  have hlen : ((List.range (min m.length 6)).map (row6 m d)).length = ((m.take 6).map (List.take 6)).length := by simp; omega
  unfold rows6
  generalize hg : (List.range (min m.length 6)).map (row6 m d) = ds at hlen
  cases ds with
  | nil =>
    have : (m.take 6).map (List.take 6) = [] := List.length_eq_zero_iff.1 hlen.symm
    rw [this]; exact .nil
  | cons a ds =>
    rw [show slOf (a :: ds) = .sl (a :: ds) (a :: ds).length none from rfl, hlen]
    refine .sl hlen fun i c x hc hx => ?_
    rw [← hg, List.getElem?_map] at hc
    by_cases hi : i < min m.length 6
    · rw [List.getElem?_range hi] at hc
      simp only [Option.map_some, Option.some.injEq] at hc
      rw [List.getElem?_map, List.getElem?_take, if_pos (by omega), List.getElem?_eq_getElem (by omega)] at hx
      simp only [Option.map_some, Option.some.injEq] at hx
      subst hc hx
      have := list6_ints (row6_ints hd (i := i) (by omega))
      have e : m.getD i [] = m[i] := by simp [show i < m.length by omega]
      unfold row6
      rw [e] at this ⊢; exact this
    · rw [List.getElem?_eq_none (by simp; omega)] at hc; cases hc
set_option maxRecDepth 10000 in
theorem rows16 {d : DV} {m : List (List Int)} (hd : Mat d m) (hl : m.length ≤ 9223372036854775807) (hr : ∀ i, i < m.length → (m.getD i []).length ≤ 9223372036854775807) : DeepCall Try.prog 16 [d] (rows6 m d) := by
  refine deepCall_K 5 Try.func16 rfl (Nat.le_of_ble_eq_true rfl) fun M W0 => ?_
  refine KC.seq ?_
  refine KC.region ?_
  refine KT.step rfl rfl (K.assign rfl) ?_
  refine KT.nil ?_
  refine thenK_n ?_
  refine KC.seq ?_
  refine KC.region ?_
  refine KT.step rfl rfl (K.assign rfl) ?_
  refine KT.nil ?_
  refine thenK_n ?_
  refine KC.seq ?_
  refine KC.seq ?_
  refine KC.region ?_
  refine KT.step rfl rfl (K.move rfl) ?_
  refine KT.step rfl rfl (K.len rfl (by assumption) Try.underlying22) ?_
  refine KT.step rfl rfl (K.move rfl) ?_
  refine KT.nil ?_
  refine thenK_n ?_
  refine KC.block ?_
  refine KC.loop (fun p : List VObj × XV × Nat => p.1) (fun p => [(0, .d d), (3, p.2.1), (6, .d d), (7, .d (DI m.length)), (8, .d (DI p.2.2))]) (fun p => p.2.2 ≤ m.length ∧ p.2.2 ≤ 6 ∧ Own p.1 p.2.1 (((List.range p.2.2).map (row6 m d)).map .d) ∧ (p.2.2 = 0 → p.2.1 = .d Dnil)) (fun p => m.length - p.2.2) ([], .d Dnil, 0) ⟨Nat.zero_le _, Nat.zero_le _, .nil, fun _ => rfl⟩ rfl (by simp [Go.Vm.look, extK, enterK]) ?_
  intro p hp
  obtain ⟨σ0, x0, i⟩ := p
  obtain ⟨hi, hi8, hown, hnil⟩ := hp
  simp only at hi hi8 hown hnil ⊢
  refine KC.seq ?_
  refine KC.region ?_
  refine KT.step rfl rfl (K.lss rfl rfl) ?_
  refine KT.nil ?_
  refine thenK_n ?_
  refine KC.seq ?_
  refine KC.cond rfl (fun hc9 => ?_) (fun hc9 => ?_)
  · skip
    simp at hc9
    have hlt : i < m.length := by omega
    have hrow := row6_ints hd hlt
    have hrl := hr i hlt
    refine KC.skip ?_
    refine thenK_n ?_
    refine KC.seq ?_
    refine KC.block ?_
    refine KC.seq ?_
    refine KC.region ?_
    refine KT.step rfl rfl (K.move rfl) ?_
    refine KT.step rfl rfl (K.idxV rfl (by assumption) rfl (by omega) Try.underlying22 Try.size23) ?_
    refine KT.step rfl rfl (K.load rfl Try.agg23) ?_
    refine KT.step rfl rfl (K.assign rfl) ?_
    refine KT.step rfl rfl (K.assign rfl) ?_
    refine KT.nil ?_
    refine thenK_n ?_
    refine KC.seq ?_
    refine KC.seq ?_
    refine KC.region ?_
    refine KT.step rfl rfl (K.move rfl) ?_
    refine KT.step rfl rfl (K.gtr rfl rfl) ?_
    refine KT.nil ?_
    refine thenK_n ?_
    refine KC.cond rfl (fun hc14 => ?_) (fun hc14 => ?_)
    · skip
      simp at hc14
      refine KC.exit ?_
      refine thenK_x ?_
      refine blockK_x (by decide) ?_
      refine thenK_x ?_
      refine thenK_x ?_
      refine blockK_e ?_
      refine thenK_n ?_
      refine KC.seq ?_
      refine KC.region ?_
      refine KT.step rfl rfl (K.move rfl) ?_
      refine KT.step rfl rfl (K.assign rfl) ?_
      refine KT.nil ?_
      refine thenK_n ?_
      refine KC.ret ?_
      have : i = min m.length 6 := by omega
      subst this
      refine ⟨.inl rfl, _, rfl, fin_own hown fun h => hnil ?_⟩
      simpa using h
    · skip
      simp at hc14
      refine KC.skip ?_
      refine thenK_n ?_
      refine KC.region ?_
      refine KT.step rfl rfl (K.move rfl) ?_
      refine KT.step rfl rfl (K.move rfl) ?_
      refine KT.step rfl rfl (K.move rfl) ?_
      refine KT.step rfl rfl (K.len rfl (by assumption) Try.underlying23) ?_
      refine KT.step rfl rfl (K.minN (b := 6) rfl rfl) ?_
      refine KT.step rfl rfl (K.takeV rfl (by assumption) rfl (by omega) Try.underlying23 Try.size3) ?_
      refine KT.step rfl rfl (K.call1 rfl plainTry_39 (clone39 (takeV_vec hrow (by omega)) (by simp; omega))) ?_
      refine KT.step rfl rfl (K.build1' (v := .d (row6 m d i)) rfl (cellsX_clone (takeV_vec hrow (m := min (m.getD i []).length 6) (by omega))).1 Try.underlying22 Try.one23) ?_
      refine KT.app (v := .d (row6 m d i)) rfl rfl rfl rfl (Own.pushed hown _) (by simp) (cellsX_clone (takeV_vec hrow (m := min (m.getD i []).length 6) (by omega))).2 (by simp; omega) Try.underlying22 Try.one23 fun σ1 x1 ho1 => ?_
      refine KT.step rfl rfl (K.assign rfl) ?_
      refine KT.nil ?_
      refine blockK_n ?_
      refine thenK_n ?_
      refine KC.region ?_
      refine KT.step rfl rfl (K.add rfl rfl (wrap_id (by omega))) ?_
      refine KT.step rfl rfl (K.move rfl) ?_
      refine KT.nil ?_
      refine thenK_n ?_
      refine ⟨(σ1, x1, i + 1), ⟨by simp only; omega, by simp only; omega, ?_, fun h => by simp at h⟩, by simp only; omega, rfl, by simp [Go.Vm.look, extK]⟩
      rw [List.range_succ, List.map_append, List.map_append]
      exact ho1
  · skip
    simp at hc9
    refine KC.exit ?_
    refine thenK_x ?_
    refine thenK_x ?_
    refine blockK_e ?_
    refine thenK_n ?_
    refine KC.seq ?_
    refine KC.region ?_
    refine KT.step rfl rfl (K.move rfl) ?_
    refine KT.step rfl rfl (K.assign rfl) ?_
    refine KT.nil ?_
    refine thenK_n ?_
    refine KC.ret ?_
    have : i = min m.length 6 := by omega
    subst this
    refine ⟨.inl rfl, _, rfl, fin_own hown fun h => hnil ?_⟩
    simpa using h
set_option maxRecDepth 10000 in
theorem equal35 {d e : DV} {x y : List Int} (hd : Ints d x) (he : Ints e y) (hl : x.length ≤ 9223372036854775807) :
    DeepCall Try.prog 35 [d, e] (DB (decide (x = y))) := by
  refine deepCall_K 5 Try.func35 rfl (Nat.le_of_ble_eq_true rfl) fun M W0 => ?_
  refine KC.seq ?_
  refine KC.region ?_
  refine KT.step rfl rfl (K.assign rfl) ?_
  refine KT.nil ?_
  refine thenK_n ?_
  refine KC.seq ?_
  refine KC.seq ?_
  refine KC.region ?_
  refine KT.step rfl rfl (K.move rfl) ?_
  refine KT.step rfl rfl (K.len rfl (by assumption) Try.underlying23) ?_
  refine KT.step rfl rfl (K.move rfl) ?_
  refine KT.step rfl rfl (K.len rfl (by assumption) Try.underlying23) ?_
  refine KT.step rfl rfl (K.neq rfl rfl) ?_
  refine KT.nil ?_
  refine thenK_n ?_
  refine KC.cond rfl (fun hc10 => ?_) (fun hc10 => ?_)
  · skip
    replace hc10 := of_decide_eq_true hc10
    refine KC.seq ?_
    refine KC.region ?_
    refine KT.step rfl rfl (K.assign rfl) ?_
    refine KT.nil ?_
    refine thenK_n ?_
    refine KC.ret ?_
    refine thenK_r ?_
    exact ⟨.inl rfl, _, rfl, fin_b (decide_eq_false fun h => by subst h; omega)⟩
  · skip
    replace hc10 := of_decide_eq_false hc10
    refine KC.skip ?_
    refine thenK_n ?_
    refine KC.seq ?_
    refine KC.seq ?_
    refine KC.region ?_
    refine KT.step rfl rfl (K.move rfl) ?_
    refine KT.step rfl rfl (K.len rfl (by assumption) Try.underlying23) ?_
    refine KT.step rfl rfl (K.move rfl) ?_
    refine KT.nil ?_
    refine thenK_n ?_
    refine KC.block ?_
    refine KC.loop (fun _ : Nat => []) (fun i => [(0, .d d), (1, .d e), (12, .d (DI x.length)), (13, .d (DI i))]) (fun i => i ≤ x.length ∧ x.take i = y.take i) (fun i => x.length - i) 0 ⟨Nat.zero_le _, rfl⟩ rfl (by simp [Go.Vm.look, extK, enterK]) ?_
    intro i hi
    obtain ⟨hi, hall⟩ := hi
    refine KC.seq ?_
    refine KC.region ?_
    refine KT.step rfl rfl (K.lss rfl rfl) ?_
    refine KT.nil ?_
    refine thenK_n ?_
    refine KC.seq ?_
    refine KC.cond rfl (fun hc14 => ?_) (fun hc14 => ?_)
    · skip
      replace hc14 := of_decide_eq_true hc14
      refine KC.skip ?_
      refine thenK_n ?_
      refine KC.seq ?_
      refine KC.block ?_
      refine KC.seq ?_
      refine KC.region ?_
      refine KT.step rfl rfl (K.move rfl) ?_
      refine KT.step rfl rfl (K.assign rfl) ?_
      refine KT.nil ?_
      refine thenK_n ?_
      refine KC.seq ?_
      refine KC.draw Try.mixed ?_
      refine KT.step rfl rfl (K.move rfl) ?_
      refine KT.step rfl rfl (K.move rfl) ?_
      refine KT.idxI rfl rfl rfl (by assumption) rfl (by omega) Try.underlying23 Try.size3 fun cs18 => ?_
      refine KT.step rfl rfl (K.load rfl Try.agg3) ?_
      refine KT.step rfl rfl (K.move rfl) ?_
      refine KT.step rfl rfl (K.move rfl) ?_
      refine KT.idxI rfl rfl rfl (by assumption) rfl (by omega) Try.underlying23 Try.size3 fun cs22 => ?_
      refine KT.step rfl rfl (K.load rfl Try.agg3) ?_
      refine KT.step rfl rfl (K.neq rfl rfl) ?_
      refine KT.nil ?_
      refine ⟨by kernel_rfl, ?_⟩
      refine thenK_n ?_
      refine KC.cond rfl (fun hc24 => ?_) (fun hc24 => ?_)
      · skip
        replace hc24 := of_decide_eq_true hc24
        refine KC.seq ?_
        refine KC.region ?_
        refine KT.step rfl rfl (K.assign rfl) ?_
        refine KT.nil ?_
        refine thenK_n ?_
        refine KC.ret ?_
        refine blockK_r ?_
        refine thenK_r ?_
        refine thenK_r ?_
        refine blockK_r ?_
        refine thenK_r ?_
        exact ⟨.inl rfl, _, rfl, fin_b (decide_eq_false fun h => by subst h; exact hc24 rfl)⟩
      · skip
        replace hc24 := of_decide_eq_false hc24
        refine KC.skip ?_
        refine blockK_n ?_
        refine thenK_n ?_
        refine KC.region ?_
        refine KT.step rfl rfl (K.add rfl rfl (wrap_id (by omega))) ?_
        refine KT.step rfl rfl (K.move rfl) ?_
        refine KT.nil ?_
        refine thenK_n ?_
        refine ⟨i + 1, ⟨by omega, ?_⟩, by omega, rfl, by simp [Go.Vm.look, extK]⟩
        rw [List.take_succ_eq_append_getElem (by omega), List.take_succ_eq_append_getElem (by omega), hall, Classical.not_not.1 hc24]
    · skip
      replace hc14 := of_decide_eq_false hc14
      refine KC.exit ?_
      refine thenK_x ?_
      refine thenK_x ?_
      refine blockK_e ?_
      refine thenK_n ?_
      refine KC.seq ?_
      refine KC.region ?_
      refine KT.step rfl rfl (K.assign rfl) ?_
      refine KT.nil ?_
      refine thenK_n ?_
      refine KC.ret ?_
      have hx : x.take i = x := List.take_of_length_le (by omega)
      have hy : y.take i = y := List.take_of_length_le (by omega)
      rw [hx, hy] at hall
      exact ⟨.inl rfl, _, rfl, fin_b (decide_eq_true hall)⟩
set_option maxRecDepth 10000 in
theorem equalFunc56 {d e : DV} {x y : List (List Int)} (hd : Mat d x) (he : Mat e y) (hl : x.length ≤ 9223372036854775807) (hr : ∀ r ∈ x, r.length ≤ 9223372036854775807) :
    DeepCall Try.prog 56 [d, e, .fn (.func 35) [] []] (DB (decide (x = y))) := by
  refine deepCall_K 5 Try.func56 rfl (Nat.le_of_ble_eq_true rfl) fun M W0 => ?_
  refine KC.seq ?_
  refine KC.region ?_
  refine KT.step rfl rfl (K.assign rfl) ?_
  refine KT.nil ?_
  refine thenK_n ?_
  refine KC.seq ?_
  refine KC.seq ?_
  refine KC.region ?_
  refine KT.step rfl rfl (K.move rfl) ?_
  refine KT.step rfl rfl (K.len rfl (by assumption) Try.underlying22) ?_
  refine KT.step rfl rfl (K.move rfl) ?_
  refine KT.step rfl rfl (K.len rfl (by assumption) Try.underlying22) ?_
  refine KT.step rfl rfl (K.neq rfl rfl) ?_
  refine KT.nil ?_
  refine thenK_n ?_
  refine KC.cond rfl (fun hc14 => ?_) (fun hc14 => ?_)
  · skip
    replace hc14 := of_decide_eq_true hc14
    refine KC.seq ?_
    refine KC.region ?_
    refine KT.step rfl rfl (K.assign rfl) ?_
    refine KT.nil ?_
    refine thenK_n ?_
    refine KC.ret ?_
    refine thenK_r ?_
    exact ⟨.inl rfl, _, rfl, fin_b (decide_eq_false fun h => by subst h; omega)⟩
  · skip
    replace hc14 := of_decide_eq_false hc14
    refine KC.skip ?_
    refine thenK_n ?_
    refine KC.seq ?_
    refine KC.seq ?_
    refine KC.region ?_
    refine KT.step rfl rfl (K.move rfl) ?_
    refine KT.step rfl rfl (K.len rfl (by assumption) Try.underlying22) ?_
    refine KT.step rfl rfl (K.move rfl) ?_
    refine KT.nil ?_
    refine thenK_n ?_
    refine KC.block ?_
    refine KC.loop (fun _ : Nat => []) (fun i => [(0, .d d), (1, .d e), (2, .d (.fn (.func 35) [] [])), (15, .d d), (16, .d (DI x.length)), (17, .d (DI i))]) (fun i => i ≤ x.length ∧ x.take i = y.take i) (fun i => x.length - i) 0 ⟨Nat.zero_le _, rfl⟩ rfl (by simp [Go.Vm.look, extK, enterK]) ?_
    intro i hi
    obtain ⟨hi, hall⟩ := hi
    refine KC.seq ?_
    refine KC.region ?_
    refine KT.step rfl rfl (K.lss rfl rfl) ?_
    refine KT.nil ?_
    refine thenK_n ?_
    refine KC.seq ?_
    refine KC.cond rfl (fun hc18 => ?_) (fun hc18 => ?_)
    · skip
      replace hc18 := of_decide_eq_true hc18
      refine KC.skip ?_
      refine thenK_n ?_
      refine KC.seq ?_
      refine KC.block ?_
      refine KC.seq ?_
      refine KC.region ?_
      refine KT.step rfl rfl (K.move rfl) ?_
      refine KT.idx rfl rfl rfl (by assumption) rfl (by omega) Try.underlying22 Try.size23 fun c20 cs20 hq20 => ?_
      refine KT.step rfl rfl (K.load rfl Try.agg23) ?_
      refine KT.step rfl rfl (K.assign rfl) ?_
      refine KT.step rfl rfl (K.assign rfl) ?_
      refine KT.nil ?_
      refine thenK_n ?_
      refine KC.seq ?_
      refine KC.region ?_
      refine KT.step rfl rfl (K.move rfl) ?_
      refine KT.step rfl rfl (K.move rfl) ?_
      refine KT.idx rfl rfl rfl (by assumption) rfl (by omega) Try.underlying22 Try.size23 fun c24 cs24 hq24 => ?_
      refine KT.step rfl rfl (K.load rfl Try.agg23) ?_
      refine KT.step rfl rfl (K.assign rfl) ?_
      refine KT.nil ?_
      refine thenK_n ?_
      refine KC.seq ?_
      refine KC.region ?_
      refine KT.step rfl rfl (K.move rfl) ?_
      refine KT.step rfl rfl (K.move rfl) ?_
      refine KT.step rfl rfl (K.move rfl) ?_
      refine KT.step rfl rfl (K.callW rfl rfl rfl plainTry_35 (equal35 hq20 hq24 (hr _ (List.getElem_mem _)))) ?_
      refine KT.step rfl rfl (K.not rfl) ?_
      refine KT.nil ?_
      refine thenK_n ?_
      refine KC.cond rfl (fun hc30 => ?_) (fun hc30 => ?_)
      · skip
        replace hc30 : ¬ x[i] = y[i] := by simpa using hc30
        refine KC.seq ?_
        refine KC.region ?_
        refine KT.step rfl rfl (K.assign rfl) ?_
        refine KT.nil ?_
        refine thenK_n ?_
        refine KC.ret ?_
        refine blockK_r ?_
        refine thenK_r ?_
        refine thenK_r ?_
        refine blockK_r ?_
        refine thenK_r ?_
        exact ⟨.inl rfl, _, rfl, fin_b (decide_eq_false fun h => by subst h; exact hc30 rfl)⟩
      · skip
        replace hc30 : x[i] = y[i] := by simpa using hc30
        refine KC.skip ?_
        refine blockK_n ?_
        refine thenK_n ?_
        refine KC.region ?_
        refine KT.step rfl rfl (K.add rfl rfl (wrap_id (by omega))) ?_
        refine KT.step rfl rfl (K.move rfl) ?_
        refine KT.nil ?_
        refine thenK_n ?_
        refine ⟨i + 1, ⟨by omega, ?_⟩, by omega, rfl, by simp [Go.Vm.look, extK]⟩
        rw [List.take_succ_eq_append_getElem (by omega), List.take_succ_eq_append_getElem (by omega), hall, hc30]
    · skip
      replace hc18 := of_decide_eq_false hc18
      refine KC.exit ?_
      refine thenK_x ?_
      refine thenK_x ?_
      refine blockK_e ?_
      refine thenK_n ?_
      refine KC.seq ?_
      refine KC.region ?_
      refine KT.step rfl rfl (K.assign rfl) ?_
      refine KT.nil ?_
      refine thenK_n ?_
      refine KC.ret ?_
      have hx : x.take i = x := List.take_of_length_le (by omega)
      have hy : y.take i = y := List.take_of_length_le (by omega)
      rw [hx, hy] at hall
      exact ⟨.inl rfl, _, rfl, fin_b (decide_eq_true hall)⟩
set_option maxRecDepth 10000 in
theorem same20 {d e : DV} {x y : List (List Int)} (hd : Mat d x) (he : Mat e y) (hl : x.length ≤ 9223372036854775807) (hr : ∀ r ∈ x, r.length ≤ 9223372036854775807) :
    DeepCall Try.prog 20 [d, e] (DB (decide (x = y))) := by
  refine deepCall_K 5 Try.func20 rfl (Nat.le_of_ble_eq_true rfl) fun M W0 => ?_
  refine KC.seq ?_
  refine KC.region ?_
  refine KT.step rfl rfl (K.assign rfl) ?_
  refine KT.nil ?_
  refine thenK_n ?_
  refine KC.seq ?_
  refine KC.region ?_
  refine KT.step rfl rfl (K.move rfl) ?_
  refine KT.step rfl rfl (K.move rfl) ?_
  refine KT.step rfl rfl (K.callW (ds := [d, e, .fn (.func 35) [] []]) rfl rfl rfl plainTry_56 (equalFunc56 hd he hl hr)) ?_
  refine KT.step rfl rfl (K.assign rfl) ?_
  refine KT.nil ?_
  refine thenK_n ?_
  refine KC.ret ?_
  exact ⟨.inl rfl, _, rfl, fin_d rfl⟩

theorem few16 {d : DV} {z : List (List Int)} (hd : Mat d z) (hl : z.length ≤ 9223372036854775807) (hr : ∀ r ∈ z, r.length ≤ 9223372036854775807) : DeepCall Try.prog 16 [d] (rows6 z d) := rows16 hd hl (fun i hi => by rw [show z.getD i [] = z[i] by simp [hi]]; exact hr _ (List.getElem_mem hi))
theorem few_mat {d : DV} {z : List (List Int)} (hd : Mat d z) : Mat (rows6 z d) (fewZ z) := rows6_mat hd
theorem few_len (z : List (List Int)) : (fewZ z).length ≤ 9223372036854775807 ∧ ∀ r ∈ fewZ z, r.length ≤ 9223372036854775807 := ⟨by have := (fewZ_len z).1; omega, fun r hr => by have := (fewZ_len z).2 r hr; omega⟩
end Go.Proofs.Ytjfpeiioddfjcaa

