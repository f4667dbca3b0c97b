import Derived.Test.YthbnnffmhnjpjaaVmD
/-
  VALUES WITHOUT ADDRESSES, 5: the operations are sound: new rows, slices, appends; and all of them together.
-/
namespace Go.Vm
open Go.RowKit

section
variable {P : Program} {M : Nat → Prop} {W0 w : World} {ι : List Nat} {σ : List VObj}

theorem info_of_size {t : TypeId} {n : Nat} (h : sizeT P t = some n) : ∃ i, P.info? t = some i ∧ i.size = n := by
  unfold sizeT at h
  cases hi : P.info? t with
  | none => rw [hi] at h; simp at h
  | some i => rw [hi] at h; simp at h; exact ⟨i, rfl, h⟩

theorem info_of_zero {t : TypeId} {z : Value} (h : zeroT P t = some z) : ∃ i, P.info? t = some i ∧ i.zero = some z := by
  unfold zeroT at h
  cases hi : P.info? t with
  | none => rw [hi] at h; simp at h
  | some i => rw [hi] at h; exact ⟨i, rfl, by simpa using h⟩

theorem below_refl (B : Nat) (w : World) : Below B w w := Below.refl _ _

theorem opAlloc_sound (hm : Mem M W0 ι σ w) {t : TypeId} {r : XV × List VObj} (h : opAlloc P σ t = some r) :
    ∃ (ι' : List Nat) (w' : World) (v : Value), (Instr.alloc t true (.tuple #[])).run P w = .ok v w' ∧ Mem M W0 ι' r.2 w' ∧ Ext M ι σ w ι' r.2 w' ∧ XRep w' ι' (Forb M ι' r.2) v r.1 := by
  unfold opAlloc at h
  simp only [Option.map_eq_some_iff] at h
  obtain ⟨z, hz, rfl⟩ := h
  obtain ⟨i, hi, hzi⟩ := info_of_zero hz
  obtain ⟨h1, h2⟩ := hm.push rfl (below_refl _ w) z.cells t (z.cells.toList.map (fun v => XV.d (.lit v))) (by simp) (fun i x hx => by
    simp only [List.getElem?_map, Option.map_eq_some_iff] at hx
    obtain ⟨v, hv, rfl⟩ := hx
    exact ⟨v, by simpa using hv, .d (.lit v)⟩)
  refine ⟨_, _, .pointer (some ⟨w.heap.size, 0, none⟩), ?_, h1, h2, .optr (by simp [hm.len])⟩
  simp [Instr.alloc, zeroValue, typeInfo, hi, hzi, newVar, newRow]

theorem opBox_sound (hm : Mem M W0 ι σ w) {t : TypeId} {v : Value} {x : XV} (hx : XRep w ι (Forb M ι σ) v x) :
    ∃ (ι' : List Nat) (w' : World) (u : Value), (Instr.box t v).run P w = .ok u w' ∧ Mem M W0 ι' (opBox σ x).2 w' ∧ Ext M ι σ w ι' (opBox σ x).2 w' ∧ XRep w' ι' (Forb M ι' (opBox σ x).2) u (opBox σ x).1 := by
  obtain ⟨e1, e2⟩ := cellsX_rep hx
  obtain ⟨h1, h2⟩ := hm.push rfl (below_refl _ w) v.cells t (cellsX x) (by omega) (fun i y hy => by
    have hlt : i < v.cells.size := by rw [e1]; exact (List.getElem?_eq_some_iff.1 hy).1
    exact ⟨v.cells[i], Array.getElem?_eq_getElem hlt, e2 i _ y (Array.getElem?_eq_getElem hlt) hy⟩)
  refine ⟨_, _, .pointer (some ⟨w.heap.size, 0, none⟩), ?_, h1, h2, .optr (by simp [hm.len])⟩
  simp [Instr.box, newVar, newRow]

theorem opIndexAddr_sound {F : Nat → Prop} {t : TypeId} {vx vi : Value} {x i r : XV} (hx : XRep w ι F vx x) (hi : XRep w ι F vi i) (h : opIndexAddr P t x i = some r) :
    ∃ u, (Instr.indexAt t vx vi).run P w = .ok u w ∧ XRep w ι F u r := by
  unfold opIndexAddr at h
  split at h
  · rename_i k n e hl hu
    have hvi := litOf_rep hi hl
    subst hvi
    split at h
    · rename_i sz cs len c hs
      split at h
      · rename_i hb
        cases h
        cases hx with
        | d hx => cases hx with
          | @sl a _ cap _ _ vs hle hc hn ha hcell hxx =>
            refine ⟨.pointer (some (a.add (n.toNat * sz))), ?_, .d ?_⟩
            · simp [Instr.indexAt, asIntOf, run_underlying hu, run_sizeOf' hs, hb.1, hb.2]
            · by_cases hne : cs.drop (n.toNat * sz) = []
              · rw [hne]
                exact .ptr [] rfl (fun h => absurd rfl h) (fun i v h => by simp at h) (fun i v x h => by simp at h)
              · have hne0 : cs ≠ [] := by intro e; subst e; simp at hne
                obtain ⟨hsp, hf⟩ := ha hne0
                rw [addr_eta hsp, add_lit']
                refine .ptr (vs.drop (n.toNat * sz)) (by simp [hn]) (fun _ => ⟨rfl, hf⟩) (fun i v hv => ?_) (fun i v x hv hx => ?_)
                · rw [List.getElem?_drop] at hv
                  have := hcell _ _ hv
                  simpa [Nat.add_assoc] using this
                · rw [List.getElem?_drop] at hv hx
                  exact hxx _ _ _ hv hx
      · cases h
    · rename_i sz id off len k' lo ex hs
      split at h
      · rename_i hb
        cases h
        obtain ⟨h1, h2, rfl⟩ := hb
        cases hx with
        | osl hb hl hlo hex hsz =>
          refine ⟨_, ?_, .optr hb⟩
          simp [Instr.indexAt, asIntOf, run_underlying hu, run_sizeOf' hs, h1, h2, add_lit']
      · cases h
    · cases h
  · rename_i k n len e hl hu
    have hvi := litOf_rep hi hl
    subst hvi
    split at h
    · rename_i sz cs hs
      split at h
      · rename_i hb
        cases h
        cases hx with
        | d hx => cases hx with
          | @ptr a _ vs hn ha hcell hxx =>
            refine ⟨.pointer (some (a.add (n.toNat * sz))), ?_, .d ?_⟩
            · simp [Instr.indexAt, asIntOf, Instr.sureAddr, run_underlying hu, run_sizeOf' hs, hb.1, hb.2]
            · by_cases hne : cs.drop (n.toNat * sz) = []
              · rw [hne]
                exact .ptr [] rfl (fun h => absurd rfl h) (fun i v h => by simp at h) (fun i v x h => by simp at h)
              · have hne0 : cs ≠ [] := by intro e; subst e; simp at hne
                obtain ⟨hsp, hf⟩ := ha hne0
                rw [addr_eta hsp, add_lit']
                refine .ptr (vs.drop (n.toNat * sz)) (by simp [hn]) (fun _ => ⟨rfl, hf⟩) (fun i v hv => ?_) (fun i v x hv hx => ?_)
                · rw [List.getElem?_drop] at hv
                  have := hcell _ _ hv
                  simpa [Nat.add_assoc] using this
                · rw [List.getElem?_drop] at hv hx
                  exact hxx _ _ _ hv hx
      · cases h
    · rename_i sz id off hs
      split at h
      · rename_i hb
        cases h
        cases hx with
        | optr hb' =>
          refine ⟨_, ?_, .optr hb'⟩
          simp [Instr.indexAt, asIntOf, Instr.sureAddr, run_underlying hu, run_sizeOf' hs, hb.1, hb.2, add_lit']
      · cases h
    · cases h
  · cases h

theorem isSliceT_iff {t : TypeId} (h : isSliceT P t = true) : ∃ e, P.underlying t = some (.slice e) := by
  unfold isSliceT at h
  split at h
  · exact ⟨_, by assumption⟩
  · cases h

theorem isSl_rep {F : Nat → Prop} {v : Value} {x : XV} (h : XRep w ι F v x) (hs : isSl x = true) : ∃ a len cap, v = .slice (some a) len cap := by
  cases h with
  | d h => cases h <;> first | exact ⟨_, _, _, rfl⟩ | (simp [isSl] at hs)
  | osl => exact ⟨_, _, _, rfl⟩
  | _ => simp [isSl] at hs

theorem isNilSl_rep {F : Nat → Prop} {v : Value} {x : XV} (h : XRep w ι F v x) (hs : isNilSl x = true) : ∃ len cap, v = .slice none len cap := by
  unfold isNilSl at hs
  split at hs
  · cases h with | d h => cases h; exact ⟨_, _, rfl⟩
  · cases hs

theorem eqIn_slice_nil {t e : TypeId} (he : P.underlying t = some (.slice e)) (d : Nat) (a : Addr) (l c l2 c2 : Nat) : (Op.equalIn (d + 1) t (.slice (some a) l c) (.slice none l2 c2)).run P w = .ok false w := by
  simp [Op.equalIn, run_underlying he]

theorem equal_slice_nil {t e : TypeId} (he : P.underlying t = some (.slice e)) (a : Addr) (l c l2 c2 : Nat) : (Op.equal t (.slice (some a) l c) (.slice none l2 c2)).run P w = .ok false w :=
  eqIn_slice_nil he 9999 a l c l2 c2

theorem opEqNil_sound {F : Nat → Prop} {op : BinOp} {t : TypeId} {ox oy : Operand} {vx vy : Value} {x y r : XV} (hx : XRep w ι F vx x) (hy : XRep w ι F vy y) (h : opEqNil P op t x y = some r) :
    ∃ u, (do eqGuard op t ox oy vx vy; binOp op t vx vy : Sem Value).run P w = .ok u w ∧ XRep w ι F u r := by
  unfold opEqNil at h
  split at h
  · rename_i hc
    simp only [Bool.and_eq_true] at hc
    obtain ⟨e, he⟩ := isSliceT_iff hc.1.1
    obtain ⟨a, len, cap, rfl⟩ := isSl_rep hx hc.1.2
    obtain ⟨l2, c2, rfl⟩ := isNilSl_rep hy hc.2
    split at h <;> cases h
    · refine ⟨.bool false, ?_, .d (.lit _)⟩
      simp [eqGuard, binOp, equal_slice_nil he]
    · refine ⟨.bool true, ?_, .d (.lit _)⟩
      simp [eqGuard, binOp, equal_slice_nil he]
  · cases h

theorem litsOf_eq : ∀ {ds : List DV} {vs : List Value}, litsOf ds = some vs → ds = vs.map .lit
  | [], vs, h => by simp [litsOf] at h; subst h; rfl
  | .lit v :: ds, vs, h => by
    simp only [litsOf, Option.map_eq_some_iff] at h
    obtain ⟨us, hu, rfl⟩ := h
    rw [litsOf_eq hu]; rfl
  | .sl .. :: _, _, h => by simp [litsOf] at h
  | .ptr .. :: _, _, h => by simp [litsOf] at h
  | .tup .. :: _, _, h => by simp [litsOf] at h
  | .agg .. :: _, _, h => by simp [litsOf] at h
  | .fn .. :: _, _, h => by simp [litsOf] at h
  | .ifc .. :: _, _, h => by simp [litsOf] at h

theorem lit_eq {F : Nat → Prop} {v u : Value} (h : DRep w F v (.lit u)) : v = u := by cases h; rfl

theorem litOf2_rep {F : Nat → Prop} {v u : Value} {x : XV} (h : XRep w ι F v x) (hl : litOf2 x = some u) : v = u := by
  unfold litOf2 at hl
  split at hl
  · cases hl; cases h with | d h => cases h; rfl
  · rename_i ds
    simp only [Option.map_eq_some_iff] at hl
    obtain ⟨vs, hv, rfl⟩ := hl
    have := litsOf_eq hv
    subst this
    cases h with
    | d h => cases h with
      | @agg us _ hn hx =>
        congr 1
        apply Array.ext
        · simpa using hn
        · intro i h1 h2
          have h3 : i < vs.length := by simpa using h2
          have h4 := hx i us[i] (.lit vs[i]) (Array.getElem?_eq_getElem h1) (by simp [h3])
          have h5 := lit_eq h4
          simpa using h5
  · cases hl

theorem opBin2_sound {F : Nat → Prop} {op : BinOp} {t : TypeId} {ox oy : Operand} {vx vy u : Value} {x y : XV} (hx : XRep w ι F vx x) (hy : XRep w ι F vy y) (h : opBin2 P op t ox oy x y = some u) :
    (do eqGuard op t ox oy vx vy; binOp op t vx vy : Sem Value).run P w = .ok u w := by
  unfold opBin2 at h
  split at h
  · rename_i a b ha hb
    rw [litOf2_rep hx ha, litOf2_rep hy hb]
    exact pureRun_ok h w
  · cases h

theorem opExtract_sound {F : Nat → Prop} {i : Nat} {v : Value} {x r : XV} (hx : XRep w ι F v x) (h : opExtract x i = some r) : ∃ u, (Instr.extract v i).run P w = .ok u w ∧ XRep w ι F u r := by
  unfold opExtract at h
  split at h
  · cases hx with
    | @tup vs _ hn hxx =>
      have hlt : i < vs.size := by rw [hn]; exact (List.getElem?_eq_some_iff.1 h).1
      exact ⟨vs[i], by simp [Instr.extract, hlt], hxx i _ r (Array.getElem?_eq_getElem hlt) h⟩
  · simp only [Option.map_eq_some_iff] at h
    obtain ⟨y, hy, rfl⟩ := h
    cases hx with
    | d hx => cases hx with
      | @tup vs _ hn hxx =>
        have hlt : i < vs.size := by rw [hn]; exact (List.getElem?_eq_some_iff.1 hy).1
        exact ⟨vs[i], by simp [Instr.extract, hlt], .d (hxx i _ y (Array.getElem?_eq_getElem hlt) hy)⟩
  · cases h

theorem opLen_sound {F : Nat → Prop} {ts : Array TypeId} {ty : TypeId} {v : Value} {x r : XV} (hx : XRep w ι F v x) (h : opLen P ts x = some r) :
    ∃ u, (Builtin.len_ ts ty #[v]).run P w = .ok u w ∧ XRep w ι F u r := by
  unfold opLen at h
  split at h
  · rename_i t ht
    split at h
    · rename_i hs
      obtain ⟨e, he⟩ := isSliceT_iff hs
      split at h
      · cases h
        cases hx with
        | d hx => cases hx; exact ⟨_, by simp [Builtin.len_, ht, run_underlying he, goInt], .d (.lit _)⟩
      · cases h
        cases hx; exact ⟨_, by simp [Builtin.len_, ht, run_underlying he, goInt], .d (.lit _)⟩
      · cases h
    · cases h
  · cases h

theorem opCap_sound {F : Nat → Prop} {ts : Array TypeId} {ty : TypeId} {v : Value} {x r : XV} (hx : XRep w ι F v x) (h : opCap P ts x = some r) :
    ∃ u, (Builtin.cap_ ts ty #[v]).run P w = .ok u w ∧ XRep w ι F u r := by
  unfold opCap at h
  split at h
  · rename_i t ht
    split at h
    · rename_i hs
      obtain ⟨e, he⟩ := isSliceT_iff hs
      split at h
      · cases h
        cases hx with
        | d hx => cases hx with
          | sl vs hl hc => have := hc _ rfl; subst this; exact ⟨_, by simp [Builtin.cap_, ht, run_underlying he, goInt], .d (.lit _)⟩
      · cases h
        cases hx with
        | osl hb hl hlo hex hsz => have := hex rfl; subst this; exact ⟨_, by simp [Builtin.cap_, ht, run_underlying he, goInt], .d (.lit _)⟩
      · cases h
    · cases h
  · cases h

/-- A bound of a slice expression. -/
theorem boundOf_some {F : Nat → Prop} {v : Value} {x : XV} {d n : Nat} (hx : XRep w ι F v x) (h : boundOf (some x) d = some n) (y : Nat) (code : BoundsCode) (hle : n ≤ y) :
    (Instr.sliceBound v y code).run P w = .ok n w := by
  unfold boundOf at h
  simp only at h
  split at h
  · rename_i k i hl
    split at h
    · rename_i h0
      cases h
      have := litOf_rep hx hl
      subst this
      have : i ≤ (y : Int) := by omega
      simp [Instr.sliceBound, asIntOf, h0, this]
    · cases h
  · cases h

end
end Go.Vm

