import Derived.Test.YtjfpeiioddfjcaaZnYb
/-
  STRUCTS of numbers and one slice, just built; variables whose cells are slices of one's own.
-/
open Go.Zn
namespace Go.Vm
theorem cellsX_agg' (xs : List XV) : cellsX (aggX xs) = xs := by
  unfold aggX
  cases h : allD xs with
  | none => rfl
  | some ds =>
    have := allD_eq h
    subst this
    rfl
theorem deepen_agg' {σ : List VObj} {k : Nat} {xs : List XV} : deepen σ (k + 2) (aggX xs) = (xs.mapM (deepen σ (k + 1))).map .agg := by
  unfold aggX
  cases h : allD xs with
  | none => rfl
  | some ds =>
    have := allD_eq h
    subst this
    show some (DV.agg ds) = _
    rw [mapM_deep]; rfl
/-- An edge that was just built. -/
def edV (a b : Int) (g : DV) (r : Int) : DV := if isNilD g then .lit (.agg #[.int .i64 a, .int .i64 b, .slice none 0 0, .int .i64 r]) else .agg [DI a, DI b, g, DI r]
theorem edV_cells {a b r : Int} {g : DV} (hg : SlD g) : cellsX (.d (edV a b g r)) = [.d (DI a), .d (DI b), .d g, .d (DI r)] := by cases hg <;> rfl
/-- A run that was just built. -/
def runV (a : Int) (b c : DV) : DV := if isNilD b && isNilD c then .lit (.agg #[.int .i64 a, .slice none 0 0, .slice none 0 0]) else .agg [DI a, b, c]
section
variable {P : Program} {σ : List VObj} {kn : Kn} {dst : Option Tmp} {ty : TypeId} {pos : String} {af : Array Edge} {g : Option (Nat × Bool)}
theorem K.buildEd {t : TypeId} {x y z u : Operand} {a b r : Int} {gd : DV} {fs : Array Field} (hx : evK kn x = some (.d (DI a))) (hy : evK kn y = some (.d (DI b))) (hzz : evK kn z = some (.d gd)) (hu4 : evK kn u = some (.d (DI r))) (hg : SlD gd)
    (hz : zeroT P t = some (.agg #[.int .i64 0, .int .i64 0, .slice none 0 0, .int .i64 0])) (hu : P.underlying t = some (.struct fs)) (hp : (match P.underlying t with | some (.struct fs) => placesT P fs | _ => none) = some #[(0, 1), (1, 1), (2, 1), (3, 1)])
    (hnil : ∀ a b r, pureRun P (Instr.build t #[(0, .int .i64 a), (1, .int .i64 b), (2, .slice none 0 0), (3, .int .i64 r)]) = some (.agg #[.int .i64 a, .int .i64 b, .slice none 0 0, .int .i64 r])) :
    KEv P ⟨dst, .build t #[(0, x), (1, y), (2, z), (3, u)], ty, pos, af, g⟩ σ kn (.d (edV a b gd r)) σ 0 := by
  rw [hu] at hp
  have hm : (#[(0, x), (1, y), (2, z), (3, u)] : Array (Nat × Operand)).toList.mapM (fun p => (evK kn p.2).map fun v => (p.1, v)) = some [(0, .d (DI a)), (1, .d (DI b)), (2, .d gd), (3, .d (DI r))] := by
    simp [hx, hy, hzz, hu4]
  cases hg with
  | nil =>
    exact K.buildL (us := [(0, .int .i64 a), (1, .int .i64 b), (2, .slice none 0 0), (3, .int .i64 r)]) (by simp [hx, hy, hzz, hu4, litOf]) (hnil a b r)
  | sl cs len cap =>
    have e1 : ((#[(0, 1), (1, 1), (2, 1), (3, 1)] : Array (Nat × Nat))[0]?) = some (0, 1) := rfl
    have e2 : ((#[(0, 1), (1, 1), (2, 1), (3, 1)] : Array (Nat × Nat))[1]?) = some (1, 1) := rfl
    have e3 : ((#[(0, 1), (1, 1), (2, 1), (3, 1)] : Array (Nat × Nat))[2]?) = some (2, 1) := rfl
    have e4 : ((#[(0, 1), (1, 1), (2, 1), (3, 1)] : Array (Nat × Nat))[3]?) = some (3, 1) := rfl
    have key : opBuild P t [(0, .d (DI a)), (1, .d (DI b)), (2, .d (.sl cs len cap)), (3, .d (DI r))] = some (.d (.agg [DI a, DI b, .sl cs len cap, DI r])) := by
      simp [opBuild, hz, hu, hp, fillP, cellsX, splice, Value.cells, aggX, allD]
    exact K.build (x := z) hm (by simp) hzz rfl key
theorem K.buildRun {t : TypeId} {x y z : Operand} {a : Int} {b c : DV} {fs : Array Field} (hx : evK kn x = some (.d (DI a))) (hy : evK kn y = some (.d b)) (hzz : evK kn z = some (.d c)) (hb : SlD b) (hc : SlD c)
    (hz : zeroT P t = some (.agg #[.int .i64 0, .slice none 0 0, .slice none 0 0])) (hu : P.underlying t = some (.struct fs)) (hp : (match P.underlying t with | some (.struct fs) => placesT P fs | _ => none) = some #[(0, 1), (1, 1), (2, 1)])
    (hnil : ∀ a, pureRun P (Instr.build t #[(0, .int .i64 a), (1, .slice none 0 0), (2, .slice none 0 0)]) = some (.agg #[.int .i64 a, .slice none 0 0, .slice none 0 0])) :
    KEv P ⟨dst, .build t #[(0, x), (1, y), (2, z)], ty, pos, af, g⟩ σ kn (.d (runV a b c)) σ 0 := by
  rw [hu] at hp
  have hm : (#[(0, x), (1, y), (2, z)] : Array (Nat × Operand)).toList.mapM (fun p => (evK kn p.2).map fun v => (p.1, v)) = some [(0, .d (DI a)), (1, .d b), (2, .d c)] := by
    simp [hx, hy, hzz]
  have e1 : ((#[(0, 1), (1, 1), (2, 1)] : Array (Nat × Nat))[0]?) = some (0, 1) := rfl
  have e2 : ((#[(0, 1), (1, 1), (2, 1)] : Array (Nat × Nat))[1]?) = some (1, 1) := rfl
  have e3 : ((#[(0, 1), (1, 1), (2, 1)] : Array (Nat × Nat))[2]?) = some (2, 1) := rfl
  have key : opBuild P t [(0, .d (DI a)), (1, .d b), (2, .d c)] = some (.d (.agg [DI a, b, c])) := by
    have hi : cellsX (.d (DI a)) = [.d (DI a)] := rfl
    simp [opBuild, hz, hu, hp, fillP, hb.cells, hc.cells, hi, splice, Value.cells, aggX, allD]
  cases hb with
  | nil => cases hc with
    | nil => exact K.buildL (us := [(0, .int .i64 a), (1, .slice none 0 0), (2, .slice none 0 0)]) (by simp [hx, hy, hzz, litOf]) (hnil a)
    | sl cs len cap => exact K.build (x := z) hm (by simp) hzz rfl key
  | sl cs len cap =>
    exact K.build (x := y) hm (by simp) hy rfl key
end
end Go.Vm

