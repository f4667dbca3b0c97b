import Derived.Test.YtocgjopmlhpjdaaNtI
import Derived.DeepKeys
/-
  Nets: arrays of six numbers compared; arrays of a slice of arrays cut.
-/
namespace Go.Proofs.Ytocgjopmlhpjdaa
open Go.Vm Go.RowKit Go.Nt
theorem guard64 : Try.prog.eqGuardType Try.prog.depth 64 = false := by kernel_rfl
theorem keyAt64 : Try.prog.keyTypeAt 2 64 = true := by kernel_rfl
theorem keyM_law {a b : List Int} {l r : Lit} (ha : keyOf Try.prog 64 (keyM a) = some l) (hb : keyOf Try.prog 64 (keyM b) = some r) (hl : a.length = b.length) (h6 : a.length ≤ 6) : l = r ↔ a = b :=
  ⟨fun h => keyM_inj hl h6 (arrK.law.inj ha (by rw [hb, h])), fun h => by rw [h, hb] at ha; exact (Option.some.inj ha).symm⟩
set_option maxRecDepth 100000 in
theorem run_eqT {a b : List Int} (h1 : Bnd a) (h2 : Bnd b) (hl : a.length = b.length) (h6 : a.length ≤ 6) (w : World) : (Op.equal 64 (keyM a) (keyM b)).run Try.prog w = .ok (decide (a = b)) w := by
  obtain ⟨la, ha⟩ := keyM_ok h1
  obtain ⟨lb, hb⟩ := keyM_ok h2
  have hw : (match Try.prog.underlying 64 with | some (.array _ _) | some (.struct _) => true | _ => false) = true := by rw [Try.underlying64]
  obtain ⟨r, e1, e2⟩ := run_equal_deep (P := Try.prog) w (m := 2) (by omega) (k := 64) keyAt64 hw ha hb
  rw [e1]
  have e3 := e2.trans (keyM_law ha hb hl h6)
  cases r with
  | true => rw [decide_eq_true (e3.1 rfl)]
  | false => rw [decide_eq_false (fun h => by have := e3.2 h; cases this)]
theorem guard_eqT (op : BinOp) (x y : Operand) (xs ys : Array Value) (w : World) : (eqGuard op 64 x y (.agg xs) (.agg ys)).run Try.prog w = .ok () w := by
  unfold eqGuard
  by_cases h : (op matches .eql | .neq) = true
  · simp [h, guard64]
  · simp [h]
section
variable {σ : List VObj} {kn : Kn} {dst : Option Tmp} {ty u : TypeId} {pos : String} {af : Array Edge} {g : Option (Nat × Bool)} {x y : Operand} {a b : List Int}
theorem K.eqT (hx : evK kn x = some (.d (.agg (w6 (tk a))))) (hy : evK kn y = some (.d (.agg (w6 (tk b))))) (h1 : Bnd a) (h2 : Bnd b) (hl : a.length = b.length) (h6 : a.length ≤ 6) :
    KEv Try.prog ⟨dst, .binOp .eql 64 x y u, ty, pos, af, g⟩ σ kn (.d (DB (decide (a = b)))) σ 0 := by
  refine K.semP fun env he F ι w ev h => ?_
  have q1 := h x (by simp [Op.operands])
  have q2 := h y (by simp [Op.operands])
  rw [evK_evalX he hx] at q1
  rw [evK_evalX he hy] at q2
  have q1 := litOf2_rep q1 (keyM_lit a)
  have q2 := litOf2_rep q2 (keyM_lit b)
  have hex : ∀ ev : Operand → Value, execOp ev ⟨dst, .binOp .eql 64 x y u, ty, pos, af, g⟩ = (do pure (.value (← (do eqGuard .eql 64 x y (ev x) (ev y); binOp .eql 64 (ev x) (ev y))))) := fun _ => rfl
  rw [hex, q1, q2]
  refine ⟨.bool (decide (a = b)), ?_, .d (.lit _)⟩
  have e1 := run_eqT h1 h2 hl h6 w
  have e2 := guard_eqT .eql x y #[.int .i64 (tk a 0), .int .i64 (tk a 1), .int .i64 (tk a 2), .int .i64 (tk a 3), .int .i64 (tk a 4), .int .i64 (tk a 5)] #[.int .i64 (tk b 0), .int .i64 (tk b 1), .int .i64 (tk b 2), .int .i64 (tk b 3), .int .i64 (tk b 4), .int .i64 (tk b 5)] w
  unfold keyM at *
  simp [binOp, e1, e2, Result.andThen]
end
end Go.Proofs.Ytocgjopmlhpjdaa

