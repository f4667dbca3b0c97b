/-
  NARROWER THAN 'FOR EVERY INPUT', by the rows' own cells (each row's printed sentence says how): LogicSat: loops · LogicPaths: loops · LogicDuals: loops · LogicFixpoints: loops · LogicMonotone: loops.
  DERIVED. THE GIVEN ROWS OF THIS SEAT. 6 by the template 'for every input the law returns true; each argument reads behind the call as it read before'; 0 by the template 'total and deterministic' (their statements: YtcjcchceeidgkaaTotals.lean).
  GIVEN WITH THE SEED: the statements are not yours to turn. If you find one false, say at which input.
  Laid BY PROGRAM, IN A SANDBOX (cutbox-rows.mjs): the forced cells as the released guide's own fill.sh prints them over the translation 73b34b8d1a75f984… (all of the seat's roots in one cut). By AI agents, Wed Nov 11 2026. No macro, syntax, notation, axiom, sorry.
-/
import Derived.Test.YtcjcchceeidgkaaChecked
import GoSem.Claim
import GoSem.ClaimJoined
import GoSem.ClaimMapViews
import Derived.JoinedTies
import Derived.KernelRfl
namespace Go.Proofs.Ytcjcchceeidgkaa
/- THE CELL 'sum', in the pinned program and in every row, IS THE sha256 OF THE DUMP (.gsa) THAT YtcjcchceeidgkaaProg.lean LOADS. Nothing in Lean hashes anything: it is a label: what it is worth is what the hold of that sum in a sandbox is worth. -/
noncomputable def Try.pinned : Pinned := { name := "ytcjcchceeidgkaa", sum := "73b34b8d1a75f9843dee602face36b0f1ea0fb8f0fe1754ac003ea1a99c499b7", checked := Try.checked }
namespace Rows
def none {H : Type} : Left H := { results := [], args := [] }

/-- 'massecuitelaw06.LogicSat': WHATEVER THE INPUT: true; the input reads as it did. -/
def logicSatSpec : ChangeSpec := { name := "logicSat", fn := fun _ => fun
  | [d1, d2] => { results := [.lit (.bool true)], args := [d1, d2] }
  | _ => none }
def logicSatRow : OpenClaim := { program := "ytcjcchceeidgkaa", sum := "73b34b8d1a75f9843dee602face36b0f1ea0fb8f0fe1754ac003ea1a99c499b7", func := "massecuite/massecuitelaw06.LogicSat", spec := "logicSat", inPlace := ["internal/bytealg.IndexByteString", "internal/bytealg.IndexString"], unfollowed := true, recurses := true, named := ["internal/bytealg.MaxLen"], loops := true, apart := false }
def LogicSatSaid : Prop := logicSatRow.holds Try.pinned (OpenSpec.ofChange logicSatSpec)

/-- ITS FALSE NEIGHBOUR: 'it returns false'. Refute it at one input. -/
def logicSatWrong : ChangeSpec := { name := "logicSat", fn := fun _ => fun
  | [d1, d2] => { results := [.lit (.bool false)], args := [d1, d2] }
  | _ => none }
def LogicSatWrongFalsely : Prop := logicSatRow.holds Try.pinned (OpenSpec.ofChange logicSatWrong)

/-- 'massecuitelaw06.LogicPaths': WHATEVER THE INPUT: true; the input reads as it did. -/
def logicPathsSpec : ChangeSpec := { name := "logicPaths", fn := fun _ => fun
  | [d1, d2, d3] => { results := [.lit (.bool true)], args := [d1, d2, d3] }
  | _ => none }
def logicPathsRow : OpenClaim := { program := "ytcjcchceeidgkaa", sum := "73b34b8d1a75f9843dee602face36b0f1ea0fb8f0fe1754ac003ea1a99c499b7", func := "massecuite/massecuitelaw06.LogicPaths", spec := "logicPaths", inPlace := ["internal/bytealg.IndexByteString", "internal/bytealg.IndexString"], unfollowed := true, recurses := true, named := ["internal/bytealg.MaxLen"], loops := true, apart := false }
def LogicPathsSaid : Prop := logicPathsRow.holds Try.pinned (OpenSpec.ofChange logicPathsSpec)

/-- ITS FALSE NEIGHBOUR: 'it returns false'. Refute it at one input. -/
def logicPathsWrong : ChangeSpec := { name := "logicPaths", fn := fun _ => fun
  | [d1, d2, d3] => { results := [.lit (.bool false)], args := [d1, d2, d3] }
  | _ => none }
def LogicPathsWrongFalsely : Prop := logicPathsRow.holds Try.pinned (OpenSpec.ofChange logicPathsWrong)

/-- 'massecuitelaw06.LogicClauses': WHATEVER THE INPUT: true; the input reads as it did. -/
def logicClausesSpec : ChangeSpec := { name := "logicClauses", fn := fun _ => fun
  | [d1, d2, d3, d4] => { results := [.lit (.bool true)], args := [d1, d2, d3, d4] }
  | _ => none }
def logicClausesRow : OpenClaim := { program := "ytcjcchceeidgkaa", sum := "73b34b8d1a75f9843dee602face36b0f1ea0fb8f0fe1754ac003ea1a99c499b7", func := "massecuite/massecuitelaw06.LogicClauses", spec := "logicClauses", inPlace := ["internal/bytealg.IndexByteString", "internal/bytealg.IndexString"], unfollowed := true, recurses := true, named := ["internal/bytealg.MaxLen"], apart := false }
def LogicClausesSaid : Prop := logicClausesRow.holds Try.pinned (OpenSpec.ofChange logicClausesSpec)

/-- ITS FALSE NEIGHBOUR: 'it returns false'. Refute it at one input. -/
def logicClausesWrong : ChangeSpec := { name := "logicClauses", fn := fun _ => fun
  | [d1, d2, d3, d4] => { results := [.lit (.bool false)], args := [d1, d2, d3, d4] }
  | _ => none }
def LogicClausesWrongFalsely : Prop := logicClausesRow.holds Try.pinned (OpenSpec.ofChange logicClausesWrong)

/-- 'massecuitelaw06.LogicDuals': WHATEVER THE INPUT: true; the input reads as it did. -/
def logicDualsSpec : ChangeSpec := { name := "logicDuals", fn := fun _ => fun
  | [d1, d2] => { results := [.lit (.bool true)], args := [d1, d2] }
  | _ => none }
def logicDualsRow : OpenClaim := { program := "ytcjcchceeidgkaa", sum := "73b34b8d1a75f9843dee602face36b0f1ea0fb8f0fe1754ac003ea1a99c499b7", func := "massecuite/massecuitelaw06.LogicDuals", spec := "logicDuals", unfollowed := true, recurses := true, loops := true, apart := false }
def LogicDualsSaid : Prop := logicDualsRow.holds Try.pinned (OpenSpec.ofChange logicDualsSpec)

/-- ITS FALSE NEIGHBOUR: 'it returns false'. Refute it at one input. -/
def logicDualsWrong : ChangeSpec := { name := "logicDuals", fn := fun _ => fun
  | [d1, d2] => { results := [.lit (.bool false)], args := [d1, d2] }
  | _ => none }
def LogicDualsWrongFalsely : Prop := logicDualsRow.holds Try.pinned (OpenSpec.ofChange logicDualsWrong)

/-- 'massecuitelaw06.LogicFixpoints': WHATEVER THE INPUT: true; the input reads as it did. -/
def logicFixpointsSpec : ChangeSpec := { name := "logicFixpoints", fn := fun _ => fun
  | [d1, d2, d3] => { results := [.lit (.bool true)], args := [d1, d2, d3] }
  | _ => none }
def logicFixpointsRow : OpenClaim := { program := "ytcjcchceeidgkaa", sum := "73b34b8d1a75f9843dee602face36b0f1ea0fb8f0fe1754ac003ea1a99c499b7", func := "massecuite/massecuitelaw06.LogicFixpoints", spec := "logicFixpoints", unfollowed := true, recurses := true, loops := true, apart := false }
def LogicFixpointsSaid : Prop := logicFixpointsRow.holds Try.pinned (OpenSpec.ofChange logicFixpointsSpec)

/-- ITS FALSE NEIGHBOUR: 'it returns false'. Refute it at one input. -/
def logicFixpointsWrong : ChangeSpec := { name := "logicFixpoints", fn := fun _ => fun
  | [d1, d2, d3] => { results := [.lit (.bool false)], args := [d1, d2, d3] }
  | _ => none }
def LogicFixpointsWrongFalsely : Prop := logicFixpointsRow.holds Try.pinned (OpenSpec.ofChange logicFixpointsWrong)

/-- 'massecuitelaw06.LogicMonotone': WHATEVER THE INPUT: true; the input reads as it did. -/
def logicMonotoneSpec : ChangeSpec := { name := "logicMonotone", fn := fun _ => fun
  | [d1, d2, d3] => { results := [.lit (.bool true)], args := [d1, d2, d3] }
  | _ => none }
def logicMonotoneRow : OpenClaim := { program := "ytcjcchceeidgkaa", sum := "73b34b8d1a75f9843dee602face36b0f1ea0fb8f0fe1754ac003ea1a99c499b7", func := "massecuite/massecuitelaw06.LogicMonotone", spec := "logicMonotone", unfollowed := true, recurses := true, loops := true, apart := false }
def LogicMonotoneSaid : Prop := logicMonotoneRow.holds Try.pinned (OpenSpec.ofChange logicMonotoneSpec)

/-- ITS FALSE NEIGHBOUR: 'it returns false'. Refute it at one input. -/
def logicMonotoneWrong : ChangeSpec := { name := "logicMonotone", fn := fun _ => fun
  | [d1, d2, d3] => { results := [.lit (.bool false)], args := [d1, d2, d3] }
  | _ => none }
def LogicMonotoneWrongFalsely : Prop := logicMonotoneRow.holds Try.pinned (OpenSpec.ofChange logicMonotoneWrong)

/- THE SECOND FORM. 'bulk': how many values and letters a reading holds, each counted each time it is reached (what is shared counts as often as it is met; a slice's spare places count too). A statement '..UptoSaid' is the law's where the arguments, and the package variables that the reading takes, are together of bulk at most 1048576: NARROWER than '..Said'. Prove '..Said' where nothing that the law and all that it calls make is longer than what came in: it says more and counts as full. Else prove '..UptoSaid'. A law counts once. -/
mutual
def uptoBulk {H : Type} : DataW H → Nat
  | .lit (.string bytes) => bytes.length + 1
  | .lit _ => 1
  | .nil => 1
  | .ptr d => uptoBulk d + 1
  | .slice elems spare => uptoBulkAll elems + uptoBulkAll spare + 1
  | .agg parts => uptoBulkAll parts + 1
  | .iface _ d => uptoBulk d + 1
  | .map entries => uptoBulkEntries entries + 1
  | .held _ => 1
def uptoBulkAll {H : Type} : List (DataW H) → Nat
  | [] => 0
  | d :: r => uptoBulk d + uptoBulkAll r
def uptoBulkEntries {H : Type} : List (Lit × DataW H) → Nat
  | [] => 0
  | x :: r => uptoBulkEntry x + uptoBulkEntries r
def uptoBulkEntry {H : Type} : Lit × DataW H → Nat
  | (.string bytes, d) => bytes.length + uptoBulk d + 1
  | (_, d) => uptoBulk d + 1
 end
def uptoSmall : (H : Type) → List (DataW H) → Bool := fun _ ds => decide (uptoBulkAll ds ≤ 1048576)
def OpenSpec.upto (s : _root_.Go.ChangeSpec) : _root_.Go.OpenSpec := { _root_.Go.OpenSpec.ofChange s with cond := some uptoSmall }

/-- 'massecuitelaw06.LogicSat', WHERE WHAT IT READS IS OF BULK AT MOST 1048576: true; the input reads as it did. -/
def logicSatUptoRow : OpenClaim := { program := "ytcjcchceeidgkaa", sum := "73b34b8d1a75f9843dee602face36b0f1ea0fb8f0fe1754ac003ea1a99c499b7", func := "massecuite/massecuitelaw06.LogicSat", spec := "logicSat", inPlace := ["internal/bytealg.IndexByteString", "internal/bytealg.IndexString"], unfollowed := true, recurses := true, named := ["internal/bytealg.MaxLen"], loops := true, apart := false, narrowed := true }
def LogicSatUptoSaid : Prop := logicSatUptoRow.holds Try.pinned (OpenSpec.upto logicSatSpec)

/-- 'massecuitelaw06.LogicPaths', WHERE WHAT IT READS IS OF BULK AT MOST 1048576: true; the input reads as it did. -/
def logicPathsUptoRow : OpenClaim := { program := "ytcjcchceeidgkaa", sum := "73b34b8d1a75f9843dee602face36b0f1ea0fb8f0fe1754ac003ea1a99c499b7", func := "massecuite/massecuitelaw06.LogicPaths", spec := "logicPaths", inPlace := ["internal/bytealg.IndexByteString", "internal/bytealg.IndexString"], unfollowed := true, recurses := true, named := ["internal/bytealg.MaxLen"], loops := true, apart := false, narrowed := true }
def LogicPathsUptoSaid : Prop := logicPathsUptoRow.holds Try.pinned (OpenSpec.upto logicPathsSpec)

/-- 'massecuitelaw06.LogicClauses', WHERE WHAT IT READS IS OF BULK AT MOST 1048576: true; the input reads as it did. -/
def logicClausesUptoRow : OpenClaim := { program := "ytcjcchceeidgkaa", sum := "73b34b8d1a75f9843dee602face36b0f1ea0fb8f0fe1754ac003ea1a99c499b7", func := "massecuite/massecuitelaw06.LogicClauses", spec := "logicClauses", inPlace := ["internal/bytealg.IndexByteString", "internal/bytealg.IndexString"], unfollowed := true, recurses := true, named := ["internal/bytealg.MaxLen"], apart := false, narrowed := true }
def LogicClausesUptoSaid : Prop := logicClausesUptoRow.holds Try.pinned (OpenSpec.upto logicClausesSpec)

/-- 'massecuitelaw06.LogicDuals', WHERE WHAT IT READS IS OF BULK AT MOST 1048576: true; the input reads as it did. -/
def logicDualsUptoRow : OpenClaim := { program := "ytcjcchceeidgkaa", sum := "73b34b8d1a75f9843dee602face36b0f1ea0fb8f0fe1754ac003ea1a99c499b7", func := "massecuite/massecuitelaw06.LogicDuals", spec := "logicDuals", unfollowed := true, recurses := true, loops := true, apart := false, narrowed := true }
def LogicDualsUptoSaid : Prop := logicDualsUptoRow.holds Try.pinned (OpenSpec.upto logicDualsSpec)

/-- 'massecuitelaw06.LogicFixpoints', WHERE WHAT IT READS IS OF BULK AT MOST 1048576: true; the input reads as it did. -/
def logicFixpointsUptoRow : OpenClaim := { program := "ytcjcchceeidgkaa", sum := "73b34b8d1a75f9843dee602face36b0f1ea0fb8f0fe1754ac003ea1a99c499b7", func := "massecuite/massecuitelaw06.LogicFixpoints", spec := "logicFixpoints", unfollowed := true, recurses := true, loops := true, apart := false, narrowed := true }
def LogicFixpointsUptoSaid : Prop := logicFixpointsUptoRow.holds Try.pinned (OpenSpec.upto logicFixpointsSpec)

/-- 'massecuitelaw06.LogicMonotone', WHERE WHAT IT READS IS OF BULK AT MOST 1048576: true; the input reads as it did. -/
def logicMonotoneUptoRow : OpenClaim := { program := "ytcjcchceeidgkaa", sum := "73b34b8d1a75f9843dee602face36b0f1ea0fb8f0fe1754ac003ea1a99c499b7", func := "massecuite/massecuitelaw06.LogicMonotone", spec := "logicMonotone", unfollowed := true, recurses := true, loops := true, apart := false, narrowed := true }
def LogicMonotoneUptoSaid : Prop := logicMonotoneUptoRow.holds Try.pinned (OpenSpec.upto logicMonotoneSpec)

end Rows
end Go.Proofs.Ytcjcchceeidgkaa
