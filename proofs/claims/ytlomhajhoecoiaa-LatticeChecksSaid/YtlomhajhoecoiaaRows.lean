/-
  No cell of these rows narrows 'for every input' (looked for: loops, veiled, ifaces, maps, wideKeys, modest, calm, conditions, laid).
  DERIVED. THE GIVEN ROWS OF THIS SEAT. 12 by the template 'for every input the law returns true; each argument reads behind the call as it read before'; 0 by the template 'total and deterministic' (their statements: YtlomhajhoecoiaaTotals.lean).
  GIVEN WITH THE SEED: the statements are not yours to turn. If you find one false, say at which input.
  Laid BY PROGRAM, IN A SANDBOX (cutbox-rows.mjs): the forced cells as the released guide's own fill.sh prints them over the translation 3c051686ad49f2a9… (all of the seat's roots in one cut). By AI agents, Wed Nov 11 2026. No macro, syntax, notation, axiom, sorry.
-/
import Derived.Test.YtlomhajhoecoiaaChecked
import GoSem.Claim
import GoSem.ClaimJoined
import GoSem.ClaimMapViews
import Derived.JoinedTies
import Derived.KernelRfl
namespace Go.Proofs.Ytlomhajhoecoiaa
/- THE CELL 'sum', in the pinned program and in every row, IS THE sha256 OF THE DUMP (.gsa) THAT YtlomhajhoecoiaaProg.lean LOADS. Nothing in Lean hashes anything: it is a label: what it is worth is what the hold of that sum in a sandbox is worth. -/
noncomputable def Try.pinned : Pinned := { name := "ytlomhajhoecoiaa", sum := "3c051686ad49f2a965a957da577cffadca2b54831a130dff22843c7f2b59b1f4", checked := Try.checked }
namespace Rows
def none {H : Type} : Left H := { results := [], args := [] }

/-- 'massecuitelaw01.LatticeHermite': WHATEVER THE INPUT: true; the input reads as it did. -/
def latticeHermiteSpec : ChangeSpec := { name := "latticeHermite", fn := fun _ => fun
  | [d] => { results := [.lit (.bool true)], args := [d] }
  | _ => none }
def latticeHermiteRow : OpenClaim := { program := "ytlomhajhoecoiaa", sum := "3c051686ad49f2a965a957da577cffadca2b54831a130dff22843c7f2b59b1f4", func := "massecuite/massecuitelaw01.LatticeHermite", spec := "latticeHermite", unfollowed := true, recurses := true, apart := false }
def LatticeHermiteSaid : Prop := latticeHermiteRow.holds Try.pinned (OpenSpec.ofChange latticeHermiteSpec)

/-- ITS FALSE NEIGHBOUR: 'it returns false'. Refute it at one input. -/
def latticeHermiteWrong : ChangeSpec := { name := "latticeHermite", fn := fun _ => fun
  | [d] => { results := [.lit (.bool false)], args := [d] }
  | _ => none }
def LatticeHermiteWrongFalsely : Prop := latticeHermiteRow.holds Try.pinned (OpenSpec.ofChange latticeHermiteWrong)

/-- 'massecuitelaw01.LatticeSmith': WHATEVER THE INPUT: true; the input reads as it did. -/
def latticeSmithSpec : ChangeSpec := { name := "latticeSmith", fn := fun _ => fun
  | [d] => { results := [.lit (.bool true)], args := [d] }
  | _ => none }
def latticeSmithRow : OpenClaim := { program := "ytlomhajhoecoiaa", sum := "3c051686ad49f2a965a957da577cffadca2b54831a130dff22843c7f2b59b1f4", func := "massecuite/massecuitelaw01.LatticeSmith", spec := "latticeSmith", unfollowed := true, recurses := true, apart := false }
def LatticeSmithSaid : Prop := latticeSmithRow.holds Try.pinned (OpenSpec.ofChange latticeSmithSpec)

/-- ITS FALSE NEIGHBOUR: 'it returns false'. Refute it at one input. -/
def latticeSmithWrong : ChangeSpec := { name := "latticeSmith", fn := fun _ => fun
  | [d] => { results := [.lit (.bool false)], args := [d] }
  | _ => none }
def LatticeSmithWrongFalsely : Prop := latticeSmithRow.holds Try.pinned (OpenSpec.ofChange latticeSmithWrong)

/-- 'massecuitelaw01.LatticeChecks': WHATEVER THE INPUT: true; the input reads as it did. -/
def latticeChecksSpec : ChangeSpec := { name := "latticeChecks", fn := fun _ => fun
  | [d1, d2, d3, d4, d5] => { results := [.lit (.bool true)], args := [d1, d2, d3, d4, d5] }
  | _ => none }
def latticeChecksRow : OpenClaim := { program := "ytlomhajhoecoiaa", sum := "3c051686ad49f2a965a957da577cffadca2b54831a130dff22843c7f2b59b1f4", func := "massecuite/massecuitelaw01.LatticeChecks", spec := "latticeChecks", inPlace := ["math/bits.Sub64", "math/bits.Add64"], unfollowed := true, recurses := true, apart := false }
def LatticeChecksSaid : Prop := latticeChecksRow.holds Try.pinned (OpenSpec.ofChange latticeChecksSpec)

/-- ITS FALSE NEIGHBOUR: 'it returns false'. Refute it at one input. -/
def latticeChecksWrong : ChangeSpec := { name := "latticeChecks", fn := fun _ => fun
  | [d1, d2, d3, d4, d5] => { results := [.lit (.bool false)], args := [d1, d2, d3, d4, d5] }
  | _ => none }
def LatticeChecksWrongFalsely : Prop := latticeChecksRow.holds Try.pinned (OpenSpec.ofChange latticeChecksWrong)

/-- 'massecuitelaw01.LatticeOnly': WHATEVER THE INPUT: true; the input reads as it did. -/
def latticeOnlySpec : ChangeSpec := { name := "latticeOnly", fn := fun _ => fun
  | [d1, d2, d3, d4, d5] => { results := [.lit (.bool true)], args := [d1, d2, d3, d4, d5] }
  | _ => none }
def latticeOnlyRow : OpenClaim := { program := "ytlomhajhoecoiaa", sum := "3c051686ad49f2a965a957da577cffadca2b54831a130dff22843c7f2b59b1f4", func := "massecuite/massecuitelaw01.LatticeOnly", spec := "latticeOnly", inPlace := ["math/bits.Sub64", "math/bits.Add64"], unfollowed := true, recurses := true, apart := false }
def LatticeOnlySaid : Prop := latticeOnlyRow.holds Try.pinned (OpenSpec.ofChange latticeOnlySpec)

/-- ITS FALSE NEIGHBOUR: 'it returns false'. Refute it at one input. -/
def latticeOnlyWrong : ChangeSpec := { name := "latticeOnly", fn := fun _ => fun
  | [d1, d2, d3, d4, d5] => { results := [.lit (.bool false)], args := [d1, d2, d3, d4, d5] }
  | _ => none }
def LatticeOnlyWrongFalsely : Prop := latticeOnlyRow.holds Try.pinned (OpenSpec.ofChange latticeOnlyWrong)

/-- 'massecuitelaw01.LatticeKernels': WHATEVER THE INPUT: true; the input reads as it did. -/
def latticeKernelsSpec : ChangeSpec := { name := "latticeKernels", fn := fun _ => fun
  | [d] => { results := [.lit (.bool true)], args := [d] }
  | _ => none }
def latticeKernelsRow : OpenClaim := { program := "ytlomhajhoecoiaa", sum := "3c051686ad49f2a965a957da577cffadca2b54831a130dff22843c7f2b59b1f4", func := "massecuite/massecuitelaw01.LatticeKernels", spec := "latticeKernels", unfollowed := true, recurses := true, apart := false }
def LatticeKernelsSaid : Prop := latticeKernelsRow.holds Try.pinned (OpenSpec.ofChange latticeKernelsSpec)

/-- ITS FALSE NEIGHBOUR: 'it returns false'. Refute it at one input. -/
def latticeKernelsWrong : ChangeSpec := { name := "latticeKernels", fn := fun _ => fun
  | [d] => { results := [.lit (.bool false)], args := [d] }
  | _ => none }
def LatticeKernelsWrongFalsely : Prop := latticeKernelsRow.holds Try.pinned (OpenSpec.ofChange latticeKernelsWrong)

/-- 'massecuitelaw01.LatticeSolves': WHATEVER THE INPUT: true; the input reads as it did. -/
def latticeSolvesSpec : ChangeSpec := { name := "latticeSolves", fn := fun _ => fun
  | [d1, d2] => { results := [.lit (.bool true)], args := [d1, d2] }
  | _ => none }
def latticeSolvesRow : OpenClaim := { program := "ytlomhajhoecoiaa", sum := "3c051686ad49f2a965a957da577cffadca2b54831a130dff22843c7f2b59b1f4", func := "massecuite/massecuitelaw01.LatticeSolves", spec := "latticeSolves", recurses := true, apart := false }
def LatticeSolvesSaid : Prop := latticeSolvesRow.holds Try.pinned (OpenSpec.ofChange latticeSolvesSpec)

/-- ITS FALSE NEIGHBOUR: 'it returns false'. Refute it at one input. -/
def latticeSolvesWrong : ChangeSpec := { name := "latticeSolves", fn := fun _ => fun
  | [d1, d2] => { results := [.lit (.bool false)], args := [d1, d2] }
  | _ => none }
def LatticeSolvesWrongFalsely : Prop := latticeSolvesRow.holds Try.pinned (OpenSpec.ofChange latticeSolvesWrong)

/-- 'massecuitelaw01.LatticeRefuses': WHATEVER THE INPUT: true; the input reads as it did. -/
def latticeRefusesSpec : ChangeSpec := { name := "latticeRefuses", fn := fun _ => fun
  | [d1, d2, d3, d4] => { results := [.lit (.bool true)], args := [d1, d2, d3, d4] }
  | _ => none }
def latticeRefusesRow : OpenClaim := { program := "ytlomhajhoecoiaa", sum := "3c051686ad49f2a965a957da577cffadca2b54831a130dff22843c7f2b59b1f4", func := "massecuite/massecuitelaw01.LatticeRefuses", spec := "latticeRefuses", recurses := true, apart := false }
def LatticeRefusesSaid : Prop := latticeRefusesRow.holds Try.pinned (OpenSpec.ofChange latticeRefusesSpec)

/-- ITS FALSE NEIGHBOUR: 'it returns false'. Refute it at one input. -/
def latticeRefusesWrong : ChangeSpec := { name := "latticeRefuses", fn := fun _ => fun
  | [d1, d2, d3, d4] => { results := [.lit (.bool false)], args := [d1, d2, d3, d4] }
  | _ => none }
def LatticeRefusesWrongFalsely : Prop := latticeRefusesRow.holds Try.pinned (OpenSpec.ofChange latticeRefusesWrong)

/-- 'massecuitelaw01.LatticeProofs': WHATEVER THE INPUT: true; the input reads as it did. -/
def latticeProofsSpec : ChangeSpec := { name := "latticeProofs", fn := fun _ => fun
  | [d1, d2, d3, d4, d5] => { results := [.lit (.bool true)], args := [d1, d2, d3, d4, d5] }
  | _ => none }
def latticeProofsRow : OpenClaim := { program := "ytlomhajhoecoiaa", sum := "3c051686ad49f2a965a957da577cffadca2b54831a130dff22843c7f2b59b1f4", func := "massecuite/massecuitelaw01.LatticeProofs", spec := "latticeProofs", unfollowed := true, recurses := true, apart := false }
def LatticeProofsSaid : Prop := latticeProofsRow.holds Try.pinned (OpenSpec.ofChange latticeProofsSpec)

/-- ITS FALSE NEIGHBOUR: 'it returns false'. Refute it at one input. -/
def latticeProofsWrong : ChangeSpec := { name := "latticeProofs", fn := fun _ => fun
  | [d1, d2, d3, d4, d5] => { results := [.lit (.bool false)], args := [d1, d2, d3, d4, d5] }
  | _ => none }
def LatticeProofsWrongFalsely : Prop := latticeProofsRow.holds Try.pinned (OpenSpec.ofChange latticeProofsWrong)

/-- 'massecuitelaw01.LatticeRanks': WHATEVER THE INPUT: true; the input reads as it did. -/
def latticeRanksSpec : ChangeSpec := { name := "latticeRanks", fn := fun _ => fun
  | [d] => { results := [.lit (.bool true)], args := [d] }
  | _ => none }
def latticeRanksRow : OpenClaim := { program := "ytlomhajhoecoiaa", sum := "3c051686ad49f2a965a957da577cffadca2b54831a130dff22843c7f2b59b1f4", func := "massecuite/massecuitelaw01.LatticeRanks", spec := "latticeRanks", unfollowed := true, recurses := true, apart := false }
def LatticeRanksSaid : Prop := latticeRanksRow.holds Try.pinned (OpenSpec.ofChange latticeRanksSpec)

/-- ITS FALSE NEIGHBOUR: 'it returns false'. Refute it at one input. -/
def latticeRanksWrong : ChangeSpec := { name := "latticeRanks", fn := fun _ => fun
  | [d] => { results := [.lit (.bool false)], args := [d] }
  | _ => none }
def LatticeRanksWrongFalsely : Prop := latticeRanksRow.holds Try.pinned (OpenSpec.ofChange latticeRanksWrong)

/-- 'massecuitelaw01.LatticeInvariant': WHATEVER THE INPUT: true; the input reads as it did. -/
def latticeInvariantSpec : ChangeSpec := { name := "latticeInvariant", fn := fun _ => fun
  | [d1, d2, d3, d4] => { results := [.lit (.bool true)], args := [d1, d2, d3, d4] }
  | _ => none }
def latticeInvariantRow : OpenClaim := { program := "ytlomhajhoecoiaa", sum := "3c051686ad49f2a965a957da577cffadca2b54831a130dff22843c7f2b59b1f4", func := "massecuite/massecuitelaw01.LatticeInvariant", spec := "latticeInvariant", unfollowed := true, recurses := true, apart := false }
def LatticeInvariantSaid : Prop := latticeInvariantRow.holds Try.pinned (OpenSpec.ofChange latticeInvariantSpec)

/-- ITS FALSE NEIGHBOUR: 'it returns false'. Refute it at one input. -/
def latticeInvariantWrong : ChangeSpec := { name := "latticeInvariant", fn := fun _ => fun
  | [d1, d2, d3, d4] => { results := [.lit (.bool false)], args := [d1, d2, d3, d4] }
  | _ => none }
def LatticeInvariantWrongFalsely : Prop := latticeInvariantRow.holds Try.pinned (OpenSpec.ofChange latticeInvariantWrong)

/-- 'massecuitelaw01.LatticeTurned': WHATEVER THE INPUT: true; the input reads as it did. -/
def latticeTurnedSpec : ChangeSpec := { name := "latticeTurned", fn := fun _ => fun
  | [d] => { results := [.lit (.bool true)], args := [d] }
  | _ => none }
def latticeTurnedRow : OpenClaim := { program := "ytlomhajhoecoiaa", sum := "3c051686ad49f2a965a957da577cffadca2b54831a130dff22843c7f2b59b1f4", func := "massecuite/massecuitelaw01.LatticeTurned", spec := "latticeTurned", unfollowed := true, recurses := true, apart := false }
def LatticeTurnedSaid : Prop := latticeTurnedRow.holds Try.pinned (OpenSpec.ofChange latticeTurnedSpec)

/-- ITS FALSE NEIGHBOUR: 'it returns false'. Refute it at one input. -/
def latticeTurnedWrong : ChangeSpec := { name := "latticeTurned", fn := fun _ => fun
  | [d] => { results := [.lit (.bool false)], args := [d] }
  | _ => none }
def LatticeTurnedWrongFalsely : Prop := latticeTurnedRow.holds Try.pinned (OpenSpec.ofChange latticeTurnedWrong)

/-- 'massecuitelaw01.LatticeOrder': WHATEVER THE INPUT: true; the input reads as it did. -/
def latticeOrderSpec : ChangeSpec := { name := "latticeOrder", fn := fun _ => fun
  | [d] => { results := [.lit (.bool true)], args := [d] }
  | _ => none }
def latticeOrderRow : OpenClaim := { program := "ytlomhajhoecoiaa", sum := "3c051686ad49f2a965a957da577cffadca2b54831a130dff22843c7f2b59b1f4", func := "massecuite/massecuitelaw01.LatticeOrder", spec := "latticeOrder", unfollowed := true, recurses := true, apart := false }
def LatticeOrderSaid : Prop := latticeOrderRow.holds Try.pinned (OpenSpec.ofChange latticeOrderSpec)

/-- ITS FALSE NEIGHBOUR: 'it returns false'. Refute it at one input. -/
def latticeOrderWrong : ChangeSpec := { name := "latticeOrder", fn := fun _ => fun
  | [d] => { results := [.lit (.bool false)], args := [d] }
  | _ => none }
def LatticeOrderWrongFalsely : Prop := latticeOrderRow.holds Try.pinned (OpenSpec.ofChange latticeOrderWrong)

/- THE SECOND FORM. 'bulk': how many values and letters a reading holds, each counted each time it is reached (what is shared counts as often as it is met; a slice's spare places count too). A statement '..UptoSaid' is the law's where the arguments, and the package variables that the reading takes, are together of bulk at most 1048576: NARROWER than '..Said'. Prove '..Said' where nothing that the law and all that it calls make is longer than what came in: it says more and counts as full. Else prove '..UptoSaid'. A law counts once. -/
mutual
def uptoBulk {H : Type} : DataW H → Nat
  | .lit (.string bytes) => bytes.length + 1
  | .lit _ => 1
  | .nil => 1
  | .ptr d => uptoBulk d + 1
  | .slice elems spare => uptoBulkAll elems + uptoBulkAll spare + 1
  | .agg parts => uptoBulkAll parts + 1
  | .iface _ d => uptoBulk d + 1
  | .map entries => uptoBulkEntries entries + 1
  | .held _ => 1
def uptoBulkAll {H : Type} : List (DataW H) → Nat
  | [] => 0
  | d :: r => uptoBulk d + uptoBulkAll r
def uptoBulkEntries {H : Type} : List (Lit × DataW H) → Nat
  | [] => 0
  | x :: r => uptoBulkEntry x + uptoBulkEntries r
def uptoBulkEntry {H : Type} : Lit × DataW H → Nat
  | (.string bytes, d) => bytes.length + uptoBulk d + 1
  | (_, d) => uptoBulk d + 1
 end
def uptoSmall : (H : Type) → List (DataW H) → Bool := fun _ ds => decide (uptoBulkAll ds ≤ 1048576)
def OpenSpec.upto (s : _root_.Go.ChangeSpec) : _root_.Go.OpenSpec := { _root_.Go.OpenSpec.ofChange s with cond := some uptoSmall }

/-- 'massecuitelaw01.LatticeHermite', WHERE WHAT IT READS IS OF BULK AT MOST 1048576: true; the input reads as it did. -/
def latticeHermiteUptoRow : OpenClaim := { program := "ytlomhajhoecoiaa", sum := "3c051686ad49f2a965a957da577cffadca2b54831a130dff22843c7f2b59b1f4", func := "massecuite/massecuitelaw01.LatticeHermite", spec := "latticeHermite", unfollowed := true, recurses := true, apart := false, narrowed := true }
def LatticeHermiteUptoSaid : Prop := latticeHermiteUptoRow.holds Try.pinned (OpenSpec.upto latticeHermiteSpec)

/-- 'massecuitelaw01.LatticeSmith', WHERE WHAT IT READS IS OF BULK AT MOST 1048576: true; the input reads as it did. -/
def latticeSmithUptoRow : OpenClaim := { program := "ytlomhajhoecoiaa", sum := "3c051686ad49f2a965a957da577cffadca2b54831a130dff22843c7f2b59b1f4", func := "massecuite/massecuitelaw01.LatticeSmith", spec := "latticeSmith", unfollowed := true, recurses := true, apart := false, narrowed := true }
def LatticeSmithUptoSaid : Prop := latticeSmithUptoRow.holds Try.pinned (OpenSpec.upto latticeSmithSpec)

/-- 'massecuitelaw01.LatticeChecks', WHERE WHAT IT READS IS OF BULK AT MOST 1048576: true; the input reads as it did. -/
def latticeChecksUptoRow : OpenClaim := { program := "ytlomhajhoecoiaa", sum := "3c051686ad49f2a965a957da577cffadca2b54831a130dff22843c7f2b59b1f4", func := "massecuite/massecuitelaw01.LatticeChecks", spec := "latticeChecks", inPlace := ["math/bits.Sub64", "math/bits.Add64"], unfollowed := true, recurses := true, apart := false, narrowed := true }
def LatticeChecksUptoSaid : Prop := latticeChecksUptoRow.holds Try.pinned (OpenSpec.upto latticeChecksSpec)

/-- 'massecuitelaw01.LatticeOnly', WHERE WHAT IT READS IS OF BULK AT MOST 1048576: true; the input reads as it did. -/
def latticeOnlyUptoRow : OpenClaim := { program := "ytlomhajhoecoiaa", sum := "3c051686ad49f2a965a957da577cffadca2b54831a130dff22843c7f2b59b1f4", func := "massecuite/massecuitelaw01.LatticeOnly", spec := "latticeOnly", inPlace := ["math/bits.Sub64", "math/bits.Add64"], unfollowed := true, recurses := true, apart := false, narrowed := true }
def LatticeOnlyUptoSaid : Prop := latticeOnlyUptoRow.holds Try.pinned (OpenSpec.upto latticeOnlySpec)

/-- 'massecuitelaw01.LatticeKernels', WHERE WHAT IT READS IS OF BULK AT MOST 1048576: true; the input reads as it did. -/
def latticeKernelsUptoRow : OpenClaim := { program := "ytlomhajhoecoiaa", sum := "3c051686ad49f2a965a957da577cffadca2b54831a130dff22843c7f2b59b1f4", func := "massecuite/massecuitelaw01.LatticeKernels", spec := "latticeKernels", unfollowed := true, recurses := true, apart := false, narrowed := true }
def LatticeKernelsUptoSaid : Prop := latticeKernelsUptoRow.holds Try.pinned (OpenSpec.upto latticeKernelsSpec)

/-- 'massecuitelaw01.LatticeSolves', WHERE WHAT IT READS IS OF BULK AT MOST 1048576: true; the input reads as it did. -/
def latticeSolvesUptoRow : OpenClaim := { program := "ytlomhajhoecoiaa", sum := "3c051686ad49f2a965a957da577cffadca2b54831a130dff22843c7f2b59b1f4", func := "massecuite/massecuitelaw01.LatticeSolves", spec := "latticeSolves", recurses := true, apart := false, narrowed := true }
def LatticeSolvesUptoSaid : Prop := latticeSolvesUptoRow.holds Try.pinned (OpenSpec.upto latticeSolvesSpec)

/-- 'massecuitelaw01.LatticeRefuses', WHERE WHAT IT READS IS OF BULK AT MOST 1048576: true; the input reads as it did. -/
def latticeRefusesUptoRow : OpenClaim := { program := "ytlomhajhoecoiaa", sum := "3c051686ad49f2a965a957da577cffadca2b54831a130dff22843c7f2b59b1f4", func := "massecuite/massecuitelaw01.LatticeRefuses", spec := "latticeRefuses", recurses := true, apart := false, narrowed := true }
def LatticeRefusesUptoSaid : Prop := latticeRefusesUptoRow.holds Try.pinned (OpenSpec.upto latticeRefusesSpec)

/-- 'massecuitelaw01.LatticeProofs', WHERE WHAT IT READS IS OF BULK AT MOST 1048576: true; the input reads as it did. -/
def latticeProofsUptoRow : OpenClaim := { program := "ytlomhajhoecoiaa", sum := "3c051686ad49f2a965a957da577cffadca2b54831a130dff22843c7f2b59b1f4", func := "massecuite/massecuitelaw01.LatticeProofs", spec := "latticeProofs", unfollowed := true, recurses := true, apart := false, narrowed := true }
def LatticeProofsUptoSaid : Prop := latticeProofsUptoRow.holds Try.pinned (OpenSpec.upto latticeProofsSpec)

/-- 'massecuitelaw01.LatticeRanks', WHERE WHAT IT READS IS OF BULK AT MOST 1048576: true; the input reads as it did. -/
def latticeRanksUptoRow : OpenClaim := { program := "ytlomhajhoecoiaa", sum := "3c051686ad49f2a965a957da577cffadca2b54831a130dff22843c7f2b59b1f4", func := "massecuite/massecuitelaw01.LatticeRanks", spec := "latticeRanks", unfollowed := true, recurses := true, apart := false, narrowed := true }
def LatticeRanksUptoSaid : Prop := latticeRanksUptoRow.holds Try.pinned (OpenSpec.upto latticeRanksSpec)

/-- 'massecuitelaw01.LatticeInvariant', WHERE WHAT IT READS IS OF BULK AT MOST 1048576: true; the input reads as it did. -/
def latticeInvariantUptoRow : OpenClaim := { program := "ytlomhajhoecoiaa", sum := "3c051686ad49f2a965a957da577cffadca2b54831a130dff22843c7f2b59b1f4", func := "massecuite/massecuitelaw01.LatticeInvariant", spec := "latticeInvariant", unfollowed := true, recurses := true, apart := false, narrowed := true }
def LatticeInvariantUptoSaid : Prop := latticeInvariantUptoRow.holds Try.pinned (OpenSpec.upto latticeInvariantSpec)

/-- 'massecuitelaw01.LatticeTurned', WHERE WHAT IT READS IS OF BULK AT MOST 1048576: true; the input reads as it did. -/
def latticeTurnedUptoRow : OpenClaim := { program := "ytlomhajhoecoiaa", sum := "3c051686ad49f2a965a957da577cffadca2b54831a130dff22843c7f2b59b1f4", func := "massecuite/massecuitelaw01.LatticeTurned", spec := "latticeTurned", unfollowed := true, recurses := true, apart := false, narrowed := true }
def LatticeTurnedUptoSaid : Prop := latticeTurnedUptoRow.holds Try.pinned (OpenSpec.upto latticeTurnedSpec)

/-- 'massecuitelaw01.LatticeOrder', WHERE WHAT IT READS IS OF BULK AT MOST 1048576: true; the input reads as it did. -/
def latticeOrderUptoRow : OpenClaim := { program := "ytlomhajhoecoiaa", sum := "3c051686ad49f2a965a957da577cffadca2b54831a130dff22843c7f2b59b1f4", func := "massecuite/massecuitelaw01.LatticeOrder", spec := "latticeOrder", unfollowed := true, recurses := true, apart := false, narrowed := true }
def LatticeOrderUptoSaid : Prop := latticeOrderUptoRow.holds Try.pinned (OpenSpec.upto latticeOrderSpec)

end Rows
end Go.Proofs.Ytlomhajhoecoiaa
