/-
  No cell of these rows narrows 'for every input' (looked for: loops, veiled, ifaces, maps, wideKeys, modest, calm, conditions, laid).
  DERIVED. THE GIVEN ROWS OF THIS SEAT. 15 by the template 'for every input the law returns true; each argument reads behind the call as it read before'; 0 by the template 'total and deterministic' (their statements: YthbnnffmhnjpjaaTotals.lean).
  GIVEN WITH THE SEED: the statements are not yours to turn. If you find one false, say at which input.
  Laid BY PROGRAM, IN A SANDBOX (cutbox-rows.mjs): the forced cells as the released guide's own fill.sh prints them over the translation 91200de42aa64271… (all of the seat's roots in one cut). By AI agents, Wed Nov 11 2026. No macro, syntax, notation, axiom, sorry.
-/
import Derived.Test.YthbnnffmhnjpjaaChecked
import GoSem.Claim
import GoSem.ClaimJoined
import GoSem.ClaimMapViews
import Derived.JoinedTies
import Derived.KernelRfl
namespace Go.Proofs.Ythbnnffmhnjpjaa
/- THE CELL 'sum', in the pinned program and in every row, IS THE sha256 OF THE DUMP (.gsa) THAT YthbnnffmhnjpjaaProg.lean LOADS. Nothing in Lean hashes anything: it is a label: what it is worth is what the hold of that sum in a sandbox is worth. -/
noncomputable def Try.pinned : Pinned := { name := "ythbnnffmhnjpjaa", sum := "91200de42aa64271840282d2de5b1b60855953b0d1e9f544c468bdd9c1eea93d", checked := Try.checked }
namespace Rows
def none {H : Type} : Left H := { results := [], args := [] }

/-- 'massecuitelaw04.CycleMuls': WHATEVER THE INPUT: true; the input reads as it did. -/
def cycleMulsSpec : ChangeSpec := { name := "cycleMuls", fn := fun _ => fun
  | [d1, d2, d3] => { results := [.lit (.bool true)], args := [d1, d2, d3] }
  | _ => none }
def cycleMulsRow : OpenClaim := { program := "ythbnnffmhnjpjaa", sum := "91200de42aa64271840282d2de5b1b60855953b0d1e9f544c468bdd9c1eea93d", func := "massecuite/massecuitelaw04.CycleMuls", spec := "cycleMuls", unfollowed := true, recurses := true, apart := false }
def CycleMulsSaid : Prop := cycleMulsRow.holds Try.pinned (OpenSpec.ofChange cycleMulsSpec)

/-- ITS FALSE NEIGHBOUR: 'it returns false'. Refute it at one input. -/
def cycleMulsWrong : ChangeSpec := { name := "cycleMuls", fn := fun _ => fun
  | [d1, d2, d3] => { results := [.lit (.bool false)], args := [d1, d2, d3] }
  | _ => none }
def CycleMulsWrongFalsely : Prop := cycleMulsRow.holds Try.pinned (OpenSpec.ofChange cycleMulsWrong)

/-- 'massecuitelaw04.CycleMeans': WHATEVER THE INPUT: true; the input reads as it did. -/
def cycleMeansSpec : ChangeSpec := { name := "cycleMeans", fn := fun _ => fun
  | [d] => { results := [.lit (.bool true)], args := [d] }
  | _ => none }
def cycleMeansRow : OpenClaim := { program := "ythbnnffmhnjpjaa", sum := "91200de42aa64271840282d2de5b1b60855953b0d1e9f544c468bdd9c1eea93d", func := "massecuite/massecuitelaw04.CycleMeans", spec := "cycleMeans", unfollowed := true, recurses := true, apart := false }
def CycleMeansSaid : Prop := cycleMeansRow.holds Try.pinned (OpenSpec.ofChange cycleMeansSpec)

/-- ITS FALSE NEIGHBOUR: 'it returns false'. Refute it at one input. -/
def cycleMeansWrong : ChangeSpec := { name := "cycleMeans", fn := fun _ => fun
  | [d] => { results := [.lit (.bool false)], args := [d] }
  | _ => none }
def CycleMeansWrongFalsely : Prop := cycleMeansRow.holds Try.pinned (OpenSpec.ofChange cycleMeansWrong)

/-- 'massecuitelaw04.CyclePotentials': WHATEVER THE INPUT: true; the input reads as it did. -/
def cyclePotentialsSpec : ChangeSpec := { name := "cyclePotentials", fn := fun _ => fun
  | [d] => { results := [.lit (.bool true)], args := [d] }
  | _ => none }
def cyclePotentialsRow : OpenClaim := { program := "ythbnnffmhnjpjaa", sum := "91200de42aa64271840282d2de5b1b60855953b0d1e9f544c468bdd9c1eea93d", func := "massecuite/massecuitelaw04.CyclePotentials", spec := "cyclePotentials", unfollowed := true, recurses := true, apart := false }
def CyclePotentialsSaid : Prop := cyclePotentialsRow.holds Try.pinned (OpenSpec.ofChange cyclePotentialsSpec)

/-- ITS FALSE NEIGHBOUR: 'it returns false'. Refute it at one input. -/
def cyclePotentialsWrong : ChangeSpec := { name := "cyclePotentials", fn := fun _ => fun
  | [d] => { results := [.lit (.bool false)], args := [d] }
  | _ => none }
def CyclePotentialsWrongFalsely : Prop := cyclePotentialsRow.holds Try.pinned (OpenSpec.ofChange cyclePotentialsWrong)

/-- 'massecuitelaw04.CycleChecks': WHATEVER THE INPUT: true; the input reads as it did. -/
def cycleChecksSpec : ChangeSpec := { name := "cycleChecks", fn := fun _ => fun
  | [d1, d2, d3, d4, d5] => { results := [.lit (.bool true)], args := [d1, d2, d3, d4, d5] }
  | _ => none }
def cycleChecksRow : OpenClaim := { program := "ythbnnffmhnjpjaa", sum := "91200de42aa64271840282d2de5b1b60855953b0d1e9f544c468bdd9c1eea93d", func := "massecuite/massecuitelaw04.CycleChecks", spec := "cycleChecks", unfollowed := true, recurses := true, apart := false }
def CycleChecksSaid : Prop := cycleChecksRow.holds Try.pinned (OpenSpec.ofChange cycleChecksSpec)

/-- ITS FALSE NEIGHBOUR: 'it returns false'. Refute it at one input. -/
def cycleChecksWrong : ChangeSpec := { name := "cycleChecks", fn := fun _ => fun
  | [d1, d2, d3, d4, d5] => { results := [.lit (.bool false)], args := [d1, d2, d3, d4, d5] }
  | _ => none }
def CycleChecksWrongFalsely : Prop := cycleChecksRow.holds Try.pinned (OpenSpec.ofChange cycleChecksWrong)

/-- 'massecuitelaw04.CycleProofs': WHATEVER THE INPUT: true; the input reads as it did. -/
def cycleProofsSpec : ChangeSpec := { name := "cycleProofs", fn := fun _ => fun
  | [d1, d2, d3, d4, d5] => { results := [.lit (.bool true)], args := [d1, d2, d3, d4, d5] }
  | _ => none }
def cycleProofsRow : OpenClaim := { program := "ythbnnffmhnjpjaa", sum := "91200de42aa64271840282d2de5b1b60855953b0d1e9f544c468bdd9c1eea93d", func := "massecuite/massecuitelaw04.CycleProofs", spec := "cycleProofs", unfollowed := true, recurses := true, apart := false }
def CycleProofsSaid : Prop := cycleProofsRow.holds Try.pinned (OpenSpec.ofChange cycleProofsSpec)

/-- ITS FALSE NEIGHBOUR: 'it returns false'. Refute it at one input. -/
def cycleProofsWrong : ChangeSpec := { name := "cycleProofs", fn := fun _ => fun
  | [d1, d2, d3, d4, d5] => { results := [.lit (.bool false)], args := [d1, d2, d3, d4, d5] }
  | _ => none }
def CycleProofsWrongFalsely : Prop := cycleProofsRow.holds Try.pinned (OpenSpec.ofChange cycleProofsWrong)

/-- 'massecuitelaw04.CycleStars': WHATEVER THE INPUT: true; the input reads as it did. -/
def cycleStarsSpec : ChangeSpec := { name := "cycleStars", fn := fun _ => fun
  | [d] => { results := [.lit (.bool true)], args := [d] }
  | _ => none }
def cycleStarsRow : OpenClaim := { program := "ythbnnffmhnjpjaa", sum := "91200de42aa64271840282d2de5b1b60855953b0d1e9f544c468bdd9c1eea93d", func := "massecuite/massecuitelaw04.CycleStars", spec := "cycleStars", unfollowed := true, recurses := true, apart := false }
def CycleStarsSaid : Prop := cycleStarsRow.holds Try.pinned (OpenSpec.ofChange cycleStarsSpec)

/-- ITS FALSE NEIGHBOUR: 'it returns false'. Refute it at one input. -/
def cycleStarsWrong : ChangeSpec := { name := "cycleStars", fn := fun _ => fun
  | [d] => { results := [.lit (.bool false)], args := [d] }
  | _ => none }
def CycleStarsWrongFalsely : Prop := cycleStarsRow.holds Try.pinned (OpenSpec.ofChange cycleStarsWrong)

/-- 'massecuitelaw04.CycleEigens': WHATEVER THE INPUT: true; the input reads as it did. -/
def cycleEigensSpec : ChangeSpec := { name := "cycleEigens", fn := fun _ => fun
  | [d] => { results := [.lit (.bool true)], args := [d] }
  | _ => none }
def cycleEigensRow : OpenClaim := { program := "ythbnnffmhnjpjaa", sum := "91200de42aa64271840282d2de5b1b60855953b0d1e9f544c468bdd9c1eea93d", func := "massecuite/massecuitelaw04.CycleEigens", spec := "cycleEigens", unfollowed := true, recurses := true, apart := false }
def CycleEigensSaid : Prop := cycleEigensRow.holds Try.pinned (OpenSpec.ofChange cycleEigensSpec)

/-- ITS FALSE NEIGHBOUR: 'it returns false'. Refute it at one input. -/
def cycleEigensWrong : ChangeSpec := { name := "cycleEigens", fn := fun _ => fun
  | [d] => { results := [.lit (.bool false)], args := [d] }
  | _ => none }
def CycleEigensWrongFalsely : Prop := cycleEigensRow.holds Try.pinned (OpenSpec.ofChange cycleEigensWrong)

/-- 'massecuitelaw04.CycleEquation': WHATEVER THE INPUT: true; the input reads as it did. -/
def cycleEquationSpec : ChangeSpec := { name := "cycleEquation", fn := fun _ => fun
  | [d] => { results := [.lit (.bool true)], args := [d] }
  | _ => none }
def cycleEquationRow : OpenClaim := { program := "ythbnnffmhnjpjaa", sum := "91200de42aa64271840282d2de5b1b60855953b0d1e9f544c468bdd9c1eea93d", func := "massecuite/massecuitelaw04.CycleEquation", spec := "cycleEquation", unfollowed := true, recurses := true, apart := false }
def CycleEquationSaid : Prop := cycleEquationRow.holds Try.pinned (OpenSpec.ofChange cycleEquationSpec)

/-- ITS FALSE NEIGHBOUR: 'it returns false'. Refute it at one input. -/
def cycleEquationWrong : ChangeSpec := { name := "cycleEquation", fn := fun _ => fun
  | [d] => { results := [.lit (.bool false)], args := [d] }
  | _ => none }
def CycleEquationWrongFalsely : Prop := cycleEquationRow.holds Try.pinned (OpenSpec.ofChange cycleEquationWrong)

/-- 'massecuitelaw04.CyclePeriods': WHATEVER THE INPUT: true; the input reads as it did. -/
def cyclePeriodsSpec : ChangeSpec := { name := "cyclePeriods", fn := fun _ => fun
  | [d] => { results := [.lit (.bool true)], args := [d] }
  | _ => none }
def cyclePeriodsRow : OpenClaim := { program := "ythbnnffmhnjpjaa", sum := "91200de42aa64271840282d2de5b1b60855953b0d1e9f544c468bdd9c1eea93d", func := "massecuite/massecuitelaw04.CyclePeriods", spec := "cyclePeriods", unfollowed := true, recurses := true, apart := false }
def CyclePeriodsSaid : Prop := cyclePeriodsRow.holds Try.pinned (OpenSpec.ofChange cyclePeriodsSpec)

/-- ITS FALSE NEIGHBOUR: 'it returns false'. Refute it at one input. -/
def cyclePeriodsWrong : ChangeSpec := { name := "cyclePeriods", fn := fun _ => fun
  | [d] => { results := [.lit (.bool false)], args := [d] }
  | _ => none }
def CyclePeriodsWrongFalsely : Prop := cyclePeriodsRow.holds Try.pinned (OpenSpec.ofChange cyclePeriodsWrong)

/-- 'massecuitelaw04.CycleRepeats': WHATEVER THE INPUT: true; the input reads as it did. -/
def cycleRepeatsSpec : ChangeSpec := { name := "cycleRepeats", fn := fun _ => fun
  | [d1, d2] => { results := [.lit (.bool true)], args := [d1, d2] }
  | _ => none }
def cycleRepeatsRow : OpenClaim := { program := "ythbnnffmhnjpjaa", sum := "91200de42aa64271840282d2de5b1b60855953b0d1e9f544c468bdd9c1eea93d", func := "massecuite/massecuitelaw04.CycleRepeats", spec := "cycleRepeats", unfollowed := true, recurses := true, apart := false }
def CycleRepeatsSaid : Prop := cycleRepeatsRow.holds Try.pinned (OpenSpec.ofChange cycleRepeatsSpec)

/-- ITS FALSE NEIGHBOUR: 'it returns false'. Refute it at one input. -/
def cycleRepeatsWrong : ChangeSpec := { name := "cycleRepeats", fn := fun _ => fun
  | [d1, d2] => { results := [.lit (.bool false)], args := [d1, d2] }
  | _ => none }
def CycleRepeatsWrongFalsely : Prop := cycleRepeatsRow.holds Try.pinned (OpenSpec.ofChange cycleRepeatsWrong)

/-- 'massecuitelaw04.CyclePowers': WHATEVER THE INPUT: true; the input reads as it did. -/
def cyclePowersSpec : ChangeSpec := { name := "cyclePowers", fn := fun _ => fun
  | [d1, d2, d3] => { results := [.lit (.bool true)], args := [d1, d2, d3] }
  | _ => none }
def cyclePowersRow : OpenClaim := { program := "ythbnnffmhnjpjaa", sum := "91200de42aa64271840282d2de5b1b60855953b0d1e9f544c468bdd9c1eea93d", func := "massecuite/massecuitelaw04.CyclePowers", spec := "cyclePowers", unfollowed := true, recurses := true, apart := false }
def CyclePowersSaid : Prop := cyclePowersRow.holds Try.pinned (OpenSpec.ofChange cyclePowersSpec)

/-- ITS FALSE NEIGHBOUR: 'it returns false'. Refute it at one input. -/
def cyclePowersWrong : ChangeSpec := { name := "cyclePowers", fn := fun _ => fun
  | [d1, d2, d3] => { results := [.lit (.bool false)], args := [d1, d2, d3] }
  | _ => none }
def CyclePowersWrongFalsely : Prop := cyclePowersRow.holds Try.pinned (OpenSpec.ofChange cyclePowersWrong)

/-- 'massecuitelaw04.CycleRatios': WHATEVER THE INPUT: true; the input reads as it did. -/
def cycleRatiosSpec : ChangeSpec := { name := "cycleRatios", fn := fun _ => fun
  | [d] => { results := [.lit (.bool true)], args := [d] }
  | _ => none }
def cycleRatiosRow : OpenClaim := { program := "ythbnnffmhnjpjaa", sum := "91200de42aa64271840282d2de5b1b60855953b0d1e9f544c468bdd9c1eea93d", func := "massecuite/massecuitelaw04.CycleRatios", spec := "cycleRatios", unfollowed := true, recurses := true, apart := false }
def CycleRatiosSaid : Prop := cycleRatiosRow.holds Try.pinned (OpenSpec.ofChange cycleRatiosSpec)

/-- ITS FALSE NEIGHBOUR: 'it returns false'. Refute it at one input. -/
def cycleRatiosWrong : ChangeSpec := { name := "cycleRatios", fn := fun _ => fun
  | [d] => { results := [.lit (.bool false)], args := [d] }
  | _ => none }
def CycleRatiosWrongFalsely : Prop := cycleRatiosRow.holds Try.pinned (OpenSpec.ofChange cycleRatiosWrong)

/-- 'massecuitelaw04.CycleUnits': WHATEVER THE INPUT: true; the input reads as it did. -/
def cycleUnitsSpec : ChangeSpec := { name := "cycleUnits", fn := fun _ => fun
  | [d] => { results := [.lit (.bool true)], args := [d] }
  | _ => none }
def cycleUnitsRow : OpenClaim := { program := "ythbnnffmhnjpjaa", sum := "91200de42aa64271840282d2de5b1b60855953b0d1e9f544c468bdd9c1eea93d", func := "massecuite/massecuitelaw04.CycleUnits", spec := "cycleUnits", unfollowed := true, recurses := true, apart := false }
def CycleUnitsSaid : Prop := cycleUnitsRow.holds Try.pinned (OpenSpec.ofChange cycleUnitsSpec)

/-- ITS FALSE NEIGHBOUR: 'it returns false'. Refute it at one input. -/
def cycleUnitsWrong : ChangeSpec := { name := "cycleUnits", fn := fun _ => fun
  | [d] => { results := [.lit (.bool false)], args := [d] }
  | _ => none }
def CycleUnitsWrongFalsely : Prop := cycleUnitsRow.holds Try.pinned (OpenSpec.ofChange cycleUnitsWrong)

/-- 'massecuitelaw04.CycleShifts': WHATEVER THE INPUT: true; the input reads as it did. -/
def cycleShiftsSpec : ChangeSpec := { name := "cycleShifts", fn := fun _ => fun
  | [d1, d2] => { results := [.lit (.bool true)], args := [d1, d2] }
  | _ => none }
def cycleShiftsRow : OpenClaim := { program := "ythbnnffmhnjpjaa", sum := "91200de42aa64271840282d2de5b1b60855953b0d1e9f544c468bdd9c1eea93d", func := "massecuite/massecuitelaw04.CycleShifts", spec := "cycleShifts", unfollowed := true, recurses := true, apart := false }
def CycleShiftsSaid : Prop := cycleShiftsRow.holds Try.pinned (OpenSpec.ofChange cycleShiftsSpec)

/-- ITS FALSE NEIGHBOUR: 'it returns false'. Refute it at one input. -/
def cycleShiftsWrong : ChangeSpec := { name := "cycleShifts", fn := fun _ => fun
  | [d1, d2] => { results := [.lit (.bool false)], args := [d1, d2] }
  | _ => none }
def CycleShiftsWrongFalsely : Prop := cycleShiftsRow.holds Try.pinned (OpenSpec.ofChange cycleShiftsWrong)

/-- 'massecuitelaw04.CycleTurned': WHATEVER THE INPUT: true; the input reads as it did. -/
def cycleTurnedSpec : ChangeSpec := { name := "cycleTurned", fn := fun _ => fun
  | [d1, d2] => { results := [.lit (.bool true)], args := [d1, d2] }
  | _ => none }
def cycleTurnedRow : OpenClaim := { program := "ythbnnffmhnjpjaa", sum := "91200de42aa64271840282d2de5b1b60855953b0d1e9f544c468bdd9c1eea93d", func := "massecuite/massecuitelaw04.CycleTurned", spec := "cycleTurned", unfollowed := true, recurses := true, apart := false }
def CycleTurnedSaid : Prop := cycleTurnedRow.holds Try.pinned (OpenSpec.ofChange cycleTurnedSpec)

/-- ITS FALSE NEIGHBOUR: 'it returns false'. Refute it at one input. -/
def cycleTurnedWrong : ChangeSpec := { name := "cycleTurned", fn := fun _ => fun
  | [d1, d2] => { results := [.lit (.bool false)], args := [d1, d2] }
  | _ => none }
def CycleTurnedWrongFalsely : Prop := cycleTurnedRow.holds Try.pinned (OpenSpec.ofChange cycleTurnedWrong)

/- THE SECOND FORM. 'bulk': how many values and letters a reading holds, each counted each time it is reached (what is shared counts as often as it is met; a slice's spare places count too). A statement '..UptoSaid' is the law's where the arguments, and the package variables that the reading takes, are together of bulk at most 1048576: NARROWER than '..Said'. Prove '..Said' where nothing that the law and all that it calls make is longer than what came in: it says more and counts as full. Else prove '..UptoSaid'. A law counts once. -/
mutual
def uptoBulk {H : Type} : DataW H → Nat
  | .lit (.string bytes) => bytes.length + 1
  | .lit _ => 1
  | .nil => 1
  | .ptr d => uptoBulk d + 1
  | .slice elems spare => uptoBulkAll elems + uptoBulkAll spare + 1
  | .agg parts => uptoBulkAll parts + 1
  | .iface _ d => uptoBulk d + 1
  | .map entries => uptoBulkEntries entries + 1
  | .held _ => 1
def uptoBulkAll {H : Type} : List (DataW H) → Nat
  | [] => 0
  | d :: r => uptoBulk d + uptoBulkAll r
def uptoBulkEntries {H : Type} : List (Lit × DataW H) → Nat
  | [] => 0
  | x :: r => uptoBulkEntry x + uptoBulkEntries r
def uptoBulkEntry {H : Type} : Lit × DataW H → Nat
  | (.string bytes, d) => bytes.length + uptoBulk d + 1
  | (_, d) => uptoBulk d + 1
 end
def uptoSmall : (H : Type) → List (DataW H) → Bool := fun _ ds => decide (uptoBulkAll ds ≤ 1048576)
def OpenSpec.upto (s : _root_.Go.ChangeSpec) : _root_.Go.OpenSpec := { _root_.Go.OpenSpec.ofChange s with cond := some uptoSmall }

/-- 'massecuitelaw04.CycleMuls', WHERE WHAT IT READS IS OF BULK AT MOST 1048576: true; the input reads as it did. -/
def cycleMulsUptoRow : OpenClaim := { program := "ythbnnffmhnjpjaa", sum := "91200de42aa64271840282d2de5b1b60855953b0d1e9f544c468bdd9c1eea93d", func := "massecuite/massecuitelaw04.CycleMuls", spec := "cycleMuls", unfollowed := true, recurses := true, apart := false, narrowed := true }
def CycleMulsUptoSaid : Prop := cycleMulsUptoRow.holds Try.pinned (OpenSpec.upto cycleMulsSpec)

/-- 'massecuitelaw04.CycleMeans', WHERE WHAT IT READS IS OF BULK AT MOST 1048576: true; the input reads as it did. -/
def cycleMeansUptoRow : OpenClaim := { program := "ythbnnffmhnjpjaa", sum := "91200de42aa64271840282d2de5b1b60855953b0d1e9f544c468bdd9c1eea93d", func := "massecuite/massecuitelaw04.CycleMeans", spec := "cycleMeans", unfollowed := true, recurses := true, apart := false, narrowed := true }
def CycleMeansUptoSaid : Prop := cycleMeansUptoRow.holds Try.pinned (OpenSpec.upto cycleMeansSpec)

/-- 'massecuitelaw04.CyclePotentials', WHERE WHAT IT READS IS OF BULK AT MOST 1048576: true; the input reads as it did. -/
def cyclePotentialsUptoRow : OpenClaim := { program := "ythbnnffmhnjpjaa", sum := "91200de42aa64271840282d2de5b1b60855953b0d1e9f544c468bdd9c1eea93d", func := "massecuite/massecuitelaw04.CyclePotentials", spec := "cyclePotentials", unfollowed := true, recurses := true, apart := false, narrowed := true }
def CyclePotentialsUptoSaid : Prop := cyclePotentialsUptoRow.holds Try.pinned (OpenSpec.upto cyclePotentialsSpec)

/-- 'massecuitelaw04.CycleChecks', WHERE WHAT IT READS IS OF BULK AT MOST 1048576: true; the input reads as it did. -/
def cycleChecksUptoRow : OpenClaim := { program := "ythbnnffmhnjpjaa", sum := "91200de42aa64271840282d2de5b1b60855953b0d1e9f544c468bdd9c1eea93d", func := "massecuite/massecuitelaw04.CycleChecks", spec := "cycleChecks", unfollowed := true, recurses := true, apart := false, narrowed := true }
def CycleChecksUptoSaid : Prop := cycleChecksUptoRow.holds Try.pinned (OpenSpec.upto cycleChecksSpec)

/-- 'massecuitelaw04.CycleProofs', WHERE WHAT IT READS IS OF BULK AT MOST 1048576: true; the input reads as it did. -/
def cycleProofsUptoRow : OpenClaim := { program := "ythbnnffmhnjpjaa", sum := "91200de42aa64271840282d2de5b1b60855953b0d1e9f544c468bdd9c1eea93d", func := "massecuite/massecuitelaw04.CycleProofs", spec := "cycleProofs", unfollowed := true, recurses := true, apart := false, narrowed := true }
def CycleProofsUptoSaid : Prop := cycleProofsUptoRow.holds Try.pinned (OpenSpec.upto cycleProofsSpec)

/-- 'massecuitelaw04.CycleStars', WHERE WHAT IT READS IS OF BULK AT MOST 1048576: true; the input reads as it did. -/
def cycleStarsUptoRow : OpenClaim := { program := "ythbnnffmhnjpjaa", sum := "91200de42aa64271840282d2de5b1b60855953b0d1e9f544c468bdd9c1eea93d", func := "massecuite/massecuitelaw04.CycleStars", spec := "cycleStars", unfollowed := true, recurses := true, apart := false, narrowed := true }
def CycleStarsUptoSaid : Prop := cycleStarsUptoRow.holds Try.pinned (OpenSpec.upto cycleStarsSpec)

/-- 'massecuitelaw04.CycleEigens', WHERE WHAT IT READS IS OF BULK AT MOST 1048576: true; the input reads as it did. -/
def cycleEigensUptoRow : OpenClaim := { program := "ythbnnffmhnjpjaa", sum := "91200de42aa64271840282d2de5b1b60855953b0d1e9f544c468bdd9c1eea93d", func := "massecuite/massecuitelaw04.CycleEigens", spec := "cycleEigens", unfollowed := true, recurses := true, apart := false, narrowed := true }
def CycleEigensUptoSaid : Prop := cycleEigensUptoRow.holds Try.pinned (OpenSpec.upto cycleEigensSpec)

/-- 'massecuitelaw04.CycleEquation', WHERE WHAT IT READS IS OF BULK AT MOST 1048576: true; the input reads as it did. -/
def cycleEquationUptoRow : OpenClaim := { program := "ythbnnffmhnjpjaa", sum := "91200de42aa64271840282d2de5b1b60855953b0d1e9f544c468bdd9c1eea93d", func := "massecuite/massecuitelaw04.CycleEquation", spec := "cycleEquation", unfollowed := true, recurses := true, apart := false, narrowed := true }
def CycleEquationUptoSaid : Prop := cycleEquationUptoRow.holds Try.pinned (OpenSpec.upto cycleEquationSpec)

/-- 'massecuitelaw04.CyclePeriods', WHERE WHAT IT READS IS OF BULK AT MOST 1048576: true; the input reads as it did. -/
def cyclePeriodsUptoRow : OpenClaim := { program := "ythbnnffmhnjpjaa", sum := "91200de42aa64271840282d2de5b1b60855953b0d1e9f544c468bdd9c1eea93d", func := "massecuite/massecuitelaw04.CyclePeriods", spec := "cyclePeriods", unfollowed := true, recurses := true, apart := false, narrowed := true }
def CyclePeriodsUptoSaid : Prop := cyclePeriodsUptoRow.holds Try.pinned (OpenSpec.upto cyclePeriodsSpec)

/-- 'massecuitelaw04.CycleRepeats', WHERE WHAT IT READS IS OF BULK AT MOST 1048576: true; the input reads as it did. -/
def cycleRepeatsUptoRow : OpenClaim := { program := "ythbnnffmhnjpjaa", sum := "91200de42aa64271840282d2de5b1b60855953b0d1e9f544c468bdd9c1eea93d", func := "massecuite/massecuitelaw04.CycleRepeats", spec := "cycleRepeats", unfollowed := true, recurses := true, apart := false, narrowed := true }
def CycleRepeatsUptoSaid : Prop := cycleRepeatsUptoRow.holds Try.pinned (OpenSpec.upto cycleRepeatsSpec)

/-- 'massecuitelaw04.CyclePowers', WHERE WHAT IT READS IS OF BULK AT MOST 1048576: true; the input reads as it did. -/
def cyclePowersUptoRow : OpenClaim := { program := "ythbnnffmhnjpjaa", sum := "91200de42aa64271840282d2de5b1b60855953b0d1e9f544c468bdd9c1eea93d", func := "massecuite/massecuitelaw04.CyclePowers", spec := "cyclePowers", unfollowed := true, recurses := true, apart := false, narrowed := true }
def CyclePowersUptoSaid : Prop := cyclePowersUptoRow.holds Try.pinned (OpenSpec.upto cyclePowersSpec)

/-- 'massecuitelaw04.CycleRatios', WHERE WHAT IT READS IS OF BULK AT MOST 1048576: true; the input reads as it did. -/
def cycleRatiosUptoRow : OpenClaim := { program := "ythbnnffmhnjpjaa", sum := "91200de42aa64271840282d2de5b1b60855953b0d1e9f544c468bdd9c1eea93d", func := "massecuite/massecuitelaw04.CycleRatios", spec := "cycleRatios", unfollowed := true, recurses := true, apart := false, narrowed := true }
def CycleRatiosUptoSaid : Prop := cycleRatiosUptoRow.holds Try.pinned (OpenSpec.upto cycleRatiosSpec)

/-- 'massecuitelaw04.CycleUnits', WHERE WHAT IT READS IS OF BULK AT MOST 1048576: true; the input reads as it did. -/
def cycleUnitsUptoRow : OpenClaim := { program := "ythbnnffmhnjpjaa", sum := "91200de42aa64271840282d2de5b1b60855953b0d1e9f544c468bdd9c1eea93d", func := "massecuite/massecuitelaw04.CycleUnits", spec := "cycleUnits", unfollowed := true, recurses := true, apart := false, narrowed := true }
def CycleUnitsUptoSaid : Prop := cycleUnitsUptoRow.holds Try.pinned (OpenSpec.upto cycleUnitsSpec)

/-- 'massecuitelaw04.CycleShifts', WHERE WHAT IT READS IS OF BULK AT MOST 1048576: true; the input reads as it did. -/
def cycleShiftsUptoRow : OpenClaim := { program := "ythbnnffmhnjpjaa", sum := "91200de42aa64271840282d2de5b1b60855953b0d1e9f544c468bdd9c1eea93d", func := "massecuite/massecuitelaw04.CycleShifts", spec := "cycleShifts", unfollowed := true, recurses := true, apart := false, narrowed := true }
def CycleShiftsUptoSaid : Prop := cycleShiftsUptoRow.holds Try.pinned (OpenSpec.upto cycleShiftsSpec)

/-- 'massecuitelaw04.CycleTurned', WHERE WHAT IT READS IS OF BULK AT MOST 1048576: true; the input reads as it did. -/
def cycleTurnedUptoRow : OpenClaim := { program := "ythbnnffmhnjpjaa", sum := "91200de42aa64271840282d2de5b1b60855953b0d1e9f544c468bdd9c1eea93d", func := "massecuite/massecuitelaw04.CycleTurned", spec := "cycleTurned", unfollowed := true, recurses := true, apart := false, narrowed := true }
def CycleTurnedUptoSaid : Prop := cycleTurnedUptoRow.holds Try.pinned (OpenSpec.upto cycleTurnedSpec)

end Rows
end Go.Proofs.Ythbnnffmhnjpjaa
