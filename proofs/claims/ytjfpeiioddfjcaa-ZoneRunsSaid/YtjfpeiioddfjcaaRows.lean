/-
  No cell of these rows narrows 'for every input' (looked for: loops, veiled, ifaces, maps, wideKeys, modest, calm, conditions, laid).
  DERIVED. THE GIVEN ROWS OF THIS SEAT. 12 by the template 'for every input the law returns true; each argument reads behind the call as it read before'; 0 by the template 'total and deterministic' (their statements: YtjfpeiioddfjcaaTotals.lean).
  GIVEN WITH THE SEED: the statements are not yours to turn. If you find one false, say at which input.
  Laid BY PROGRAM, IN A SANDBOX (cutbox-rows.mjs): the forced cells as the released guide's own fill.sh prints them over the translation 10b818ad81786e7c… (all of the seat's roots in one cut). By AI agents, Wed Nov 11 2026. No macro, syntax, notation, axiom, sorry.
-/
import Derived.Test.YtjfpeiioddfjcaaChecked
import GoSem.Claim
import GoSem.ClaimJoined
import GoSem.ClaimMapViews
import Derived.JoinedTies
import Derived.KernelRfl
namespace Go.Proofs.Ytjfpeiioddfjcaa
/- THE CELL 'sum', in the pinned program and in every row, IS THE sha256 OF THE DUMP (.gsa) THAT YtjfpeiioddfjcaaProg.lean LOADS. Nothing in Lean hashes anything: it is a label: what it is worth is what the hold of that sum in a sandbox is worth. -/
noncomputable def Try.pinned : Pinned := { name := "ytjfpeiioddfjcaa", sum := "10b818ad81786e7c4b711ab01bb450caa0b1645757190628650ce6e4e11bd74e", checked := Try.checked }
namespace Rows
def none {H : Type} : Left H := { results := [], args := [] }

/-- 'massecuitelaw05.ZoneTight': WHATEVER THE INPUT: true; the input reads as it did. -/
def zoneTightSpec : ChangeSpec := { name := "zoneTight", fn := fun _ => fun
  | [d1, d2] => { results := [.lit (.bool true)], args := [d1, d2] }
  | _ => none }
def zoneTightRow : OpenClaim := { program := "ytjfpeiioddfjcaa", sum := "10b818ad81786e7c4b711ab01bb450caa0b1645757190628650ce6e4e11bd74e", func := "massecuite/massecuitelaw05.ZoneTight", spec := "zoneTight", unfollowed := true, recurses := true, plainKeys := false, apart := false }
def ZoneTightSaid : Prop := zoneTightRow.holds Try.pinned (OpenSpec.ofChange zoneTightSpec)

/-- ITS FALSE NEIGHBOUR: 'it returns false'. Refute it at one input. -/
def zoneTightWrong : ChangeSpec := { name := "zoneTight", fn := fun _ => fun
  | [d1, d2] => { results := [.lit (.bool false)], args := [d1, d2] }
  | _ => none }
def ZoneTightWrongFalsely : Prop := zoneTightRow.holds Try.pinned (OpenSpec.ofChange zoneTightWrong)

/-- 'massecuitelaw05.ZoneTurns': WHATEVER THE INPUT: true; the input reads as it did. -/
def zoneTurnsSpec : ChangeSpec := { name := "zoneTurns", fn := fun _ => fun
  | [d1, d2, d3] => { results := [.lit (.bool true)], args := [d1, d2, d3] }
  | _ => none }
def zoneTurnsRow : OpenClaim := { program := "ytjfpeiioddfjcaa", sum := "10b818ad81786e7c4b711ab01bb450caa0b1645757190628650ce6e4e11bd74e", func := "massecuite/massecuitelaw05.ZoneTurns", spec := "zoneTurns", unfollowed := true, recurses := true, plainKeys := false, apart := false }
def ZoneTurnsSaid : Prop := zoneTurnsRow.holds Try.pinned (OpenSpec.ofChange zoneTurnsSpec)

/-- ITS FALSE NEIGHBOUR: 'it returns false'. Refute it at one input. -/
def zoneTurnsWrong : ChangeSpec := { name := "zoneTurns", fn := fun _ => fun
  | [d1, d2, d3] => { results := [.lit (.bool false)], args := [d1, d2, d3] }
  | _ => none }
def ZoneTurnsWrongFalsely : Prop := zoneTurnsRow.holds Try.pinned (OpenSpec.ofChange zoneTurnsWrong)

/-- 'massecuitelaw05.ZonePoints': WHATEVER THE INPUT: true; the input reads as it did. -/
def zonePointsSpec : ChangeSpec := { name := "zonePoints", fn := fun _ => fun
  | [d1, d2, d3] => { results := [.lit (.bool true)], args := [d1, d2, d3] }
  | _ => none }
def zonePointsRow : OpenClaim := { program := "ytjfpeiioddfjcaa", sum := "10b818ad81786e7c4b711ab01bb450caa0b1645757190628650ce6e4e11bd74e", func := "massecuite/massecuitelaw05.ZonePoints", spec := "zonePoints", unfollowed := true, recurses := true, plainKeys := false, apart := false }
def ZonePointsSaid : Prop := zonePointsRow.holds Try.pinned (OpenSpec.ofChange zonePointsSpec)

/-- ITS FALSE NEIGHBOUR: 'it returns false'. Refute it at one input. -/
def zonePointsWrong : ChangeSpec := { name := "zonePoints", fn := fun _ => fun
  | [d1, d2, d3] => { results := [.lit (.bool false)], args := [d1, d2, d3] }
  | _ => none }
def ZonePointsWrongFalsely : Prop := zonePointsRow.holds Try.pinned (OpenSpec.ofChange zonePointsWrong)

/-- 'massecuitelaw05.ZoneEqual': WHATEVER THE INPUT: true; the input reads as it did. -/
def zoneEqualSpec : ChangeSpec := { name := "zoneEqual", fn := fun _ => fun
  | [d1, d2] => { results := [.lit (.bool true)], args := [d1, d2] }
  | _ => none }
def zoneEqualRow : OpenClaim := { program := "ytjfpeiioddfjcaa", sum := "10b818ad81786e7c4b711ab01bb450caa0b1645757190628650ce6e4e11bd74e", func := "massecuite/massecuitelaw05.ZoneEqual", spec := "zoneEqual", unfollowed := true, recurses := true, plainKeys := false, apart := false }
def ZoneEqualSaid : Prop := zoneEqualRow.holds Try.pinned (OpenSpec.ofChange zoneEqualSpec)

/-- ITS FALSE NEIGHBOUR: 'it returns false'. Refute it at one input. -/
def zoneEqualWrong : ChangeSpec := { name := "zoneEqual", fn := fun _ => fun
  | [d1, d2] => { results := [.lit (.bool false)], args := [d1, d2] }
  | _ => none }
def ZoneEqualWrongFalsely : Prop := zoneEqualRow.holds Try.pinned (OpenSpec.ofChange zoneEqualWrong)

/-- 'massecuitelaw05.ZoneProofs': WHATEVER THE INPUT: true; the input reads as it did. -/
def zoneProofsSpec : ChangeSpec := { name := "zoneProofs", fn := fun _ => fun
  | [d1, d2, d3] => { results := [.lit (.bool true)], args := [d1, d2, d3] }
  | _ => none }
def zoneProofsRow : OpenClaim := { program := "ytjfpeiioddfjcaa", sum := "10b818ad81786e7c4b711ab01bb450caa0b1645757190628650ce6e4e11bd74e", func := "massecuite/massecuitelaw05.ZoneProofs", spec := "zoneProofs", unfollowed := true, recurses := true, plainKeys := false, apart := false }
def ZoneProofsSaid : Prop := zoneProofsRow.holds Try.pinned (OpenSpec.ofChange zoneProofsSpec)

/-- ITS FALSE NEIGHBOUR: 'it returns false'. Refute it at one input. -/
def zoneProofsWrong : ChangeSpec := { name := "zoneProofs", fn := fun _ => fun
  | [d1, d2, d3] => { results := [.lit (.bool false)], args := [d1, d2, d3] }
  | _ => none }
def ZoneProofsWrongFalsely : Prop := zoneProofsRow.holds Try.pinned (OpenSpec.ofChange zoneProofsWrong)

/-- 'massecuitelaw05.ZoneMoves': WHATEVER THE INPUT: true; the input reads as it did. -/
def zoneMovesSpec : ChangeSpec := { name := "zoneMoves", fn := fun _ => fun
  | [d1, d2, d3, d4, d5] => { results := [.lit (.bool true)], args := [d1, d2, d3, d4, d5] }
  | _ => none }
def zoneMovesRow : OpenClaim := { program := "ytjfpeiioddfjcaa", sum := "10b818ad81786e7c4b711ab01bb450caa0b1645757190628650ce6e4e11bd74e", func := "massecuite/massecuitelaw05.ZoneMoves", spec := "zoneMoves", unfollowed := true, recurses := true, plainKeys := false, apart := false }
def ZoneMovesSaid : Prop := zoneMovesRow.holds Try.pinned (OpenSpec.ofChange zoneMovesSpec)

/-- ITS FALSE NEIGHBOUR: 'it returns false'. Refute it at one input. -/
def zoneMovesWrong : ChangeSpec := { name := "zoneMoves", fn := fun _ => fun
  | [d1, d2, d3, d4, d5] => { results := [.lit (.bool false)], args := [d1, d2, d3, d4, d5] }
  | _ => none }
def ZoneMovesWrongFalsely : Prop := zoneMovesRow.holds Try.pinned (OpenSpec.ofChange zoneMovesWrong)

/-- 'massecuitelaw05.ZoneReaches': WHATEVER THE INPUT: true; the input reads as it did. -/
def zoneReachesSpec : ChangeSpec := { name := "zoneReaches", fn := fun _ => fun
  | [d] => { results := [.lit (.bool true)], args := [d] }
  | _ => none }
def zoneReachesRow : OpenClaim := { program := "ytjfpeiioddfjcaa", sum := "10b818ad81786e7c4b711ab01bb450caa0b1645757190628650ce6e4e11bd74e", func := "massecuite/massecuitelaw05.ZoneReaches", spec := "zoneReaches", unfollowed := true, recurses := true, plainKeys := false, apart := false }
def ZoneReachesSaid : Prop := zoneReachesRow.holds Try.pinned (OpenSpec.ofChange zoneReachesSpec)

/-- ITS FALSE NEIGHBOUR: 'it returns false'. Refute it at one input. -/
def zoneReachesWrong : ChangeSpec := { name := "zoneReaches", fn := fun _ => fun
  | [d] => { results := [.lit (.bool false)], args := [d] }
  | _ => none }
def ZoneReachesWrongFalsely : Prop := zoneReachesRow.holds Try.pinned (OpenSpec.ofChange zoneReachesWrong)

/-- 'massecuitelaw05.ZoneWitnesses': WHATEVER THE INPUT: true; the input reads as it did. -/
def zoneWitnessesSpec : ChangeSpec := { name := "zoneWitnesses", fn := fun _ => fun
  | [d1, d2] => { results := [.lit (.bool true)], args := [d1, d2] }
  | _ => none }
def zoneWitnessesRow : OpenClaim := { program := "ytjfpeiioddfjcaa", sum := "10b818ad81786e7c4b711ab01bb450caa0b1645757190628650ce6e4e11bd74e", func := "massecuite/massecuitelaw05.ZoneWitnesses", spec := "zoneWitnesses", unfollowed := true, recurses := true, plainKeys := false, apart := false }
def ZoneWitnessesSaid : Prop := zoneWitnessesRow.holds Try.pinned (OpenSpec.ofChange zoneWitnessesSpec)

/-- ITS FALSE NEIGHBOUR: 'it returns false'. Refute it at one input. -/
def zoneWitnessesWrong : ChangeSpec := { name := "zoneWitnesses", fn := fun _ => fun
  | [d1, d2] => { results := [.lit (.bool false)], args := [d1, d2] }
  | _ => none }
def ZoneWitnessesWrongFalsely : Prop := zoneWitnessesRow.holds Try.pinned (OpenSpec.ofChange zoneWitnessesWrong)

/-- 'massecuitelaw05.ZoneRuns': WHATEVER THE INPUT: true; the input reads as it did. -/
def zoneRunsSpec : ChangeSpec := { name := "zoneRuns", fn := fun _ => fun
  | [d1, d2] => { results := [.lit (.bool true)], args := [d1, d2] }
  | _ => none }
def zoneRunsRow : OpenClaim := { program := "ytjfpeiioddfjcaa", sum := "10b818ad81786e7c4b711ab01bb450caa0b1645757190628650ce6e4e11bd74e", func := "massecuite/massecuitelaw05.ZoneRuns", spec := "zoneRuns", unfollowed := true, recurses := true, plainKeys := false, apart := false }
def ZoneRunsSaid : Prop := zoneRunsRow.holds Try.pinned (OpenSpec.ofChange zoneRunsSpec)

/-- ITS FALSE NEIGHBOUR: 'it returns false'. Refute it at one input. -/
def zoneRunsWrong : ChangeSpec := { name := "zoneRuns", fn := fun _ => fun
  | [d1, d2] => { results := [.lit (.bool false)], args := [d1, d2] }
  | _ => none }
def ZoneRunsWrongFalsely : Prop := zoneRunsRow.holds Try.pinned (OpenSpec.ofChange zoneRunsWrong)

/-- 'massecuitelaw05.ZoneShown': WHATEVER THE INPUT: true; the input reads as it did. -/
def zoneShownSpec : ChangeSpec := { name := "zoneShown", fn := fun _ => fun
  | [d1, d2, d3] => { results := [.lit (.bool true)], args := [d1, d2, d3] }
  | _ => none }
def zoneShownRow : OpenClaim := { program := "ytjfpeiioddfjcaa", sum := "10b818ad81786e7c4b711ab01bb450caa0b1645757190628650ce6e4e11bd74e", func := "massecuite/massecuitelaw05.ZoneShown", spec := "zoneShown", unfollowed := true, recurses := true, plainKeys := false, apart := false }
def ZoneShownSaid : Prop := zoneShownRow.holds Try.pinned (OpenSpec.ofChange zoneShownSpec)

/-- ITS FALSE NEIGHBOUR: 'it returns false'. Refute it at one input. -/
def zoneShownWrong : ChangeSpec := { name := "zoneShown", fn := fun _ => fun
  | [d1, d2, d3] => { results := [.lit (.bool false)], args := [d1, d2, d3] }
  | _ => none }
def ZoneShownWrongFalsely : Prop := zoneShownRow.holds Try.pinned (OpenSpec.ofChange zoneShownWrong)

/-- 'massecuitelaw05.ZoneTwice': WHATEVER THE INPUT: true; the input reads as it did. -/
def zoneTwiceSpec : ChangeSpec := { name := "zoneTwice", fn := fun _ => fun
  | [d1, d2, d3, d4] => { results := [.lit (.bool true)], args := [d1, d2, d3, d4] }
  | _ => none }
def zoneTwiceRow : OpenClaim := { program := "ytjfpeiioddfjcaa", sum := "10b818ad81786e7c4b711ab01bb450caa0b1645757190628650ce6e4e11bd74e", func := "massecuite/massecuitelaw05.ZoneTwice", spec := "zoneTwice", unfollowed := true, recurses := true, plainKeys := false, apart := false }
def ZoneTwiceSaid : Prop := zoneTwiceRow.holds Try.pinned (OpenSpec.ofChange zoneTwiceSpec)

/-- ITS FALSE NEIGHBOUR: 'it returns false'. Refute it at one input. -/
def zoneTwiceWrong : ChangeSpec := { name := "zoneTwice", fn := fun _ => fun
  | [d1, d2, d3, d4] => { results := [.lit (.bool false)], args := [d1, d2, d3, d4] }
  | _ => none }
def ZoneTwiceWrongFalsely : Prop := zoneTwiceRow.holds Try.pinned (OpenSpec.ofChange zoneTwiceWrong)

/-- 'massecuitelaw05.ZoneWithin': WHATEVER THE INPUT: true; the input reads as it did. -/
def zoneWithinSpec : ChangeSpec := { name := "zoneWithin", fn := fun _ => fun
  | [d1, d2] => { results := [.lit (.bool true)], args := [d1, d2] }
  | _ => none }
def zoneWithinRow : OpenClaim := { program := "ytjfpeiioddfjcaa", sum := "10b818ad81786e7c4b711ab01bb450caa0b1645757190628650ce6e4e11bd74e", func := "massecuite/massecuitelaw05.ZoneWithin", spec := "zoneWithin", unfollowed := true, recurses := true, plainKeys := false, apart := false }
def ZoneWithinSaid : Prop := zoneWithinRow.holds Try.pinned (OpenSpec.ofChange zoneWithinSpec)

/-- ITS FALSE NEIGHBOUR: 'it returns false'. Refute it at one input. -/
def zoneWithinWrong : ChangeSpec := { name := "zoneWithin", fn := fun _ => fun
  | [d1, d2] => { results := [.lit (.bool false)], args := [d1, d2] }
  | _ => none }
def ZoneWithinWrongFalsely : Prop := zoneWithinRow.holds Try.pinned (OpenSpec.ofChange zoneWithinWrong)

/- THE SECOND FORM. 'bulk': how many values and letters a reading holds, each counted each time it is reached (what is shared counts as often as it is met; a slice's spare places count too). A statement '..UptoSaid' is the law's where the arguments, and the package variables that the reading takes, are together of bulk at most 1048576: NARROWER than '..Said'. Prove '..Said' where nothing that the law and all that it calls make is longer than what came in: it says more and counts as full. Else prove '..UptoSaid'. A law counts once. -/
mutual
def uptoBulk {H : Type} : DataW H → Nat
  | .lit (.string bytes) => bytes.length + 1
  | .lit _ => 1
  | .nil => 1
  | .ptr d => uptoBulk d + 1
  | .slice elems spare => uptoBulkAll elems + uptoBulkAll spare + 1
  | .agg parts => uptoBulkAll parts + 1
  | .iface _ d => uptoBulk d + 1
  | .map entries => uptoBulkEntries entries + 1
  | .held _ => 1
def uptoBulkAll {H : Type} : List (DataW H) → Nat
  | [] => 0
  | d :: r => uptoBulk d + uptoBulkAll r
def uptoBulkEntries {H : Type} : List (Lit × DataW H) → Nat
  | [] => 0
  | x :: r => uptoBulkEntry x + uptoBulkEntries r
def uptoBulkEntry {H : Type} : Lit × DataW H → Nat
  | (.string bytes, d) => bytes.length + uptoBulk d + 1
  | (_, d) => uptoBulk d + 1
 end
def uptoSmall : (H : Type) → List (DataW H) → Bool := fun _ ds => decide (uptoBulkAll ds ≤ 1048576)
def OpenSpec.upto (s : _root_.Go.ChangeSpec) : _root_.Go.OpenSpec := { _root_.Go.OpenSpec.ofChange s with cond := some uptoSmall }

/-- 'massecuitelaw05.ZoneTight', WHERE WHAT IT READS IS OF BULK AT MOST 1048576: true; the input reads as it did. -/
def zoneTightUptoRow : OpenClaim := { program := "ytjfpeiioddfjcaa", sum := "10b818ad81786e7c4b711ab01bb450caa0b1645757190628650ce6e4e11bd74e", func := "massecuite/massecuitelaw05.ZoneTight", spec := "zoneTight", unfollowed := true, recurses := true, plainKeys := false, apart := false, narrowed := true }
def ZoneTightUptoSaid : Prop := zoneTightUptoRow.holds Try.pinned (OpenSpec.upto zoneTightSpec)

/-- 'massecuitelaw05.ZoneTurns', WHERE WHAT IT READS IS OF BULK AT MOST 1048576: true; the input reads as it did. -/
def zoneTurnsUptoRow : OpenClaim := { program := "ytjfpeiioddfjcaa", sum := "10b818ad81786e7c4b711ab01bb450caa0b1645757190628650ce6e4e11bd74e", func := "massecuite/massecuitelaw05.ZoneTurns", spec := "zoneTurns", unfollowed := true, recurses := true, plainKeys := false, apart := false, narrowed := true }
def ZoneTurnsUptoSaid : Prop := zoneTurnsUptoRow.holds Try.pinned (OpenSpec.upto zoneTurnsSpec)

/-- 'massecuitelaw05.ZonePoints', WHERE WHAT IT READS IS OF BULK AT MOST 1048576: true; the input reads as it did. -/
def zonePointsUptoRow : OpenClaim := { program := "ytjfpeiioddfjcaa", sum := "10b818ad81786e7c4b711ab01bb450caa0b1645757190628650ce6e4e11bd74e", func := "massecuite/massecuitelaw05.ZonePoints", spec := "zonePoints", unfollowed := true, recurses := true, plainKeys := false, apart := false, narrowed := true }
def ZonePointsUptoSaid : Prop := zonePointsUptoRow.holds Try.pinned (OpenSpec.upto zonePointsSpec)

/-- 'massecuitelaw05.ZoneEqual', WHERE WHAT IT READS IS OF BULK AT MOST 1048576: true; the input reads as it did. -/
def zoneEqualUptoRow : OpenClaim := { program := "ytjfpeiioddfjcaa", sum := "10b818ad81786e7c4b711ab01bb450caa0b1645757190628650ce6e4e11bd74e", func := "massecuite/massecuitelaw05.ZoneEqual", spec := "zoneEqual", unfollowed := true, recurses := true, plainKeys := false, apart := false, narrowed := true }
def ZoneEqualUptoSaid : Prop := zoneEqualUptoRow.holds Try.pinned (OpenSpec.upto zoneEqualSpec)

/-- 'massecuitelaw05.ZoneProofs', WHERE WHAT IT READS IS OF BULK AT MOST 1048576: true; the input reads as it did. -/
def zoneProofsUptoRow : OpenClaim := { program := "ytjfpeiioddfjcaa", sum := "10b818ad81786e7c4b711ab01bb450caa0b1645757190628650ce6e4e11bd74e", func := "massecuite/massecuitelaw05.ZoneProofs", spec := "zoneProofs", unfollowed := true, recurses := true, plainKeys := false, apart := false, narrowed := true }
def ZoneProofsUptoSaid : Prop := zoneProofsUptoRow.holds Try.pinned (OpenSpec.upto zoneProofsSpec)

/-- 'massecuitelaw05.ZoneMoves', WHERE WHAT IT READS IS OF BULK AT MOST 1048576: true; the input reads as it did. -/
def zoneMovesUptoRow : OpenClaim := { program := "ytjfpeiioddfjcaa", sum := "10b818ad81786e7c4b711ab01bb450caa0b1645757190628650ce6e4e11bd74e", func := "massecuite/massecuitelaw05.ZoneMoves", spec := "zoneMoves", unfollowed := true, recurses := true, plainKeys := false, apart := false, narrowed := true }
def ZoneMovesUptoSaid : Prop := zoneMovesUptoRow.holds Try.pinned (OpenSpec.upto zoneMovesSpec)

/-- 'massecuitelaw05.ZoneReaches', WHERE WHAT IT READS IS OF BULK AT MOST 1048576: true; the input reads as it did. -/
def zoneReachesUptoRow : OpenClaim := { program := "ytjfpeiioddfjcaa", sum := "10b818ad81786e7c4b711ab01bb450caa0b1645757190628650ce6e4e11bd74e", func := "massecuite/massecuitelaw05.ZoneReaches", spec := "zoneReaches", unfollowed := true, recurses := true, plainKeys := false, apart := false, narrowed := true }
def ZoneReachesUptoSaid : Prop := zoneReachesUptoRow.holds Try.pinned (OpenSpec.upto zoneReachesSpec)

/-- 'massecuitelaw05.ZoneWitnesses', WHERE WHAT IT READS IS OF BULK AT MOST 1048576: true; the input reads as it did. -/
def zoneWitnessesUptoRow : OpenClaim := { program := "ytjfpeiioddfjcaa", sum := "10b818ad81786e7c4b711ab01bb450caa0b1645757190628650ce6e4e11bd74e", func := "massecuite/massecuitelaw05.ZoneWitnesses", spec := "zoneWitnesses", unfollowed := true, recurses := true, plainKeys := false, apart := false, narrowed := true }
def ZoneWitnessesUptoSaid : Prop := zoneWitnessesUptoRow.holds Try.pinned (OpenSpec.upto zoneWitnessesSpec)

/-- 'massecuitelaw05.ZoneRuns', WHERE WHAT IT READS IS OF BULK AT MOST 1048576: true; the input reads as it did. -/
def zoneRunsUptoRow : OpenClaim := { program := "ytjfpeiioddfjcaa", sum := "10b818ad81786e7c4b711ab01bb450caa0b1645757190628650ce6e4e11bd74e", func := "massecuite/massecuitelaw05.ZoneRuns", spec := "zoneRuns", unfollowed := true, recurses := true, plainKeys := false, apart := false, narrowed := true }
def ZoneRunsUptoSaid : Prop := zoneRunsUptoRow.holds Try.pinned (OpenSpec.upto zoneRunsSpec)

/-- 'massecuitelaw05.ZoneShown', WHERE WHAT IT READS IS OF BULK AT MOST 1048576: true; the input reads as it did. -/
def zoneShownUptoRow : OpenClaim := { program := "ytjfpeiioddfjcaa", sum := "10b818ad81786e7c4b711ab01bb450caa0b1645757190628650ce6e4e11bd74e", func := "massecuite/massecuitelaw05.ZoneShown", spec := "zoneShown", unfollowed := true, recurses := true, plainKeys := false, apart := false, narrowed := true }
def ZoneShownUptoSaid : Prop := zoneShownUptoRow.holds Try.pinned (OpenSpec.upto zoneShownSpec)

/-- 'massecuitelaw05.ZoneTwice', WHERE WHAT IT READS IS OF BULK AT MOST 1048576: true; the input reads as it did. -/
def zoneTwiceUptoRow : OpenClaim := { program := "ytjfpeiioddfjcaa", sum := "10b818ad81786e7c4b711ab01bb450caa0b1645757190628650ce6e4e11bd74e", func := "massecuite/massecuitelaw05.ZoneTwice", spec := "zoneTwice", unfollowed := true, recurses := true, plainKeys := false, apart := false, narrowed := true }
def ZoneTwiceUptoSaid : Prop := zoneTwiceUptoRow.holds Try.pinned (OpenSpec.upto zoneTwiceSpec)

/-- 'massecuitelaw05.ZoneWithin', WHERE WHAT IT READS IS OF BULK AT MOST 1048576: true; the input reads as it did. -/
def zoneWithinUptoRow : OpenClaim := { program := "ytjfpeiioddfjcaa", sum := "10b818ad81786e7c4b711ab01bb450caa0b1645757190628650ce6e4e11bd74e", func := "massecuite/massecuitelaw05.ZoneWithin", spec := "zoneWithin", unfollowed := true, recurses := true, plainKeys := false, apart := false, narrowed := true }
def ZoneWithinUptoSaid : Prop := zoneWithinUptoRow.holds Try.pinned (OpenSpec.upto zoneWithinSpec)

end Rows
end Go.Proofs.Ytjfpeiioddfjcaa
