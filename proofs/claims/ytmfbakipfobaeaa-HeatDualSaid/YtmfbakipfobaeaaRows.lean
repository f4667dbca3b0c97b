/-
  No cell of these rows narrows 'for every input' (looked for: loops, veiled, ifaces, maps, wideKeys, modest, calm, conditions, laid).
  DERIVED. THE GIVEN ROWS OF THIS SEAT. 13 by the template 'for every input the law returns true; each argument reads behind the call as it read before'; 0 by the template 'total and deterministic' (their statements: YtmfbakipfobaeaaTotals.lean).
  GIVEN WITH THE SEED: the statements are not yours to turn. If you find one false, say at which input.
  Laid BY PROGRAM, IN A SANDBOX (cutbox-rows.mjs): the forced cells as the released guide's own fill.sh prints them over the translation 582db4c323fc8bd0… (all of the seat's roots in one cut). By AI agents, Wed Nov 11 2026. No macro, syntax, notation, axiom, sorry.
-/
import Derived.Test.YtmfbakipfobaeaaChecked
import GoSem.Claim
import GoSem.ClaimJoined
import GoSem.ClaimMapViews
import Derived.JoinedTies
import Derived.KernelRfl
namespace Go.Proofs.Ytmfbakipfobaeaa
/- THE CELL 'sum', in the pinned program and in every row, IS THE sha256 OF THE DUMP (.gsa) THAT YtmfbakipfobaeaaProg.lean LOADS. Nothing in Lean hashes anything: it is a label: what it is worth is what the hold of that sum in a sandbox is worth. -/
noncomputable def Try.pinned : Pinned := { name := "ytmfbakipfobaeaa", sum := "582db4c323fc8bd012384490ee3cce018fbe987890895d19f4fcf85def8040a9", checked := Try.checked }
namespace Rows
def none {H : Type} : Left H := { results := [], args := [] }

/-- 'massecuitelaw07.HeatCascades': WHATEVER THE INPUT: true; the input reads as it did. -/
def heatCascadesSpec : ChangeSpec := { name := "heatCascades", fn := fun _ => fun
  | [d1, d2, d3] => { results := [.lit (.bool true)], args := [d1, d2, d3] }
  | _ => none }
def heatCascadesRow : OpenClaim := { program := "ytmfbakipfobaeaa", sum := "582db4c323fc8bd012384490ee3cce018fbe987890895d19f4fcf85def8040a9", func := "massecuite/massecuitelaw07.HeatCascades", spec := "heatCascades", unfollowed := true, recurses := true, apart := false }
def HeatCascadesSaid : Prop := heatCascadesRow.holds Try.pinned (OpenSpec.ofChange heatCascadesSpec)

/-- ITS FALSE NEIGHBOUR: 'it returns false'. Refute it at one input. -/
def heatCascadesWrong : ChangeSpec := { name := "heatCascades", fn := fun _ => fun
  | [d1, d2, d3] => { results := [.lit (.bool false)], args := [d1, d2, d3] }
  | _ => none }
def HeatCascadesWrongFalsely : Prop := heatCascadesRow.holds Try.pinned (OpenSpec.ofChange heatCascadesWrong)

/-- 'massecuitelaw07.HeatUtilities': WHATEVER THE INPUT: true; the input reads as it did. -/
def heatUtilitiesSpec : ChangeSpec := { name := "heatUtilities", fn := fun _ => fun
  | [d1, d2] => { results := [.lit (.bool true)], args := [d1, d2] }
  | _ => none }
def heatUtilitiesRow : OpenClaim := { program := "ytmfbakipfobaeaa", sum := "582db4c323fc8bd012384490ee3cce018fbe987890895d19f4fcf85def8040a9", func := "massecuite/massecuitelaw07.HeatUtilities", spec := "heatUtilities", unfollowed := true, recurses := true, apart := false }
def HeatUtilitiesSaid : Prop := heatUtilitiesRow.holds Try.pinned (OpenSpec.ofChange heatUtilitiesSpec)

/-- ITS FALSE NEIGHBOUR: 'it returns false'. Refute it at one input. -/
def heatUtilitiesWrong : ChangeSpec := { name := "heatUtilities", fn := fun _ => fun
  | [d1, d2] => { results := [.lit (.bool false)], args := [d1, d2] }
  | _ => none }
def HeatUtilitiesWrongFalsely : Prop := heatUtilitiesRow.holds Try.pinned (OpenSpec.ofChange heatUtilitiesWrong)

/-- 'massecuitelaw07.HeatBounds': WHATEVER THE INPUT: true; the input reads as it did. -/
def heatBoundsSpec : ChangeSpec := { name := "heatBounds", fn := fun _ => fun
  | [d1, d2, d3] => { results := [.lit (.bool true)], args := [d1, d2, d3] }
  | _ => none }
def heatBoundsRow : OpenClaim := { program := "ytmfbakipfobaeaa", sum := "582db4c323fc8bd012384490ee3cce018fbe987890895d19f4fcf85def8040a9", func := "massecuite/massecuitelaw07.HeatBounds", spec := "heatBounds", unfollowed := true, recurses := true, apart := false }
def HeatBoundsSaid : Prop := heatBoundsRow.holds Try.pinned (OpenSpec.ofChange heatBoundsSpec)

/-- ITS FALSE NEIGHBOUR: 'it returns false'. Refute it at one input. -/
def heatBoundsWrong : ChangeSpec := { name := "heatBounds", fn := fun _ => fun
  | [d1, d2, d3] => { results := [.lit (.bool false)], args := [d1, d2, d3] }
  | _ => none }
def HeatBoundsWrongFalsely : Prop := heatBoundsRow.holds Try.pinned (OpenSpec.ofChange heatBoundsWrong)

/-- 'massecuitelaw07.HeatPlans': WHATEVER THE INPUT: true; the input reads as it did. -/
def heatPlansSpec : ChangeSpec := { name := "heatPlans", fn := fun _ => fun
  | [d1, d2] => { results := [.lit (.bool true)], args := [d1, d2] }
  | _ => none }
def heatPlansRow : OpenClaim := { program := "ytmfbakipfobaeaa", sum := "582db4c323fc8bd012384490ee3cce018fbe987890895d19f4fcf85def8040a9", func := "massecuite/massecuitelaw07.HeatPlans", spec := "heatPlans", unfollowed := true, recurses := true, apart := false }
def HeatPlansSaid : Prop := heatPlansRow.holds Try.pinned (OpenSpec.ofChange heatPlansSpec)

/-- ITS FALSE NEIGHBOUR: 'it returns false'. Refute it at one input. -/
def heatPlansWrong : ChangeSpec := { name := "heatPlans", fn := fun _ => fun
  | [d1, d2] => { results := [.lit (.bool false)], args := [d1, d2] }
  | _ => none }
def HeatPlansWrongFalsely : Prop := heatPlansRow.holds Try.pinned (OpenSpec.ofChange heatPlansWrong)

/-- 'massecuitelaw07.HeatChecks': WHATEVER THE INPUT: true; the input reads as it did. -/
def heatChecksSpec : ChangeSpec := { name := "heatChecks", fn := fun _ => fun
  | [d1, d2, d3] => { results := [.lit (.bool true)], args := [d1, d2, d3] }
  | _ => none }
def heatChecksRow : OpenClaim := { program := "ytmfbakipfobaeaa", sum := "582db4c323fc8bd012384490ee3cce018fbe987890895d19f4fcf85def8040a9", func := "massecuite/massecuitelaw07.HeatChecks", spec := "heatChecks", unfollowed := true, recurses := true, apart := false }
def HeatChecksSaid : Prop := heatChecksRow.holds Try.pinned (OpenSpec.ofChange heatChecksSpec)

/-- ITS FALSE NEIGHBOUR: 'it returns false'. Refute it at one input. -/
def heatChecksWrong : ChangeSpec := { name := "heatChecks", fn := fun _ => fun
  | [d1, d2, d3] => { results := [.lit (.bool false)], args := [d1, d2, d3] }
  | _ => none }
def HeatChecksWrongFalsely : Prop := heatChecksRow.holds Try.pinned (OpenSpec.ofChange heatChecksWrong)

/-- 'massecuitelaw07.HeatMatches': WHATEVER THE INPUT: true; the input reads as it did. -/
def heatMatchesSpec : ChangeSpec := { name := "heatMatches", fn := fun _ => fun
  | [d1, d2] => { results := [.lit (.bool true)], args := [d1, d2] }
  | _ => none }
def heatMatchesRow : OpenClaim := { program := "ytmfbakipfobaeaa", sum := "582db4c323fc8bd012384490ee3cce018fbe987890895d19f4fcf85def8040a9", func := "massecuite/massecuitelaw07.HeatMatches", spec := "heatMatches", unfollowed := true, recurses := true, apart := false }
def HeatMatchesSaid : Prop := heatMatchesRow.holds Try.pinned (OpenSpec.ofChange heatMatchesSpec)

/-- ITS FALSE NEIGHBOUR: 'it returns false'. Refute it at one input. -/
def heatMatchesWrong : ChangeSpec := { name := "heatMatches", fn := fun _ => fun
  | [d1, d2] => { results := [.lit (.bool false)], args := [d1, d2] }
  | _ => none }
def HeatMatchesWrongFalsely : Prop := heatMatchesRow.holds Try.pinned (OpenSpec.ofChange heatMatchesWrong)

/-- 'massecuitelaw07.HeatDual': WHATEVER THE INPUT: true; the input reads as it did. -/
def heatDualSpec : ChangeSpec := { name := "heatDual", fn := fun _ => fun
  | [d1, d2, d3, d4] => { results := [.lit (.bool true)], args := [d1, d2, d3, d4] }
  | _ => none }
def heatDualRow : OpenClaim := { program := "ytmfbakipfobaeaa", sum := "582db4c323fc8bd012384490ee3cce018fbe987890895d19f4fcf85def8040a9", func := "massecuite/massecuitelaw07.HeatDual", spec := "heatDual", unfollowed := true, recurses := true, apart := false }
def HeatDualSaid : Prop := heatDualRow.holds Try.pinned (OpenSpec.ofChange heatDualSpec)

/-- ITS FALSE NEIGHBOUR: 'it returns false'. Refute it at one input. -/
def heatDualWrong : ChangeSpec := { name := "heatDual", fn := fun _ => fun
  | [d1, d2, d3, d4] => { results := [.lit (.bool false)], args := [d1, d2, d3, d4] }
  | _ => none }
def HeatDualWrongFalsely : Prop := heatDualRow.holds Try.pinned (OpenSpec.ofChange heatDualWrong)

/-- 'massecuitelaw07.HeatBalance': WHATEVER THE INPUT: true; the input reads as it did. -/
def heatBalanceSpec : ChangeSpec := { name := "heatBalance", fn := fun _ => fun
  | [d1, d2] => { results := [.lit (.bool true)], args := [d1, d2] }
  | _ => none }
def heatBalanceRow : OpenClaim := { program := "ytmfbakipfobaeaa", sum := "582db4c323fc8bd012384490ee3cce018fbe987890895d19f4fcf85def8040a9", func := "massecuite/massecuitelaw07.HeatBalance", spec := "heatBalance", unfollowed := true, recurses := true, apart := false }
def HeatBalanceSaid : Prop := heatBalanceRow.holds Try.pinned (OpenSpec.ofChange heatBalanceSpec)

/-- ITS FALSE NEIGHBOUR: 'it returns false'. Refute it at one input. -/
def heatBalanceWrong : ChangeSpec := { name := "heatBalance", fn := fun _ => fun
  | [d1, d2] => { results := [.lit (.bool false)], args := [d1, d2] }
  | _ => none }
def HeatBalanceWrongFalsely : Prop := heatBalanceRow.holds Try.pinned (OpenSpec.ofChange heatBalanceWrong)

/-- 'massecuitelaw07.HeatPinch': WHATEVER THE INPUT: true; the input reads as it did. -/
def heatPinchSpec : ChangeSpec := { name := "heatPinch", fn := fun _ => fun
  | [d1, d2] => { results := [.lit (.bool true)], args := [d1, d2] }
  | _ => none }
def heatPinchRow : OpenClaim := { program := "ytmfbakipfobaeaa", sum := "582db4c323fc8bd012384490ee3cce018fbe987890895d19f4fcf85def8040a9", func := "massecuite/massecuitelaw07.HeatPinch", spec := "heatPinch", unfollowed := true, recurses := true, apart := false }
def HeatPinchSaid : Prop := heatPinchRow.holds Try.pinned (OpenSpec.ofChange heatPinchSpec)

/-- ITS FALSE NEIGHBOUR: 'it returns false'. Refute it at one input. -/
def heatPinchWrong : ChangeSpec := { name := "heatPinch", fn := fun _ => fun
  | [d1, d2] => { results := [.lit (.bool false)], args := [d1, d2] }
  | _ => none }
def HeatPinchWrongFalsely : Prop := heatPinchRow.holds Try.pinned (OpenSpec.ofChange heatPinchWrong)

/-- 'massecuitelaw07.HeatGap': WHATEVER THE INPUT: true; the input reads as it did. -/
def heatGapSpec : ChangeSpec := { name := "heatGap", fn := fun _ => fun
  | [d1, d2, d3] => { results := [.lit (.bool true)], args := [d1, d2, d3] }
  | _ => none }
def heatGapRow : OpenClaim := { program := "ytmfbakipfobaeaa", sum := "582db4c323fc8bd012384490ee3cce018fbe987890895d19f4fcf85def8040a9", func := "massecuite/massecuitelaw07.HeatGap", spec := "heatGap", unfollowed := true, recurses := true, apart := false }
def HeatGapSaid : Prop := heatGapRow.holds Try.pinned (OpenSpec.ofChange heatGapSpec)

/-- ITS FALSE NEIGHBOUR: 'it returns false'. Refute it at one input. -/
def heatGapWrong : ChangeSpec := { name := "heatGap", fn := fun _ => fun
  | [d1, d2, d3] => { results := [.lit (.bool false)], args := [d1, d2, d3] }
  | _ => none }
def HeatGapWrongFalsely : Prop := heatGapRow.holds Try.pinned (OpenSpec.ofChange heatGapWrong)

/-- 'massecuitelaw07.HeatParts': WHATEVER THE INPUT: true; the input reads as it did. -/
def heatPartsSpec : ChangeSpec := { name := "heatParts", fn := fun _ => fun
  | [d1, d2, d3] => { results := [.lit (.bool true)], args := [d1, d2, d3] }
  | _ => none }
def heatPartsRow : OpenClaim := { program := "ytmfbakipfobaeaa", sum := "582db4c323fc8bd012384490ee3cce018fbe987890895d19f4fcf85def8040a9", func := "massecuite/massecuitelaw07.HeatParts", spec := "heatParts", unfollowed := true, recurses := true, apart := false }
def HeatPartsSaid : Prop := heatPartsRow.holds Try.pinned (OpenSpec.ofChange heatPartsSpec)

/-- ITS FALSE NEIGHBOUR: 'it returns false'. Refute it at one input. -/
def heatPartsWrong : ChangeSpec := { name := "heatParts", fn := fun _ => fun
  | [d1, d2, d3] => { results := [.lit (.bool false)], args := [d1, d2, d3] }
  | _ => none }
def HeatPartsWrongFalsely : Prop := heatPartsRow.holds Try.pinned (OpenSpec.ofChange heatPartsWrong)

/-- 'massecuitelaw07.HeatSplits': WHATEVER THE INPUT: true; the input reads as it did. -/
def heatSplitsSpec : ChangeSpec := { name := "heatSplits", fn := fun _ => fun
  | [d1, d2, d3, d4] => { results := [.lit (.bool true)], args := [d1, d2, d3, d4] }
  | _ => none }
def heatSplitsRow : OpenClaim := { program := "ytmfbakipfobaeaa", sum := "582db4c323fc8bd012384490ee3cce018fbe987890895d19f4fcf85def8040a9", func := "massecuite/massecuitelaw07.HeatSplits", spec := "heatSplits", unfollowed := true, recurses := true, apart := false }
def HeatSplitsSaid : Prop := heatSplitsRow.holds Try.pinned (OpenSpec.ofChange heatSplitsSpec)

/-- ITS FALSE NEIGHBOUR: 'it returns false'. Refute it at one input. -/
def heatSplitsWrong : ChangeSpec := { name := "heatSplits", fn := fun _ => fun
  | [d1, d2, d3, d4] => { results := [.lit (.bool false)], args := [d1, d2, d3, d4] }
  | _ => none }
def HeatSplitsWrongFalsely : Prop := heatSplitsRow.holds Try.pinned (OpenSpec.ofChange heatSplitsWrong)

/-- 'massecuitelaw07.HeatMerges': WHATEVER THE INPUT: true; the input reads as it did. -/
def heatMergesSpec : ChangeSpec := { name := "heatMerges", fn := fun _ => fun
  | [d1, d2, d3, d4] => { results := [.lit (.bool true)], args := [d1, d2, d3, d4] }
  | _ => none }
def heatMergesRow : OpenClaim := { program := "ytmfbakipfobaeaa", sum := "582db4c323fc8bd012384490ee3cce018fbe987890895d19f4fcf85def8040a9", func := "massecuite/massecuitelaw07.HeatMerges", spec := "heatMerges", unfollowed := true, recurses := true, apart := false }
def HeatMergesSaid : Prop := heatMergesRow.holds Try.pinned (OpenSpec.ofChange heatMergesSpec)

/-- ITS FALSE NEIGHBOUR: 'it returns false'. Refute it at one input. -/
def heatMergesWrong : ChangeSpec := { name := "heatMerges", fn := fun _ => fun
  | [d1, d2, d3, d4] => { results := [.lit (.bool false)], args := [d1, d2, d3, d4] }
  | _ => none }
def HeatMergesWrongFalsely : Prop := heatMergesRow.holds Try.pinned (OpenSpec.ofChange heatMergesWrong)

/- THE SECOND FORM. 'bulk': how many values and letters a reading holds, each counted each time it is reached (what is shared counts as often as it is met; a slice's spare places count too). A statement '..UptoSaid' is the law's where the arguments, and the package variables that the reading takes, are together of bulk at most 1048576: NARROWER than '..Said'. Prove '..Said' where nothing that the law and all that it calls make is longer than what came in: it says more and counts as full. Else prove '..UptoSaid'. A law counts once. -/
mutual
def uptoBulk {H : Type} : DataW H → Nat
  | .lit (.string bytes) => bytes.length + 1
  | .lit _ => 1
  | .nil => 1
  | .ptr d => uptoBulk d + 1
  | .slice elems spare => uptoBulkAll elems + uptoBulkAll spare + 1
  | .agg parts => uptoBulkAll parts + 1
  | .iface _ d => uptoBulk d + 1
  | .map entries => uptoBulkEntries entries + 1
  | .held _ => 1
def uptoBulkAll {H : Type} : List (DataW H) → Nat
  | [] => 0
  | d :: r => uptoBulk d + uptoBulkAll r
def uptoBulkEntries {H : Type} : List (Lit × DataW H) → Nat
  | [] => 0
  | x :: r => uptoBulkEntry x + uptoBulkEntries r
def uptoBulkEntry {H : Type} : Lit × DataW H → Nat
  | (.string bytes, d) => bytes.length + uptoBulk d + 1
  | (_, d) => uptoBulk d + 1
 end
def uptoSmall : (H : Type) → List (DataW H) → Bool := fun _ ds => decide (uptoBulkAll ds ≤ 1048576)
def OpenSpec.upto (s : _root_.Go.ChangeSpec) : _root_.Go.OpenSpec := { _root_.Go.OpenSpec.ofChange s with cond := some uptoSmall }

/-- 'massecuitelaw07.HeatCascades', WHERE WHAT IT READS IS OF BULK AT MOST 1048576: true; the input reads as it did. -/
def heatCascadesUptoRow : OpenClaim := { program := "ytmfbakipfobaeaa", sum := "582db4c323fc8bd012384490ee3cce018fbe987890895d19f4fcf85def8040a9", func := "massecuite/massecuitelaw07.HeatCascades", spec := "heatCascades", unfollowed := true, recurses := true, apart := false, narrowed := true }
def HeatCascadesUptoSaid : Prop := heatCascadesUptoRow.holds Try.pinned (OpenSpec.upto heatCascadesSpec)

/-- 'massecuitelaw07.HeatUtilities', WHERE WHAT IT READS IS OF BULK AT MOST 1048576: true; the input reads as it did. -/
def heatUtilitiesUptoRow : OpenClaim := { program := "ytmfbakipfobaeaa", sum := "582db4c323fc8bd012384490ee3cce018fbe987890895d19f4fcf85def8040a9", func := "massecuite/massecuitelaw07.HeatUtilities", spec := "heatUtilities", unfollowed := true, recurses := true, apart := false, narrowed := true }
def HeatUtilitiesUptoSaid : Prop := heatUtilitiesUptoRow.holds Try.pinned (OpenSpec.upto heatUtilitiesSpec)

/-- 'massecuitelaw07.HeatBounds', WHERE WHAT IT READS IS OF BULK AT MOST 1048576: true; the input reads as it did. -/
def heatBoundsUptoRow : OpenClaim := { program := "ytmfbakipfobaeaa", sum := "582db4c323fc8bd012384490ee3cce018fbe987890895d19f4fcf85def8040a9", func := "massecuite/massecuitelaw07.HeatBounds", spec := "heatBounds", unfollowed := true, recurses := true, apart := false, narrowed := true }
def HeatBoundsUptoSaid : Prop := heatBoundsUptoRow.holds Try.pinned (OpenSpec.upto heatBoundsSpec)

/-- 'massecuitelaw07.HeatPlans', WHERE WHAT IT READS IS OF BULK AT MOST 1048576: true; the input reads as it did. -/
def heatPlansUptoRow : OpenClaim := { program := "ytmfbakipfobaeaa", sum := "582db4c323fc8bd012384490ee3cce018fbe987890895d19f4fcf85def8040a9", func := "massecuite/massecuitelaw07.HeatPlans", spec := "heatPlans", unfollowed := true, recurses := true, apart := false, narrowed := true }
def HeatPlansUptoSaid : Prop := heatPlansUptoRow.holds Try.pinned (OpenSpec.upto heatPlansSpec)

/-- 'massecuitelaw07.HeatChecks', WHERE WHAT IT READS IS OF BULK AT MOST 1048576: true; the input reads as it did. -/
def heatChecksUptoRow : OpenClaim := { program := "ytmfbakipfobaeaa", sum := "582db4c323fc8bd012384490ee3cce018fbe987890895d19f4fcf85def8040a9", func := "massecuite/massecuitelaw07.HeatChecks", spec := "heatChecks", unfollowed := true, recurses := true, apart := false, narrowed := true }
def HeatChecksUptoSaid : Prop := heatChecksUptoRow.holds Try.pinned (OpenSpec.upto heatChecksSpec)

/-- 'massecuitelaw07.HeatMatches', WHERE WHAT IT READS IS OF BULK AT MOST 1048576: true; the input reads as it did. -/
def heatMatchesUptoRow : OpenClaim := { program := "ytmfbakipfobaeaa", sum := "582db4c323fc8bd012384490ee3cce018fbe987890895d19f4fcf85def8040a9", func := "massecuite/massecuitelaw07.HeatMatches", spec := "heatMatches", unfollowed := true, recurses := true, apart := false, narrowed := true }
def HeatMatchesUptoSaid : Prop := heatMatchesUptoRow.holds Try.pinned (OpenSpec.upto heatMatchesSpec)

/-- 'massecuitelaw07.HeatDual', WHERE WHAT IT READS IS OF BULK AT MOST 1048576: true; the input reads as it did. -/
def heatDualUptoRow : OpenClaim := { program := "ytmfbakipfobaeaa", sum := "582db4c323fc8bd012384490ee3cce018fbe987890895d19f4fcf85def8040a9", func := "massecuite/massecuitelaw07.HeatDual", spec := "heatDual", unfollowed := true, recurses := true, apart := false, narrowed := true }
def HeatDualUptoSaid : Prop := heatDualUptoRow.holds Try.pinned (OpenSpec.upto heatDualSpec)

/-- 'massecuitelaw07.HeatBalance', WHERE WHAT IT READS IS OF BULK AT MOST 1048576: true; the input reads as it did. -/
def heatBalanceUptoRow : OpenClaim := { program := "ytmfbakipfobaeaa", sum := "582db4c323fc8bd012384490ee3cce018fbe987890895d19f4fcf85def8040a9", func := "massecuite/massecuitelaw07.HeatBalance", spec := "heatBalance", unfollowed := true, recurses := true, apart := false, narrowed := true }
def HeatBalanceUptoSaid : Prop := heatBalanceUptoRow.holds Try.pinned (OpenSpec.upto heatBalanceSpec)

/-- 'massecuitelaw07.HeatPinch', WHERE WHAT IT READS IS OF BULK AT MOST 1048576: true; the input reads as it did. -/
def heatPinchUptoRow : OpenClaim := { program := "ytmfbakipfobaeaa", sum := "582db4c323fc8bd012384490ee3cce018fbe987890895d19f4fcf85def8040a9", func := "massecuite/massecuitelaw07.HeatPinch", spec := "heatPinch", unfollowed := true, recurses := true, apart := false, narrowed := true }
def HeatPinchUptoSaid : Prop := heatPinchUptoRow.holds Try.pinned (OpenSpec.upto heatPinchSpec)

/-- 'massecuitelaw07.HeatGap', WHERE WHAT IT READS IS OF BULK AT MOST 1048576: true; the input reads as it did. -/
def heatGapUptoRow : OpenClaim := { program := "ytmfbakipfobaeaa", sum := "582db4c323fc8bd012384490ee3cce018fbe987890895d19f4fcf85def8040a9", func := "massecuite/massecuitelaw07.HeatGap", spec := "heatGap", unfollowed := true, recurses := true, apart := false, narrowed := true }
def HeatGapUptoSaid : Prop := heatGapUptoRow.holds Try.pinned (OpenSpec.upto heatGapSpec)

/-- 'massecuitelaw07.HeatParts', WHERE WHAT IT READS IS OF BULK AT MOST 1048576: true; the input reads as it did. -/
def heatPartsUptoRow : OpenClaim := { program := "ytmfbakipfobaeaa", sum := "582db4c323fc8bd012384490ee3cce018fbe987890895d19f4fcf85def8040a9", func := "massecuite/massecuitelaw07.HeatParts", spec := "heatParts", unfollowed := true, recurses := true, apart := false, narrowed := true }
def HeatPartsUptoSaid : Prop := heatPartsUptoRow.holds Try.pinned (OpenSpec.upto heatPartsSpec)

/-- 'massecuitelaw07.HeatSplits', WHERE WHAT IT READS IS OF BULK AT MOST 1048576: true; the input reads as it did. -/
def heatSplitsUptoRow : OpenClaim := { program := "ytmfbakipfobaeaa", sum := "582db4c323fc8bd012384490ee3cce018fbe987890895d19f4fcf85def8040a9", func := "massecuite/massecuitelaw07.HeatSplits", spec := "heatSplits", unfollowed := true, recurses := true, apart := false, narrowed := true }
def HeatSplitsUptoSaid : Prop := heatSplitsUptoRow.holds Try.pinned (OpenSpec.upto heatSplitsSpec)

/-- 'massecuitelaw07.HeatMerges', WHERE WHAT IT READS IS OF BULK AT MOST 1048576: true; the input reads as it did. -/
def heatMergesUptoRow : OpenClaim := { program := "ytmfbakipfobaeaa", sum := "582db4c323fc8bd012384490ee3cce018fbe987890895d19f4fcf85def8040a9", func := "massecuite/massecuitelaw07.HeatMerges", spec := "heatMerges", unfollowed := true, recurses := true, apart := false, narrowed := true }
def HeatMergesUptoSaid : Prop := heatMergesUptoRow.holds Try.pinned (OpenSpec.upto heatMergesSpec)

end Rows
end Go.Proofs.Ytmfbakipfobaeaa
