/-
  No cell of these rows narrows 'for every input' (looked for: loops, veiled, ifaces, maps, wideKeys, modest, calm, conditions, laid).
  DERIVED. THE GIVEN ROWS OF THIS SEAT. 12 by the template 'for every input the law returns true; each argument reads behind the call as it read before'; 0 by the template 'total and deterministic' (their statements: YtnhcippeejldiaaTotals.lean).
  GIVEN WITH THE SEED: the statements are not yours to turn. If you find one false, say at which input.
  Laid BY PROGRAM, IN A SANDBOX (cutbox-rows.mjs): the forced cells as the released guide's own fill.sh prints them over the translation c62fc303aa1c3261… (all of the seat's roots in one cut). By AI agents, Wed Nov 11 2026. No macro, syntax, notation, axiom, sorry.
-/
import Derived.Test.YtnhcippeejldiaaChecked
import GoSem.Claim
import GoSem.ClaimJoined
import GoSem.ClaimMapViews
import Derived.JoinedTies
import Derived.KernelRfl
namespace Go.Proofs.Ytnhcippeejldiaa
/- THE CELL 'sum', in the pinned program and in every row, IS THE sha256 OF THE DUMP (.gsa) THAT YtnhcippeejldiaaProg.lean LOADS. Nothing in Lean hashes anything: it is a label: what it is worth is what the hold of that sum in a sandbox is worth. -/
noncomputable def Try.pinned : Pinned := { name := "ytnhcippeejldiaa", sum := "c62fc303aa1c3261e50641ead5aea223a1b365d2f527c38214d36e22989a4469", checked := Try.checked }
namespace Rows
def none {H : Type} : Left H := { results := [], args := [] }

/-- 'massecuitelaw02.NetFires': WHATEVER THE INPUT: true; the input reads as it did. -/
def netFiresSpec : ChangeSpec := { name := "netFires", fn := fun _ => fun
  | [d1, d2, d3] => { results := [.lit (.bool true)], args := [d1, d2, d3] }
  | _ => none }
def netFiresRow : OpenClaim := { program := "ytnhcippeejldiaa", sum := "c62fc303aa1c3261e50641ead5aea223a1b365d2f527c38214d36e22989a4469", func := "massecuite/massecuitelaw02.NetFires", spec := "netFires", plainKeys := false, apart := false }
def NetFiresSaid : Prop := netFiresRow.holds Try.pinned (OpenSpec.ofChange netFiresSpec)

/-- ITS FALSE NEIGHBOUR: 'it returns false'. Refute it at one input. -/
def netFiresWrong : ChangeSpec := { name := "netFires", fn := fun _ => fun
  | [d1, d2, d3] => { results := [.lit (.bool false)], args := [d1, d2, d3] }
  | _ => none }
def NetFiresWrongFalsely : Prop := netFiresRow.holds Try.pinned (OpenSpec.ofChange netFiresWrong)

/-- 'massecuitelaw02.NetReaches': WHATEVER THE INPUT: true; the input reads as it did. -/
def netReachesSpec : ChangeSpec := { name := "netReaches", fn := fun _ => fun
  | [d] => { results := [.lit (.bool true)], args := [d] }
  | _ => none }
def netReachesRow : OpenClaim := { program := "ytnhcippeejldiaa", sum := "c62fc303aa1c3261e50641ead5aea223a1b365d2f527c38214d36e22989a4469", func := "massecuite/massecuitelaw02.NetReaches", spec := "netReaches", unfollowed := true, recurses := true, plainKeys := false, apart := false }
def NetReachesSaid : Prop := netReachesRow.holds Try.pinned (OpenSpec.ofChange netReachesSpec)

/-- ITS FALSE NEIGHBOUR: 'it returns false'. Refute it at one input. -/
def netReachesWrong : ChangeSpec := { name := "netReaches", fn := fun _ => fun
  | [d] => { results := [.lit (.bool false)], args := [d] }
  | _ => none }
def NetReachesWrongFalsely : Prop := netReachesRow.holds Try.pinned (OpenSpec.ofChange netReachesWrong)

/-- 'massecuitelaw02.NetWords': WHATEVER THE INPUT: true; the input reads as it did. -/
def netWordsSpec : ChangeSpec := { name := "netWords", fn := fun _ => fun
  | [d1, d2] => { results := [.lit (.bool true)], args := [d1, d2] }
  | _ => none }
def netWordsRow : OpenClaim := { program := "ytnhcippeejldiaa", sum := "c62fc303aa1c3261e50641ead5aea223a1b365d2f527c38214d36e22989a4469", func := "massecuite/massecuitelaw02.NetWords", spec := "netWords", unfollowed := true, recurses := true, plainKeys := false, apart := false }
def NetWordsSaid : Prop := netWordsRow.holds Try.pinned (OpenSpec.ofChange netWordsSpec)

/-- ITS FALSE NEIGHBOUR: 'it returns false'. Refute it at one input. -/
def netWordsWrong : ChangeSpec := { name := "netWords", fn := fun _ => fun
  | [d1, d2] => { results := [.lit (.bool false)], args := [d1, d2] }
  | _ => none }
def NetWordsWrongFalsely : Prop := netWordsRow.holds Try.pinned (OpenSpec.ofChange netWordsWrong)

/-- 'massecuitelaw02.NetCovers': WHATEVER THE INPUT: true; the input reads as it did. -/
def netCoversSpec : ChangeSpec := { name := "netCovers", fn := fun _ => fun
  | [d1, d2] => { results := [.lit (.bool true)], args := [d1, d2] }
  | _ => none }
def netCoversRow : OpenClaim := { program := "ytnhcippeejldiaa", sum := "c62fc303aa1c3261e50641ead5aea223a1b365d2f527c38214d36e22989a4469", func := "massecuite/massecuitelaw02.NetCovers", spec := "netCovers", unfollowed := true, recurses := true, plainKeys := false, apart := false }
def NetCoversSaid : Prop := netCoversRow.holds Try.pinned (OpenSpec.ofChange netCoversSpec)

/-- ITS FALSE NEIGHBOUR: 'it returns false'. Refute it at one input. -/
def netCoversWrong : ChangeSpec := { name := "netCovers", fn := fun _ => fun
  | [d1, d2] => { results := [.lit (.bool false)], args := [d1, d2] }
  | _ => none }
def NetCoversWrongFalsely : Prop := netCoversRow.holds Try.pinned (OpenSpec.ofChange netCoversWrong)

/-- 'massecuitelaw02.NetFlows': WHATEVER THE INPUT: true; the input reads as it did. -/
def netFlowsSpec : ChangeSpec := { name := "netFlows", fn := fun _ => fun
  | [d] => { results := [.lit (.bool true)], args := [d] }
  | _ => none }
def netFlowsRow : OpenClaim := { program := "ytnhcippeejldiaa", sum := "c62fc303aa1c3261e50641ead5aea223a1b365d2f527c38214d36e22989a4469", func := "massecuite/massecuitelaw02.NetFlows", spec := "netFlows", unfollowed := true, recurses := true, plainKeys := false, apart := false }
def NetFlowsSaid : Prop := netFlowsRow.holds Try.pinned (OpenSpec.ofChange netFlowsSpec)

/-- ITS FALSE NEIGHBOUR: 'it returns false'. Refute it at one input. -/
def netFlowsWrong : ChangeSpec := { name := "netFlows", fn := fun _ => fun
  | [d] => { results := [.lit (.bool false)], args := [d] }
  | _ => none }
def NetFlowsWrongFalsely : Prop := netFlowsRow.holds Try.pinned (OpenSpec.ofChange netFlowsWrong)

/-- 'massecuitelaw02.NetSiphons': WHATEVER THE INPUT: true; the input reads as it did. -/
def netSiphonsSpec : ChangeSpec := { name := "netSiphons", fn := fun _ => fun
  | [d1, d2] => { results := [.lit (.bool true)], args := [d1, d2] }
  | _ => none }
def netSiphonsRow : OpenClaim := { program := "ytnhcippeejldiaa", sum := "c62fc303aa1c3261e50641ead5aea223a1b365d2f527c38214d36e22989a4469", func := "massecuite/massecuitelaw02.NetSiphons", spec := "netSiphons", plainKeys := false, apart := false }
def NetSiphonsSaid : Prop := netSiphonsRow.holds Try.pinned (OpenSpec.ofChange netSiphonsSpec)

/-- ITS FALSE NEIGHBOUR: 'it returns false'. Refute it at one input. -/
def netSiphonsWrong : ChangeSpec := { name := "netSiphons", fn := fun _ => fun
  | [d1, d2] => { results := [.lit (.bool false)], args := [d1, d2] }
  | _ => none }
def NetSiphonsWrongFalsely : Prop := netSiphonsRow.holds Try.pinned (OpenSpec.ofChange netSiphonsWrong)

/-- 'massecuitelaw02.NetLives': WHATEVER THE INPUT: true; the input reads as it did. -/
def netLivesSpec : ChangeSpec := { name := "netLives", fn := fun _ => fun
  | [d] => { results := [.lit (.bool true)], args := [d] }
  | _ => none }
def netLivesRow : OpenClaim := { program := "ytnhcippeejldiaa", sum := "c62fc303aa1c3261e50641ead5aea223a1b365d2f527c38214d36e22989a4469", func := "massecuite/massecuitelaw02.NetLives", spec := "netLives", unfollowed := true, recurses := true, plainKeys := false, apart := false }
def NetLivesSaid : Prop := netLivesRow.holds Try.pinned (OpenSpec.ofChange netLivesSpec)

/-- ITS FALSE NEIGHBOUR: 'it returns false'. Refute it at one input. -/
def netLivesWrong : ChangeSpec := { name := "netLives", fn := fun _ => fun
  | [d] => { results := [.lit (.bool false)], args := [d] }
  | _ => none }
def NetLivesWrongFalsely : Prop := netLivesRow.holds Try.pinned (OpenSpec.ofChange netLivesWrong)

/-- 'massecuitelaw02.NetEquations': WHATEVER THE INPUT: true; the input reads as it did. -/
def netEquationsSpec : ChangeSpec := { name := "netEquations", fn := fun _ => fun
  | [d1, d2] => { results := [.lit (.bool true)], args := [d1, d2] }
  | _ => none }
def netEquationsRow : OpenClaim := { program := "ytnhcippeejldiaa", sum := "c62fc303aa1c3261e50641ead5aea223a1b365d2f527c38214d36e22989a4469", func := "massecuite/massecuitelaw02.NetEquations", spec := "netEquations", recurses := true, plainKeys := false, apart := false }
def NetEquationsSaid : Prop := netEquationsRow.holds Try.pinned (OpenSpec.ofChange netEquationsSpec)

/-- ITS FALSE NEIGHBOUR: 'it returns false'. Refute it at one input. -/
def netEquationsWrong : ChangeSpec := { name := "netEquations", fn := fun _ => fun
  | [d1, d2] => { results := [.lit (.bool false)], args := [d1, d2] }
  | _ => none }
def NetEquationsWrongFalsely : Prop := netEquationsRow.holds Try.pinned (OpenSpec.ofChange netEquationsWrong)

/-- 'massecuitelaw02.NetBounds': WHATEVER THE INPUT: true; the input reads as it did. -/
def netBoundsSpec : ChangeSpec := { name := "netBounds", fn := fun _ => fun
  | [d1, d2] => { results := [.lit (.bool true)], args := [d1, d2] }
  | _ => none }
def netBoundsRow : OpenClaim := { program := "ytnhcippeejldiaa", sum := "c62fc303aa1c3261e50641ead5aea223a1b365d2f527c38214d36e22989a4469", func := "massecuite/massecuitelaw02.NetBounds", spec := "netBounds", unfollowed := true, recurses := true, plainKeys := false, apart := false }
def NetBoundsSaid : Prop := netBoundsRow.holds Try.pinned (OpenSpec.ofChange netBoundsSpec)

/-- ITS FALSE NEIGHBOUR: 'it returns false'. Refute it at one input. -/
def netBoundsWrong : ChangeSpec := { name := "netBounds", fn := fun _ => fun
  | [d1, d2] => { results := [.lit (.bool false)], args := [d1, d2] }
  | _ => none }
def NetBoundsWrongFalsely : Prop := netBoundsRow.holds Try.pinned (OpenSpec.ofChange netBoundsWrong)

/-- 'massecuitelaw02.NetTight': WHATEVER THE INPUT: true; the input reads as it did. -/
def netTightSpec : ChangeSpec := { name := "netTight", fn := fun _ => fun
  | [d1, d2] => { results := [.lit (.bool true)], args := [d1, d2] }
  | _ => none }
def netTightRow : OpenClaim := { program := "ytnhcippeejldiaa", sum := "c62fc303aa1c3261e50641ead5aea223a1b365d2f527c38214d36e22989a4469", func := "massecuite/massecuitelaw02.NetTight", spec := "netTight", unfollowed := true, recurses := true, plainKeys := false, apart := false }
def NetTightSaid : Prop := netTightRow.holds Try.pinned (OpenSpec.ofChange netTightSpec)

/-- ITS FALSE NEIGHBOUR: 'it returns false'. Refute it at one input. -/
def netTightWrong : ChangeSpec := { name := "netTight", fn := fun _ => fun
  | [d1, d2] => { results := [.lit (.bool false)], args := [d1, d2] }
  | _ => none }
def NetTightWrongFalsely : Prop := netTightRow.holds Try.pinned (OpenSpec.ofChange netTightWrong)

/-- 'massecuitelaw02.NetConserves': WHATEVER THE INPUT: true; the input reads as it did. -/
def netConservesSpec : ChangeSpec := { name := "netConserves", fn := fun _ => fun
  | [d1, d2] => { results := [.lit (.bool true)], args := [d1, d2] }
  | _ => none }
def netConservesRow : OpenClaim := { program := "ytnhcippeejldiaa", sum := "c62fc303aa1c3261e50641ead5aea223a1b365d2f527c38214d36e22989a4469", func := "massecuite/massecuitelaw02.NetConserves", spec := "netConserves", unfollowed := true, recurses := true, plainKeys := false, apart := false }
def NetConservesSaid : Prop := netConservesRow.holds Try.pinned (OpenSpec.ofChange netConservesSpec)

/-- ITS FALSE NEIGHBOUR: 'it returns false'. Refute it at one input. -/
def netConservesWrong : ChangeSpec := { name := "netConserves", fn := fun _ => fun
  | [d1, d2] => { results := [.lit (.bool false)], args := [d1, d2] }
  | _ => none }
def NetConservesWrongFalsely : Prop := netConservesRow.holds Try.pinned (OpenSpec.ofChange netConservesWrong)

/-- 'massecuitelaw02.NetKeeps': WHATEVER THE INPUT: true; the input reads as it did. -/
def netKeepsSpec : ChangeSpec := { name := "netKeeps", fn := fun _ => fun
  | [d1, d2, d3] => { results := [.lit (.bool true)], args := [d1, d2, d3] }
  | _ => none }
def netKeepsRow : OpenClaim := { program := "ytnhcippeejldiaa", sum := "c62fc303aa1c3261e50641ead5aea223a1b365d2f527c38214d36e22989a4469", func := "massecuite/massecuitelaw02.NetKeeps", spec := "netKeeps", plainKeys := false, apart := false }
def NetKeepsSaid : Prop := netKeepsRow.holds Try.pinned (OpenSpec.ofChange netKeepsSpec)

/-- ITS FALSE NEIGHBOUR: 'it returns false'. Refute it at one input. -/
def netKeepsWrong : ChangeSpec := { name := "netKeeps", fn := fun _ => fun
  | [d1, d2, d3] => { results := [.lit (.bool false)], args := [d1, d2, d3] }
  | _ => none }
def NetKeepsWrongFalsely : Prop := netKeepsRow.holds Try.pinned (OpenSpec.ofChange netKeepsWrong)

/- THE SECOND FORM. 'bulk': how many values and letters a reading holds, each counted each time it is reached (what is shared counts as often as it is met; a slice's spare places count too). A statement '..UptoSaid' is the law's where the arguments, and the package variables that the reading takes, are together of bulk at most 1048576: NARROWER than '..Said'. Prove '..Said' where nothing that the law and all that it calls make is longer than what came in: it says more and counts as full. Else prove '..UptoSaid'. A law counts once. -/
mutual
def uptoBulk {H : Type} : DataW H → Nat
  | .lit (.string bytes) => bytes.length + 1
  | .lit _ => 1
  | .nil => 1
  | .ptr d => uptoBulk d + 1
  | .slice elems spare => uptoBulkAll elems + uptoBulkAll spare + 1
  | .agg parts => uptoBulkAll parts + 1
  | .iface _ d => uptoBulk d + 1
  | .map entries => uptoBulkEntries entries + 1
  | .held _ => 1
def uptoBulkAll {H : Type} : List (DataW H) → Nat
  | [] => 0
  | d :: r => uptoBulk d + uptoBulkAll r
def uptoBulkEntries {H : Type} : List (Lit × DataW H) → Nat
  | [] => 0
  | x :: r => uptoBulkEntry x + uptoBulkEntries r
def uptoBulkEntry {H : Type} : Lit × DataW H → Nat
  | (.string bytes, d) => bytes.length + uptoBulk d + 1
  | (_, d) => uptoBulk d + 1
 end
def uptoSmall : (H : Type) → List (DataW H) → Bool := fun _ ds => decide (uptoBulkAll ds ≤ 1048576)
def OpenSpec.upto (s : _root_.Go.ChangeSpec) : _root_.Go.OpenSpec := { _root_.Go.OpenSpec.ofChange s with cond := some uptoSmall }

/-- 'massecuitelaw02.NetFires', WHERE WHAT IT READS IS OF BULK AT MOST 1048576: true; the input reads as it did. -/
def netFiresUptoRow : OpenClaim := { program := "ytnhcippeejldiaa", sum := "c62fc303aa1c3261e50641ead5aea223a1b365d2f527c38214d36e22989a4469", func := "massecuite/massecuitelaw02.NetFires", spec := "netFires", plainKeys := false, apart := false, narrowed := true }
def NetFiresUptoSaid : Prop := netFiresUptoRow.holds Try.pinned (OpenSpec.upto netFiresSpec)

/-- 'massecuitelaw02.NetReaches', WHERE WHAT IT READS IS OF BULK AT MOST 1048576: true; the input reads as it did. -/
def netReachesUptoRow : OpenClaim := { program := "ytnhcippeejldiaa", sum := "c62fc303aa1c3261e50641ead5aea223a1b365d2f527c38214d36e22989a4469", func := "massecuite/massecuitelaw02.NetReaches", spec := "netReaches", unfollowed := true, recurses := true, plainKeys := false, apart := false, narrowed := true }
def NetReachesUptoSaid : Prop := netReachesUptoRow.holds Try.pinned (OpenSpec.upto netReachesSpec)

/-- 'massecuitelaw02.NetWords', WHERE WHAT IT READS IS OF BULK AT MOST 1048576: true; the input reads as it did. -/
def netWordsUptoRow : OpenClaim := { program := "ytnhcippeejldiaa", sum := "c62fc303aa1c3261e50641ead5aea223a1b365d2f527c38214d36e22989a4469", func := "massecuite/massecuitelaw02.NetWords", spec := "netWords", unfollowed := true, recurses := true, plainKeys := false, apart := false, narrowed := true }
def NetWordsUptoSaid : Prop := netWordsUptoRow.holds Try.pinned (OpenSpec.upto netWordsSpec)

/-- 'massecuitelaw02.NetCovers', WHERE WHAT IT READS IS OF BULK AT MOST 1048576: true; the input reads as it did. -/
def netCoversUptoRow : OpenClaim := { program := "ytnhcippeejldiaa", sum := "c62fc303aa1c3261e50641ead5aea223a1b365d2f527c38214d36e22989a4469", func := "massecuite/massecuitelaw02.NetCovers", spec := "netCovers", unfollowed := true, recurses := true, plainKeys := false, apart := false, narrowed := true }
def NetCoversUptoSaid : Prop := netCoversUptoRow.holds Try.pinned (OpenSpec.upto netCoversSpec)

/-- 'massecuitelaw02.NetFlows', WHERE WHAT IT READS IS OF BULK AT MOST 1048576: true; the input reads as it did. -/
def netFlowsUptoRow : OpenClaim := { program := "ytnhcippeejldiaa", sum := "c62fc303aa1c3261e50641ead5aea223a1b365d2f527c38214d36e22989a4469", func := "massecuite/massecuitelaw02.NetFlows", spec := "netFlows", unfollowed := true, recurses := true, plainKeys := false, apart := false, narrowed := true }
def NetFlowsUptoSaid : Prop := netFlowsUptoRow.holds Try.pinned (OpenSpec.upto netFlowsSpec)

/-- 'massecuitelaw02.NetSiphons', WHERE WHAT IT READS IS OF BULK AT MOST 1048576: true; the input reads as it did. -/
def netSiphonsUptoRow : OpenClaim := { program := "ytnhcippeejldiaa", sum := "c62fc303aa1c3261e50641ead5aea223a1b365d2f527c38214d36e22989a4469", func := "massecuite/massecuitelaw02.NetSiphons", spec := "netSiphons", plainKeys := false, apart := false, narrowed := true }
def NetSiphonsUptoSaid : Prop := netSiphonsUptoRow.holds Try.pinned (OpenSpec.upto netSiphonsSpec)

/-- 'massecuitelaw02.NetLives', WHERE WHAT IT READS IS OF BULK AT MOST 1048576: true; the input reads as it did. -/
def netLivesUptoRow : OpenClaim := { program := "ytnhcippeejldiaa", sum := "c62fc303aa1c3261e50641ead5aea223a1b365d2f527c38214d36e22989a4469", func := "massecuite/massecuitelaw02.NetLives", spec := "netLives", unfollowed := true, recurses := true, plainKeys := false, apart := false, narrowed := true }
def NetLivesUptoSaid : Prop := netLivesUptoRow.holds Try.pinned (OpenSpec.upto netLivesSpec)

/-- 'massecuitelaw02.NetEquations', WHERE WHAT IT READS IS OF BULK AT MOST 1048576: true; the input reads as it did. -/
def netEquationsUptoRow : OpenClaim := { program := "ytnhcippeejldiaa", sum := "c62fc303aa1c3261e50641ead5aea223a1b365d2f527c38214d36e22989a4469", func := "massecuite/massecuitelaw02.NetEquations", spec := "netEquations", recurses := true, plainKeys := false, apart := false, narrowed := true }
def NetEquationsUptoSaid : Prop := netEquationsUptoRow.holds Try.pinned (OpenSpec.upto netEquationsSpec)

/-- 'massecuitelaw02.NetBounds', WHERE WHAT IT READS IS OF BULK AT MOST 1048576: true; the input reads as it did. -/
def netBoundsUptoRow : OpenClaim := { program := "ytnhcippeejldiaa", sum := "c62fc303aa1c3261e50641ead5aea223a1b365d2f527c38214d36e22989a4469", func := "massecuite/massecuitelaw02.NetBounds", spec := "netBounds", unfollowed := true, recurses := true, plainKeys := false, apart := false, narrowed := true }
def NetBoundsUptoSaid : Prop := netBoundsUptoRow.holds Try.pinned (OpenSpec.upto netBoundsSpec)

/-- 'massecuitelaw02.NetTight', WHERE WHAT IT READS IS OF BULK AT MOST 1048576: true; the input reads as it did. -/
def netTightUptoRow : OpenClaim := { program := "ytnhcippeejldiaa", sum := "c62fc303aa1c3261e50641ead5aea223a1b365d2f527c38214d36e22989a4469", func := "massecuite/massecuitelaw02.NetTight", spec := "netTight", unfollowed := true, recurses := true, plainKeys := false, apart := false, narrowed := true }
def NetTightUptoSaid : Prop := netTightUptoRow.holds Try.pinned (OpenSpec.upto netTightSpec)

/-- 'massecuitelaw02.NetConserves', WHERE WHAT IT READS IS OF BULK AT MOST 1048576: true; the input reads as it did. -/
def netConservesUptoRow : OpenClaim := { program := "ytnhcippeejldiaa", sum := "c62fc303aa1c3261e50641ead5aea223a1b365d2f527c38214d36e22989a4469", func := "massecuite/massecuitelaw02.NetConserves", spec := "netConserves", unfollowed := true, recurses := true, plainKeys := false, apart := false, narrowed := true }
def NetConservesUptoSaid : Prop := netConservesUptoRow.holds Try.pinned (OpenSpec.upto netConservesSpec)

/-- 'massecuitelaw02.NetKeeps', WHERE WHAT IT READS IS OF BULK AT MOST 1048576: true; the input reads as it did. -/
def netKeepsUptoRow : OpenClaim := { program := "ytnhcippeejldiaa", sum := "c62fc303aa1c3261e50641ead5aea223a1b365d2f527c38214d36e22989a4469", func := "massecuite/massecuitelaw02.NetKeeps", spec := "netKeeps", plainKeys := false, apart := false, narrowed := true }
def NetKeepsUptoSaid : Prop := netKeepsUptoRow.holds Try.pinned (OpenSpec.upto netKeepsSpec)

end Rows
end Go.Proofs.Ytnhcippeejldiaa
