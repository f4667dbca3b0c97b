/-
  No cell of these rows narrows 'for every input' (looked for: loops, veiled, ifaces, maps, wideKeys, modest, calm, conditions, laid).
  DERIVED. THE GIVEN ROWS OF THIS SEAT. 15 by the template 'for every input the law returns true; each argument reads behind the call as it read before'; 0 by the template 'total and deterministic' (their statements: YtnfnjnaheckdbaaTotals.lean).
  GIVEN WITH THE SEED: the statements are not yours to turn. If you find one false, say at which input.
  Laid BY PROGRAM, IN A SANDBOX (cutbox-rows.mjs): the forced cells as the released guide's own fill.sh prints them over the translation 89852f2c55c81268… (all of the seat's roots in one cut). By AI agents, Wed Nov 11 2026. No macro, syntax, notation, axiom, sorry.
-/
import Derived.Test.YtnfnjnaheckdbaaChecked
import GoSem.Claim
import GoSem.ClaimJoined
import GoSem.ClaimMapViews
import Derived.JoinedTies
import Derived.KernelRfl
namespace Go.Proofs.Ytnfnjnaheckdbaa
/- THE CELL 'sum', in the pinned program and in every row, IS THE sha256 OF THE DUMP (.gsa) THAT YtnfnjnaheckdbaaProg.lean LOADS. Nothing in Lean hashes anything: it is a label: what it is worth is what the hold of that sum in a sandbox is worth. -/
noncomputable def Try.pinned : Pinned := { name := "ytnfnjnaheckdbaa", sum := "89852f2c55c81268e7a96543f3bb1845603dcee9ad89dcdc3b4761f6ad60d6db", checked := Try.checked }
namespace Rows
def none {H : Type} : Left H := { results := [], args := [] }

/-- 'massecuitelaw03.FlowRepeats': WHATEVER THE INPUT: true; the input reads as it did. -/
def flowRepeatsSpec : ChangeSpec := { name := "flowRepeats", fn := fun _ => fun
  | [d] => { results := [.lit (.bool true)], args := [d] }
  | _ => none }
def flowRepeatsRow : OpenClaim := { program := "ytnfnjnaheckdbaa", sum := "89852f2c55c81268e7a96543f3bb1845603dcee9ad89dcdc3b4761f6ad60d6db", func := "massecuite/massecuitelaw03.FlowRepeats", spec := "flowRepeats", plainKeys := false, apart := false }
def FlowRepeatsSaid : Prop := flowRepeatsRow.holds Try.pinned (OpenSpec.ofChange flowRepeatsSpec)

/-- ITS FALSE NEIGHBOUR: 'it returns false'. Refute it at one input. -/
def flowRepeatsWrong : ChangeSpec := { name := "flowRepeats", fn := fun _ => fun
  | [d] => { results := [.lit (.bool false)], args := [d] }
  | _ => none }
def FlowRepeatsWrongFalsely : Prop := flowRepeatsRow.holds Try.pinned (OpenSpec.ofChange flowRepeatsWrong)

/-- 'massecuitelaw03.FlowSchedules': WHATEVER THE INPUT: true; the input reads as it did. -/
def flowSchedulesSpec : ChangeSpec := { name := "flowSchedules", fn := fun _ => fun
  | [d1, d2] => { results := [.lit (.bool true)], args := [d1, d2] }
  | _ => none }
def flowSchedulesRow : OpenClaim := { program := "ytnfnjnaheckdbaa", sum := "89852f2c55c81268e7a96543f3bb1845603dcee9ad89dcdc3b4761f6ad60d6db", func := "massecuite/massecuitelaw03.FlowSchedules", spec := "flowSchedules", plainKeys := false, apart := false }
def FlowSchedulesSaid : Prop := flowSchedulesRow.holds Try.pinned (OpenSpec.ofChange flowSchedulesSpec)

/-- ITS FALSE NEIGHBOUR: 'it returns false'. Refute it at one input. -/
def flowSchedulesWrong : ChangeSpec := { name := "flowSchedules", fn := fun _ => fun
  | [d1, d2] => { results := [.lit (.bool false)], args := [d1, d2] }
  | _ => none }
def FlowSchedulesWrongFalsely : Prop := flowSchedulesRow.holds Try.pinned (OpenSpec.ofChange flowSchedulesWrong)

/-- 'massecuitelaw03.FlowLeast': WHATEVER THE INPUT: true; the input reads as it did. -/
def flowLeastSpec : ChangeSpec := { name := "flowLeast", fn := fun _ => fun
  | [d1, d2] => { results := [.lit (.bool true)], args := [d1, d2] }
  | _ => none }
def flowLeastRow : OpenClaim := { program := "ytnfnjnaheckdbaa", sum := "89852f2c55c81268e7a96543f3bb1845603dcee9ad89dcdc3b4761f6ad60d6db", func := "massecuite/massecuitelaw03.FlowLeast", spec := "flowLeast", plainKeys := false, apart := false }
def FlowLeastSaid : Prop := flowLeastRow.holds Try.pinned (OpenSpec.ofChange flowLeastSpec)

/-- ITS FALSE NEIGHBOUR: 'it returns false'. Refute it at one input. -/
def flowLeastWrong : ChangeSpec := { name := "flowLeast", fn := fun _ => fun
  | [d1, d2] => { results := [.lit (.bool false)], args := [d1, d2] }
  | _ => none }
def FlowLeastWrongFalsely : Prop := flowLeastRow.holds Try.pinned (OpenSpec.ofChange flowLeastWrong)

/-- 'massecuitelaw03.FlowExpands': WHATEVER THE INPUT: true; the input reads as it did. -/
def flowExpandsSpec : ChangeSpec := { name := "flowExpands", fn := fun _ => fun
  | [d] => { results := [.lit (.bool true)], args := [d] }
  | _ => none }
def flowExpandsRow : OpenClaim := { program := "ytnfnjnaheckdbaa", sum := "89852f2c55c81268e7a96543f3bb1845603dcee9ad89dcdc3b4761f6ad60d6db", func := "massecuite/massecuitelaw03.FlowExpands", spec := "flowExpands", unfollowed := true, recurses := true, plainKeys := false, apart := false }
def FlowExpandsSaid : Prop := flowExpandsRow.holds Try.pinned (OpenSpec.ofChange flowExpandsSpec)

/-- ITS FALSE NEIGHBOUR: 'it returns false'. Refute it at one input. -/
def flowExpandsWrong : ChangeSpec := { name := "flowExpands", fn := fun _ => fun
  | [d] => { results := [.lit (.bool false)], args := [d] }
  | _ => none }
def FlowExpandsWrongFalsely : Prop := flowExpandsRow.holds Try.pinned (OpenSpec.ofChange flowExpandsWrong)

/-- 'massecuitelaw03.FlowStarts': WHATEVER THE INPUT: true; the input reads as it did. -/
def flowStartsSpec : ChangeSpec := { name := "flowStarts", fn := fun _ => fun
  | [d1, d2, d3] => { results := [.lit (.bool true)], args := [d1, d2, d3] }
  | _ => none }
def flowStartsRow : OpenClaim := { program := "ytnfnjnaheckdbaa", sum := "89852f2c55c81268e7a96543f3bb1845603dcee9ad89dcdc3b4761f6ad60d6db", func := "massecuite/massecuitelaw03.FlowStarts", spec := "flowStarts", unfollowed := true, recurses := true, plainKeys := false, apart := false }
def FlowStartsSaid : Prop := flowStartsRow.holds Try.pinned (OpenSpec.ofChange flowStartsSpec)

/-- ITS FALSE NEIGHBOUR: 'it returns false'. Refute it at one input. -/
def flowStartsWrong : ChangeSpec := { name := "flowStarts", fn := fun _ => fun
  | [d1, d2, d3] => { results := [.lit (.bool false)], args := [d1, d2, d3] }
  | _ => none }
def FlowStartsWrongFalsely : Prop := flowStartsRow.holds Try.pinned (OpenSpec.ofChange flowStartsWrong)

/-- 'massecuitelaw03.FlowBalance': WHATEVER THE INPUT: true; the input reads as it did. -/
def flowBalanceSpec : ChangeSpec := { name := "flowBalance", fn := fun _ => fun
  | [d1, d2] => { results := [.lit (.bool true)], args := [d1, d2] }
  | _ => none }
def flowBalanceRow : OpenClaim := { program := "ytnfnjnaheckdbaa", sum := "89852f2c55c81268e7a96543f3bb1845603dcee9ad89dcdc3b4761f6ad60d6db", func := "massecuite/massecuitelaw03.FlowBalance", spec := "flowBalance", plainKeys := false, apart := false }
def FlowBalanceSaid : Prop := flowBalanceRow.holds Try.pinned (OpenSpec.ofChange flowBalanceSpec)

/-- ITS FALSE NEIGHBOUR: 'it returns false'. Refute it at one input. -/
def flowBalanceWrong : ChangeSpec := { name := "flowBalance", fn := fun _ => fun
  | [d1, d2] => { results := [.lit (.bool false)], args := [d1, d2] }
  | _ => none }
def FlowBalanceWrongFalsely : Prop := flowBalanceRow.holds Try.pinned (OpenSpec.ofChange flowBalanceWrong)

/-- 'massecuitelaw03.FlowAny': WHATEVER THE INPUT: true; the input reads as it did. -/
def flowAnySpec : ChangeSpec := { name := "flowAny", fn := fun _ => fun
  | [d1, d2] => { results := [.lit (.bool true)], args := [d1, d2] }
  | _ => none }
def flowAnyRow : OpenClaim := { program := "ytnfnjnaheckdbaa", sum := "89852f2c55c81268e7a96543f3bb1845603dcee9ad89dcdc3b4761f6ad60d6db", func := "massecuite/massecuitelaw03.FlowAny", spec := "flowAny", plainKeys := false, apart := false }
def FlowAnySaid : Prop := flowAnyRow.holds Try.pinned (OpenSpec.ofChange flowAnySpec)

/-- ITS FALSE NEIGHBOUR: 'it returns false'. Refute it at one input. -/
def flowAnyWrong : ChangeSpec := { name := "flowAny", fn := fun _ => fun
  | [d1, d2] => { results := [.lit (.bool false)], args := [d1, d2] }
  | _ => none }
def FlowAnyWrongFalsely : Prop := flowAnyRow.holds Try.pinned (OpenSpec.ofChange flowAnyWrong)

/-- 'massecuitelaw03.FlowBuffers': WHATEVER THE INPUT: true; the input reads as it did. -/
def flowBuffersSpec : ChangeSpec := { name := "flowBuffers", fn := fun _ => fun
  | [d1, d2, d3] => { results := [.lit (.bool true)], args := [d1, d2, d3] }
  | _ => none }
def flowBuffersRow : OpenClaim := { program := "ytnfnjnaheckdbaa", sum := "89852f2c55c81268e7a96543f3bb1845603dcee9ad89dcdc3b4761f6ad60d6db", func := "massecuite/massecuitelaw03.FlowBuffers", spec := "flowBuffers", plainKeys := false, apart := false }
def FlowBuffersSaid : Prop := flowBuffersRow.holds Try.pinned (OpenSpec.ofChange flowBuffersSpec)

/-- ITS FALSE NEIGHBOUR: 'it returns false'. Refute it at one input. -/
def flowBuffersWrong : ChangeSpec := { name := "flowBuffers", fn := fun _ => fun
  | [d1, d2, d3] => { results := [.lit (.bool false)], args := [d1, d2, d3] }
  | _ => none }
def FlowBuffersWrongFalsely : Prop := flowBuffersRow.holds Try.pinned (OpenSpec.ofChange flowBuffersWrong)

/-- 'massecuitelaw03.FlowScales': WHATEVER THE INPUT: true; the input reads as it did. -/
def flowScalesSpec : ChangeSpec := { name := "flowScales", fn := fun _ => fun
  | [d] => { results := [.lit (.bool true)], args := [d] }
  | _ => none }
def flowScalesRow : OpenClaim := { program := "ytnfnjnaheckdbaa", sum := "89852f2c55c81268e7a96543f3bb1845603dcee9ad89dcdc3b4761f6ad60d6db", func := "massecuite/massecuitelaw03.FlowScales", spec := "flowScales", plainKeys := false, apart := false }
def FlowScalesSaid : Prop := flowScalesRow.holds Try.pinned (OpenSpec.ofChange flowScalesSpec)

/-- ITS FALSE NEIGHBOUR: 'it returns false'. Refute it at one input. -/
def flowScalesWrong : ChangeSpec := { name := "flowScales", fn := fun _ => fun
  | [d] => { results := [.lit (.bool false)], args := [d] }
  | _ => none }
def FlowScalesWrongFalsely : Prop := flowScalesRow.holds Try.pinned (OpenSpec.ofChange flowScalesWrong)

/-- 'massecuitelaw03.FlowLater': WHATEVER THE INPUT: true; the input reads as it did. -/
def flowLaterSpec : ChangeSpec := { name := "flowLater", fn := fun _ => fun
  | [d1, d2, d3] => { results := [.lit (.bool true)], args := [d1, d2, d3] }
  | _ => none }
def flowLaterRow : OpenClaim := { program := "ytnfnjnaheckdbaa", sum := "89852f2c55c81268e7a96543f3bb1845603dcee9ad89dcdc3b4761f6ad60d6db", func := "massecuite/massecuitelaw03.FlowLater", spec := "flowLater", unfollowed := true, recurses := true, plainKeys := false, apart := false }
def FlowLaterSaid : Prop := flowLaterRow.holds Try.pinned (OpenSpec.ofChange flowLaterSpec)

/-- ITS FALSE NEIGHBOUR: 'it returns false'. Refute it at one input. -/
def flowLaterWrong : ChangeSpec := { name := "flowLater", fn := fun _ => fun
  | [d1, d2, d3] => { results := [.lit (.bool false)], args := [d1, d2, d3] }
  | _ => none }
def FlowLaterWrongFalsely : Prop := flowLaterRow.holds Try.pinned (OpenSpec.ofChange flowLaterWrong)

/-- 'massecuitelaw03.FlowDepends': WHATEVER THE INPUT: true; the input reads as it did. -/
def flowDependsSpec : ChangeSpec := { name := "flowDepends", fn := fun _ => fun
  | [d1, d2, d3] => { results := [.lit (.bool true)], args := [d1, d2, d3] }
  | _ => none }
def flowDependsRow : OpenClaim := { program := "ytnfnjnaheckdbaa", sum := "89852f2c55c81268e7a96543f3bb1845603dcee9ad89dcdc3b4761f6ad60d6db", func := "massecuite/massecuitelaw03.FlowDepends", spec := "flowDepends", unfollowed := true, recurses := true, plainKeys := false, apart := false }
def FlowDependsSaid : Prop := flowDependsRow.holds Try.pinned (OpenSpec.ofChange flowDependsSpec)

/-- ITS FALSE NEIGHBOUR: 'it returns false'. Refute it at one input. -/
def flowDependsWrong : ChangeSpec := { name := "flowDepends", fn := fun _ => fun
  | [d1, d2, d3] => { results := [.lit (.bool false)], args := [d1, d2, d3] }
  | _ => none }
def FlowDependsWrongFalsely : Prop := flowDependsRow.holds Try.pinned (OpenSpec.ofChange flowDependsWrong)

/-- 'massecuitelaw03.FlowStocks': WHATEVER THE INPUT: true; the input reads as it did. -/
def flowStocksSpec : ChangeSpec := { name := "flowStocks", fn := fun _ => fun
  | [d1, d2, d3, d4] => { results := [.lit (.bool true)], args := [d1, d2, d3, d4] }
  | _ => none }
def flowStocksRow : OpenClaim := { program := "ytnfnjnaheckdbaa", sum := "89852f2c55c81268e7a96543f3bb1845603dcee9ad89dcdc3b4761f6ad60d6db", func := "massecuite/massecuitelaw03.FlowStocks", spec := "flowStocks", unfollowed := true, recurses := true, plainKeys := false, apart := false }
def FlowStocksSaid : Prop := flowStocksRow.holds Try.pinned (OpenSpec.ofChange flowStocksSpec)

/-- ITS FALSE NEIGHBOUR: 'it returns false'. Refute it at one input. -/
def flowStocksWrong : ChangeSpec := { name := "flowStocks", fn := fun _ => fun
  | [d1, d2, d3, d4] => { results := [.lit (.bool false)], args := [d1, d2, d3, d4] }
  | _ => none }
def FlowStocksWrongFalsely : Prop := flowStocksRow.holds Try.pinned (OpenSpec.ofChange flowStocksWrong)

/-- 'massecuitelaw03.FlowSlower': WHATEVER THE INPUT: true; the input reads as it did. -/
def flowSlowerSpec : ChangeSpec := { name := "flowSlower", fn := fun _ => fun
  | [d1, d2, d3, d4] => { results := [.lit (.bool true)], args := [d1, d2, d3, d4] }
  | _ => none }
def flowSlowerRow : OpenClaim := { program := "ytnfnjnaheckdbaa", sum := "89852f2c55c81268e7a96543f3bb1845603dcee9ad89dcdc3b4761f6ad60d6db", func := "massecuite/massecuitelaw03.FlowSlower", spec := "flowSlower", unfollowed := true, recurses := true, plainKeys := false, apart := false }
def FlowSlowerSaid : Prop := flowSlowerRow.holds Try.pinned (OpenSpec.ofChange flowSlowerSpec)

/-- ITS FALSE NEIGHBOUR: 'it returns false'. Refute it at one input. -/
def flowSlowerWrong : ChangeSpec := { name := "flowSlower", fn := fun _ => fun
  | [d1, d2, d3, d4] => { results := [.lit (.bool false)], args := [d1, d2, d3, d4] }
  | _ => none }
def FlowSlowerWrongFalsely : Prop := flowSlowerRow.holds Try.pinned (OpenSpec.ofChange flowSlowerWrong)

/-- 'massecuitetop.TopRepetition': WHATEVER THE INPUT: true; the input reads as it did. -/
def topRepetitionSpec : ChangeSpec := { name := "topRepetition", fn := fun _ => fun
  | [d] => { results := [.lit (.bool true)], args := [d] }
  | _ => none }
def topRepetitionRow : OpenClaim := { program := "ytnfnjnaheckdbaa", sum := "89852f2c55c81268e7a96543f3bb1845603dcee9ad89dcdc3b4761f6ad60d6db", func := "massecuite/massecuitetop.TopRepetition", spec := "topRepetition", unfollowed := true, recurses := true, plainKeys := false, apart := false }
def TopRepetitionSaid : Prop := topRepetitionRow.holds Try.pinned (OpenSpec.ofChange topRepetitionSpec)

/-- ITS FALSE NEIGHBOUR: 'it returns false'. Refute it at one input. -/
def topRepetitionWrong : ChangeSpec := { name := "topRepetition", fn := fun _ => fun
  | [d] => { results := [.lit (.bool false)], args := [d] }
  | _ => none }
def TopRepetitionWrongFalsely : Prop := topRepetitionRow.holds Try.pinned (OpenSpec.ofChange topRepetitionWrong)

/-- 'massecuitetop.TopMarked': WHATEVER THE INPUT: true; the input reads as it did. -/
def topMarkedSpec : ChangeSpec := { name := "topMarked", fn := fun _ => fun
  | [d] => { results := [.lit (.bool true)], args := [d] }
  | _ => none }
def topMarkedRow : OpenClaim := { program := "ytnfnjnaheckdbaa", sum := "89852f2c55c81268e7a96543f3bb1845603dcee9ad89dcdc3b4761f6ad60d6db", func := "massecuite/massecuitetop.TopMarked", spec := "topMarked", plainKeys := false, apart := false }
def TopMarkedSaid : Prop := topMarkedRow.holds Try.pinned (OpenSpec.ofChange topMarkedSpec)

/-- ITS FALSE NEIGHBOUR: 'it returns false'. Refute it at one input. -/
def topMarkedWrong : ChangeSpec := { name := "topMarked", fn := fun _ => fun
  | [d] => { results := [.lit (.bool false)], args := [d] }
  | _ => none }
def TopMarkedWrongFalsely : Prop := topMarkedRow.holds Try.pinned (OpenSpec.ofChange topMarkedWrong)

/- THE SECOND FORM. 'bulk': how many values and letters a reading holds, each counted each time it is reached (what is shared counts as often as it is met; a slice's spare places count too). A statement '..UptoSaid' is the law's where the arguments, and the package variables that the reading takes, are together of bulk at most 1048576: NARROWER than '..Said'. Prove '..Said' where nothing that the law and all that it calls make is longer than what came in: it says more and counts as full. Else prove '..UptoSaid'. A law counts once. -/
mutual
def uptoBulk {H : Type} : DataW H → Nat
  | .lit (.string bytes) => bytes.length + 1
  | .lit _ => 1
  | .nil => 1
  | .ptr d => uptoBulk d + 1
  | .slice elems spare => uptoBulkAll elems + uptoBulkAll spare + 1
  | .agg parts => uptoBulkAll parts + 1
  | .iface _ d => uptoBulk d + 1
  | .map entries => uptoBulkEntries entries + 1
  | .held _ => 1
def uptoBulkAll {H : Type} : List (DataW H) → Nat
  | [] => 0
  | d :: r => uptoBulk d + uptoBulkAll r
def uptoBulkEntries {H : Type} : List (Lit × DataW H) → Nat
  | [] => 0
  | x :: r => uptoBulkEntry x + uptoBulkEntries r
def uptoBulkEntry {H : Type} : Lit × DataW H → Nat
  | (.string bytes, d) => bytes.length + uptoBulk d + 1
  | (_, d) => uptoBulk d + 1
 end
def uptoSmall : (H : Type) → List (DataW H) → Bool := fun _ ds => decide (uptoBulkAll ds ≤ 1048576)
def OpenSpec.upto (s : _root_.Go.ChangeSpec) : _root_.Go.OpenSpec := { _root_.Go.OpenSpec.ofChange s with cond := some uptoSmall }

/-- 'massecuitelaw03.FlowRepeats', WHERE WHAT IT READS IS OF BULK AT MOST 1048576: true; the input reads as it did. -/
def flowRepeatsUptoRow : OpenClaim := { program := "ytnfnjnaheckdbaa", sum := "89852f2c55c81268e7a96543f3bb1845603dcee9ad89dcdc3b4761f6ad60d6db", func := "massecuite/massecuitelaw03.FlowRepeats", spec := "flowRepeats", plainKeys := false, apart := false, narrowed := true }
def FlowRepeatsUptoSaid : Prop := flowRepeatsUptoRow.holds Try.pinned (OpenSpec.upto flowRepeatsSpec)

/-- 'massecuitelaw03.FlowSchedules', WHERE WHAT IT READS IS OF BULK AT MOST 1048576: true; the input reads as it did. -/
def flowSchedulesUptoRow : OpenClaim := { program := "ytnfnjnaheckdbaa", sum := "89852f2c55c81268e7a96543f3bb1845603dcee9ad89dcdc3b4761f6ad60d6db", func := "massecuite/massecuitelaw03.FlowSchedules", spec := "flowSchedules", plainKeys := false, apart := false, narrowed := true }
def FlowSchedulesUptoSaid : Prop := flowSchedulesUptoRow.holds Try.pinned (OpenSpec.upto flowSchedulesSpec)

/-- 'massecuitelaw03.FlowLeast', WHERE WHAT IT READS IS OF BULK AT MOST 1048576: true; the input reads as it did. -/
def flowLeastUptoRow : OpenClaim := { program := "ytnfnjnaheckdbaa", sum := "89852f2c55c81268e7a96543f3bb1845603dcee9ad89dcdc3b4761f6ad60d6db", func := "massecuite/massecuitelaw03.FlowLeast", spec := "flowLeast", plainKeys := false, apart := false, narrowed := true }
def FlowLeastUptoSaid : Prop := flowLeastUptoRow.holds Try.pinned (OpenSpec.upto flowLeastSpec)

/-- 'massecuitelaw03.FlowExpands', WHERE WHAT IT READS IS OF BULK AT MOST 1048576: true; the input reads as it did. -/
def flowExpandsUptoRow : OpenClaim := { program := "ytnfnjnaheckdbaa", sum := "89852f2c55c81268e7a96543f3bb1845603dcee9ad89dcdc3b4761f6ad60d6db", func := "massecuite/massecuitelaw03.FlowExpands", spec := "flowExpands", unfollowed := true, recurses := true, plainKeys := false, apart := false, narrowed := true }
def FlowExpandsUptoSaid : Prop := flowExpandsUptoRow.holds Try.pinned (OpenSpec.upto flowExpandsSpec)

/-- 'massecuitelaw03.FlowStarts', WHERE WHAT IT READS IS OF BULK AT MOST 1048576: true; the input reads as it did. -/
def flowStartsUptoRow : OpenClaim := { program := "ytnfnjnaheckdbaa", sum := "89852f2c55c81268e7a96543f3bb1845603dcee9ad89dcdc3b4761f6ad60d6db", func := "massecuite/massecuitelaw03.FlowStarts", spec := "flowStarts", unfollowed := true, recurses := true, plainKeys := false, apart := false, narrowed := true }
def FlowStartsUptoSaid : Prop := flowStartsUptoRow.holds Try.pinned (OpenSpec.upto flowStartsSpec)

/-- 'massecuitelaw03.FlowBalance', WHERE WHAT IT READS IS OF BULK AT MOST 1048576: true; the input reads as it did. -/
def flowBalanceUptoRow : OpenClaim := { program := "ytnfnjnaheckdbaa", sum := "89852f2c55c81268e7a96543f3bb1845603dcee9ad89dcdc3b4761f6ad60d6db", func := "massecuite/massecuitelaw03.FlowBalance", spec := "flowBalance", plainKeys := false, apart := false, narrowed := true }
def FlowBalanceUptoSaid : Prop := flowBalanceUptoRow.holds Try.pinned (OpenSpec.upto flowBalanceSpec)

/-- 'massecuitelaw03.FlowAny', WHERE WHAT IT READS IS OF BULK AT MOST 1048576: true; the input reads as it did. -/
def flowAnyUptoRow : OpenClaim := { program := "ytnfnjnaheckdbaa", sum := "89852f2c55c81268e7a96543f3bb1845603dcee9ad89dcdc3b4761f6ad60d6db", func := "massecuite/massecuitelaw03.FlowAny", spec := "flowAny", plainKeys := false, apart := false, narrowed := true }
def FlowAnyUptoSaid : Prop := flowAnyUptoRow.holds Try.pinned (OpenSpec.upto flowAnySpec)

/-- 'massecuitelaw03.FlowBuffers', WHERE WHAT IT READS IS OF BULK AT MOST 1048576: true; the input reads as it did. -/
def flowBuffersUptoRow : OpenClaim := { program := "ytnfnjnaheckdbaa", sum := "89852f2c55c81268e7a96543f3bb1845603dcee9ad89dcdc3b4761f6ad60d6db", func := "massecuite/massecuitelaw03.FlowBuffers", spec := "flowBuffers", plainKeys := false, apart := false, narrowed := true }
def FlowBuffersUptoSaid : Prop := flowBuffersUptoRow.holds Try.pinned (OpenSpec.upto flowBuffersSpec)

/-- 'massecuitelaw03.FlowScales', WHERE WHAT IT READS IS OF BULK AT MOST 1048576: true; the input reads as it did. -/
def flowScalesUptoRow : OpenClaim := { program := "ytnfnjnaheckdbaa", sum := "89852f2c55c81268e7a96543f3bb1845603dcee9ad89dcdc3b4761f6ad60d6db", func := "massecuite/massecuitelaw03.FlowScales", spec := "flowScales", plainKeys := false, apart := false, narrowed := true }
def FlowScalesUptoSaid : Prop := flowScalesUptoRow.holds Try.pinned (OpenSpec.upto flowScalesSpec)

/-- 'massecuitelaw03.FlowLater', WHERE WHAT IT READS IS OF BULK AT MOST 1048576: true; the input reads as it did. -/
def flowLaterUptoRow : OpenClaim := { program := "ytnfnjnaheckdbaa", sum := "89852f2c55c81268e7a96543f3bb1845603dcee9ad89dcdc3b4761f6ad60d6db", func := "massecuite/massecuitelaw03.FlowLater", spec := "flowLater", unfollowed := true, recurses := true, plainKeys := false, apart := false, narrowed := true }
def FlowLaterUptoSaid : Prop := flowLaterUptoRow.holds Try.pinned (OpenSpec.upto flowLaterSpec)

/-- 'massecuitelaw03.FlowDepends', WHERE WHAT IT READS IS OF BULK AT MOST 1048576: true; the input reads as it did. -/
def flowDependsUptoRow : OpenClaim := { program := "ytnfnjnaheckdbaa", sum := "89852f2c55c81268e7a96543f3bb1845603dcee9ad89dcdc3b4761f6ad60d6db", func := "massecuite/massecuitelaw03.FlowDepends", spec := "flowDepends", unfollowed := true, recurses := true, plainKeys := false, apart := false, narrowed := true }
def FlowDependsUptoSaid : Prop := flowDependsUptoRow.holds Try.pinned (OpenSpec.upto flowDependsSpec)

/-- 'massecuitelaw03.FlowStocks', WHERE WHAT IT READS IS OF BULK AT MOST 1048576: true; the input reads as it did. -/
def flowStocksUptoRow : OpenClaim := { program := "ytnfnjnaheckdbaa", sum := "89852f2c55c81268e7a96543f3bb1845603dcee9ad89dcdc3b4761f6ad60d6db", func := "massecuite/massecuitelaw03.FlowStocks", spec := "flowStocks", unfollowed := true, recurses := true, plainKeys := false, apart := false, narrowed := true }
def FlowStocksUptoSaid : Prop := flowStocksUptoRow.holds Try.pinned (OpenSpec.upto flowStocksSpec)

/-- 'massecuitelaw03.FlowSlower', WHERE WHAT IT READS IS OF BULK AT MOST 1048576: true; the input reads as it did. -/
def flowSlowerUptoRow : OpenClaim := { program := "ytnfnjnaheckdbaa", sum := "89852f2c55c81268e7a96543f3bb1845603dcee9ad89dcdc3b4761f6ad60d6db", func := "massecuite/massecuitelaw03.FlowSlower", spec := "flowSlower", unfollowed := true, recurses := true, plainKeys := false, apart := false, narrowed := true }
def FlowSlowerUptoSaid : Prop := flowSlowerUptoRow.holds Try.pinned (OpenSpec.upto flowSlowerSpec)

/-- 'massecuitetop.TopRepetition', WHERE WHAT IT READS IS OF BULK AT MOST 1048576: true; the input reads as it did. -/
def topRepetitionUptoRow : OpenClaim := { program := "ytnfnjnaheckdbaa", sum := "89852f2c55c81268e7a96543f3bb1845603dcee9ad89dcdc3b4761f6ad60d6db", func := "massecuite/massecuitetop.TopRepetition", spec := "topRepetition", unfollowed := true, recurses := true, plainKeys := false, apart := false, narrowed := true }
def TopRepetitionUptoSaid : Prop := topRepetitionUptoRow.holds Try.pinned (OpenSpec.upto topRepetitionSpec)

/-- 'massecuitetop.TopMarked', WHERE WHAT IT READS IS OF BULK AT MOST 1048576: true; the input reads as it did. -/
def topMarkedUptoRow : OpenClaim := { program := "ytnfnjnaheckdbaa", sum := "89852f2c55c81268e7a96543f3bb1845603dcee9ad89dcdc3b4761f6ad60d6db", func := "massecuite/massecuitetop.TopMarked", spec := "topMarked", plainKeys := false, apart := false, narrowed := true }
def TopMarkedUptoSaid : Prop := topMarkedUptoRow.holds Try.pinned (OpenSpec.upto topMarkedSpec)

end Rows
end Go.Proofs.Ytnfnjnaheckdbaa
