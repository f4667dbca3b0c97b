/-
  NARROWER THAN 'FOR EVERY INPUT', by the rows' own cells (each row's printed sentence says how): BatchChecks: loops · BatchRefuted: loops.
  DERIVED. THE GIVEN ROWS OF THIS SEAT. 13 by the template 'for every input the law returns true; each argument reads behind the call as it read before'; 0 by the template 'total and deterministic' (their statements: YtdilkpcnkhedlaaTotals.lean).
  GIVEN WITH THE SEED: the statements are not yours to turn. If you find one false, say at which input.
  Laid BY PROGRAM, IN A SANDBOX (cutbox-rows.mjs): the forced cells as the released guide's own fill.sh prints them over the translation 397c2b36ea6e122a… (all of the seat's roots in one cut). By AI agents, Wed Nov 11 2026. No macro, syntax, notation, axiom, sorry.
-/
import Derived.Test.YtdilkpcnkhedlaaChecked
import GoSem.Claim
import GoSem.ClaimJoined
import GoSem.ClaimMapViews
import Derived.JoinedTies
import Derived.KernelRfl
namespace Go.Proofs.Ytdilkpcnkhedlaa
/- THE CELL 'sum', in the pinned program and in every row, IS THE sha256 OF THE DUMP (.gsa) THAT YtdilkpcnkhedlaaProg.lean LOADS. Nothing in Lean hashes anything: it is a label: what it is worth is what the hold of that sum in a sandbox is worth. -/
noncomputable def Try.pinned : Pinned := { name := "ytdilkpcnkhedlaa", sum := "397c2b36ea6e122acf013a7d3ba90abb43fbf701a8d1b52693d1cf51c7b2ac93", checked := Try.checked }
namespace Rows
def none {H : Type} : Left H := { results := [], args := [] }

/-- 'massecuitelaw08.BatchStarts': WHATEVER THE INPUT: true; the input reads as it did. -/
def batchStartsSpec : ChangeSpec := { name := "batchStarts", fn := fun _ => fun
  | [d1, d2] => { results := [.lit (.bool true)], args := [d1, d2] }
  | _ => none }
def batchStartsRow : OpenClaim := { program := "ytdilkpcnkhedlaa", sum := "397c2b36ea6e122acf013a7d3ba90abb43fbf701a8d1b52693d1cf51c7b2ac93", func := "massecuite/massecuitelaw08.BatchStarts", spec := "batchStarts", unfollowed := true, recurses := true, apart := false }
def BatchStartsSaid : Prop := batchStartsRow.holds Try.pinned (OpenSpec.ofChange batchStartsSpec)

/-- ITS FALSE NEIGHBOUR: 'it returns false'. Refute it at one input. -/
def batchStartsWrong : ChangeSpec := { name := "batchStarts", fn := fun _ => fun
  | [d1, d2] => { results := [.lit (.bool false)], args := [d1, d2] }
  | _ => none }
def BatchStartsWrongFalsely : Prop := batchStartsRow.holds Try.pinned (OpenSpec.ofChange batchStartsWrong)

/-- 'massecuitelaw08.BatchBest': WHATEVER THE INPUT: true; the input reads as it did. -/
def batchBestSpec : ChangeSpec := { name := "batchBest", fn := fun _ => fun
  | [d] => { results := [.lit (.bool true)], args := [d] }
  | _ => none }
def batchBestRow : OpenClaim := { program := "ytdilkpcnkhedlaa", sum := "397c2b36ea6e122acf013a7d3ba90abb43fbf701a8d1b52693d1cf51c7b2ac93", func := "massecuite/massecuitelaw08.BatchBest", spec := "batchBest", unfollowed := true, recurses := true, apart := false }
def BatchBestSaid : Prop := batchBestRow.holds Try.pinned (OpenSpec.ofChange batchBestSpec)

/-- ITS FALSE NEIGHBOUR: 'it returns false'. Refute it at one input. -/
def batchBestWrong : ChangeSpec := { name := "batchBest", fn := fun _ => fun
  | [d] => { results := [.lit (.bool false)], args := [d] }
  | _ => none }
def BatchBestWrongFalsely : Prop := batchBestRow.holds Try.pinned (OpenSpec.ofChange batchBestWrong)

/-- 'massecuitelaw08.BatchJackson': WHATEVER THE INPUT: true; the input reads as it did. -/
def batchJacksonSpec : ChangeSpec := { name := "batchJackson", fn := fun _ => fun
  | [d1, d2, d3] => { results := [.lit (.bool true)], args := [d1, d2, d3] }
  | _ => none }
def batchJacksonRow : OpenClaim := { program := "ytdilkpcnkhedlaa", sum := "397c2b36ea6e122acf013a7d3ba90abb43fbf701a8d1b52693d1cf51c7b2ac93", func := "massecuite/massecuitelaw08.BatchJackson", spec := "batchJackson", unfollowed := true, recurses := true, apart := false }
def BatchJacksonSaid : Prop := batchJacksonRow.holds Try.pinned (OpenSpec.ofChange batchJacksonSpec)

/-- ITS FALSE NEIGHBOUR: 'it returns false'. Refute it at one input. -/
def batchJacksonWrong : ChangeSpec := { name := "batchJackson", fn := fun _ => fun
  | [d1, d2, d3] => { results := [.lit (.bool false)], args := [d1, d2, d3] }
  | _ => none }
def BatchJacksonWrongFalsely : Prop := batchJacksonRow.holds Try.pinned (OpenSpec.ofChange batchJacksonWrong)

/-- 'massecuitelaw08.BatchProves': WHATEVER THE INPUT: true; the input reads as it did. -/
def batchProvesSpec : ChangeSpec := { name := "batchProves", fn := fun _ => fun
  | [d1, d2] => { results := [.lit (.bool true)], args := [d1, d2] }
  | _ => none }
def batchProvesRow : OpenClaim := { program := "ytdilkpcnkhedlaa", sum := "397c2b36ea6e122acf013a7d3ba90abb43fbf701a8d1b52693d1cf51c7b2ac93", func := "massecuite/massecuitelaw08.BatchProves", spec := "batchProves", unfollowed := true, recurses := true, apart := false }
def BatchProvesSaid : Prop := batchProvesRow.holds Try.pinned (OpenSpec.ofChange batchProvesSpec)

/-- ITS FALSE NEIGHBOUR: 'it returns false'. Refute it at one input. -/
def batchProvesWrong : ChangeSpec := { name := "batchProves", fn := fun _ => fun
  | [d1, d2] => { results := [.lit (.bool false)], args := [d1, d2] }
  | _ => none }
def BatchProvesWrongFalsely : Prop := batchProvesRow.holds Try.pinned (OpenSpec.ofChange batchProvesWrong)

/-- 'massecuitelaw08.BatchChecks': WHATEVER THE INPUT: true; the input reads as it did. -/
def batchChecksSpec : ChangeSpec := { name := "batchChecks", fn := fun _ => fun
  | [d1, d2, d3] => { results := [.lit (.bool true)], args := [d1, d2, d3] }
  | _ => none }
def batchChecksRow : OpenClaim := { program := "ytdilkpcnkhedlaa", sum := "397c2b36ea6e122acf013a7d3ba90abb43fbf701a8d1b52693d1cf51c7b2ac93", func := "massecuite/massecuitelaw08.BatchChecks", spec := "batchChecks", unfollowed := true, recurses := true, loops := true, apart := false }
def BatchChecksSaid : Prop := batchChecksRow.holds Try.pinned (OpenSpec.ofChange batchChecksSpec)

/-- ITS FALSE NEIGHBOUR: 'it returns false'. Refute it at one input. -/
def batchChecksWrong : ChangeSpec := { name := "batchChecks", fn := fun _ => fun
  | [d1, d2, d3] => { results := [.lit (.bool false)], args := [d1, d2, d3] }
  | _ => none }
def BatchChecksWrongFalsely : Prop := batchChecksRow.holds Try.pinned (OpenSpec.ofChange batchChecksWrong)

/-- 'massecuitelaw08.BatchLeast': WHATEVER THE INPUT: true; the input reads as it did. -/
def batchLeastSpec : ChangeSpec := { name := "batchLeast", fn := fun _ => fun
  | [d1, d2] => { results := [.lit (.bool true)], args := [d1, d2] }
  | _ => none }
def batchLeastRow : OpenClaim := { program := "ytdilkpcnkhedlaa", sum := "397c2b36ea6e122acf013a7d3ba90abb43fbf701a8d1b52693d1cf51c7b2ac93", func := "massecuite/massecuitelaw08.BatchLeast", spec := "batchLeast", unfollowed := true, recurses := true, apart := false }
def BatchLeastSaid : Prop := batchLeastRow.holds Try.pinned (OpenSpec.ofChange batchLeastSpec)

/-- ITS FALSE NEIGHBOUR: 'it returns false'. Refute it at one input. -/
def batchLeastWrong : ChangeSpec := { name := "batchLeast", fn := fun _ => fun
  | [d1, d2] => { results := [.lit (.bool false)], args := [d1, d2] }
  | _ => none }
def BatchLeastWrongFalsely : Prop := batchLeastRow.holds Try.pinned (OpenSpec.ofChange batchLeastWrong)

/-- 'massecuitelaw08.BatchRefuted': WHATEVER THE INPUT: true; the input reads as it did. -/
def batchRefutedSpec : ChangeSpec := { name := "batchRefuted", fn := fun _ => fun
  | [d1, d2, d3] => { results := [.lit (.bool true)], args := [d1, d2, d3] }
  | _ => none }
def batchRefutedRow : OpenClaim := { program := "ytdilkpcnkhedlaa", sum := "397c2b36ea6e122acf013a7d3ba90abb43fbf701a8d1b52693d1cf51c7b2ac93", func := "massecuite/massecuitelaw08.BatchRefuted", spec := "batchRefuted", unfollowed := true, recurses := true, loops := true, apart := false }
def BatchRefutedSaid : Prop := batchRefutedRow.holds Try.pinned (OpenSpec.ofChange batchRefutedSpec)

/-- ITS FALSE NEIGHBOUR: 'it returns false'. Refute it at one input. -/
def batchRefutedWrong : ChangeSpec := { name := "batchRefuted", fn := fun _ => fun
  | [d1, d2, d3] => { results := [.lit (.bool false)], args := [d1, d2, d3] }
  | _ => none }
def BatchRefutedWrongFalsely : Prop := batchRefutedRow.holds Try.pinned (OpenSpec.ofChange batchRefutedWrong)

/-- 'massecuitelaw08.BatchOne': WHATEVER THE INPUT: true; the input reads as it did. -/
def batchOneSpec : ChangeSpec := { name := "batchOne", fn := fun _ => fun
  | [d1, d2, d3, d4] => { results := [.lit (.bool true)], args := [d1, d2, d3, d4] }
  | _ => none }
def batchOneRow : OpenClaim := { program := "ytdilkpcnkhedlaa", sum := "397c2b36ea6e122acf013a7d3ba90abb43fbf701a8d1b52693d1cf51c7b2ac93", func := "massecuite/massecuitelaw08.BatchOne", spec := "batchOne", unfollowed := true, recurses := true, apart := false }
def BatchOneSaid : Prop := batchOneRow.holds Try.pinned (OpenSpec.ofChange batchOneSpec)

/-- ITS FALSE NEIGHBOUR: 'it returns false'. Refute it at one input. -/
def batchOneWrong : ChangeSpec := { name := "batchOne", fn := fun _ => fun
  | [d1, d2, d3, d4] => { results := [.lit (.bool false)], args := [d1, d2, d3, d4] }
  | _ => none }
def BatchOneWrongFalsely : Prop := batchOneRow.holds Try.pinned (OpenSpec.ofChange batchOneWrong)

/-- 'massecuitelaw08.BatchLongest': WHATEVER THE INPUT: true; the input reads as it did. -/
def batchLongestSpec : ChangeSpec := { name := "batchLongest", fn := fun _ => fun
  | [d1, d2] => { results := [.lit (.bool true)], args := [d1, d2] }
  | _ => none }
def batchLongestRow : OpenClaim := { program := "ytdilkpcnkhedlaa", sum := "397c2b36ea6e122acf013a7d3ba90abb43fbf701a8d1b52693d1cf51c7b2ac93", func := "massecuite/massecuitelaw08.BatchLongest", spec := "batchLongest", unfollowed := true, recurses := true, apart := false }
def BatchLongestSaid : Prop := batchLongestRow.holds Try.pinned (OpenSpec.ofChange batchLongestSpec)

/-- ITS FALSE NEIGHBOUR: 'it returns false'. Refute it at one input. -/
def batchLongestWrong : ChangeSpec := { name := "batchLongest", fn := fun _ => fun
  | [d1, d2] => { results := [.lit (.bool false)], args := [d1, d2] }
  | _ => none }
def BatchLongestWrongFalsely : Prop := batchLongestRow.holds Try.pinned (OpenSpec.ofChange batchLongestWrong)

/-- 'massecuitelaw08.BatchMirror': WHATEVER THE INPUT: true; the input reads as it did. -/
def batchMirrorSpec : ChangeSpec := { name := "batchMirror", fn := fun _ => fun
  | [d] => { results := [.lit (.bool true)], args := [d] }
  | _ => none }
def batchMirrorRow : OpenClaim := { program := "ytdilkpcnkhedlaa", sum := "397c2b36ea6e122acf013a7d3ba90abb43fbf701a8d1b52693d1cf51c7b2ac93", func := "massecuite/massecuitelaw08.BatchMirror", spec := "batchMirror", unfollowed := true, recurses := true, apart := false }
def BatchMirrorSaid : Prop := batchMirrorRow.holds Try.pinned (OpenSpec.ofChange batchMirrorSpec)

/-- ITS FALSE NEIGHBOUR: 'it returns false'. Refute it at one input. -/
def batchMirrorWrong : ChangeSpec := { name := "batchMirror", fn := fun _ => fun
  | [d] => { results := [.lit (.bool false)], args := [d] }
  | _ => none }
def BatchMirrorWrongFalsely : Prop := batchMirrorRow.holds Try.pinned (OpenSpec.ofChange batchMirrorWrong)

/-- 'massecuitelaw08.BatchMore': WHATEVER THE INPUT: true; the input reads as it did. -/
def batchMoreSpec : ChangeSpec := { name := "batchMore", fn := fun _ => fun
  | [d1, d2, d3] => { results := [.lit (.bool true)], args := [d1, d2, d3] }
  | _ => none }
def batchMoreRow : OpenClaim := { program := "ytdilkpcnkhedlaa", sum := "397c2b36ea6e122acf013a7d3ba90abb43fbf701a8d1b52693d1cf51c7b2ac93", func := "massecuite/massecuitelaw08.BatchMore", spec := "batchMore", inPlace := ["slices.overlaps[massecuite/massecuiteref08.Op]"], unfollowed := true, recurses := true, apart := false }
def BatchMoreSaid : Prop := batchMoreRow.holds Try.pinned (OpenSpec.ofChange batchMoreSpec)

/-- ITS FALSE NEIGHBOUR: 'it returns false'. Refute it at one input. -/
def batchMoreWrong : ChangeSpec := { name := "batchMore", fn := fun _ => fun
  | [d1, d2, d3] => { results := [.lit (.bool false)], args := [d1, d2, d3] }
  | _ => none }
def BatchMoreWrongFalsely : Prop := batchMoreRow.holds Try.pinned (OpenSpec.ofChange batchMoreWrong)

/-- 'massecuitelaw08.BatchLower': WHATEVER THE INPUT: true; the input reads as it did. -/
def batchLowerSpec : ChangeSpec := { name := "batchLower", fn := fun _ => fun
  | [d] => { results := [.lit (.bool true)], args := [d] }
  | _ => none }
def batchLowerRow : OpenClaim := { program := "ytdilkpcnkhedlaa", sum := "397c2b36ea6e122acf013a7d3ba90abb43fbf701a8d1b52693d1cf51c7b2ac93", func := "massecuite/massecuitelaw08.BatchLower", spec := "batchLower", unfollowed := true, recurses := true, apart := false }
def BatchLowerSaid : Prop := batchLowerRow.holds Try.pinned (OpenSpec.ofChange batchLowerSpec)

/-- ITS FALSE NEIGHBOUR: 'it returns false'. Refute it at one input. -/
def batchLowerWrong : ChangeSpec := { name := "batchLower", fn := fun _ => fun
  | [d] => { results := [.lit (.bool false)], args := [d] }
  | _ => none }
def BatchLowerWrongFalsely : Prop := batchLowerRow.holds Try.pinned (OpenSpec.ofChange batchLowerWrong)

/-- 'massecuitelaw08.BatchScales': WHATEVER THE INPUT: true; the input reads as it did. -/
def batchScalesSpec : ChangeSpec := { name := "batchScales", fn := fun _ => fun
  | [d1, d2] => { results := [.lit (.bool true)], args := [d1, d2] }
  | _ => none }
def batchScalesRow : OpenClaim := { program := "ytdilkpcnkhedlaa", sum := "397c2b36ea6e122acf013a7d3ba90abb43fbf701a8d1b52693d1cf51c7b2ac93", func := "massecuite/massecuitelaw08.BatchScales", spec := "batchScales", unfollowed := true, recurses := true, apart := false }
def BatchScalesSaid : Prop := batchScalesRow.holds Try.pinned (OpenSpec.ofChange batchScalesSpec)

/-- ITS FALSE NEIGHBOUR: 'it returns false'. Refute it at one input. -/
def batchScalesWrong : ChangeSpec := { name := "batchScales", fn := fun _ => fun
  | [d1, d2] => { results := [.lit (.bool false)], args := [d1, d2] }
  | _ => none }
def BatchScalesWrongFalsely : Prop := batchScalesRow.holds Try.pinned (OpenSpec.ofChange batchScalesWrong)

/- THE SECOND FORM. 'bulk': how many values and letters a reading holds, each counted each time it is reached (what is shared counts as often as it is met; a slice's spare places count too). A statement '..UptoSaid' is the law's where the arguments, and the package variables that the reading takes, are together of bulk at most 1048576: NARROWER than '..Said'. Prove '..Said' where nothing that the law and all that it calls make is longer than what came in: it says more and counts as full. Else prove '..UptoSaid'. A law counts once. -/
mutual
def uptoBulk {H : Type} : DataW H → Nat
  | .lit (.string bytes) => bytes.length + 1
  | .lit _ => 1
  | .nil => 1
  | .ptr d => uptoBulk d + 1
  | .slice elems spare => uptoBulkAll elems + uptoBulkAll spare + 1
  | .agg parts => uptoBulkAll parts + 1
  | .iface _ d => uptoBulk d + 1
  | .map entries => uptoBulkEntries entries + 1
  | .held _ => 1
def uptoBulkAll {H : Type} : List (DataW H) → Nat
  | [] => 0
  | d :: r => uptoBulk d + uptoBulkAll r
def uptoBulkEntries {H : Type} : List (Lit × DataW H) → Nat
  | [] => 0
  | x :: r => uptoBulkEntry x + uptoBulkEntries r
def uptoBulkEntry {H : Type} : Lit × DataW H → Nat
  | (.string bytes, d) => bytes.length + uptoBulk d + 1
  | (_, d) => uptoBulk d + 1
 end
def uptoSmall : (H : Type) → List (DataW H) → Bool := fun _ ds => decide (uptoBulkAll ds ≤ 1048576)
def OpenSpec.upto (s : _root_.Go.ChangeSpec) : _root_.Go.OpenSpec := { _root_.Go.OpenSpec.ofChange s with cond := some uptoSmall }

/-- 'massecuitelaw08.BatchStarts', WHERE WHAT IT READS IS OF BULK AT MOST 1048576: true; the input reads as it did. -/
def batchStartsUptoRow : OpenClaim := { program := "ytdilkpcnkhedlaa", sum := "397c2b36ea6e122acf013a7d3ba90abb43fbf701a8d1b52693d1cf51c7b2ac93", func := "massecuite/massecuitelaw08.BatchStarts", spec := "batchStarts", unfollowed := true, recurses := true, apart := false, narrowed := true }
def BatchStartsUptoSaid : Prop := batchStartsUptoRow.holds Try.pinned (OpenSpec.upto batchStartsSpec)

/-- 'massecuitelaw08.BatchBest', WHERE WHAT IT READS IS OF BULK AT MOST 1048576: true; the input reads as it did. -/
def batchBestUptoRow : OpenClaim := { program := "ytdilkpcnkhedlaa", sum := "397c2b36ea6e122acf013a7d3ba90abb43fbf701a8d1b52693d1cf51c7b2ac93", func := "massecuite/massecuitelaw08.BatchBest", spec := "batchBest", unfollowed := true, recurses := true, apart := false, narrowed := true }
def BatchBestUptoSaid : Prop := batchBestUptoRow.holds Try.pinned (OpenSpec.upto batchBestSpec)

/-- 'massecuitelaw08.BatchJackson', WHERE WHAT IT READS IS OF BULK AT MOST 1048576: true; the input reads as it did. -/
def batchJacksonUptoRow : OpenClaim := { program := "ytdilkpcnkhedlaa", sum := "397c2b36ea6e122acf013a7d3ba90abb43fbf701a8d1b52693d1cf51c7b2ac93", func := "massecuite/massecuitelaw08.BatchJackson", spec := "batchJackson", unfollowed := true, recurses := true, apart := false, narrowed := true }
def BatchJacksonUptoSaid : Prop := batchJacksonUptoRow.holds Try.pinned (OpenSpec.upto batchJacksonSpec)

/-- 'massecuitelaw08.BatchProves', WHERE WHAT IT READS IS OF BULK AT MOST 1048576: true; the input reads as it did. -/
def batchProvesUptoRow : OpenClaim := { program := "ytdilkpcnkhedlaa", sum := "397c2b36ea6e122acf013a7d3ba90abb43fbf701a8d1b52693d1cf51c7b2ac93", func := "massecuite/massecuitelaw08.BatchProves", spec := "batchProves", unfollowed := true, recurses := true, apart := false, narrowed := true }
def BatchProvesUptoSaid : Prop := batchProvesUptoRow.holds Try.pinned (OpenSpec.upto batchProvesSpec)

/-- 'massecuitelaw08.BatchChecks', WHERE WHAT IT READS IS OF BULK AT MOST 1048576: true; the input reads as it did. -/
def batchChecksUptoRow : OpenClaim := { program := "ytdilkpcnkhedlaa", sum := "397c2b36ea6e122acf013a7d3ba90abb43fbf701a8d1b52693d1cf51c7b2ac93", func := "massecuite/massecuitelaw08.BatchChecks", spec := "batchChecks", unfollowed := true, recurses := true, loops := true, apart := false, narrowed := true }
def BatchChecksUptoSaid : Prop := batchChecksUptoRow.holds Try.pinned (OpenSpec.upto batchChecksSpec)

/-- 'massecuitelaw08.BatchLeast', WHERE WHAT IT READS IS OF BULK AT MOST 1048576: true; the input reads as it did. -/
def batchLeastUptoRow : OpenClaim := { program := "ytdilkpcnkhedlaa", sum := "397c2b36ea6e122acf013a7d3ba90abb43fbf701a8d1b52693d1cf51c7b2ac93", func := "massecuite/massecuitelaw08.BatchLeast", spec := "batchLeast", unfollowed := true, recurses := true, apart := false, narrowed := true }
def BatchLeastUptoSaid : Prop := batchLeastUptoRow.holds Try.pinned (OpenSpec.upto batchLeastSpec)

/-- 'massecuitelaw08.BatchRefuted', WHERE WHAT IT READS IS OF BULK AT MOST 1048576: true; the input reads as it did. -/
def batchRefutedUptoRow : OpenClaim := { program := "ytdilkpcnkhedlaa", sum := "397c2b36ea6e122acf013a7d3ba90abb43fbf701a8d1b52693d1cf51c7b2ac93", func := "massecuite/massecuitelaw08.BatchRefuted", spec := "batchRefuted", unfollowed := true, recurses := true, loops := true, apart := false, narrowed := true }
def BatchRefutedUptoSaid : Prop := batchRefutedUptoRow.holds Try.pinned (OpenSpec.upto batchRefutedSpec)

/-- 'massecuitelaw08.BatchOne', WHERE WHAT IT READS IS OF BULK AT MOST 1048576: true; the input reads as it did. -/
def batchOneUptoRow : OpenClaim := { program := "ytdilkpcnkhedlaa", sum := "397c2b36ea6e122acf013a7d3ba90abb43fbf701a8d1b52693d1cf51c7b2ac93", func := "massecuite/massecuitelaw08.BatchOne", spec := "batchOne", unfollowed := true, recurses := true, apart := false, narrowed := true }
def BatchOneUptoSaid : Prop := batchOneUptoRow.holds Try.pinned (OpenSpec.upto batchOneSpec)

/-- 'massecuitelaw08.BatchLongest', WHERE WHAT IT READS IS OF BULK AT MOST 1048576: true; the input reads as it did. -/
def batchLongestUptoRow : OpenClaim := { program := "ytdilkpcnkhedlaa", sum := "397c2b36ea6e122acf013a7d3ba90abb43fbf701a8d1b52693d1cf51c7b2ac93", func := "massecuite/massecuitelaw08.BatchLongest", spec := "batchLongest", unfollowed := true, recurses := true, apart := false, narrowed := true }
def BatchLongestUptoSaid : Prop := batchLongestUptoRow.holds Try.pinned (OpenSpec.upto batchLongestSpec)

/-- 'massecuitelaw08.BatchMirror', WHERE WHAT IT READS IS OF BULK AT MOST 1048576: true; the input reads as it did. -/
def batchMirrorUptoRow : OpenClaim := { program := "ytdilkpcnkhedlaa", sum := "397c2b36ea6e122acf013a7d3ba90abb43fbf701a8d1b52693d1cf51c7b2ac93", func := "massecuite/massecuitelaw08.BatchMirror", spec := "batchMirror", unfollowed := true, recurses := true, apart := false, narrowed := true }
def BatchMirrorUptoSaid : Prop := batchMirrorUptoRow.holds Try.pinned (OpenSpec.upto batchMirrorSpec)

/-- 'massecuitelaw08.BatchMore', WHERE WHAT IT READS IS OF BULK AT MOST 1048576: true; the input reads as it did. -/
def batchMoreUptoRow : OpenClaim := { program := "ytdilkpcnkhedlaa", sum := "397c2b36ea6e122acf013a7d3ba90abb43fbf701a8d1b52693d1cf51c7b2ac93", func := "massecuite/massecuitelaw08.BatchMore", spec := "batchMore", inPlace := ["slices.overlaps[massecuite/massecuiteref08.Op]"], unfollowed := true, recurses := true, apart := false, narrowed := true }
def BatchMoreUptoSaid : Prop := batchMoreUptoRow.holds Try.pinned (OpenSpec.upto batchMoreSpec)

/-- 'massecuitelaw08.BatchLower', WHERE WHAT IT READS IS OF BULK AT MOST 1048576: true; the input reads as it did. -/
def batchLowerUptoRow : OpenClaim := { program := "ytdilkpcnkhedlaa", sum := "397c2b36ea6e122acf013a7d3ba90abb43fbf701a8d1b52693d1cf51c7b2ac93", func := "massecuite/massecuitelaw08.BatchLower", spec := "batchLower", unfollowed := true, recurses := true, apart := false, narrowed := true }
def BatchLowerUptoSaid : Prop := batchLowerUptoRow.holds Try.pinned (OpenSpec.upto batchLowerSpec)

/-- 'massecuitelaw08.BatchScales', WHERE WHAT IT READS IS OF BULK AT MOST 1048576: true; the input reads as it did. -/
def batchScalesUptoRow : OpenClaim := { program := "ytdilkpcnkhedlaa", sum := "397c2b36ea6e122acf013a7d3ba90abb43fbf701a8d1b52693d1cf51c7b2ac93", func := "massecuite/massecuitelaw08.BatchScales", spec := "batchScales", unfollowed := true, recurses := true, apart := false, narrowed := true }
def BatchScalesUptoSaid : Prop := batchScalesUptoRow.holds Try.pinned (OpenSpec.upto batchScalesSpec)

end Rows
end Go.Proofs.Ytdilkpcnkhedlaa
