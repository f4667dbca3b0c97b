/-
  NARROWER THAN 'FOR EVERY INPUT', by the rows' own cells (each row's printed sentence says how): ScanCausal: laid · ScanScans: laid · ScanCompiles: laid · ScanExecs: laid · ScanExtracts: laid · ScanResponds: laid · ScanAparts: laid · ScanModels: laid · ScanSame: laid · ScanMinimal: laid · ScanFirst: laid · ScanPermuted: laid.
  DERIVED. THE GIVEN ROWS OF THIS SEAT. 12 by the template 'for every input the law returns true; each argument reads behind the call as it read before'; 0 by the template 'total and deterministic' (their statements: YteednkolfnjdoaaDoorTotals.lean).
  GIVEN WITH THE SEED: the statements are not yours to turn. If you find one false, say at which input.
  Laid BY PROGRAM, IN A SANDBOX (cutbox-rows.mjs): the forced cells as the released guide's own fill.sh prints them over the translation 30f16b00e49276b0… (all of the seat's roots in one cut). By AI agents, Wed Nov 11 2026. No macro, syntax, notation, axiom, sorry.
-/
import Derived.Test.YteednkolfnjdoaaDoorChecked
import GoSem.PinnedTables
import GoSem.Claim
import GoSem.ClaimJoined
import GoSem.ClaimMapViews
import Derived.JoinedTies
import Derived.KernelRfl
namespace Go.Proofs.YteednkolfnjdoaaDoor
/- THE CELL 'sum', in the pinned program and in every row, IS THE sha256 OF THE DUMP (.gsa) THAT YteednkolfnjdoaaDoorProg.lean LOADS. Nothing in Lean hashes anything: it is a label: what it is worth is what the hold of that sum in a sandbox is worth. -/
noncomputable def Tryd.pinned : Pinned := { name := "yteednkolfnjdoaadoor", sum := "30f16b00e49276b086dfe833eb4c220a1349aefaf78529ff3041530f16b334aa", checked := Tryd.checked }
namespace Rows
def none {H : Type} : Left H := { results := [], args := [] }

/- WHAT THE LISTED PACKAGE-LEVEL VARIABLES READ AS WHEN THE CALL BEGINS. Each datum BY PROGRAM (the guide's laid-datum.mjs) off the statement by which the dump's own 'gosem.cut.vars' lays the variable. In a bare row this is a premise. The card (YteednkolfnjdoaaDoorCards.lean) ties it to the program's text. -/
def laid_unicode_utf8_acceptRanges {H : Type} : DataW H := .agg [.agg [.lit (.int .u8 128), .lit (.int .u8 191)], .agg [.lit (.int .u8 160), .lit (.int .u8 191)], .agg [.lit (.int .u8 128), .lit (.int .u8 159)], .agg [.lit (.int .u8 144), .lit (.int .u8 191)], .agg [.lit (.int .u8 128), .lit (.int .u8 143)], .agg [.lit (.int .u8 0), .lit (.int .u8 0)], .agg [.lit (.int .u8 0), .lit (.int .u8 0)], .agg [.lit (.int .u8 0), .lit (.int .u8 0)], .agg [.lit (.int .u8 0), .lit (.int .u8 0)], .agg [.lit (.int .u8 0), .lit (.int .u8 0)], .agg [.lit (.int .u8 0), .lit (.int .u8 0)], .agg [.lit (.int .u8 0), .lit (.int .u8 0)], .agg [.lit (.int .u8 0), .lit (.int .u8 0)], .agg [.lit (.int .u8 0), .lit (.int .u8 0)], .agg [.lit (.int .u8 0), .lit (.int .u8 0)], .agg [.lit (.int .u8 0), .lit (.int .u8 0)]]
/-- One of Go's own tables, pinned by name: the form's constant. -/
def laid_unicode_utf8_first : DataW Unit := Go.Pinned.utf8First

/-- 'massecuitelaw09.ScanCausal': WHATEVER THE INPUT: true; the input reads as it did. -/
def scanCausalSpec : ChangeSpec := { name := "scanCausal", fn := fun _ => fun
  | [d] => { results := [.lit (.bool true)], args := [d] }
  | _ => none }
def scanCausalRow : OpenClaim := { program := "yteednkolfnjdoaadoor", sum := "30f16b00e49276b086dfe833eb4c220a1349aefaf78529ff3041530f16b334aa", func := "massecuite/massecuitelaw09.ScanCausal", spec := "scanCausal", inPlace := ["internal/bytealg.CountString", "internal/bytealg.IndexByteString", "internal/bytealg.IndexString"], unfollowed := true, recurses := true, named := ["unicode/utf8.first", "unicode/utf8.acceptRanges", "internal/bytealg.MaxLen"], plainKeys := false, apart := false, laid := [("unicode/utf8.acceptRanges", laid_unicode_utf8_acceptRanges), ("unicode/utf8.first", laid_unicode_utf8_first)] }
def ScanCausalSaid : Prop := scanCausalRow.holds Tryd.pinned (OpenSpec.ofChange scanCausalSpec)

/-- ITS FALSE NEIGHBOUR: 'it returns false'. Refute it at one input. -/
def scanCausalWrong : ChangeSpec := { name := "scanCausal", fn := fun _ => fun
  | [d] => { results := [.lit (.bool false)], args := [d] }
  | _ => none }
def ScanCausalWrongFalsely : Prop := scanCausalRow.holds Tryd.pinned (OpenSpec.ofChange scanCausalWrong)

/-- 'massecuitelaw09.ScanScans': WHATEVER THE INPUT: true; the input reads as it did. -/
def scanScansSpec : ChangeSpec := { name := "scanScans", fn := fun _ => fun
  | [d1, d2] => { results := [.lit (.bool true)], args := [d1, d2] }
  | _ => none }
def scanScansRow : OpenClaim := { program := "yteednkolfnjdoaadoor", sum := "30f16b00e49276b086dfe833eb4c220a1349aefaf78529ff3041530f16b334aa", func := "massecuite/massecuitelaw09.ScanScans", spec := "scanScans", inPlace := ["internal/bytealg.CountString", "internal/bytealg.IndexByteString", "internal/bytealg.IndexString"], unfollowed := true, recurses := true, named := ["unicode/utf8.first", "unicode/utf8.acceptRanges", "internal/bytealg.MaxLen"], plainKeys := false, apart := false, laid := [("unicode/utf8.acceptRanges", laid_unicode_utf8_acceptRanges), ("unicode/utf8.first", laid_unicode_utf8_first)] }
def ScanScansSaid : Prop := scanScansRow.holds Tryd.pinned (OpenSpec.ofChange scanScansSpec)

/-- ITS FALSE NEIGHBOUR: 'it returns false'. Refute it at one input. -/
def scanScansWrong : ChangeSpec := { name := "scanScans", fn := fun _ => fun
  | [d1, d2] => { results := [.lit (.bool false)], args := [d1, d2] }
  | _ => none }
def ScanScansWrongFalsely : Prop := scanScansRow.holds Tryd.pinned (OpenSpec.ofChange scanScansWrong)

/-- 'massecuitelaw09.ScanCompiles': WHATEVER THE INPUT: true; the input reads as it did. -/
def scanCompilesSpec : ChangeSpec := { name := "scanCompiles", fn := fun _ => fun
  | [d1, d2] => { results := [.lit (.bool true)], args := [d1, d2] }
  | _ => none }
def scanCompilesRow : OpenClaim := { program := "yteednkolfnjdoaadoor", sum := "30f16b00e49276b086dfe833eb4c220a1349aefaf78529ff3041530f16b334aa", func := "massecuite/massecuitelaw09.ScanCompiles", spec := "scanCompiles", inPlace := ["internal/bytealg.CountString", "internal/bytealg.IndexByteString", "internal/bytealg.IndexString"], unfollowed := true, recurses := true, named := ["unicode/utf8.first", "unicode/utf8.acceptRanges", "internal/bytealg.MaxLen"], plainKeys := false, apart := false, laid := [("unicode/utf8.acceptRanges", laid_unicode_utf8_acceptRanges), ("unicode/utf8.first", laid_unicode_utf8_first)] }
def ScanCompilesSaid : Prop := scanCompilesRow.holds Tryd.pinned (OpenSpec.ofChange scanCompilesSpec)

/-- ITS FALSE NEIGHBOUR: 'it returns false'. Refute it at one input. -/
def scanCompilesWrong : ChangeSpec := { name := "scanCompiles", fn := fun _ => fun
  | [d1, d2] => { results := [.lit (.bool false)], args := [d1, d2] }
  | _ => none }
def ScanCompilesWrongFalsely : Prop := scanCompilesRow.holds Tryd.pinned (OpenSpec.ofChange scanCompilesWrong)

/-- 'massecuitelaw09.ScanExecs': WHATEVER THE INPUT: true; the input reads as it did. -/
def scanExecsSpec : ChangeSpec := { name := "scanExecs", fn := fun _ => fun
  | [d1, d2, d3, d4] => { results := [.lit (.bool true)], args := [d1, d2, d3, d4] }
  | _ => none }
def scanExecsRow : OpenClaim := { program := "yteednkolfnjdoaadoor", sum := "30f16b00e49276b086dfe833eb4c220a1349aefaf78529ff3041530f16b334aa", func := "massecuite/massecuitelaw09.ScanExecs", spec := "scanExecs", inPlace := ["internal/bytealg.CountString", "internal/bytealg.IndexByteString", "internal/bytealg.IndexString"], unfollowed := true, recurses := true, named := ["unicode/utf8.first", "unicode/utf8.acceptRanges", "internal/bytealg.MaxLen"], plainKeys := false, apart := false, laid := [("unicode/utf8.acceptRanges", laid_unicode_utf8_acceptRanges), ("unicode/utf8.first", laid_unicode_utf8_first)] }
def ScanExecsSaid : Prop := scanExecsRow.holds Tryd.pinned (OpenSpec.ofChange scanExecsSpec)

/-- ITS FALSE NEIGHBOUR: 'it returns false'. Refute it at one input. -/
def scanExecsWrong : ChangeSpec := { name := "scanExecs", fn := fun _ => fun
  | [d1, d2, d3, d4] => { results := [.lit (.bool false)], args := [d1, d2, d3, d4] }
  | _ => none }
def ScanExecsWrongFalsely : Prop := scanExecsRow.holds Tryd.pinned (OpenSpec.ofChange scanExecsWrong)

/-- 'massecuitelaw09.ScanExtracts': WHATEVER THE INPUT: true; the input reads as it did. -/
def scanExtractsSpec : ChangeSpec := { name := "scanExtracts", fn := fun _ => fun
  | [d] => { results := [.lit (.bool true)], args := [d] }
  | _ => none }
def scanExtractsRow : OpenClaim := { program := "yteednkolfnjdoaadoor", sum := "30f16b00e49276b086dfe833eb4c220a1349aefaf78529ff3041530f16b334aa", func := "massecuite/massecuitelaw09.ScanExtracts", spec := "scanExtracts", inPlace := ["internal/bytealg.CountString", "internal/bytealg.IndexByteString", "internal/bytealg.IndexString"], unfollowed := true, recurses := true, named := ["unicode/utf8.first", "unicode/utf8.acceptRanges", "internal/bytealg.MaxLen"], plainKeys := false, apart := false, laid := [("unicode/utf8.acceptRanges", laid_unicode_utf8_acceptRanges), ("unicode/utf8.first", laid_unicode_utf8_first)] }
def ScanExtractsSaid : Prop := scanExtractsRow.holds Tryd.pinned (OpenSpec.ofChange scanExtractsSpec)

/-- ITS FALSE NEIGHBOUR: 'it returns false'. Refute it at one input. -/
def scanExtractsWrong : ChangeSpec := { name := "scanExtracts", fn := fun _ => fun
  | [d] => { results := [.lit (.bool false)], args := [d] }
  | _ => none }
def ScanExtractsWrongFalsely : Prop := scanExtractsRow.holds Tryd.pinned (OpenSpec.ofChange scanExtractsWrong)

/-- 'massecuitelaw09.ScanResponds': WHATEVER THE INPUT: true; the input reads as it did. -/
def scanRespondsSpec : ChangeSpec := { name := "scanResponds", fn := fun _ => fun
  | [d1, d2] => { results := [.lit (.bool true)], args := [d1, d2] }
  | _ => none }
def scanRespondsRow : OpenClaim := { program := "yteednkolfnjdoaadoor", sum := "30f16b00e49276b086dfe833eb4c220a1349aefaf78529ff3041530f16b334aa", func := "massecuite/massecuitelaw09.ScanResponds", spec := "scanResponds", inPlace := ["internal/bytealg.CountString", "internal/bytealg.IndexByteString", "internal/bytealg.IndexString"], unfollowed := true, recurses := true, named := ["unicode/utf8.first", "unicode/utf8.acceptRanges", "internal/bytealg.MaxLen"], plainKeys := false, apart := false, laid := [("unicode/utf8.acceptRanges", laid_unicode_utf8_acceptRanges), ("unicode/utf8.first", laid_unicode_utf8_first)] }
def ScanRespondsSaid : Prop := scanRespondsRow.holds Tryd.pinned (OpenSpec.ofChange scanRespondsSpec)

/-- ITS FALSE NEIGHBOUR: 'it returns false'. Refute it at one input. -/
def scanRespondsWrong : ChangeSpec := { name := "scanResponds", fn := fun _ => fun
  | [d1, d2] => { results := [.lit (.bool false)], args := [d1, d2] }
  | _ => none }
def ScanRespondsWrongFalsely : Prop := scanRespondsRow.holds Tryd.pinned (OpenSpec.ofChange scanRespondsWrong)

/-- 'massecuitelaw09.ScanAparts': WHATEVER THE INPUT: true; the input reads as it did. -/
def scanApartsSpec : ChangeSpec := { name := "scanAparts", fn := fun _ => fun
  | [d1, d2] => { results := [.lit (.bool true)], args := [d1, d2] }
  | _ => none }
def scanApartsRow : OpenClaim := { program := "yteednkolfnjdoaadoor", sum := "30f16b00e49276b086dfe833eb4c220a1349aefaf78529ff3041530f16b334aa", func := "massecuite/massecuitelaw09.ScanAparts", spec := "scanAparts", inPlace := ["internal/bytealg.CountString", "internal/bytealg.IndexByteString", "internal/bytealg.IndexString"], unfollowed := true, recurses := true, named := ["unicode/utf8.first", "unicode/utf8.acceptRanges", "internal/bytealg.MaxLen"], plainKeys := false, apart := false, laid := [("unicode/utf8.acceptRanges", laid_unicode_utf8_acceptRanges), ("unicode/utf8.first", laid_unicode_utf8_first)] }
def ScanApartsSaid : Prop := scanApartsRow.holds Tryd.pinned (OpenSpec.ofChange scanApartsSpec)

/-- ITS FALSE NEIGHBOUR: 'it returns false'. Refute it at one input. -/
def scanApartsWrong : ChangeSpec := { name := "scanAparts", fn := fun _ => fun
  | [d1, d2] => { results := [.lit (.bool false)], args := [d1, d2] }
  | _ => none }
def ScanApartsWrongFalsely : Prop := scanApartsRow.holds Tryd.pinned (OpenSpec.ofChange scanApartsWrong)

/-- 'massecuitelaw09.ScanModels': WHATEVER THE INPUT: true; the input reads as it did. -/
def scanModelsSpec : ChangeSpec := { name := "scanModels", fn := fun _ => fun
  | [d] => { results := [.lit (.bool true)], args := [d] }
  | _ => none }
def scanModelsRow : OpenClaim := { program := "yteednkolfnjdoaadoor", sum := "30f16b00e49276b086dfe833eb4c220a1349aefaf78529ff3041530f16b334aa", func := "massecuite/massecuitelaw09.ScanModels", spec := "scanModels", inPlace := ["internal/bytealg.CountString", "internal/bytealg.IndexByteString", "internal/bytealg.IndexString"], unfollowed := true, recurses := true, named := ["unicode/utf8.first", "unicode/utf8.acceptRanges", "internal/bytealg.MaxLen"], plainKeys := false, apart := false, laid := [("unicode/utf8.acceptRanges", laid_unicode_utf8_acceptRanges), ("unicode/utf8.first", laid_unicode_utf8_first)] }
def ScanModelsSaid : Prop := scanModelsRow.holds Tryd.pinned (OpenSpec.ofChange scanModelsSpec)

/-- ITS FALSE NEIGHBOUR: 'it returns false'. Refute it at one input. -/
def scanModelsWrong : ChangeSpec := { name := "scanModels", fn := fun _ => fun
  | [d] => { results := [.lit (.bool false)], args := [d] }
  | _ => none }
def ScanModelsWrongFalsely : Prop := scanModelsRow.holds Tryd.pinned (OpenSpec.ofChange scanModelsWrong)

/-- 'massecuitelaw09.ScanSame': WHATEVER THE INPUT: true; the input reads as it did. -/
def scanSameSpec : ChangeSpec := { name := "scanSame", fn := fun _ => fun
  | [d1, d2] => { results := [.lit (.bool true)], args := [d1, d2] }
  | _ => none }
def scanSameRow : OpenClaim := { program := "yteednkolfnjdoaadoor", sum := "30f16b00e49276b086dfe833eb4c220a1349aefaf78529ff3041530f16b334aa", func := "massecuite/massecuitelaw09.ScanSame", spec := "scanSame", inPlace := ["internal/bytealg.CountString", "internal/bytealg.IndexByteString", "internal/bytealg.IndexString"], unfollowed := true, recurses := true, named := ["unicode/utf8.first", "unicode/utf8.acceptRanges", "internal/bytealg.MaxLen"], plainKeys := false, apart := false, laid := [("unicode/utf8.acceptRanges", laid_unicode_utf8_acceptRanges), ("unicode/utf8.first", laid_unicode_utf8_first)] }
def ScanSameSaid : Prop := scanSameRow.holds Tryd.pinned (OpenSpec.ofChange scanSameSpec)

/-- ITS FALSE NEIGHBOUR: 'it returns false'. Refute it at one input. -/
def scanSameWrong : ChangeSpec := { name := "scanSame", fn := fun _ => fun
  | [d1, d2] => { results := [.lit (.bool false)], args := [d1, d2] }
  | _ => none }
def ScanSameWrongFalsely : Prop := scanSameRow.holds Tryd.pinned (OpenSpec.ofChange scanSameWrong)

/-- 'massecuitelaw09.ScanMinimal': WHATEVER THE INPUT: true; the input reads as it did. -/
def scanMinimalSpec : ChangeSpec := { name := "scanMinimal", fn := fun _ => fun
  | [d1, d2, d3] => { results := [.lit (.bool true)], args := [d1, d2, d3] }
  | _ => none }
def scanMinimalRow : OpenClaim := { program := "yteednkolfnjdoaadoor", sum := "30f16b00e49276b086dfe833eb4c220a1349aefaf78529ff3041530f16b334aa", func := "massecuite/massecuitelaw09.ScanMinimal", spec := "scanMinimal", inPlace := ["internal/bytealg.CountString", "internal/bytealg.IndexByteString", "internal/bytealg.IndexString"], unfollowed := true, recurses := true, named := ["unicode/utf8.first", "unicode/utf8.acceptRanges", "internal/bytealg.MaxLen"], plainKeys := false, apart := false, laid := [("unicode/utf8.acceptRanges", laid_unicode_utf8_acceptRanges), ("unicode/utf8.first", laid_unicode_utf8_first)] }
def ScanMinimalSaid : Prop := scanMinimalRow.holds Tryd.pinned (OpenSpec.ofChange scanMinimalSpec)

/-- ITS FALSE NEIGHBOUR: 'it returns false'. Refute it at one input. -/
def scanMinimalWrong : ChangeSpec := { name := "scanMinimal", fn := fun _ => fun
  | [d1, d2, d3] => { results := [.lit (.bool false)], args := [d1, d2, d3] }
  | _ => none }
def ScanMinimalWrongFalsely : Prop := scanMinimalRow.holds Tryd.pinned (OpenSpec.ofChange scanMinimalWrong)

/-- 'massecuitelaw09.ScanFirst': WHATEVER THE INPUT: true; the input reads as it did. -/
def scanFirstSpec : ChangeSpec := { name := "scanFirst", fn := fun _ => fun
  | [d1, d2, d3] => { results := [.lit (.bool true)], args := [d1, d2, d3] }
  | _ => none }
def scanFirstRow : OpenClaim := { program := "yteednkolfnjdoaadoor", sum := "30f16b00e49276b086dfe833eb4c220a1349aefaf78529ff3041530f16b334aa", func := "massecuite/massecuitelaw09.ScanFirst", spec := "scanFirst", inPlace := ["internal/bytealg.CountString", "internal/bytealg.IndexByteString", "internal/bytealg.IndexString"], unfollowed := true, recurses := true, named := ["unicode/utf8.first", "unicode/utf8.acceptRanges", "internal/bytealg.MaxLen"], plainKeys := false, apart := false, laid := [("unicode/utf8.acceptRanges", laid_unicode_utf8_acceptRanges), ("unicode/utf8.first", laid_unicode_utf8_first)] }
def ScanFirstSaid : Prop := scanFirstRow.holds Tryd.pinned (OpenSpec.ofChange scanFirstSpec)

/-- ITS FALSE NEIGHBOUR: 'it returns false'. Refute it at one input. -/
def scanFirstWrong : ChangeSpec := { name := "scanFirst", fn := fun _ => fun
  | [d1, d2, d3] => { results := [.lit (.bool false)], args := [d1, d2, d3] }
  | _ => none }
def ScanFirstWrongFalsely : Prop := scanFirstRow.holds Tryd.pinned (OpenSpec.ofChange scanFirstWrong)

/-- 'massecuitelaw09.ScanPermuted': WHATEVER THE INPUT: true; the input reads as it did. -/
def scanPermutedSpec : ChangeSpec := { name := "scanPermuted", fn := fun _ => fun
  | [d1, d2, d3] => { results := [.lit (.bool true)], args := [d1, d2, d3] }
  | _ => none }
def scanPermutedRow : OpenClaim := { program := "yteednkolfnjdoaadoor", sum := "30f16b00e49276b086dfe833eb4c220a1349aefaf78529ff3041530f16b334aa", func := "massecuite/massecuitelaw09.ScanPermuted", spec := "scanPermuted", inPlace := ["internal/bytealg.CountString", "internal/bytealg.IndexByteString", "internal/bytealg.IndexString"], unfollowed := true, recurses := true, named := ["unicode/utf8.first", "unicode/utf8.acceptRanges", "internal/bytealg.MaxLen"], plainKeys := false, apart := false, laid := [("unicode/utf8.acceptRanges", laid_unicode_utf8_acceptRanges), ("unicode/utf8.first", laid_unicode_utf8_first)] }
def ScanPermutedSaid : Prop := scanPermutedRow.holds Tryd.pinned (OpenSpec.ofChange scanPermutedSpec)

/-- ITS FALSE NEIGHBOUR: 'it returns false'. Refute it at one input. -/
def scanPermutedWrong : ChangeSpec := { name := "scanPermuted", fn := fun _ => fun
  | [d1, d2, d3] => { results := [.lit (.bool false)], args := [d1, d2, d3] }
  | _ => none }
def ScanPermutedWrongFalsely : Prop := scanPermutedRow.holds Tryd.pinned (OpenSpec.ofChange scanPermutedWrong)

/- THE SECOND FORM. 'bulk': how many values and letters a reading holds, each counted each time it is reached (what is shared counts as often as it is met; a slice's spare places count too). A statement '..UptoSaid' is the law's where the arguments, and the package variables that the reading takes, are together of bulk at most 1048576: NARROWER than '..Said'. Prove '..Said' where nothing that the law and all that it calls make is longer than what came in: it says more and counts as full. Else prove '..UptoSaid'. A law counts once. -/
mutual
def uptoBulk {H : Type} : DataW H → Nat
  | .lit (.string bytes) => bytes.length + 1
  | .lit _ => 1
  | .nil => 1
  | .ptr d => uptoBulk d + 1
  | .slice elems spare => uptoBulkAll elems + uptoBulkAll spare + 1
  | .agg parts => uptoBulkAll parts + 1
  | .iface _ d => uptoBulk d + 1
  | .map entries => uptoBulkEntries entries + 1
  | .held _ => 1
def uptoBulkAll {H : Type} : List (DataW H) → Nat
  | [] => 0
  | d :: r => uptoBulk d + uptoBulkAll r
def uptoBulkEntries {H : Type} : List (Lit × DataW H) → Nat
  | [] => 0
  | x :: r => uptoBulkEntry x + uptoBulkEntries r
def uptoBulkEntry {H : Type} : Lit × DataW H → Nat
  | (.string bytes, d) => bytes.length + uptoBulk d + 1
  | (_, d) => uptoBulk d + 1
 end
def uptoSmall : (H : Type) → List (DataW H) → Bool := fun _ ds => decide (uptoBulkAll ds ≤ 1048576)
def OpenSpec.upto (s : _root_.Go.ChangeSpec) : _root_.Go.OpenSpec := { _root_.Go.OpenSpec.ofChange s with cond := some uptoSmall }

/-- 'massecuitelaw09.ScanCausal', WHERE WHAT IT READS IS OF BULK AT MOST 1048576: true; the input reads as it did. -/
def scanCausalUptoRow : OpenClaim := { program := "yteednkolfnjdoaadoor", sum := "30f16b00e49276b086dfe833eb4c220a1349aefaf78529ff3041530f16b334aa", func := "massecuite/massecuitelaw09.ScanCausal", spec := "scanCausal", inPlace := ["internal/bytealg.CountString", "internal/bytealg.IndexByteString", "internal/bytealg.IndexString"], unfollowed := true, recurses := true, named := ["unicode/utf8.first", "unicode/utf8.acceptRanges", "internal/bytealg.MaxLen"], plainKeys := false, apart := false, laid := [("unicode/utf8.acceptRanges", laid_unicode_utf8_acceptRanges), ("unicode/utf8.first", laid_unicode_utf8_first)], narrowed := true }
def ScanCausalUptoSaid : Prop := scanCausalUptoRow.holds Tryd.pinned (OpenSpec.upto scanCausalSpec)

/-- 'massecuitelaw09.ScanScans', WHERE WHAT IT READS IS OF BULK AT MOST 1048576: true; the input reads as it did. -/
def scanScansUptoRow : OpenClaim := { program := "yteednkolfnjdoaadoor", sum := "30f16b00e49276b086dfe833eb4c220a1349aefaf78529ff3041530f16b334aa", func := "massecuite/massecuitelaw09.ScanScans", spec := "scanScans", inPlace := ["internal/bytealg.CountString", "internal/bytealg.IndexByteString", "internal/bytealg.IndexString"], unfollowed := true, recurses := true, named := ["unicode/utf8.first", "unicode/utf8.acceptRanges", "internal/bytealg.MaxLen"], plainKeys := false, apart := false, laid := [("unicode/utf8.acceptRanges", laid_unicode_utf8_acceptRanges), ("unicode/utf8.first", laid_unicode_utf8_first)], narrowed := true }
def ScanScansUptoSaid : Prop := scanScansUptoRow.holds Tryd.pinned (OpenSpec.upto scanScansSpec)

/-- 'massecuitelaw09.ScanCompiles', WHERE WHAT IT READS IS OF BULK AT MOST 1048576: true; the input reads as it did. -/
def scanCompilesUptoRow : OpenClaim := { program := "yteednkolfnjdoaadoor", sum := "30f16b00e49276b086dfe833eb4c220a1349aefaf78529ff3041530f16b334aa", func := "massecuite/massecuitelaw09.ScanCompiles", spec := "scanCompiles", inPlace := ["internal/bytealg.CountString", "internal/bytealg.IndexByteString", "internal/bytealg.IndexString"], unfollowed := true, recurses := true, named := ["unicode/utf8.first", "unicode/utf8.acceptRanges", "internal/bytealg.MaxLen"], plainKeys := false, apart := false, laid := [("unicode/utf8.acceptRanges", laid_unicode_utf8_acceptRanges), ("unicode/utf8.first", laid_unicode_utf8_first)], narrowed := true }
def ScanCompilesUptoSaid : Prop := scanCompilesUptoRow.holds Tryd.pinned (OpenSpec.upto scanCompilesSpec)

/-- 'massecuitelaw09.ScanExecs', WHERE WHAT IT READS IS OF BULK AT MOST 1048576: true; the input reads as it did. -/
def scanExecsUptoRow : OpenClaim := { program := "yteednkolfnjdoaadoor", sum := "30f16b00e49276b086dfe833eb4c220a1349aefaf78529ff3041530f16b334aa", func := "massecuite/massecuitelaw09.ScanExecs", spec := "scanExecs", inPlace := ["internal/bytealg.CountString", "internal/bytealg.IndexByteString", "internal/bytealg.IndexString"], unfollowed := true, recurses := true, named := ["unicode/utf8.first", "unicode/utf8.acceptRanges", "internal/bytealg.MaxLen"], plainKeys := false, apart := false, laid := [("unicode/utf8.acceptRanges", laid_unicode_utf8_acceptRanges), ("unicode/utf8.first", laid_unicode_utf8_first)], narrowed := true }
def ScanExecsUptoSaid : Prop := scanExecsUptoRow.holds Tryd.pinned (OpenSpec.upto scanExecsSpec)

/-- 'massecuitelaw09.ScanExtracts', WHERE WHAT IT READS IS OF BULK AT MOST 1048576: true; the input reads as it did. -/
def scanExtractsUptoRow : OpenClaim := { program := "yteednkolfnjdoaadoor", sum := "30f16b00e49276b086dfe833eb4c220a1349aefaf78529ff3041530f16b334aa", func := "massecuite/massecuitelaw09.ScanExtracts", spec := "scanExtracts", inPlace := ["internal/bytealg.CountString", "internal/bytealg.IndexByteString", "internal/bytealg.IndexString"], unfollowed := true, recurses := true, named := ["unicode/utf8.first", "unicode/utf8.acceptRanges", "internal/bytealg.MaxLen"], plainKeys := false, apart := false, laid := [("unicode/utf8.acceptRanges", laid_unicode_utf8_acceptRanges), ("unicode/utf8.first", laid_unicode_utf8_first)], narrowed := true }
def ScanExtractsUptoSaid : Prop := scanExtractsUptoRow.holds Tryd.pinned (OpenSpec.upto scanExtractsSpec)

/-- 'massecuitelaw09.ScanResponds', WHERE WHAT IT READS IS OF BULK AT MOST 1048576: true; the input reads as it did. -/
def scanRespondsUptoRow : OpenClaim := { program := "yteednkolfnjdoaadoor", sum := "30f16b00e49276b086dfe833eb4c220a1349aefaf78529ff3041530f16b334aa", func := "massecuite/massecuitelaw09.ScanResponds", spec := "scanResponds", inPlace := ["internal/bytealg.CountString", "internal/bytealg.IndexByteString", "internal/bytealg.IndexString"], unfollowed := true, recurses := true, named := ["unicode/utf8.first", "unicode/utf8.acceptRanges", "internal/bytealg.MaxLen"], plainKeys := false, apart := false, laid := [("unicode/utf8.acceptRanges", laid_unicode_utf8_acceptRanges), ("unicode/utf8.first", laid_unicode_utf8_first)], narrowed := true }
def ScanRespondsUptoSaid : Prop := scanRespondsUptoRow.holds Tryd.pinned (OpenSpec.upto scanRespondsSpec)

/-- 'massecuitelaw09.ScanAparts', WHERE WHAT IT READS IS OF BULK AT MOST 1048576: true; the input reads as it did. -/
def scanApartsUptoRow : OpenClaim := { program := "yteednkolfnjdoaadoor", sum := "30f16b00e49276b086dfe833eb4c220a1349aefaf78529ff3041530f16b334aa", func := "massecuite/massecuitelaw09.ScanAparts", spec := "scanAparts", inPlace := ["internal/bytealg.CountString", "internal/bytealg.IndexByteString", "internal/bytealg.IndexString"], unfollowed := true, recurses := true, named := ["unicode/utf8.first", "unicode/utf8.acceptRanges", "internal/bytealg.MaxLen"], plainKeys := false, apart := false, laid := [("unicode/utf8.acceptRanges", laid_unicode_utf8_acceptRanges), ("unicode/utf8.first", laid_unicode_utf8_first)], narrowed := true }
def ScanApartsUptoSaid : Prop := scanApartsUptoRow.holds Tryd.pinned (OpenSpec.upto scanApartsSpec)

/-- 'massecuitelaw09.ScanModels', WHERE WHAT IT READS IS OF BULK AT MOST 1048576: true; the input reads as it did. -/
def scanModelsUptoRow : OpenClaim := { program := "yteednkolfnjdoaadoor", sum := "30f16b00e49276b086dfe833eb4c220a1349aefaf78529ff3041530f16b334aa", func := "massecuite/massecuitelaw09.ScanModels", spec := "scanModels", inPlace := ["internal/bytealg.CountString", "internal/bytealg.IndexByteString", "internal/bytealg.IndexString"], unfollowed := true, recurses := true, named := ["unicode/utf8.first", "unicode/utf8.acceptRanges", "internal/bytealg.MaxLen"], plainKeys := false, apart := false, laid := [("unicode/utf8.acceptRanges", laid_unicode_utf8_acceptRanges), ("unicode/utf8.first", laid_unicode_utf8_first)], narrowed := true }
def ScanModelsUptoSaid : Prop := scanModelsUptoRow.holds Tryd.pinned (OpenSpec.upto scanModelsSpec)

/-- 'massecuitelaw09.ScanSame', WHERE WHAT IT READS IS OF BULK AT MOST 1048576: true; the input reads as it did. -/
def scanSameUptoRow : OpenClaim := { program := "yteednkolfnjdoaadoor", sum := "30f16b00e49276b086dfe833eb4c220a1349aefaf78529ff3041530f16b334aa", func := "massecuite/massecuitelaw09.ScanSame", spec := "scanSame", inPlace := ["internal/bytealg.CountString", "internal/bytealg.IndexByteString", "internal/bytealg.IndexString"], unfollowed := true, recurses := true, named := ["unicode/utf8.first", "unicode/utf8.acceptRanges", "internal/bytealg.MaxLen"], plainKeys := false, apart := false, laid := [("unicode/utf8.acceptRanges", laid_unicode_utf8_acceptRanges), ("unicode/utf8.first", laid_unicode_utf8_first)], narrowed := true }
def ScanSameUptoSaid : Prop := scanSameUptoRow.holds Tryd.pinned (OpenSpec.upto scanSameSpec)

/-- 'massecuitelaw09.ScanMinimal', WHERE WHAT IT READS IS OF BULK AT MOST 1048576: true; the input reads as it did. -/
def scanMinimalUptoRow : OpenClaim := { program := "yteednkolfnjdoaadoor", sum := "30f16b00e49276b086dfe833eb4c220a1349aefaf78529ff3041530f16b334aa", func := "massecuite/massecuitelaw09.ScanMinimal", spec := "scanMinimal", inPlace := ["internal/bytealg.CountString", "internal/bytealg.IndexByteString", "internal/bytealg.IndexString"], unfollowed := true, recurses := true, named := ["unicode/utf8.first", "unicode/utf8.acceptRanges", "internal/bytealg.MaxLen"], plainKeys := false, apart := false, laid := [("unicode/utf8.acceptRanges", laid_unicode_utf8_acceptRanges), ("unicode/utf8.first", laid_unicode_utf8_first)], narrowed := true }
def ScanMinimalUptoSaid : Prop := scanMinimalUptoRow.holds Tryd.pinned (OpenSpec.upto scanMinimalSpec)

/-- 'massecuitelaw09.ScanFirst', WHERE WHAT IT READS IS OF BULK AT MOST 1048576: true; the input reads as it did. -/
def scanFirstUptoRow : OpenClaim := { program := "yteednkolfnjdoaadoor", sum := "30f16b00e49276b086dfe833eb4c220a1349aefaf78529ff3041530f16b334aa", func := "massecuite/massecuitelaw09.ScanFirst", spec := "scanFirst", inPlace := ["internal/bytealg.CountString", "internal/bytealg.IndexByteString", "internal/bytealg.IndexString"], unfollowed := true, recurses := true, named := ["unicode/utf8.first", "unicode/utf8.acceptRanges", "internal/bytealg.MaxLen"], plainKeys := false, apart := false, laid := [("unicode/utf8.acceptRanges", laid_unicode_utf8_acceptRanges), ("unicode/utf8.first", laid_unicode_utf8_first)], narrowed := true }
def ScanFirstUptoSaid : Prop := scanFirstUptoRow.holds Tryd.pinned (OpenSpec.upto scanFirstSpec)

/-- 'massecuitelaw09.ScanPermuted', WHERE WHAT IT READS IS OF BULK AT MOST 1048576: true; the input reads as it did. -/
def scanPermutedUptoRow : OpenClaim := { program := "yteednkolfnjdoaadoor", sum := "30f16b00e49276b086dfe833eb4c220a1349aefaf78529ff3041530f16b334aa", func := "massecuite/massecuitelaw09.ScanPermuted", spec := "scanPermuted", inPlace := ["internal/bytealg.CountString", "internal/bytealg.IndexByteString", "internal/bytealg.IndexString"], unfollowed := true, recurses := true, named := ["unicode/utf8.first", "unicode/utf8.acceptRanges", "internal/bytealg.MaxLen"], plainKeys := false, apart := false, laid := [("unicode/utf8.acceptRanges", laid_unicode_utf8_acceptRanges), ("unicode/utf8.first", laid_unicode_utf8_first)], narrowed := true }
def ScanPermutedUptoSaid : Prop := scanPermutedUptoRow.holds Tryd.pinned (OpenSpec.upto scanPermutedSpec)

end Rows
end Go.Proofs.YteednkolfnjdoaaDoor
