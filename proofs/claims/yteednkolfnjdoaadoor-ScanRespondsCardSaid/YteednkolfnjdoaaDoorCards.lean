/-
  DERIVED. GIVEN WITH THE SEED: THE CARDS: each row of YteednkolfnjdoaaDoorRows.lean that lists a variable, with what it lists TIED to the program's text (the seventh form; the later family's looks); each row that meets fmt, with fmt's text TOLD by the authors' own Lean function (tested against real Go, not proved from fmt's source: count such statements apart). THE CARD IS WHAT COUNTS. Prove the row's statement (the work); the ties are given (YteednkolfnjdoaaDoorTie.lean); close each card by the builder's one call (the guide's Derived/Test/ToyasCard.lean, 'card_holds'). Laid BY PROGRAM, IN A SANDBOX (cutbox-door.mjs). By AI agents, Wed Nov 11 2026. No macro, syntax, notation, axiom, sorry.
-/
import Derived.Test.YteednkolfnjdoaaDoorRows
import GoSem.ClaimSeven
namespace Go.Proofs.YteednkolfnjdoaaDoor
namespace Rows

/-- THE TIED CARD OF 'massecuitelaw09.ScanCausal'. -/
def scanCausalCard : Claim7 := { stood := { row := scanCausalRow, standIns := [], harness := (true, "a296a71cdfff3f9707594b0155c90c3fac5422edb4d02c39a10b99d76f5c8cc6"), looks := false }, kinds := [], alts := [], laidByText := true, laidKinds := [.data, .pinned], laidTests := true, laidLooks := .later }
def ScanCausalCardSaid : Prop := Claim7.holds Tryd.pinned (.plain (OpenSpec.ofChange scanCausalSpec)) scanCausalCard

/-- THE TIED CARD OF 'massecuitelaw09.ScanScans'. -/
def scanScansCard : Claim7 := { stood := { row := scanScansRow, standIns := [], harness := (true, "a296a71cdfff3f9707594b0155c90c3fac5422edb4d02c39a10b99d76f5c8cc6"), looks := false }, kinds := [], alts := [], laidByText := true, laidKinds := [.data, .pinned], laidTests := true, laidLooks := .later }
def ScanScansCardSaid : Prop := Claim7.holds Tryd.pinned (.plain (OpenSpec.ofChange scanScansSpec)) scanScansCard

/-- THE TIED CARD OF 'massecuitelaw09.ScanCompiles'. -/
def scanCompilesCard : Claim7 := { stood := { row := scanCompilesRow, standIns := [], harness := (true, "a296a71cdfff3f9707594b0155c90c3fac5422edb4d02c39a10b99d76f5c8cc6"), looks := false }, kinds := [], alts := [], laidByText := true, laidKinds := [.data, .pinned], laidTests := true, laidLooks := .later }
def ScanCompilesCardSaid : Prop := Claim7.holds Tryd.pinned (.plain (OpenSpec.ofChange scanCompilesSpec)) scanCompilesCard

/-- THE TIED CARD OF 'massecuitelaw09.ScanExecs'. -/
def scanExecsCard : Claim7 := { stood := { row := scanExecsRow, standIns := [], harness := (true, "a296a71cdfff3f9707594b0155c90c3fac5422edb4d02c39a10b99d76f5c8cc6"), looks := false }, kinds := [], alts := [], laidByText := true, laidKinds := [.data, .pinned], laidTests := true, laidLooks := .later }
def ScanExecsCardSaid : Prop := Claim7.holds Tryd.pinned (.plain (OpenSpec.ofChange scanExecsSpec)) scanExecsCard

/-- THE TIED CARD OF 'massecuitelaw09.ScanExtracts'. -/
def scanExtractsCard : Claim7 := { stood := { row := scanExtractsRow, standIns := [], harness := (true, "a296a71cdfff3f9707594b0155c90c3fac5422edb4d02c39a10b99d76f5c8cc6"), looks := false }, kinds := [], alts := [], laidByText := true, laidKinds := [.data, .pinned], laidTests := true, laidLooks := .later }
def ScanExtractsCardSaid : Prop := Claim7.holds Tryd.pinned (.plain (OpenSpec.ofChange scanExtractsSpec)) scanExtractsCard

/-- THE TIED CARD OF 'massecuitelaw09.ScanResponds'. -/
def scanRespondsCard : Claim7 := { stood := { row := scanRespondsRow, standIns := [], harness := (true, "a296a71cdfff3f9707594b0155c90c3fac5422edb4d02c39a10b99d76f5c8cc6"), looks := false }, kinds := [], alts := [], laidByText := true, laidKinds := [.data, .pinned], laidTests := true, laidLooks := .later }
def ScanRespondsCardSaid : Prop := Claim7.holds Tryd.pinned (.plain (OpenSpec.ofChange scanRespondsSpec)) scanRespondsCard

/-- THE TIED CARD OF 'massecuitelaw09.ScanAparts'. -/
def scanApartsCard : Claim7 := { stood := { row := scanApartsRow, standIns := [], harness := (true, "a296a71cdfff3f9707594b0155c90c3fac5422edb4d02c39a10b99d76f5c8cc6"), looks := false }, kinds := [], alts := [], laidByText := true, laidKinds := [.data, .pinned], laidTests := true, laidLooks := .later }
def ScanApartsCardSaid : Prop := Claim7.holds Tryd.pinned (.plain (OpenSpec.ofChange scanApartsSpec)) scanApartsCard

/-- THE TIED CARD OF 'massecuitelaw09.ScanModels'. -/
def scanModelsCard : Claim7 := { stood := { row := scanModelsRow, standIns := [], harness := (true, "a296a71cdfff3f9707594b0155c90c3fac5422edb4d02c39a10b99d76f5c8cc6"), looks := false }, kinds := [], alts := [], laidByText := true, laidKinds := [.data, .pinned], laidTests := true, laidLooks := .later }
def ScanModelsCardSaid : Prop := Claim7.holds Tryd.pinned (.plain (OpenSpec.ofChange scanModelsSpec)) scanModelsCard

/-- THE TIED CARD OF 'massecuitelaw09.ScanSame'. -/
def scanSameCard : Claim7 := { stood := { row := scanSameRow, standIns := [], harness := (true, "a296a71cdfff3f9707594b0155c90c3fac5422edb4d02c39a10b99d76f5c8cc6"), looks := false }, kinds := [], alts := [], laidByText := true, laidKinds := [.data, .pinned], laidTests := true, laidLooks := .later }
def ScanSameCardSaid : Prop := Claim7.holds Tryd.pinned (.plain (OpenSpec.ofChange scanSameSpec)) scanSameCard

/-- THE TIED CARD OF 'massecuitelaw09.ScanMinimal'. -/
def scanMinimalCard : Claim7 := { stood := { row := scanMinimalRow, standIns := [], harness := (true, "a296a71cdfff3f9707594b0155c90c3fac5422edb4d02c39a10b99d76f5c8cc6"), looks := false }, kinds := [], alts := [], laidByText := true, laidKinds := [.data, .pinned], laidTests := true, laidLooks := .later }
def ScanMinimalCardSaid : Prop := Claim7.holds Tryd.pinned (.plain (OpenSpec.ofChange scanMinimalSpec)) scanMinimalCard

/-- THE TIED CARD OF 'massecuitelaw09.ScanFirst'. -/
def scanFirstCard : Claim7 := { stood := { row := scanFirstRow, standIns := [], harness := (true, "a296a71cdfff3f9707594b0155c90c3fac5422edb4d02c39a10b99d76f5c8cc6"), looks := false }, kinds := [], alts := [], laidByText := true, laidKinds := [.data, .pinned], laidTests := true, laidLooks := .later }
def ScanFirstCardSaid : Prop := Claim7.holds Tryd.pinned (.plain (OpenSpec.ofChange scanFirstSpec)) scanFirstCard

/-- THE TIED CARD OF 'massecuitelaw09.ScanPermuted'. -/
def scanPermutedCard : Claim7 := { stood := { row := scanPermutedRow, standIns := [], harness := (true, "a296a71cdfff3f9707594b0155c90c3fac5422edb4d02c39a10b99d76f5c8cc6"), looks := false }, kinds := [], alts := [], laidByText := true, laidKinds := [.data, .pinned], laidTests := true, laidLooks := .later }
def ScanPermutedCardSaid : Prop := Claim7.holds Tryd.pinned (.plain (OpenSpec.ofChange scanPermutedSpec)) scanPermutedCard

/-- THE SECOND FORM's CARD OF 'massecuitelaw09.ScanCausal'. -/
def scanCausalUptoCard : Claim7 := { stood := { row := scanCausalUptoRow, standIns := [], harness := (true, "a296a71cdfff3f9707594b0155c90c3fac5422edb4d02c39a10b99d76f5c8cc6"), looks := false }, kinds := [], alts := [], laidByText := true, laidKinds := [.data, .pinned], laidTests := true, laidLooks := .later }
def ScanCausalUptoCardSaid : Prop := Claim7.holds Tryd.pinned (.plain (OpenSpec.upto scanCausalSpec)) scanCausalUptoCard

/-- THE SECOND FORM's CARD OF 'massecuitelaw09.ScanScans'. -/
def scanScansUptoCard : Claim7 := { stood := { row := scanScansUptoRow, standIns := [], harness := (true, "a296a71cdfff3f9707594b0155c90c3fac5422edb4d02c39a10b99d76f5c8cc6"), looks := false }, kinds := [], alts := [], laidByText := true, laidKinds := [.data, .pinned], laidTests := true, laidLooks := .later }
def ScanScansUptoCardSaid : Prop := Claim7.holds Tryd.pinned (.plain (OpenSpec.upto scanScansSpec)) scanScansUptoCard

/-- THE SECOND FORM's CARD OF 'massecuitelaw09.ScanCompiles'. -/
def scanCompilesUptoCard : Claim7 := { stood := { row := scanCompilesUptoRow, standIns := [], harness := (true, "a296a71cdfff3f9707594b0155c90c3fac5422edb4d02c39a10b99d76f5c8cc6"), looks := false }, kinds := [], alts := [], laidByText := true, laidKinds := [.data, .pinned], laidTests := true, laidLooks := .later }
def ScanCompilesUptoCardSaid : Prop := Claim7.holds Tryd.pinned (.plain (OpenSpec.upto scanCompilesSpec)) scanCompilesUptoCard

/-- THE SECOND FORM's CARD OF 'massecuitelaw09.ScanExecs'. -/
def scanExecsUptoCard : Claim7 := { stood := { row := scanExecsUptoRow, standIns := [], harness := (true, "a296a71cdfff3f9707594b0155c90c3fac5422edb4d02c39a10b99d76f5c8cc6"), looks := false }, kinds := [], alts := [], laidByText := true, laidKinds := [.data, .pinned], laidTests := true, laidLooks := .later }
def ScanExecsUptoCardSaid : Prop := Claim7.holds Tryd.pinned (.plain (OpenSpec.upto scanExecsSpec)) scanExecsUptoCard

/-- THE SECOND FORM's CARD OF 'massecuitelaw09.ScanExtracts'. -/
def scanExtractsUptoCard : Claim7 := { stood := { row := scanExtractsUptoRow, standIns := [], harness := (true, "a296a71cdfff3f9707594b0155c90c3fac5422edb4d02c39a10b99d76f5c8cc6"), looks := false }, kinds := [], alts := [], laidByText := true, laidKinds := [.data, .pinned], laidTests := true, laidLooks := .later }
def ScanExtractsUptoCardSaid : Prop := Claim7.holds Tryd.pinned (.plain (OpenSpec.upto scanExtractsSpec)) scanExtractsUptoCard

/-- THE SECOND FORM's CARD OF 'massecuitelaw09.ScanResponds'. -/
def scanRespondsUptoCard : Claim7 := { stood := { row := scanRespondsUptoRow, standIns := [], harness := (true, "a296a71cdfff3f9707594b0155c90c3fac5422edb4d02c39a10b99d76f5c8cc6"), looks := false }, kinds := [], alts := [], laidByText := true, laidKinds := [.data, .pinned], laidTests := true, laidLooks := .later }
def ScanRespondsUptoCardSaid : Prop := Claim7.holds Tryd.pinned (.plain (OpenSpec.upto scanRespondsSpec)) scanRespondsUptoCard

/-- THE SECOND FORM's CARD OF 'massecuitelaw09.ScanAparts'. -/
def scanApartsUptoCard : Claim7 := { stood := { row := scanApartsUptoRow, standIns := [], harness := (true, "a296a71cdfff3f9707594b0155c90c3fac5422edb4d02c39a10b99d76f5c8cc6"), looks := false }, kinds := [], alts := [], laidByText := true, laidKinds := [.data, .pinned], laidTests := true, laidLooks := .later }
def ScanApartsUptoCardSaid : Prop := Claim7.holds Tryd.pinned (.plain (OpenSpec.upto scanApartsSpec)) scanApartsUptoCard

/-- THE SECOND FORM's CARD OF 'massecuitelaw09.ScanModels'. -/
def scanModelsUptoCard : Claim7 := { stood := { row := scanModelsUptoRow, standIns := [], harness := (true, "a296a71cdfff3f9707594b0155c90c3fac5422edb4d02c39a10b99d76f5c8cc6"), looks := false }, kinds := [], alts := [], laidByText := true, laidKinds := [.data, .pinned], laidTests := true, laidLooks := .later }
def ScanModelsUptoCardSaid : Prop := Claim7.holds Tryd.pinned (.plain (OpenSpec.upto scanModelsSpec)) scanModelsUptoCard

/-- THE SECOND FORM's CARD OF 'massecuitelaw09.ScanSame'. -/
def scanSameUptoCard : Claim7 := { stood := { row := scanSameUptoRow, standIns := [], harness := (true, "a296a71cdfff3f9707594b0155c90c3fac5422edb4d02c39a10b99d76f5c8cc6"), looks := false }, kinds := [], alts := [], laidByText := true, laidKinds := [.data, .pinned], laidTests := true, laidLooks := .later }
def ScanSameUptoCardSaid : Prop := Claim7.holds Tryd.pinned (.plain (OpenSpec.upto scanSameSpec)) scanSameUptoCard

/-- THE SECOND FORM's CARD OF 'massecuitelaw09.ScanMinimal'. -/
def scanMinimalUptoCard : Claim7 := { stood := { row := scanMinimalUptoRow, standIns := [], harness := (true, "a296a71cdfff3f9707594b0155c90c3fac5422edb4d02c39a10b99d76f5c8cc6"), looks := false }, kinds := [], alts := [], laidByText := true, laidKinds := [.data, .pinned], laidTests := true, laidLooks := .later }
def ScanMinimalUptoCardSaid : Prop := Claim7.holds Tryd.pinned (.plain (OpenSpec.upto scanMinimalSpec)) scanMinimalUptoCard

/-- THE SECOND FORM's CARD OF 'massecuitelaw09.ScanFirst'. -/
def scanFirstUptoCard : Claim7 := { stood := { row := scanFirstUptoRow, standIns := [], harness := (true, "a296a71cdfff3f9707594b0155c90c3fac5422edb4d02c39a10b99d76f5c8cc6"), looks := false }, kinds := [], alts := [], laidByText := true, laidKinds := [.data, .pinned], laidTests := true, laidLooks := .later }
def ScanFirstUptoCardSaid : Prop := Claim7.holds Tryd.pinned (.plain (OpenSpec.upto scanFirstSpec)) scanFirstUptoCard

/-- THE SECOND FORM's CARD OF 'massecuitelaw09.ScanPermuted'. -/
def scanPermutedUptoCard : Claim7 := { stood := { row := scanPermutedUptoRow, standIns := [], harness := (true, "a296a71cdfff3f9707594b0155c90c3fac5422edb4d02c39a10b99d76f5c8cc6"), looks := false }, kinds := [], alts := [], laidByText := true, laidKinds := [.data, .pinned], laidTests := true, laidLooks := .later }
def ScanPermutedUptoCardSaid : Prop := Claim7.holds Tryd.pinned (.plain (OpenSpec.upto scanPermutedSpec)) scanPermutedUptoCard
end Rows
end Go.Proofs.YteednkolfnjdoaaDoor
