import Derived.Test.YtdgahcbalabjdaaGreatZBaI
import Derived.Test.YtdgahcbalabjdaaGreatCyN
/-
  Batch: the reference: shops, operations, arcs.
-/
namespace Go.Proofs.YtdgahcbalabjdaaGreat
open Go.Vm Go.Ht Go.Ba
theorem Tryz.agg24 : isAggT Tryz.prog 24 = some true := by kernel_rfl
theorem Tryz.size24 : sizeT Tryz.prog 24 = some 2 := by kernel_rfl
theorem Tryz.fld24_0 : fieldT Tryz.prog 24 0 = some { name := "Machines", type := 3, offset := 0, embedded := false, tag := "", pkgPath := "", byteOffset := 0 } := by kernel_rfl
theorem Tryz.fld24_1 : fieldT Tryz.prog 24 1 = some { name := "Jobs", type := 22, offset := 1, embedded := false, tag := "", pkgPath := "", byteOffset := 8 } := by kernel_rfl
theorem Tryz.agg59 : isAggT Tryz.prog 59 = some true := by kernel_rfl
theorem Tryz.size59 : sizeT Tryz.prog 59 = some 2 := by kernel_rfl
theorem Tryz.zero59 : zeroT Tryz.prog 59 = some (.agg #[.int .i64 0, .int .i64 0]) := by kernel_rfl
theorem Tryz.fld59_0 : fieldT Tryz.prog 59 0 = some { name := "Machine", type := 3, offset := 0, embedded := false, tag := "", pkgPath := "", byteOffset := 0 } := by kernel_rfl
theorem Tryz.fld59_1 : fieldT Tryz.prog 59 1 = some { name := "Time", type := 3, offset := 1, embedded := false, tag := "", pkgPath := "", byteOffset := 8 } := by kernel_rfl
theorem Tryz.agg57 : isAggT Tryz.prog 57 = some false := by kernel_rfl
theorem Tryz.size57 : sizeT Tryz.prog 57 = some 1 := by kernel_rfl
theorem Tryz.agg22 : isAggT Tryz.prog 22 = some false := by kernel_rfl
theorem Tryz.size22 : sizeT Tryz.prog 22 = some 1 := by kernel_rfl
end Go.Proofs.YtdgahcbalabjdaaGreat

