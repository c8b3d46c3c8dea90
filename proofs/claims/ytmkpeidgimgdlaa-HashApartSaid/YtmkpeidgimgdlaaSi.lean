/-
  A boxed key as a range of cells, and what a region that draws its order may take of it first.
-/
import Derived.Test.YtmkpeidgimgdlaaSg
import Derived.Deep.RegionHeld3
namespace Go.Proofs.Ytmkpeidgimgdlaa.Si
open Go.ChangeShapes Go.WideShapes Go.ChangeAt Go.RowKit
open Bytes8 Blk8 Sg
set_option linter.unusedVariables false
theorem key_range {w : World} {g : Nat} {K : Nat → Int} (h : KeyAt w g K) : w.rangeAt g 0 [.int .u8 (K 0), .int .u8 (K 1), .int .u8 (K 2), .int .u8 (K 3), .int .u8 (K 4), .int .u8 (K 5), .int .u8 (K 6), .int .u8 (K 7), .int .u8 (K 8), .int .u8 (K 9), .int .u8 (K 10), .int .u8 (K 11), .int .u8 (K 12), .int .u8 (K 13), .int .u8 (K 14), .int .u8 (K 15)] := fun j v hv => by
  rw [Nat.zero_add]
  exact h.cell hv
theorem under_id : Try.prog.underlying 24 = some (.array 16 5) := Try.underlying24
theorem size_id : (Try.prog.info? 24).map (·.size) = some 16 := by kernel_rfl
end Go.Proofs.Ytmkpeidgimgdlaa.Si
