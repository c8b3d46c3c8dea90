/-
  Texts beneath the proof.
-/
import Derived.Test.YtjecmgkmcfkcjaaGreatQh37
set_option linter.unusedVariables false
set_option linter.unusedSimpArgs false
set_option maxRecDepth 100000
open Go.ChangeShapes Go.WideShapes Go.ChangeAt Go.RowKit
namespace Go.Proofs.YtjecmgkmcfkcjaaGreat
namespace Wg
open Ga Gb Np
open Ye Yh
open Rd (dcode)
attribute [local irreducible] HD.cells wpList Code.wp
end Wg
namespace Wi
open Ga Gb Np
attribute [local irreducible] HD.cells wpList Code.wp
end Wi
namespace Wh
open Ga Gb Np
open Ye Yh
open Rd (dcode)
open Ym (wordElt)
attribute [local irreducible] HD.cells wpList Code.wp
end Wh
end Go.Proofs.YtjecmgkmcfkcjaaGreat
