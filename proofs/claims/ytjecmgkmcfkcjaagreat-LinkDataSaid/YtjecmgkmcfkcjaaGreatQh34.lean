/-
  Texts beneath the proof.
-/
import Derived.Test.YtjecmgkmcfkcjaaGreatQh33
set_option linter.unusedVariables false
set_option linter.unusedSimpArgs false
set_option maxRecDepth 100000
open Go.ChangeShapes Go.WideShapes Go.ChangeAt Go.RowKit
namespace Go.Proofs.YtjecmgkmcfkcjaaGreat
namespace Rn
open Ob Sg Fa Ya
open Rd (dcode dz)
open Re (ReadD)
attribute [local irreducible] wpList Code.wp ofS bnum bpay bcode splitE splitN splitV xr rowsL
end Rn
namespace Ro
open Re (res_row_cell load_code)
attribute [local irreducible] wpList Code.wp
end Ro
end Go.Proofs.YtjecmgkmcfkcjaaGreat
