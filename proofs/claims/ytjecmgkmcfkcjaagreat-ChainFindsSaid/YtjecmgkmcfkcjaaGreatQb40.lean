/-
  Texts beneath the proof.
-/
import Derived.Test.YtjecmgkmcfkcjaaGreatQb39
import Derived.Test.YtjecmgkmcfkcjaaGreatQb30
import Derived.Test.YtjecmgkmcfkcjaaGreatQb13
import Derived.Test.YtjecmgkmcfkcjaaGreatQb14
set_option linter.unusedVariables false
set_option linter.unusedSimpArgs false
set_option maxRecDepth 100000
open Go.ChangeShapes Go.WideShapes Go.ChangeAt Go.RowKit
namespace Go.Proofs.YtjecmgkmcfkcjaaGreat
namespace Wk
open Go.ChangeShapes Go.WideShapes Go.ChangeAt Go.RowKit Go.Shelf
open Ga Gb Wf
open Ye
attribute [local go_sem] Oper.semAt_some
attribute [local irreducible] HD.cells wpList Code.wp
end Wk
namespace Wl
open Ga Gb
open Ye
open Rd (dcode)
attribute [local irreducible] HD.cells wpList Code.wp
end Wl
namespace Wm
open Ga Gb
open Ye
open Rd (dcode)
attribute [local irreducible] HD.cells wpList Code.wp
end Wm
namespace Ls
open Ga Gb
open Ye
open Rd (dcode)
open Ma (roomN)
attribute [local irreducible] HD.cells wpList Code.wp
end Ls
end Go.Proofs.YtjecmgkmcfkcjaaGreat
