/-
  Texts beneath the proof.
-/
import Derived.RangeFuncNested
import Derived.RangeFuncBox
import Derived.RangeFuncLeaves
import Derived.Shelf.Abstract
import Derived.WalkKit
import Derived.OwnWalkIn
import Derived.TacticsInMore
import Derived.LoopNIn
import Derived.LoopIn
import Derived.Test.YtelmgldkgccecaaGreatQr34
import Derived.Test.YtelmgldkgccecaaGreatQr31
import Derived.Test.YtelmgldkgccecaaGreatQr8
import Derived.Test.YtelmgldkgccecaaGreatQr14
import Derived.Test.YtelmgldkgccecaaGreatQr13
import Derived.Test.YtelmgldkgccecaaGreatQr4
import Derived.Test.YtelmgldkgccecaaGreatQr5
set_option linter.unusedVariables false
set_option linter.unusedSimpArgs false
set_option maxRecDepth 100000
open Go.ChangeShapes Go.WideShapes Go.ChangeAt Go.RowKit
namespace Go.Proofs.YtelmgldkgccecaaGreat
namespace Va
open Ga Gb Np
open Ye
open Rd (dcode dz)
open Ri (ecode9 ez)
attribute [local irreducible] HD.cells wpList Code.wp
end Va
namespace Wa
open Ga Gb
open Ye
attribute [local irreducible] HD.cells wpList Code.wp
end Wa
namespace Wb
open Ga Gb
open Ye
attribute [local irreducible] HD.cells wpList Code.wp
end Wb
namespace Wd
def its (g:Nat→Int):Nat→Nat→List (Int×Int)
 |0,_=>[]
 |m+1,i=>(g i,0)::its g m (i+1)
end Wd
namespace Wc
open Ga Gb
open Ye
open Rd (dcode)
attribute [local irreducible] HD.cells wpList Code.wp
end Wc
namespace We
open Go.ChangeShapes Go.WideShapes Go.ChangeAt Go.RowKit Go.Shelf
variable {F : Fence} {n : Nat} {P : Program}
end We
end Go.Proofs.YtelmgldkgccecaaGreat
