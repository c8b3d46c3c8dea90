/-
  Texts beneath the proof.
-/
import Derived.Test.YtjecmgkmcfkcjaaGreatQh36
set_option linter.unusedVariables false
set_option linter.unusedSimpArgs false
set_option maxRecDepth 100000
open Go.ChangeShapes Go.WideShapes Go.ChangeAt Go.RowKit
namespace Go.Proofs.YtjecmgkmcfkcjaaGreat
namespace Vh
open Ga Gb
open Ye Yh
open Rl (res_slot_cell)
open Re (load_code)
attribute [local irreducible] HD.cells wpList Code.wp
end Vh
namespace Wb
open Ga Gb
open Ye Yh
open Ym (wordElt)
attribute [local irreducible] HD.cells wpList Code.wp
end Wb
namespace Wd
def its (g:Nat→Int):Nat→Nat→List (Int×Int)
 |0,_=>[]
 |m+1,i=>(g i,0)::its g m (i+1)
end Wd
namespace Wc
open Ga Gb
open Ye Yh
open Rd (dcode)
open Ym (wordElt)
attribute [local irreducible] HD.cells wpList Code.wp
end Wc
end Go.Proofs.YtjecmgkmcfkcjaaGreat
