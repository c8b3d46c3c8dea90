/-
  Texts beneath the proof.
-/
import Derived.Sort.CutIn
import Derived.Test.YtelmgldkgccecaaGreatQr35
set_option linter.unusedVariables false
set_option linter.unusedSimpArgs false
set_option maxRecDepth 100000
namespace Go.Proofs.YtelmgldkgccecaaGreat
namespace Wf
open Go.ChangeShapes Go.WideShapes Go.ChangeAt Go.RowKit Go.Shelf
open Bytes8 Blk8 Kf Own8 OwnA OwnE Rows2 Ga Gb Rc
open Yc Ye Yg
attribute [local go_sem] Oper.semAt_some
def rowOf (V:World)(lb:Nat):Option Nat:=match V.cell? ⟨lb,0,none⟩with
 |some (.slice A _ _)=>ownB A
 |_=>none
attribute [local irreducible] HD.cells wpList Code.wp
end Wf
end Go.Proofs.YtelmgldkgccecaaGreat
