/-
  Texts beneath the proof.
-/
import Derived.Test.YtjecmgkmcfkcjaaGreatQh35
set_option linter.unusedVariables false
set_option linter.unusedSimpArgs false
set_option maxRecDepth 100000
open Go.ChangeShapes Go.WideShapes Go.ChangeAt Go.RowKit
namespace Go.Proofs.YtjecmgkmcfkcjaaGreat
namespace Vb
open Ob Ga Gb Np Sg
open Rd (dcode dz)
attribute [local irreducible] HD.cells wpList Code.wp
attribute [local irreducible] ofS bnum bpay bcode
end Vb
namespace Vf
open Ga Gb
open Ye Yh
open Rl (res_slot_cell)
open Re (load_code)
attribute [local irreducible] HD.cells wpList Code.wp
end Vf
namespace Wa
open OwnE Ga Gb Dc
open Ye Yh
open Ym (wordElt)
def nothB (n:Nat)(x:Int):Bool:=decide (x=0)||decide ((n:Int)≤x)
attribute [local irreducible] HD.cells wpList Code.wp
def TellL (R:List Int×Int)(w:World)(e:Ending)(w':World):Prop:=Below w.heap.size w w'∧ ∃A m c,e= .returned (.tuple #[.slice A m c,.int .i64 R.2])∧OwnE 40 1 w' w.heap.size A m c (R.1.map (Value.int .u64))∧R.1.length=m
end Wa
namespace Xc
open Ga Gb Np
open Rd (dcode)
attribute [local irreducible] HD.cells wpList Code.wp
end Xc
end Go.Proofs.YtjecmgkmcfkcjaaGreat
