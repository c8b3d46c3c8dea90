/-
  Texts beneath the proof.
-/
import Derived.Test.YtjecmgkmcfkcjaaGreatQa1
import Derived.Deep.RegionLaw
import Derived.Recover
import Derived.Defers
import Derived.Test.YtjecmgkmcfkcjaaGreatQa34
import Derived.Test.YtjecmgkmcfkcjaaGreatQa14
set_option linter.unusedVariables false
set_option linter.unusedSimpArgs false
set_option maxRecDepth 100000
open Go.ChangeShapes Go.WideShapes Go.ChangeAt Go.RowKit
namespace Go.Proofs.YtjecmgkmcfkcjaaGreat
namespace Rn
open Bytes8 Blk8 OwnE Ob Sg Fa Ya Rm
open Kf Yc
open Rd (dcode dz)
open Re (ReadD)
theorem In2.older {w w':World}{a:Option Addr}{n:Nat}{f g:Nat→Int}(h:In2 w a n f g)(hb:Below w.heap.size w w'):In2 w' a n f g:=fun i hi=>by
 obtain⟨b,off,e,h1,h2,h3,h4⟩:=h i hi
 exact⟨b,off,e,jL h1 hb.size,(hb.cell (p:=⟨b,off+i*2,none⟩) h1).trans h2,(hb.cell (p:=⟨b,off+i*2+1,none⟩) h1).trans h3,h4⟩
attribute [local irreducible] wpList Code.wp ofS bnum bpay bcode splitE splitN splitV xr rowsL
end Rn
namespace Ro
open Re (res_row_cell load_code)
attribute [local irreducible] wpList Code.wp
end Ro
end Go.Proofs.YtjecmgkmcfkcjaaGreat
