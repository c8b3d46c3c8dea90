/-
  Texts beneath the proof, one behind the other.
-/
import Derived.Deep.RegionLaw
import Derived.Recover
import Derived.Defers
import Derived.Test.YtkdbgilnehjpmaaGreatQl29
import Derived.Test.YtkdbgilnehjpmaaGreatQl13
/-
  The program's View.record: an entry with its fields.
-/
namespace Go.Proofs.YtkdbgilnehjpmaaGreat.Rn
open Go.ChangeShapes Go.WideShapes Go.ChangeAt Go.RowKit
open Bytes8 Blk8 Own8 OwnM OwnE OwnA LeA LeNum LeP Rows2 Ob Oc Od Ga Gb Gc Gd Gf Gi Gj Oi Oj Ok7 Np Nr Sg Pr8 Fa Fsp Dc Ya Ra Rc Rj Rk Rm
open Kf Yc Yp Yd Ye Yf Yg Yh Rh Ri
open Rd (dcode dz)
open Re (ReadD)
set_option linter.unusedVariables false
set_option linter.unusedSimpArgs false
set_option maxRecDepth 100000
attribute [local irreducible] wpList Code.wp ofS bnum bpay bcode splitE splitN splitV xr rowsL
end Go.Proofs.YtkdbgilnehjpmaaGreat.Rn
/-
  The program's View.Record, told.
-/
namespace Go.Proofs.YtkdbgilnehjpmaaGreat.Ro
open Go.ChangeShapes Go.WideShapes Go.ChangeAt Go.RowKit
open Bytes8 Blk8 Own8 OwnM OwnE LeA LeNum LeP Rows2 Ob Oc Od Ga Gb Gc Gd Gf Gi Gj Oi Oj Ok7 Np Nr Pr8 Ra Rc Rk Rm Rn
open Yc Yp Yd Ye Yf Yg Yh
open Ri (new_ne new_mono)
open Re (res_row_cell load_code)
set_option linter.unusedVariables false
set_option linter.unusedSimpArgs false
set_option maxRecDepth 100000
attribute [local irreducible] wpList Code.wp
end Go.Proofs.YtkdbgilnehjpmaaGreat.Ro
