/-
  Texts beneath the proof, one behind the other.
-/
import Derived.Deep.RegionHeld3
import Derived.Test.YtldkmobncmfodaaGreatR17
import Derived.Test.YtldkmobncmfodaaGreatR11

/-
  The document's writer: the object of a payload.
-/
namespace Go.Proofs.YtldkmobncmfodaaGreat.Nee
open Go.ChangeShapes Go.WideShapes Go.ChangeAt Go.RowKit
open Bytes8 Blk8 Own8 OwnM OwnA OwnE LeA LeNum LeB LeP RefA RefB Ob Oc Od Oj Ga Ma Kf Mb Mc Md Me Mf Mg Fa Fb Fc Sg Dc Na Nb Nc Nd
set_option linter.unusedVariables false
set_option linter.unusedSimpArgs false
set_option maxRecDepth 100000

attribute [local irreducible] Mk.cells wpList Code.wp
variable {B g : Nat} {p : Pl} {m : Mk}
end Go.Proofs.YtldkmobncmfodaaGreat.Nee

/-
  The document's writer: an item into a chain of arrays.
-/
namespace Go.Proofs.YtldkmobncmfodaaGreat.Nf
open Go.ChangeShapes Go.WideShapes Go.ChangeAt Go.RowKit
open Bytes8 Blk8 Own8 OwnM OwnA OwnE LeA LeNum LeB LeP RefA RefB Rows2 Ob Oc Od Oj Ga Gn Ma Kf Mb Mc Md Me Mf Mg Fa Fb Fc Sg Dc Yc Yd Yk Na Nb Nc Nd
set_option linter.unusedVariables false
set_option linter.unusedSimpArgs false
set_option maxRecDepth 100000

/-! ## words -/

/-! ## link -/
attribute [local irreducible] Mk.cells wpList Code.wp
variable {B g : Nat} {p : Pl} {m : Mk}
end Go.Proofs.YtldkmobncmfodaaGreat.Nf
