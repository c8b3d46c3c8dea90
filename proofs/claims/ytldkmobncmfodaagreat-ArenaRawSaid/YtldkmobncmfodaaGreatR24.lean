/-
  Texts beneath the proof, one behind the other.
-/
import Derived.Deep.RegionHeld3
import Derived.BigRegion
import Derived.Laws.IdiomStrings
import Derived.Test.YtldkmobncmfodaaGreatR21
import Derived.Test.YtldkmobncmfodaaGreatR17
import Derived.Test.YtldkmobncmfodaaGreatR20

/-
  The document's writer: an entry more.
-/
namespace Go.Proofs.YtldkmobncmfodaaGreat.Ni
open Go.ChangeShapes Go.WideShapes Go.ChangeAt Go.RowKit
open Bytes8 Blk8 Own8 OwnM OwnA OwnE LeA LeNum LeB LeP RefA RefB Rows2 Ob Oc Od Oj Ga Ma Kf Mb Mc Md Me Mf Mg Mh Fa Fb Fc Sg Dc Yc Yd Yk Gb Na Nb Nc Nd Nee Nf Ng Nh Nk Nl Nm No Ya Pr8 Ps8 Pl8 Pr2
set_option linter.unusedVariables false
set_option linter.unusedSimpArgs false
set_option maxRecDepth 100000

attribute [local irreducible] Mk.cells wpList Code.wp
variable {B g : Nat} {p : Pl} {m : Mk}
end Go.Proofs.YtldkmobncmfodaaGreat.Ni
