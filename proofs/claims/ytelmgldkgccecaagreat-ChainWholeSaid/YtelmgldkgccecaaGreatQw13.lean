/-
  Texts beneath the proof.
-/
import Derived.DeepKeys4
import Derived.Test.YtelmgldkgccecaaGreatQw12
import Derived.Test.YtelmgldkgccecaaGreatQw5
import Derived.Test.YtelmgldkgccecaaGreatQw1
import Derived.Test.YtelmgldkgccecaaGreatQw11
set_option linter.unusedVariables false
set_option linter.unusedSimpArgs false
set_option maxRecDepth 100000
open Go.ChangeShapes Go.WideShapes Go.ChangeAt Go.RowKit
namespace Go.Proofs.YtelmgldkgccecaaGreat
namespace Yj
end Yj
namespace Yi
end Yi
namespace Yz
end Yz
namespace Yl
end Yl
namespace Ym
open OwnE
theorem wordElt:Elt 23 72 1 8 (.int .u64 0):=⟨Tryz.underlying72,by kernel_rfl,rfl,by decide⟩
end Ym
end Go.Proofs.YtelmgldkgccecaaGreat
