/-
  Texts beneath the proof.
-/
import Derived.Test.YtjecmgkmcfkcjaaGreatQh12
set_option linter.unusedVariables false
set_option linter.unusedSimpArgs false
set_option maxRecDepth 100000
open Go.ChangeShapes Go.WideShapes Go.ChangeAt Go.RowKit
namespace Go.Proofs.YtjecmgkmcfkcjaaGreat
namespace Yj
end Yj
namespace Yi
end Yi
namespace Yz
end Yz
namespace Yl
end Yl
namespace Ym
open OwnE
theorem wordElt:Elt 40 33 1 8 (.int .u64 0):=⟨Tryz.underlying33,by kernel_rfl,rfl,by decide⟩
end Ym
end Go.Proofs.YtjecmgkmcfkcjaaGreat
