/-
  Texts beneath the proof.
-/
import Derived.DeepKeys4
import Derived.Test.YtjecmgkmcfkcjaaGreatQb12
import Derived.Test.YtjecmgkmcfkcjaaGreatQb5
import Derived.Test.YtjecmgkmcfkcjaaGreatQb1
import Derived.Test.YtjecmgkmcfkcjaaGreatQb11
set_option linter.unusedVariables false
set_option linter.unusedSimpArgs false
set_option maxRecDepth 100000
open Go.ChangeShapes Go.WideShapes Go.ChangeAt Go.RowKit
namespace Go.Proofs.YtjecmgkmcfkcjaaGreat
namespace Yj
end Yj
namespace Yi
end Yi
namespace Yz
end Yz
namespace Yl
end Yl
namespace Ym
end Ym
end Go.Proofs.YtjecmgkmcfkcjaaGreat
