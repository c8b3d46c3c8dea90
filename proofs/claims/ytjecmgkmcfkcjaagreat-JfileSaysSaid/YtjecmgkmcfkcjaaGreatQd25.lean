/-
  Texts beneath the proof.
-/
import Derived.Test.YtjecmgkmcfkcjaaGreatQd24
set_option linter.unusedVariables false
set_option linter.unusedSimpArgs false
set_option maxRecDepth 100000
namespace Go.Proofs.YtjecmgkmcfkcjaaGreat
namespace Zf
open Ma Mg Na Nc Nh Nl Za
end Zf
end Go.Proofs.YtjecmgkmcfkcjaaGreat
