/-
  Texts beneath the proof.
-/
import Derived.Test.YtiddkgcafpaekaaGreatQs23
set_option linter.unusedVariables false
set_option linter.unusedSimpArgs false
set_option maxRecDepth 100000
namespace Go.Proofs.YtiddkgcafpaekaaGreat
namespace Zf
end Zf
end Go.Proofs.YtiddkgcafpaekaaGreat
