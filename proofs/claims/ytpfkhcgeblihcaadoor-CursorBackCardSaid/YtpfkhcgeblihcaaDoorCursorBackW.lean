/-
  The walk of CursorBack.
-/
import Derived.Test.YtpfkhcgeblihcaaDoorKuq
import Derived.Test.YtpfkhcgeblihcaaDoorCursorBackW1
import Derived.Test.YtpfkhcgeblihcaaDoorCursorBackW2
import Derived.Test.YtpfkhcgeblihcaaDoorCursorBackW3
import Derived.Test.YtpfkhcgeblihcaaDoorKug
import Derived.Test.YtpfkhcgeblihcaaDoorKuo
import Derived.Test.YtpfkhcgeblihcaaDoorNumb
import Derived.Deep.CutRange
import Derived.Deep.MidRow
namespace Go.Proofs.YtpfkhcgeblihcaaDoor.CursorBackW
open Go.ChangeShapes Go.WideShapes Go.ChangeAt Go.RowKit
open Bytes8 Blk8 Own8 Fa Fo Kua Kub Kuc Kud Kue Kuf Kug Kui Kuj Kuk Kun Kuo Kup Kuq Numb
set_option linter.unusedVariables false
set_option linter.unusedSimpArgs false
set_option maxRecDepth 100000

theorem walk (c : Cur) (n x : Int) (w : World) (hc : c.Ok) (hn : (Lit.int .i64 n).wf = true) (hx : (Lit.int .u8 x).wf = true) (hT : Tab w) :
    Calls Tryd.prog 4 #[c.v, .int .i64 n, .int .u8 x] w fun e w' => e = .returned (.bool true) ∧ Below w.heap.size w w' := by
  by_cases h : x = 0
  · exact CursorBackW1.walk c n x w hc hn hx hT h
  · cases h2 : okP (spoilt c n x)
    · exact CursorBackW3.walk c n x w hc hn hx hT ⟨h, h2⟩
    · exact CursorBackW2.walk c n x w hc hn hx hT ⟨h, h2⟩
end Go.Proofs.YtpfkhcgeblihcaaDoor.CursorBackW
