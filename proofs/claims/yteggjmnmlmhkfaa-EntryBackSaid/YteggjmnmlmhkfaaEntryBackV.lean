/-
  The walk of EntryBack, whatever comes in.
-/
import Derived.Test.YteggjmnmlmhkfaaEntryBackW
import Derived.Test.YteggjmnmlmhkfaaEbl
namespace Go.Proofs.Yteggjmnmlmhkfaa.EntryBackV
open Go.ChangeShapes Go.WideShapes Go.ChangeAt Go.RowKit
open Bytes8 Blk8 Rows2 Ys
set_option linter.unusedVariables false

theorem walk (sq xo : Int) (K : Nat → Int) (A : Option Addr) (n cap : Nat) (z : List Int) (at1 : Int) (w : World) (h0 : (Lit.int .u64 sq).wf = true) (h1 : (Lit.int .u64 xo).wf = true) (h2 : IdOk K) (h3 : IsRow .i64 w A n cap z) (h4 : (Lit.int .i64 at1).wf = true) :
    Calls Try.prog 5 #[.int .u64 sq, .int .u64 xo, idV K, .slice A n cap, .int .i64 at1] w fun e w' => e = .returned (.bool true) ∧ Below w.heap.size w w' := by
  by_cases h : 30 < n ∨ n = 0
  · exact Ebl.walk_long sq xo K A n cap at1 w h
  · exact EntryBackW.walk_main sq xo K A n cap _ at1 w (bounds_u64 h0) (bounds_u64 h1) h2 (ints_in h3).1 (by omega) (by omega)
end Go.Proofs.Yteggjmnmlmhkfaa.EntryBackV
