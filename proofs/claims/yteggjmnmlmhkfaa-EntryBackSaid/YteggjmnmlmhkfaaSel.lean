/-
  What both Lookups answer, of nothing too.
-/
import Derived.Test.YteggjmnmlmhkfaaHd
import Derived.Test.YteggjmnmlmhkfaaHf
namespace Go.Proofs.Yteggjmnmlmhkfaa.Se
open Go.ChangeShapes Go.WideShapes Go.ChangeAt Go.RowKit
open Bytes8 Blk8 LeNum Hm Ha Hb Hc Hd He Hf
set_option linter.unusedVariables false
set_option maxRecDepth 100000

theorem look_all (A : Option Addr) (l : List Int) (len cap : Nat) (w : World) (hb : Bytes w A l) (hL : l.length = len) (hmax : len ≤ 800000) (hcap : len ≤ cap) (hcap2 : cap ≤ maxLen) :
    Calls Try.prog 40 #[.slice A len cap] w fun e w' => e = .returned (.int .u64 (lookS l)) ∧ Below w.heap.size w w' := by
  by_cases h0 : 0 < len
  · exact look_any A l len cap w hb hL h0 (by omega) hcap hcap2
  · obtain rfl : len = 0 := by omega
    obtain rfl : l = [] := List.eq_nil_of_length_eq_zero hL
    exact look_nil_any A cap w

theorem rlook_all (A : Option Addr) (l : List Int) (len cap : Nat) (w : World) (hb : Bytes w A l) (hL : l.length = len) (hmax : len ≤ 800000) :
    Calls Try.prog 28 #[.slice A len cap] w fun e w' => e = .returned (.int .u64 (lookS l)) ∧ w = w' := by
  by_cases h0 : 0 < len
  · exact rlook_any A l len cap w hb hL h0 (by omega)
  · obtain rfl : len = 0 := by omega
    obtain rfl : l = [] := List.eq_nil_of_length_eq_zero hL
    exact rlook_nil A cap w

end Go.Proofs.Yteggjmnmlmhkfaa.Se
