/-
  What 'Align' answers: the number rounded up to eight, or none. No condition but that the number fits its kind.
-/
import Derived.Test.YtekmbgcijkdkfaaBytes
namespace Go.Proofs.Ytekmbgcijkdkfaa.LeAl
open Go.ChangeShapes Go.WideShapes Go.ChangeAt Go.RowKit
open Bytes8
set_option linter.unusedVariables false
set_option maxRecDepth 100000

def alignUp (v : Int) : Int := (v + 7) / 8 * 8

theorem align_yes (v : Int) (w : World) (h0 : 0 ≤ v) (h : v ≤ 18446744073709551608) :
    Calls Try.prog 49 #[.int .u64 v] w fun e w' => e = .returned (.tuple #[.int .u64 (alignUp v), .bool true]) ∧ w = w' := by
  go_enter Try.func49, Try.ntmps49
  go_wp2
  go_ret2
  refine ⟨ret_int_bool ?_, rfl⟩
  simp only [IntKind.wrap_u64, alignUp]
  rw [Int.tdiv_eq_ediv_of_nonneg (Int.emod_nonneg _ (by decide))]
  omega

theorem align_no (v : Int) (w : World) (h : 18446744073709551608 < v) :
    Calls Try.prog 49 #[.int .u64 v] w fun e w' => e = .returned (.tuple #[.int .u64 0, .bool false]) ∧ w = w' := by
  go_enter Try.func49, Try.ntmps49
  go_wp2
  go_ret2
  exact ⟨rfl, rfl⟩

end Go.Proofs.Ytekmbgcijkdkfaa.LeAl
