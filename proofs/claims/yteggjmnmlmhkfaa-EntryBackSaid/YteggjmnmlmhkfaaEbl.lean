/-
  EntryBack where there is no item, or too many.
-/
import Derived.Test.YteggjmnmlmhkfaaYs
import Derived.Test.YteggjmnmlmhkfaaYb
namespace Go.Proofs.Yteggjmnmlmhkfaa.Ebl
open Go.ChangeShapes Go.WideShapes Go.ChangeAt Go.RowKit
open Bytes8 Blk8 Own8 OwnM OwnE Rows2 Ob Od Yc Yp Yd Yg Yi Ys Yb
set_option linter.unusedVariables false
set_option linter.unusedSimpArgs false
set_option maxRecDepth 100000

set_option maxHeartbeats 4000000 in
theorem walk_long (sq xo : Int) (K : Nat → Int) (A : Option Addr) (n cap : Nat) (at1 : Int) (w : World) (h : 30 < n ∨ n = 0) :
    Calls Try.prog 5 #[.int .u64 sq, .int .u64 xo, idV K, .slice A n cap, .int .i64 at1] w fun e w' => e = .returned (.bool true) ∧ Below w.heap.size w w' := by
  have B0 := Lib.hid ((Below.refl w.heap.size w).alloc (Nat.le_refl _) (idC 26 K))
  rcases h with h | rfl
  · have d1 : decide ((30 : Int) < (n : Int)) = true := by simp; omega
    go_enter Try.func5, Try.ntmps5
    go_wp2_with (go_at_call 8; (with_reducible refine (first_any _).mono ?_); rintro e w1 ⟨rfl, hbel⟩; have B1 := Lib.hid (B0.out.trans (hbel.mono B0.out.size)); clear hbel)
    go_ret
    exact ⟨rfl, B1.out⟩
  · go_enter Try.func5, Try.ntmps5
    go_wp2_with (go_at_call 8; (with_reducible refine (first_any _).mono ?_); rintro e w1 ⟨rfl, hbel⟩; have B1 := Lib.hid (B0.out.trans (hbel.mono B0.out.size)); clear hbel)
    go_ret
    exact ⟨rfl, B1.out⟩
end Go.Proofs.Yteggjmnmlmhkfaa.Ebl
