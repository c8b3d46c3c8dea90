/-
  What the small functions under the statements of layer 1 answer: the widths, the place test. No condition.
-/
import Derived.Test.YtekmbgcijkdkfaaBlk
namespace Go.Proofs.Ytekmbgcijkdkfaa.LeA
open Go.ChangeShapes Go.WideShapes Go.ChangeAt Go.RowKit
set_option linter.unusedVariables false
set_option maxRecDepth 100000

open Bytes8 Blk8

def isW (n : Int) : Bool := n == 1 || n == 2 || n == 4 || n == 8

theorem isWidth_any (n : Int) (w : World) :
    Calls Try.prog 57 #[.int .i64 n] w fun e w' => e = .returned (.bool (isW n)) ∧ w = w' := by
  by_cases h1 : n = 1
  · subst h1
    go_enter Try.func57, Try.ntmps57
    go_wp2
    go_ret
    exact ⟨rfl, rfl⟩
  by_cases h2 : n = 2
  · subst h2
    go_enter Try.func57, Try.ntmps57
    go_wp2
    go_ret
    exact ⟨rfl, rfl⟩
  by_cases h4 : n = 4
  · subst h4
    go_enter Try.func57, Try.ntmps57
    go_wp2
    go_ret
    exact ⟨rfl, rfl⟩
  by_cases h8 : n = 8
  · subst h8
    go_enter Try.func57, Try.ntmps57
    go_wp2
    go_ret
    exact ⟨rfl, rfl⟩
  · go_enter Try.func57, Try.ntmps57
    go_wp2
    go_ret
    exact ⟨rfl, rfl⟩

/-- THE PLACE TEST: a number of n bytes at the place at lies in so many bytes. -/
def fits (len : Nat) (at1 n : Int) : Bool := isW n && decide (0 ≤ at1) && decide (at1 ≤ len - n)

theorem within_any (a : Option Addr) (len cap : Nat) (at1 n : Int) (w : World) (hl : len ≤ 9223372036854775807) :
    Calls Try.prog 71 #[.slice a len cap, .int .i64 at1, .int .i64 n] w fun e w' => e = .returned (.bool (fits len at1 n)) ∧ w = w' := by
  cases hw : isW n with
  | false =>
    go_enter Try.func71, Try.ntmps71
    go_wp2_with (go_at_call 57; refine (isWidth_any _ _).mono ?_; rintro e w' ⟨rfl, rfl⟩)
    go_ret
    exact ⟨by simp [fits, hw], rfl⟩
  | true =>
    have hn : 1 ≤ n ∧ n ≤ 8 := by simp [isW] at hw; omega
    obtain ⟨hn1, hn8⟩ := hn
    by_cases h0 : 0 ≤ at1
    · go_enter Try.func71, Try.ntmps71
      go_wp2_with (go_at_call 57; refine (isWidth_any _ _).mono ?_; rintro e w' ⟨rfl, rfl⟩)
      go_ret
      exact ⟨by simp [fits, hw, h0], rfl⟩
    · go_enter Try.func71, Try.ntmps71
      go_wp2_with (go_at_call 57; refine (isWidth_any _ _).mono ?_; rintro e w' ⟨rfl, rfl⟩)
      go_ret
      exact ⟨by simp [fits, hw]; omega, rfl⟩
end Go.Proofs.Ytekmbgcijkdkfaa.LeA
