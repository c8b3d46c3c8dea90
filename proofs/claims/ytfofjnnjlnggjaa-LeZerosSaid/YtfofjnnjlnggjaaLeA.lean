/-
  What the small functions under the statements of layer 1 answer: the widths, the place test, rounding up to eight, the number below another one. No condition but that a number fits its kind where it says so.
-/
import Derived.Test.YtfofjnnjlnggjaaBytes
namespace Go.Proofs.Ytfofjnnjlnggjaa.LeA
open Go.ChangeShapes Go.WideShapes Go.ChangeAt Go.RowKit

open Bytes8

def isW (n : Int) : Bool := n == 1 || n == 2 || n == 4 || n == 8

theorem isWidth_any (n : Int) (w : World) :
    Calls Try.prog 23 #[.int .i64 n] w fun e w' => e = .returned (.bool (isW n)) ∧ w = w' := by
  by_cases h1 : n = 1
  · subst h1
    go_enter Try.func23, Try.ntmps23
    go_wp2
    go_ret
    exact ⟨rfl, rfl⟩
  by_cases h2 : n = 2
  · subst h2
    go_enter Try.func23, Try.ntmps23
    go_wp2
    go_ret
    exact ⟨rfl, rfl⟩
  by_cases h4 : n = 4
  · subst h4
    go_enter Try.func23, Try.ntmps23
    go_wp2
    go_ret
    exact ⟨rfl, rfl⟩
  by_cases h8 : n = 8
  · subst h8
    go_enter Try.func23, Try.ntmps23
    go_wp2
    go_ret
    exact ⟨rfl, rfl⟩
  · go_enter Try.func23, Try.ntmps23
    go_wp2
    go_ret
    exact ⟨rfl, rfl⟩

def alignUp (v : Int) : Int := (v + 7) / 8 * 8

theorem align_yes (v : Int) (w : World) (h0 : 0 ≤ v) (h : v ≤ 18446744073709551608) :
    Calls Try.prog 12 #[.int .u64 v] w fun e w' => e = .returned (.tuple #[.int .u64 (alignUp v), .bool true]) ∧ w = w' := by
  go_enter Try.func12, Try.ntmps12
  go_wp2
  go_ret2
  refine ⟨ret_int_bool ?_, rfl⟩
  simp only [IntKind.wrap_u64, alignUp]
  rw [Int.tdiv_eq_ediv_of_nonneg (Int.emod_nonneg _ (by decide))]
  omega

theorem align_no (v : Int) (w : World) (h : 18446744073709551608 < v) :
    Calls Try.prog 12 #[.int .u64 v] w fun e w' => e = .returned (.tuple #[.int .u64 0, .bool false]) ∧ w = w' := by
  go_enter Try.func12, Try.ntmps12
  go_wp2
  go_ret2
  exact ⟨rfl, rfl⟩

def numBelow (n b : Int) : Int := (n.tmod b + b) % b
theorem numBelow_lo (n b : Int) (hb : 1 ≤ b) : 0 ≤ numBelow n b := Int.emod_nonneg _ (by omega)
theorem numBelow_hi (n b : Int) (hb : 1 ≤ b) : numBelow n b < b := Int.emod_lt_of_pos _ (by omega)
theorem tmod_lo (n b : Int) (hb : 1 ≤ b) : -b < n.tmod b ∧ n.tmod b < b := by
  have h1 := Int.tmod_lt_of_pos n (b := b) (by omega)
  have h2 := Int.lt_tmod_of_pos n (b := b) (by omega)
  omega

theorem number_any (n b : Int) (w : World) (hb : 1 ≤ b) (hb2 : b ≤ 4611686018427387903) :
    Calls Try.prog 17 #[.int .i64 n, .int .i64 b] w fun e w' => e = .returned (.int .i64 (numBelow n b)) ∧ w = w' := by
  have t := tmod_lo n b hb
  obtain ⟨t1, t2⟩ := t
  go_enter Try.func17, Try.ntmps17
  go_wp2
  go_ret
  exact ⟨rfl, rfl⟩

theorem number_nat (n b : Int) (j : Nat) (w : World) (hb : 1 ≤ b) (hb2 : b ≤ 4611686018427387903) (hj : numBelow n b = j) :
    Calls Try.prog 17 #[.int .i64 n, .int .i64 b] w fun e w' => e = .returned (.int .i64 (j : Int)) ∧ w = w' := by
  rw [← hj]; exact number_any n b w hb hb2

theorem below_nat (n b : Int) (hb : 1 ≤ b) : ∃ j : Nat, Hid (numBelow n b = j) ∧ (j : Int) < b := by
  have h1 := numBelow_lo n b hb
  have h2 := numBelow_hi n b hb
  exact ⟨(numBelow n b).toNat, by unfold Hid; omega, by omega⟩

/-- THE PLACE TEST: a number of n bytes at the place at lies in so many bytes. -/
def fits (len : Nat) (at1 n : Int) : Bool := isW n && decide (0 ≤ at1) && decide (at1 ≤ len - n)

theorem within_any (a : Option Addr) (len cap : Nat) (at1 n : Int) (w : World) (hl : len ≤ 9223372036854775807) :
    Calls Try.prog 19 #[.slice a len cap, .int .i64 at1, .int .i64 n] w fun e w' => e = .returned (.bool (fits len at1 n)) ∧ w = w' := by
  cases hw : isW n with
  | false =>
    go_enter Try.func19, Try.ntmps19
    go_wp2_with (go_at_call 23; refine (isWidth_any _ _).mono ?_; rintro e w' ⟨rfl, rfl⟩)
    go_ret
    exact ⟨by simp [fits, hw], rfl⟩
  | true =>
    have hn : 1 ≤ n ∧ n ≤ 8 := by simp [isW] at hw; omega
    obtain ⟨hn1, hn8⟩ := hn
    by_cases h0 : 0 ≤ at1
    · go_enter Try.func19, Try.ntmps19
      go_wp2_with (go_at_call 23; refine (isWidth_any _ _).mono ?_; rintro e w' ⟨rfl, rfl⟩)
      go_ret
      exact ⟨by simp [fits, hw, h0], rfl⟩
    · go_enter Try.func19, Try.ntmps19
      go_wp2_with (go_at_call 23; refine (isWidth_any _ _).mono ?_; rintro e w' ⟨rfl, rfl⟩)
      go_ret
      exact ⟨by simp [fits, hw]; omega, rfl⟩
end Go.Proofs.Ytfofjnnjlnggjaa.LeA
