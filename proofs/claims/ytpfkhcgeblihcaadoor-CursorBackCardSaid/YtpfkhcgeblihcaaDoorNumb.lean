/-
  What 'Number' answers: the number below another one, from 0 on.
-/
import Derived.Test.YtpfkhcgeblihcaaDoorBytes
namespace Go.Proofs.YtpfkhcgeblihcaaDoor.Numb
open Go.ChangeShapes Go.WideShapes Go.ChangeAt Go.RowKit
open Bytes8
set_option linter.unusedVariables false
set_option maxRecDepth 100000

def numBelow (n b : Int) : Int := (n.tmod b + b) % b
theorem numBelow_lo (n b : Int) (hb : 1 ≤ b) : 0 ≤ numBelow n b := Int.emod_nonneg _ (by omega)
theorem numBelow_hi (n b : Int) (hb : 1 ≤ b) : numBelow n b < b := Int.emod_lt_of_pos _ (by omega)
theorem tmod_lo (n b : Int) (hb : 1 ≤ b) : -b < n.tmod b ∧ n.tmod b < b := by
  have h1 := Int.tmod_lt_of_pos n (b := b) (by omega)
  have h2 := Int.lt_tmod_of_pos n (b := b) (by omega)
  omega

theorem number_any (n b : Int) (w : World) (hb : 1 ≤ b) (hb2 : b ≤ 4611686018427387903) :
    Calls Tryd.prog 24 #[.int .i64 n, .int .i64 b] w fun e w' => e = .returned (.int .i64 (numBelow n b)) ∧ w = w' := by
  have t := tmod_lo n b hb
  obtain ⟨t1, t2⟩ := t
  go_enter Tryd.func24, Tryd.ntmps24
  go_wp2
  go_ret
  exact ⟨rfl, rfl⟩

theorem number_nat (n b : Int) (j : Nat) (w : World) (hb : 1 ≤ b) (hb2 : b ≤ 4611686018427387903) (hj : numBelow n b = j) :
    Calls Tryd.prog 24 #[.int .i64 n, .int .i64 b] w fun e w' => e = .returned (.int .i64 (j : Int)) ∧ w = w' := by
  rw [← hj]; exact number_any n b w hb hb2

theorem below_nat (n b : Int) (hb : 1 ≤ b) : ∃ j : Nat, Hid (numBelow n b = j) ∧ (j : Int) < b := by
  have h1 := numBelow_lo n b hb
  have h2 := numBelow_hi n b hb
  exact ⟨(numBelow n b).toNat, by unfold Hid; omega, by omega⟩

end Go.Proofs.YtpfkhcgeblihcaaDoor.Numb
