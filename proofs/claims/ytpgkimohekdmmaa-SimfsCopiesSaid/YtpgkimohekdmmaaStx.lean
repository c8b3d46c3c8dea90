/-
  Two rows of texts held against each other.
-/
import Derived.Test.YtpgkimohekdmmaaTt
import Derived.BigQuiet
namespace Go.Proofs.Ytpgkimohekdmmaa.Pv8
open Go.ChangeShapes Go.WideShapes Go.ChangeAt Go.RowKit
open Bytes8 Blk8 Own8 OwnE Fa
set_option linter.unusedVariables false
set_option maxRecDepth 100000
set_option linter.unusedSimpArgs false

theorem tElt : Elt 9 29 1 16 (.string { data := #[] }) := ⟨Try.underlying29, by kernel_rfl, rfl, by decide⟩

set_option maxRecDepth 100000 in
/-- Two rows of the same texts. -/
theorem stexts_yes (a b : Option Addr) (vs : List (List Int)) (n c d : Nat) (w : World) (hP : Txts w a vs) (hQ : Txts w b vs) (hL : vs.length = n) (hmax : n ≤ 1000000) :
    Calls Try.prog 27 #[.slice a n c, .slice b n d] w fun e w' => e = .returned (.bool true) ∧ Below w.heap.size w w' := by
  have HP := Lib.hid hP
  have HQ := Lib.hid hQ
  have HL := Lib.hid hL
  have hmx : Try.prog.follows .mixedOrders = true := by kernel_rfl
  clear hP hQ hL
  go_enter Try.func27, Try.ntmps27
  go_wp2
  go_loopw [5] (fun i wr => ∃ j : Nat, j ≤ n ∧ i = .int .i64 (j : Int) ∧ Hid (Below w.heap.size w wr)) (fun i _ => n - (intOf i).toNat)
  case atStart => exact ⟨0, by omega, rfl, Lib.hid (Below.refl _ _)⟩
  case round =>
    obtain ⟨j, hj, rfl, hB⟩ := hrel
    rcases Nat.lt_or_ge j n with hlt | hge
    · obtain ⟨b1, off1, rfl, hbl1, hc0⟩ := (HP.out.below hB.out) j (by have := HL.out; omega)
      obtain ⟨b2, off2, rfl, hbl2, hd0⟩ := (HQ.out.below hB.out) j (by have := HL.out; omega)
      have hin : (j : Int) < (n : Int) := by omega
      generalize T (vs.getD j []) = E1 at *
      go_wp2_with fail
      go_quiet (fail)
      go_wp2
      go_round
      case rel => exact ⟨j + 1, by omega, by go_num, Lib.hid (below_drewN hB.out _)⟩
      case measure => simp [intOf]; omega
    · obtain rfl : j = n := by omega
      go_wp2
      go_ret
      exact ⟨rfl, hB.out⟩
end Go.Proofs.Ytpgkimohekdmmaa.Pv8
