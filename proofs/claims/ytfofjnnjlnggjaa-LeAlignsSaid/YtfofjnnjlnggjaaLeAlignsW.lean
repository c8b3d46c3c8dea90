/-
  The walk of LeAligns: at any number the law returns true, and nothing that was there is written.
-/
import Derived.Test.YtfofjnnjlnggjaaLeC
namespace Go.Proofs.Ytfofjnnjlnggjaa.LeAlignsW
open Go.ChangeShapes Go.WideShapes Go.ChangeAt Go.RowKit
open Bytes8 LeA LeNum LeB LeC

theorem align_to (v a : Int) (w : World) (h0 : 0 ≤ v) (h : v ≤ 18446744073709551608) (e1 : alignUp v = a) :
    Calls Try.prog 12 #[.int .u64 v] w fun e w' => e = .returned (.tuple #[.int .u64 a, .bool true]) ∧ w = w' := by
  subst e1; exact align_yes v w h0 h

theorem walk (a0 : Int) (w0 : (Lit.int .u64 a0).wf = true) (w : World) :
    Calls Try.prog 5 #[.int .u64 a0] w fun e w' => e = .returned (.bool true) ∧ Below w.heap.size w w' := by
  obtain ⟨b0, b1⟩ := bounds_u64 w0
  clear w0
  by_cases hb : a0 ≤ 18446744073709551608
  · obtain ⟨a, e1, e2, h1, h2, h3, h4⟩ : ∃ a, Hid (alignUp a0 = a) ∧ Hid (alignUp a = a) ∧ a % 8 = 0 ∧ a0 ≤ a ∧ a - a0 < 8 ∧ a ≤ 18446744073709551608 :=
      ⟨alignUp a0, rfl, by unfold Hid alignUp; omega, by unfold alignUp; omega, by unfold alignUp; omega, by unfold alignUp; omega, by unfold alignUp; omega⟩
    have h5 : 0 ≤ a := by omega
    go_enter Try.func5, Try.ntmps5
    go_wp2_with (first | (go_at_call 7; (with_reducible refine (first_any _).mono ?_); rintro e w1 ⟨rfl, hbel⟩) | (go_at_call 12; (with_reducible refine (align_to a0 a _ b0 hb e1.out).mono ?_); rintro e w' ⟨rfl, rfl⟩) | (go_at_call 12; (with_reducible refine (align_to a a _ h5 h4 e2.out).mono ?_); rintro e w' ⟨rfl, rfl⟩))
    go_ret
    exact ⟨rfl, hbel⟩
  · have hb' : 18446744073709551608 < a0 := by omega
    clear hb
    go_enter Try.func5, Try.ntmps5
    go_wp2_with (first | (go_at_call 7; (with_reducible refine (first_any _).mono ?_); rintro e w1 ⟨rfl, hbel⟩) | (go_at_call 12; (with_reducible refine (align_no a0 _ hb').mono ?_); rintro e w' ⟨rfl, rfl⟩))
    go_ret
    exact ⟨rfl, hbel⟩
end Go.Proofs.Ytfofjnnjlnggjaa.LeAlignsW
