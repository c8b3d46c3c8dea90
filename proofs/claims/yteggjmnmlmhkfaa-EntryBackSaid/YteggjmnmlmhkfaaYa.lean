/-
  Xor of payloads: plain, and the program's.
-/
import Derived.Test.YteggjmnmlmhkfaaSel
import Derived.Test.YteggjmnmlmhkfaaRows2
import Derived.Test.YteggjmnmlmhkfaaOwnF
import Derived.Test.YteggjmnmlmhkfaaSB
import Derived.Lib.SlBytesConst
namespace Go.Proofs.Yteggjmnmlmhkfaa.Ya
open Go.ChangeShapes Go.WideShapes Go.ChangeAt Go.RowKit
open Bytes8 Blk8 Own8 OwnM OwnE OwnA LeNum Hm Ha Hb Hc Hd He Hf Se Rows2 Dc Ff
set_option linter.unusedVariables false
set_option linter.unusedSimpArgs false
set_option maxRecDepth 100000

theorem ans_bd (t : Trio) : 0 ≤ ans t ∧ ans t ≤ 18446744073709551615 := b64 _ _ _
theorem lookS_bd (l : List Int) : 0 ≤ lookS l ∧ lookS l ≤ 18446744073709551615 := by
  unfold lookS
  split <;> exact ans_bd _
def lookN (l : List Int) : Nat := (lookS l).toNat
theorem lookN_is (l : List Int) : lookS l = (lookN l : Int) := by unfold lookN; have := lookS_bd l; omega
theorem lookN_lt (l : List Int) : lookN l < 2 ^ 64 := by unfold lookN; have := lookS_bd l; omega
/-- Xor of rows. -/
def xr (l : List (List Int)) : Nat := l.foldr (fun p v => v ^^^ lookN p) 0
theorem xr_nil : xr [] = 0 := rfl
theorem xr_cons (p : List Int) (l : List (List Int)) : xr (p :: l) = xr l ^^^ lookN p := rfl
theorem xr_lt (l : List (List Int)) : xr l < 2 ^ 64 := by
  induction l with
  | nil => decide
  | cons p l ih => rw [xr_cons]; exact Nat.xor_lt_two_pow ih (lookN_lt p)
theorem xr_app (l m : List (List Int)) : xr (l ++ m) = xr l ^^^ xr m := by
  induction l with
  | nil => simp [xr_nil]
  | cons p l ih => rw [List.cons_append, xr_cons, xr_cons, ih, Nat.xor_assoc, Nat.xor_assoc, Nat.xor_comm (xr m)]
theorem xr_snoc (l : List (List Int)) (p : List Int) : xr (l ++ [p]) = xr l ^^^ lookN p := by rw [xr_app, xr_cons, xr_nil, Nat.zero_xor]
theorem xr_rev (l : List (List Int)) : xr l.reverse = xr l := by
  induction l with
  | nil => rfl
  | cons p l ih => rw [List.reverse_cons, xr_snoc, xr_cons, ih]
/-- The rows up to the k-th. -/
def rowsL (P : Nat → List Int) (k : Nat) : List (List Int) := (List.range k).map P
theorem rowsL_succ (P : Nat → List Int) (k : Nat) : rowsL P (k + 1) = rowsL P k ++ [P k] := by simp [rowsL, List.range_succ]
theorem rowsL_zero (P : Nat → List Int) : rowsL P 0 = [] := rfl
theorem xr_step (P : Nat → List Int) (k : Nat) : xr (rowsL P (k + 1)) = xr (rowsL P k) ^^^ lookN (P k) := by rw [rowsL_succ, xr_snoc]
theorem xr_bits (P : Nat → List Int) (k : Nat) : bits .xor .u64 ((xr (rowsL P k) : Nat) : Int) (lookS (P k)) = ((xr (rowsL P (k + 1)) : Nat) : Int) := by
  rw [lookN_is, xr_step]
  exact u64_xor_nat _ _ (xr_lt _) (lookN_lt _)

set_option maxHeartbeats 1000000 in
theorem xor_any (a : Option Addr) (n cap : Nat) (A : Nat → Option Addr) (L C : Nat → Nat) (P : Nat → List Int) (w : World) (h : InRows w a n A L C P) (hn : n ≤ 1000000) (hL : ∀ r, r < n → L r ≤ 800000) :
    Calls Try.prog 27 #[.slice a n cap] w fun e w' => e = .returned (.int .u64 ((xr (rowsL P n) : Nat) : Int)) ∧ Below w.heap.size w w' := by
  have HR := Lib.hid h
  clear h
  go_enter Try.func27, Try.ntmps27
  go_wp2
  go_loopw [3, 8] (fun s i wr => ∃ k : Nat, k ≤ n ∧ i = .int .i64 (k : Int) ∧ s = .int .u64 ((xr (rowsL P k) : Nat) : Int) ∧ Hid (Below w.heap.size w wr)) (fun _ i _ => n - (intOf i).toNat)
  case atStart => exact ⟨0, Nat.zero_le _, rfl, rfl, Below.refl _ _⟩
  case round =>
    obtain ⟨k, hk, rfl, rfl, hbel⟩ := hrel
    by_cases hlt : k < n
    · obtain ⟨b, off, rfl, hb, hc, hby, hl, hcap, hmax⟩ := (HR.out.below hbel.out) k hlt
      have HLk := hL k hlt
      have HLook := Lib.hid (look_all (A k) (P k) (L k) (C k) wr hby hl (by omega) hcap hmax)
      have HX := Lib.hid (xr_bits P k)
      have hz := hbel.out.size
      clear hby hl hcap hmax
      go_wp2_with (go_at_call 40; (with_reducible refine HLook.out.mono ?_); rintro e w2 ⟨rfl, hb2⟩; have HB2 := Lib.hid hb2; clear hb2)
      go_roundw
      case rel =>
        exact ⟨k + 1, by omega, by go_num, by rw [HX.out], Lib.hid (hbel.out.trans (HB2.out.mono hz))⟩
      case measure => simp [intOf]; omega
    · obtain rfl : k = n := by omega
      go_wp2
      go_ret
      exact ⟨rfl, hbel.out⟩
end Go.Proofs.Yteggjmnmlmhkfaa.Ya
