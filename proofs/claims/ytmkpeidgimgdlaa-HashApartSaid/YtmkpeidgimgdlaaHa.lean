/-
  What the small functions under Lookup answer: turning, stirring, settling, mixing, finishing; and the document's own turning. No condition but that a number fits its kind.
-/
import Derived.Test.YtmkpeidgimgdlaaHm
import Derived.Test.YtmkpeidgimgdlaaBlk
namespace Go.Proofs.Ytmkpeidgimgdlaa.Ha
open Go.ChangeShapes Go.WideShapes Go.ChangeAt Go.RowKit
open Bytes8 Blk8 LeNum Hm
set_option linter.unusedVariables false

theorem and31 (k : Int) (k0 : 0 ≤ k) (k1 : k ≤ 31) : bits BinOp.and .u64 k 31 = k := by
  have h := mask_low k 0
  obtain ⟨n, rfl⟩ := Int.eq_ofNat_of_zero_le k0
  have e : (31 : Int) = ((31 : Nat) : Int) := rfl
  rw [e, LeNum.bits_and_u64_nat n 31 (by omega) (by decide)]
  have := Nat.and_two_pow_sub_one_eq_mod n 5
  simp at this
  rw [this]
  omega
theorem and63 (k : Int) (k0 : 0 ≤ k) (k1 : k ≤ 63) : bits BinOp.and .u64 k 63 = k := by
  obtain ⟨n, rfl⟩ := Int.eq_ofNat_of_zero_le k0
  have e : (63 : Int) = ((63 : Nat) : Int) := rfl
  rw [e, LeNum.bits_and_u64_nat n 63 (by omega) (by decide)]
  have := Nat.and_two_pow_sub_one_eq_mod n 6
  simp at this
  rw [this]
  omega

theorem rotl32 (x k : Int) (w : World) (h0 : 0 ≤ x) (h1 : x ≤ 4294967295) (k0 : 0 ≤ k) (k1 : k ≤ 31) :
    Calls Try.prog 57 #[.int .u32 x, .int .i64 k] w fun e w' => e = .returned (.int .u32 (rot32 x k)) ∧ w = w' := by
  have h := and31 k k0 k1
  go_enter Try.func57, Try.ntmps57
  go_wp2
  go_ret
  exact ⟨rfl, rfl⟩
theorem turn_any (x k : Int) (w : World) (h0 : 0 ≤ x) (h1 : x ≤ 4294967295) (k0 : 0 ≤ k) (k1 : k ≤ 31) :
    Calls Try.prog 37 #[.int .u32 x, .int .u64 k] w fun e w' => e = .returned (.int .u32 (rot32 x k)) ∧ w = w' := by
  go_enter Try.func37, Try.ntmps37
  go_wp2
  go_ret
  exact ⟨rfl, rfl⟩
theorem rotl64 (x k : Int) (w : World) (h0 : 0 ≤ x) (h1 : x ≤ 18446744073709551615) (k0 : 0 ≤ k) (k1 : k ≤ 63) :
    Calls Try.prog 52 #[.int .u64 x, .int .i64 k] w fun e w' => e = .returned (.int .u64 (rot64 x k)) ∧ w = w' := by
  have h := and63 k k0 k1
  go_enter Try.func52, Try.ntmps52
  go_wp2
  go_ret
  exact ⟨rfl, rfl⟩
theorem up_any (x k : Int) (w : World) (h0 : 0 ≤ x) (h1 : x ≤ 18446744073709551615) (k0 : 0 ≤ k) (k1 : k ≤ 63) :
    Calls Try.prog 50 #[.int .u64 x, .int .u64 k] w fun e w' => e = .returned (.int .u64 (rot64 x k)) ∧ w = w' := by
  go_enter Try.func50, Try.ntmps50
  go_wp2
  go_ret
  exact ⟨rfl, rfl⟩

theorem stirred_any (x y k : Int) (w : World) (h0 : 0 ≤ y) (h1 : y ≤ 4294967295) (k0 : 0 ≤ k) (k1 : k ≤ 31) :
    Calls Try.prog 48 #[.int .u32 x, .int .u32 y, .int .i64 k] w fun e w' => e = .returned (.int .u32 (stir x y k)) ∧ w = w' := by
  go_enter Try.func48, Try.ntmps48
  go_wp2_with (go_at_call 57; (with_reducible refine (rotl32 _ _ _ h0 h1 k0 k1).mono ?_); rintro e w' ⟨rfl, rfl⟩)
  go_ret
  exact ⟨rfl, rfl⟩
theorem settled_any (x y k : Int) (w : World) (h0 : 0 ≤ y) (h1 : y ≤ 4294967295) (k0 : 0 ≤ k) (k1 : k ≤ 31) :
    Calls Try.prog 49 #[.int .u32 x, .int .u32 y, .int .i64 k] w fun e w' => e = .returned (.int .u32 (setl x y k)) ∧ w = w' := by
  go_enter Try.func49, Try.ntmps49
  go_wp2_with (go_at_call 57; (with_reducible refine (rotl32 _ _ _ h0 h1 k0 k1).mono ?_); rintro e w' ⟨rfl, rfl⟩)
  go_ret
  exact ⟨rfl, rfl⟩

abbrev trioV (t : Trio) : Value := .agg #[.int .u32 t.x, .int .u32 t.y, .int .u32 t.z]

theorem answer_any (x y z : Int) (w : World) (h : (⟨x, y, z⟩ : Trio).ok) :
    Calls Try.prog 32 #[.agg #[.int .u32 x, .int .u32 y, .int .u32 z]] w fun e w' => e = .returned (.int .u64 (ans ⟨x, y, z⟩)) ∧ Below w.heap.size w w' := by
  obtain ⟨⟨x0, x1⟩, ⟨y0, y1⟩, ⟨z0, z1⟩⟩ := h
  simp only at x0 x1 y0 y1 z0 z1
  go_enter Try.func32, Try.ntmps32
  go_wp2
  go_ret
  exact ⟨rfl, (Below.refl _ _).alloc (Nat.le_refl _) _⟩
end Go.Proofs.Ytmkpeidgimgdlaa.Ha
