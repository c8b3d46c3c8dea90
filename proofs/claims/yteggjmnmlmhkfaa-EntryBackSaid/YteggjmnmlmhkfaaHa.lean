/-
  What the small functions under Lookup answer: turning, stirring, settling, mixing, finishing; and the document's own turning. No condition but that a number fits its kind.
-/
import Derived.Test.YteggjmnmlmhkfaaHm
import Derived.Test.YteggjmnmlmhkfaaBlk
namespace Go.Proofs.Yteggjmnmlmhkfaa.Ha
open Go.ChangeShapes Go.WideShapes Go.ChangeAt Go.RowKit
open Bytes8 Blk8 LeNum Hm
set_option linter.unusedVariables false
set_option maxRecDepth 100000

theorem and31 (k : Int) (k0 : 0 ≤ k) (k1 : k ≤ 31) : bits BinOp.and .u64 k 31 = k := by
  have h := mask_low k 0
  obtain ⟨n, rfl⟩ := Int.eq_ofNat_of_zero_le k0
  have e : (31 : Int) = ((31 : Nat) : Int) := rfl
  rw [e, LeNum.bits_and_u64_nat n 31 (by omega) (by decide)]
  have := Nat.and_two_pow_sub_one_eq_mod n 5
  simp at this
  rw [this]
  omega
theorem rotl32 (x k : Int) (w : World) (h0 : 0 ≤ x) (h1 : x ≤ 4294967295) (k0 : 0 ≤ k) (k1 : k ≤ 31) :
    Calls Try.prog 62 #[.int .u32 x, .int .i64 k] w fun e w' => e = .returned (.int .u32 (rot32 x k)) ∧ w = w' := by
  have h := and31 k k0 k1
  go_enter Try.func62, Try.ntmps62
  go_wp2
  go_ret
  exact ⟨rfl, rfl⟩
theorem turn_any (x k : Int) (w : World) (h0 : 0 ≤ x) (h1 : x ≤ 4294967295) (k0 : 0 ≤ k) (k1 : k ≤ 31) :
    Calls Try.prog 42 #[.int .u32 x, .int .u64 k] w fun e w' => e = .returned (.int .u32 (rot32 x k)) ∧ w = w' := by
  go_enter Try.func42, Try.ntmps42
  go_wp2
  go_ret
  exact ⟨rfl, rfl⟩
theorem stirred_any (x y k : Int) (w : World) (h0 : 0 ≤ y) (h1 : y ≤ 4294967295) (k0 : 0 ≤ k) (k1 : k ≤ 31) :
    Calls Try.prog 60 #[.int .u32 x, .int .u32 y, .int .i64 k] w fun e w' => e = .returned (.int .u32 (stir x y k)) ∧ w = w' := by
  go_enter Try.func60, Try.ntmps60
  go_wp2_with (go_at_call 62; (with_reducible refine (rotl32 _ _ _ h0 h1 k0 k1).mono ?_); rintro e w' ⟨rfl, rfl⟩)
  go_ret
  exact ⟨rfl, rfl⟩
theorem settled_any (x y k : Int) (w : World) (h0 : 0 ≤ y) (h1 : y ≤ 4294967295) (k0 : 0 ≤ k) (k1 : k ≤ 31) :
    Calls Try.prog 61 #[.int .u32 x, .int .u32 y, .int .i64 k] w fun e w' => e = .returned (.int .u32 (setl x y k)) ∧ w = w' := by
  go_enter Try.func61, Try.ntmps61
  go_wp2_with (go_at_call 62; (with_reducible refine (rotl32 _ _ _ h0 h1 k0 k1).mono ?_); rintro e w' ⟨rfl, rfl⟩)
  go_ret
  exact ⟨rfl, rfl⟩

abbrev trioV (t : Trio) : Value := .agg #[.int .u32 t.x, .int .u32 t.y, .int .u32 t.z]

theorem answer_any (x y z : Int) (w : World) (h : (⟨x, y, z⟩ : Trio).ok) :
    Calls Try.prog 52 #[.agg #[.int .u32 x, .int .u32 y, .int .u32 z]] w fun e w' => e = .returned (.int .u64 (ans ⟨x, y, z⟩)) ∧ Below w.heap.size w w' := by
  obtain ⟨⟨x0, x1⟩, ⟨y0, y1⟩, ⟨z0, z1⟩⟩ := h
  simp only at x0 x1 y0 y1 z0 z1
  go_enter Try.func52, Try.ntmps52
  go_wp2
  go_ret
  exact ⟨rfl, (Below.refl _ _).alloc (Nat.le_refl _) _⟩
end Go.Proofs.Yteggjmnmlmhkfaa.Ha
