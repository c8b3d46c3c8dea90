/-
  What is amiss with a head.
-/
import Derived.Test.YtekmbgcijkdkfaaGk
namespace Go.Proofs.Ytekmbgcijkdkfaa.Gl
open Go.ChangeShapes Go.WideShapes Go.ChangeAt Go.RowKit
open Bytes8 Blk8 Own8 OwnM OwnE LeA LeNum LeB LeP Ob Oc Od Ga Gb Gc Gd Gf Gi Gj
set_option linter.unusedVariables false
set_option linter.unusedSimpArgs false
set_option maxRecDepth 100000

/-- The code of a table's place and size. -/
def tcode (a z from1 en : Int) : Int := if a % 8 ≠ 0 then 3 else if z = 0 ∨ z % 16 ≠ 0 then 5 else if a < from1 + 16 ∨ en < a ∨ en - a < z then 2 else 0
theorem isState_any (s : Int) (w : World) : Calls Try.prog 52 #[.int .i64 s] w fun e w' => e = .returned (.bool (s == 0 || s == 1 || s == 2)) ∧ w = w' := by
  by_cases h0 : s = 0
  · subst h0
    go_enter Try.func52, Try.ntmps52
    go_wp2
    go_ret
    exact ⟨rfl, rfl⟩
  by_cases h1 : s = 1
  · subst h1
    go_enter Try.func52, Try.ntmps52
    go_wp2
    go_ret
    exact ⟨rfl, rfl⟩
  · have d0 : (s == 0) = false := by simp [h0]
    have d1 : (s == 1) = false := by simp [h1]
    go_enter Try.func52, Try.ntmps52
    go_wp2
    go_ret
    exact ⟨ret_bool (by rw [d0, d1]; simp), rfl⟩
attribute [local irreducible] HD.cells wpList Code.wp
set_option maxHeartbeats 2000000 in
theorem tf_any (h : HD) (ok : h.Ok 21) (en a z : Int) (he : 0 ≤ en ∧ en ≤ 18446744073709551615) (ha : 0 ≤ a ∧ a ≤ 18446744073709551615) (hz : 0 ≤ z ∧ z ≤ 18446744073709551615) (hN : h.N 0 ≤ 1000000000) (w : World) :
    Calls Try.prog 53 #[.agg (h.cells 21).toArray, .int .u64 en, .int .u64 a, .int .u64 z] w fun e w' => e = .returned (.int .i64 (tcode a z (h.N 0) en)) ∧ Below w.heap.size w w' := by
  have b0 := Lib.hid ((Below.refl w.heap.size w).alloc (Nat.le_refl _) (.cells (h.cells 21).toArray 40))
  have R0 := (show Blk (w.alloc (.cells (h.cells 21).toArray 40)) w.heap.size (h.cells 21) 40 from Blk.new w _ _)
  have c0 := HD.nums_at R0 0 (by decide)
  have hn0 := (ok.N 0).1
  clear R0
  by_cases h1 : a % 8 = 0
  · by_cases h2 : z = 0
    · rw [show tcode a z (h.N 0) en = 5 by unfold tcode; rw [if_neg (by simpa using h1), if_pos (Or.inl h2)]]
      subst h2
      go_enter Try.func53, Try.ntmps53
      go_wp2
      go_ret
      exact ⟨rfl, b0.out⟩
    have d2 : (z == 0) = false := by simp [h2]
    by_cases h3 : z % 16 = 0
    · by_cases h4 : a < h.N 0 + 16
      · rw [show tcode a z (h.N 0) en = 2 by unfold tcode; rw [if_neg (by simpa using h1), if_neg (by omega), if_pos (Or.inl h4)]]
        go_enter Try.func53, Try.ntmps53
        go_wp2
        go_ret
        exact ⟨rfl, b0.out⟩
      have d4 : decide (a < h.N 0 + 16) = false := by simp; omega
      by_cases h5 : en < a
      · have d5 : decide (en < a) = true := by simp; omega
        rw [show tcode a z (h.N 0) en = 2 by unfold tcode; rw [if_neg (by simpa using h1), if_neg (by omega), if_pos (Or.inr (Or.inl h5))]]
        go_enter Try.func53, Try.ntmps53
        go_wp2
        go_ret
        exact ⟨rfl, b0.out⟩
      have d5 : decide (en < a) = false := by simp; omega
      by_cases h6 : en - a < z
      · have d6 : decide (en - a < z) = true := by simp; omega
        rw [show tcode a z (h.N 0) en = 2 by unfold tcode; rw [if_neg (by simpa using h1), if_neg (by omega), if_pos (Or.inr (Or.inr h6))]]
        go_enter Try.func53, Try.ntmps53
        go_wp2
        go_ret
        exact ⟨rfl, b0.out⟩
      · have d6 : decide (en - a < z) = false := by simp; omega
        rw [show tcode a z (h.N 0) en = 0 by unfold tcode; rw [if_neg (by simpa using h1), if_neg (by omega), if_neg (by omega)]]
        go_enter Try.func53, Try.ntmps53
        go_wp2
        go_ret
        exact ⟨rfl, b0.out⟩
    · have d3 : ¬ z % 16 = 0 := h3
      rw [show tcode a z (h.N 0) en = 5 by unfold tcode; rw [if_neg (by simpa using h1), if_pos (Or.inr h3)]]
      go_enter Try.func53, Try.ntmps53
      go_wp2
      go_ret
      exact ⟨rfl, b0.out⟩
  · rw [show tcode a z (h.N 0) en = 3 by unfold tcode; rw [if_pos h1]]
    go_enter Try.func53, Try.ntmps53
    go_wp2
    go_ret
    exact ⟨rfl, b0.out⟩
set_option maxHeartbeats 2000000 in
theorem rtable_any (fr en a z : Int) (hf : 0 ≤ fr ∧ fr ≤ 18446744073709551615) (he : 0 ≤ en ∧ en ≤ 18446744073709551615) (ha : 0 ≤ a ∧ a ≤ 18446744073709551615) (hz : 0 ≤ z ∧ z ≤ 18446744073709551615) (w : World) :
    Calls Try.prog 34 #[.int .u64 a, .int .u64 z, .int .u64 fr, .int .u64 en] w fun e w' => e = .returned (.int .i64 (tcode a z fr en)) ∧ w = w' := by
  by_cases h1 : a % 8 = 0
  · by_cases h2 : z = 0
    · rw [show tcode a z fr en = 5 by unfold tcode; rw [if_neg (by simpa using h1), if_pos (Or.inl h2)]]
      subst h2
      go_enter Try.func34, Try.ntmps34
      go_wp2
      go_ret
      exact ⟨rfl, rfl⟩
    have d2 : (z == 0) = false := by simp [h2]
    by_cases h3 : z % 16 = 0
    · by_cases h4 : a < fr
      · have d4 : decide (a < fr) = true := by simp; omega
        rw [show tcode a z fr en = 2 by unfold tcode; rw [if_neg (by simpa using h1), if_neg (by omega), if_pos (Or.inl (by omega))]]
        go_enter Try.func34, Try.ntmps34
        go_wp2
        go_ret
        exact ⟨rfl, rfl⟩
      have d4 : decide (a < fr) = false := by simp; omega
      by_cases h4b : a - fr < 16
      · have d4b : decide (a - fr < 16) = true := by simp; omega
        rw [show tcode a z fr en = 2 by unfold tcode; rw [if_neg (by simpa using h1), if_neg (by omega), if_pos (Or.inl (by omega))]]
        go_enter Try.func34, Try.ntmps34
        go_wp2
        go_ret
        exact ⟨rfl, rfl⟩
      have d4b : decide (a - fr < 16) = false := by simp; omega
      by_cases h5 : en < a
      · have d5 : decide (en < a) = true := by simp; omega
        rw [show tcode a z fr en = 2 by unfold tcode; rw [if_neg (by simpa using h1), if_neg (by omega), if_pos (Or.inr (Or.inl h5))]]
        go_enter Try.func34, Try.ntmps34
        go_wp2
        go_ret
        exact ⟨rfl, rfl⟩
      have d5 : decide (en < a) = false := by simp; omega
      by_cases h6 : en - a < z
      · have d6 : decide (en - a < z) = true := by simp; omega
        rw [show tcode a z fr en = 2 by unfold tcode; rw [if_neg (by simpa using h1), if_neg (by omega), if_pos (Or.inr (Or.inr h6))]]
        go_enter Try.func34, Try.ntmps34
        go_wp2
        go_ret
        exact ⟨rfl, rfl⟩
      · have d6 : decide (en - a < z) = false := by simp; omega
        rw [show tcode a z fr en = 0 by unfold tcode; rw [if_neg (by simpa using h1), if_neg (by omega), if_neg (by omega)]]
        go_enter Try.func34, Try.ntmps34
        go_wp2
        go_ret
        exact ⟨rfl, rfl⟩
    · rw [show tcode a z fr en = 5 by unfold tcode; rw [if_neg (by simpa using h1), if_pos (Or.inr h3)]]
      go_enter Try.func34, Try.ntmps34
      go_wp2
      go_ret
      exact ⟨rfl, rfl⟩
  · rw [show tcode a z fr en = 3 by unfold tcode; rw [if_pos h1]]
    go_enter Try.func34, Try.ntmps34
    go_wp2
    go_ret
    exact ⟨rfl, rfl⟩
end Go.Proofs.Ytekmbgcijkdkfaa.Gl
