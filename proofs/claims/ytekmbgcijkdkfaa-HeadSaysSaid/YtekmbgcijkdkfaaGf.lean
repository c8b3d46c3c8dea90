/-
  Where a journal ends: the package's End, the document's own.
-/
import Derived.Test.YtekmbgcijkdkfaaGd
import Derived.Laws.Externs
namespace Go.Proofs.Ytekmbgcijkdkfaa.Gf
open Go.ChangeShapes Go.WideShapes Go.ChangeAt Go.RowKit
open Bytes8 Blk8 Own8 OwnM LeA LeNum LeP Ob Oc Od Ga Gb Gc Gd
set_option linter.unusedVariables false
set_option linter.unusedSimpArgs false
set_option maxRecDepth 100000

/-- The end; whether there is one. -/
def endV (h : HD) : Int := if h.N 0 + h.N 1 ≤ 18446744073709551615 then h.N 0 + h.N 1 else 0
def endB (h : HD) : Bool := decide (h.N 0 + h.N 1 ≤ 18446744073709551615)
theorem add64_any (x y : Int) (hx : 0 ≤ x) (hy : 0 ≤ y) (w : World) :
    (callFunc 35 #[.int .u64 x, .int .u64 y, .int .u64 0]).run Try.prog w = .ok (.value (.tuple #[.int .u64 ((x + y) % 18446744073709551616), .int .u64 ((x + y) / 18446744073709551616)])) w := by
  have h := run_add64 (P := Try.prog) x y 0 hx hy (by decide) (by decide) w
  rw [Int.add_zero] at h
  rw [run_callFunc_extern Try.func35 (by kernel_rfl) (by kernel_rfl) (by kernel_rfl) (e := add64Entry) (by kernel_rfl), h]
  rfl
attribute [local irreducible] HD.cells wpList Code.wp
set_option maxHeartbeats 1000000 in
theorem end_any (h : HD) (ok : h.Ok 21) (w : World) :
    Calls Try.prog 16 #[.agg (h.cells 21).toArray] w fun e w' => e = .returned (.tuple #[.int .u64 (endV h), .bool (endB h)]) ∧ Below w.heap.size w w' := by
  have b0 := Lib.hid ((Below.refl w.heap.size w).alloc (Nat.le_refl _) (.cells (h.cells 21).toArray 40))
  have R0 := Lib.hid (show Blk (w.alloc (.cells (h.cells 21).toArray 40)) w.heap.size (h.cells 21) 40 from Blk.new w _ _)
  obtain ⟨p0, p1⟩ := ok.N 0
  obtain ⟨r0, r1⟩ := ok.N 1
  have c0 := HD.nums_at R0.out 0 (by decide)
  have c1 := HD.nums_at R0.out 1 (by decide)
  by_cases hle : h.N 0 + h.N 1 ≤ 18446744073709551615
  · rw [show endV h = h.N 0 + h.N 1 from if_pos hle, show endB h = true from decide_eq_true hle]
    have ha := add64_any (h.N 0) (h.N 1) p0 r0
    rw [show (h.N 0 + h.N 1) % 18446744073709551616 = h.N 0 + h.N 1 by omega, show (h.N 0 + h.N 1) / 18446744073709551616 = 0 by omega] at ha
    go_enter Try.func16, Try.ntmps16
    go_wp2
    go_ret2
    exact ⟨rfl, b0.out⟩
  · rw [show endV h = 0 from if_neg hle, show endB h = false from decide_eq_false hle]
    have ha := add64_any (h.N 0) (h.N 1) p0 r0
    rw [show (h.N 0 + h.N 1) / 18446744073709551616 = 1 by omega] at ha
    go_enter Try.func16, Try.ntmps16
    go_wp2
    go_ret2
    exact ⟨rfl, b0.out⟩
set_option maxHeartbeats 1000000 in
theorem rend_any (h : HD) (ok : h.Ok 20) (w : World) :
    Calls Try.prog 17 #[.agg (h.cells 20).toArray] w fun e w' => e = .returned (.tuple #[.int .u64 (endV h), .bool (endB h)]) ∧ Below w.heap.size w w' := by
  have b0 := Lib.hid ((Below.refl w.heap.size w).alloc (Nat.le_refl _) (.cells (h.cells 20).toArray 45))
  have R0 := Lib.hid (show Blk (w.alloc (.cells (h.cells 20).toArray 45)) w.heap.size (h.cells 20) 45 from Blk.new w _ _)
  obtain ⟨p0, p1⟩ := ok.N 0
  obtain ⟨r0, r1⟩ := ok.N 1
  have c0 := HD.nums_at R0.out 0 (by decide)
  have c1 := HD.nums_at R0.out 1 (by decide)
  by_cases hle : h.N 0 + h.N 1 ≤ 18446744073709551615
  · rw [show endV h = h.N 0 + h.N 1 from if_pos hle, show endB h = true from decide_eq_true hle]
    have d1 : ¬ 18446744073709551615 - h.N 0 < h.N 1 := by omega
    go_enter Try.func17, Try.ntmps17
    go_wp2
    go_ret2
    exact ⟨rfl, b0.out⟩
  · rw [show endV h = 0 from if_neg hle, show endB h = false from decide_eq_false hle]
    have d1 : 18446744073709551615 - h.N 0 < h.N 1 := by omega
    go_enter Try.func17, Try.ntmps17
    go_wp2
    go_ret2
    exact ⟨rfl, b0.out⟩
end Go.Proofs.Ytekmbgcijkdkfaa.Gf
