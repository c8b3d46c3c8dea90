/-
  What is amiss with a head: all of it.
-/
import Derived.Test.YtekmbgcijkdkfaaGl
namespace Go.Proofs.Ytekmbgcijkdkfaa.Gm
open Go.ChangeShapes Go.WideShapes Go.ChangeAt Go.RowKit
open Bytes8 Blk8 Own8 OwnM OwnE LeA LeNum LeB LeP Ob Oc Od Ga Gb Gc Gd Gf Gi Gj Gl
set_option linter.unusedVariables false
set_option linter.unusedSimpArgs false
set_option maxRecDepth 100000

/-- Is there a flag that is not known? Is it a state? -/
def flB (ic : Int) : Bool := bits BinOp.andNot IntKind.u32 ic 4 != 0
def stB (s : Int) : Bool := s == 0 || s == 1 || s == 2
def fcode (h : HD) (n : Int) : Int :=
  if flB h.ic = true then 7 else if stB h.st = false then 8
  else if h.N 0 < 272 ∨ h.N 0 % 8 ≠ 0 ∨ h.N 1 % 8 ≠ 0 then 5
  else if endB h = false ∨ n < endV h then 2
  else if tcode (h.N 2) (h.N 3) (h.N 0) (endV h) ≠ 0 then tcode (h.N 2) (h.N 3) (h.N 0) (endV h) else tcode (h.N 4) (h.N 5) (h.N 0) (endV h)
theorem end_bd (h : HD) (ok : h.Ok 21) : 0 ≤ endV h ∧ endV h ≤ 18446744073709551615 := by
  have h0 := ok.N 0
  have h1 := ok.N 1
  unfold endV
  split <;> omega
attribute [local irreducible] HD.cells wpList Code.wp
abbrev Told (c : Int) (w : World) (e : Ending) (w' : World) : Prop := e = .returned (.int .i64 c) ∧ Below w.heap.size w w'
set_option maxHeartbeats 2000000 in
theorem fault_flag (h : HD) (ok : h.Ok 21) (n : Int) (w : World) (h1 : (bits BinOp.andNot IntKind.u32 h.ic 4 != 0) = true) : Calls Try.prog 32 #[.agg (h.cells 21).toArray, .int .u64 n] w (Told 7 w) := by
  have b0 := Lib.hid ((Below.refl w.heap.size w).alloc (Nat.le_refl _) (.cells (h.cells 21).toArray 40))
  have R0 := Lib.hid (show Blk (w.alloc (.cells (h.cells 21).toArray 40)) w.heap.size (h.cells 21) 40 from Blk.new w _ _)
  have HE := Lib.hid fun (W : World) => end_any h ok W
  have HS := Lib.hid fun (W : World) => isState_any h.st W
  have hic := ok.ic
  obtain ⟨p0, p1⟩ := ok.N 0
  obtain ⟨r0, r1⟩ := ok.N 1
  go_enter Try.func32, Try.ntmps32
  go_wp2_with (first
    | ((with_reducible apply at_slot 9); refine wpList_load_row rfl 40 (.tmp 2) rfl w.heap.size rfl 40 (h.cells 21).toArray (0, 0) _ R0.out Try.underlying40 rfl (cells_info _) ?_)
    | (go_at_call 16; ((with_reducible refine (HE.out _).mono ?_); rintro e w1 ⟨rfl, hb1⟩; have B1 := Lib.hid (b0.out.trans (hb1.mono b0.out.size)); have R1 := Lib.hid (R0.out.below hb1 R0.out.lt); have c1 : w1.cell? ⟨w.heap.size, 1, none⟩ = some (.int .u32 h.ic) := R1.out.cell (h.get 21 1 (by decide)); have c2 : w1.cell? ⟨w.heap.size, 2, none⟩ = some (.int .i64 h.st) := R1.out.cell (h.get 21 2 (by decide)); have c67 := HD.nums_at R1.out 0 (by decide); have c68 := HD.nums_at R1.out 1 (by decide); have c69 := HD.nums_at R1.out 2 (by decide); have c70 := HD.nums_at R1.out 3 (by decide); clear hb1))
    | (go_at_call 52; ((with_reducible refine (HS.out _).mono ?_); rintro e w' ⟨rfl, rfl⟩))
    | ((with_reducible apply at_slot 47); refine wpList_load_row rfl 40 (.tmp 2) rfl w.heap.size rfl 40 (h.cells 21).toArray (0, 0) _ R1.out Try.underlying40 rfl (cells_info _) ?_)
    | (go_at_call 53; ((with_reducible refine (HT1.out w1).mono ?_); rintro e w2 ⟨rfl, hb2⟩; have B2 := Lib.hid (B1.out.trans (hb2.mono B1.out.size)); have R2 := Lib.hid (R1.out.below hb2 R1.out.lt); have c71 := HD.nums_at R2.out 4 (by decide); have c72 := HD.nums_at R2.out 5 (by decide); clear hb2))
    | ((with_reducible apply at_slot 57); refine wpList_load_row rfl 40 (.tmp 2) rfl w.heap.size rfl 40 (h.cells 21).toArray (0, 0) _ R2.out Try.underlying40 rfl (cells_info _) ?_)
    | (go_at_call 53; ((with_reducible refine (HT2.out w2).mono ?_); rintro e w3 ⟨rfl, hb3⟩; have B3 := Lib.hid (B2.out.trans (hb3.mono B2.out.size)); clear hb3)))
  go_ret
  exact ⟨rfl, B1.out⟩

set_option maxHeartbeats 2000000 in
theorem fault_state (h : HD) (ok : h.Ok 21) (n : Int) (w : World) (h1 : (bits BinOp.andNot IntKind.u32 h.ic 4 != 0) = false) (h2 : stB h.st = false) : Calls Try.prog 32 #[.agg (h.cells 21).toArray, .int .u64 n] w (Told 8 w) := by
  have b0 := Lib.hid ((Below.refl w.heap.size w).alloc (Nat.le_refl _) (.cells (h.cells 21).toArray 40))
  have R0 := Lib.hid (show Blk (w.alloc (.cells (h.cells 21).toArray 40)) w.heap.size (h.cells 21) 40 from Blk.new w _ _)
  have HE := Lib.hid fun (W : World) => end_any h ok W
  have HS := Lib.hid fun (W : World) => isState_any h.st W
  have hic := ok.ic
  obtain ⟨p0, p1⟩ := ok.N 0
  obtain ⟨r0, r1⟩ := ok.N 1
  unfold stB at h2
  rw [h2] at HS
  clear h2
  go_enter Try.func32, Try.ntmps32
  go_wp2_with (first
    | ((with_reducible apply at_slot 9); refine wpList_load_row rfl 40 (.tmp 2) rfl w.heap.size rfl 40 (h.cells 21).toArray (0, 0) _ R0.out Try.underlying40 rfl (cells_info _) ?_)
    | (go_at_call 16; ((with_reducible refine (HE.out _).mono ?_); rintro e w1 ⟨rfl, hb1⟩; have B1 := Lib.hid (b0.out.trans (hb1.mono b0.out.size)); have R1 := Lib.hid (R0.out.below hb1 R0.out.lt); have c1 : w1.cell? ⟨w.heap.size, 1, none⟩ = some (.int .u32 h.ic) := R1.out.cell (h.get 21 1 (by decide)); have c2 : w1.cell? ⟨w.heap.size, 2, none⟩ = some (.int .i64 h.st) := R1.out.cell (h.get 21 2 (by decide)); have c67 := HD.nums_at R1.out 0 (by decide); have c68 := HD.nums_at R1.out 1 (by decide); have c69 := HD.nums_at R1.out 2 (by decide); have c70 := HD.nums_at R1.out 3 (by decide); clear hb1))
    | (go_at_call 52; ((with_reducible refine (HS.out _).mono ?_); rintro e w' ⟨rfl, rfl⟩))
    | ((with_reducible apply at_slot 47); refine wpList_load_row rfl 40 (.tmp 2) rfl w.heap.size rfl 40 (h.cells 21).toArray (0, 0) _ R1.out Try.underlying40 rfl (cells_info _) ?_)
    | (go_at_call 53; ((with_reducible refine (HT1.out w1).mono ?_); rintro e w2 ⟨rfl, hb2⟩; have B2 := Lib.hid (B1.out.trans (hb2.mono B1.out.size)); have R2 := Lib.hid (R1.out.below hb2 R1.out.lt); have c71 := HD.nums_at R2.out 4 (by decide); have c72 := HD.nums_at R2.out 5 (by decide); clear hb2))
    | ((with_reducible apply at_slot 57); refine wpList_load_row rfl 40 (.tmp 2) rfl w.heap.size rfl 40 (h.cells 21).toArray (0, 0) _ R2.out Try.underlying40 rfl (cells_info _) ?_)
    | (go_at_call 53; ((with_reducible refine (HT2.out w2).mono ?_); rintro e w3 ⟨rfl, hb3⟩; have B3 := Lib.hid (B2.out.trans (hb3.mono B2.out.size)); clear hb3)))
  go_ret
  exact ⟨rfl, B1.out⟩

set_option maxHeartbeats 2000000 in
theorem fault_size (h : HD) (ok : h.Ok 21) (n : Int) (w : World) (h1 : (bits BinOp.andNot IntKind.u32 h.ic 4 != 0) = false) (h2 : stB h.st = true) (h3 : h.N 0 < 272 ∨ h.N 0 % 8 ≠ 0 ∨ h.N 1 % 8 ≠ 0) : Calls Try.prog 32 #[.agg (h.cells 21).toArray, .int .u64 n] w (Told 5 w) := by
  have b0 := Lib.hid ((Below.refl w.heap.size w).alloc (Nat.le_refl _) (.cells (h.cells 21).toArray 40))
  have R0 := Lib.hid (show Blk (w.alloc (.cells (h.cells 21).toArray 40)) w.heap.size (h.cells 21) 40 from Blk.new w _ _)
  have HE := Lib.hid fun (W : World) => end_any h ok W
  have HS := Lib.hid fun (W : World) => isState_any h.st W
  have hic := ok.ic
  obtain ⟨p0, p1⟩ := ok.N 0
  obtain ⟨r0, r1⟩ := ok.N 1
  unfold stB at h2
  rw [h2] at HS
  clear h2
  by_cases h4 : h.N 0 < 272
  · have d4 : decide (h.N 0 < 272) = true := by simp; omega
    clear h3
    go_enter Try.func32, Try.ntmps32
    go_wp2_with (first
      | ((with_reducible apply at_slot 9); refine wpList_load_row rfl 40 (.tmp 2) rfl w.heap.size rfl 40 (h.cells 21).toArray (0, 0) _ R0.out Try.underlying40 rfl (cells_info _) ?_)
      | (go_at_call 16; ((with_reducible refine (HE.out _).mono ?_); rintro e w1 ⟨rfl, hb1⟩; have B1 := Lib.hid (b0.out.trans (hb1.mono b0.out.size)); have R1 := Lib.hid (R0.out.below hb1 R0.out.lt); have c1 : w1.cell? ⟨w.heap.size, 1, none⟩ = some (.int .u32 h.ic) := R1.out.cell (h.get 21 1 (by decide)); have c2 : w1.cell? ⟨w.heap.size, 2, none⟩ = some (.int .i64 h.st) := R1.out.cell (h.get 21 2 (by decide)); have c67 := HD.nums_at R1.out 0 (by decide); have c68 := HD.nums_at R1.out 1 (by decide); have c69 := HD.nums_at R1.out 2 (by decide); have c70 := HD.nums_at R1.out 3 (by decide); clear hb1))
      | (go_at_call 52; ((with_reducible refine (HS.out _).mono ?_); rintro e w' ⟨rfl, rfl⟩))
      | ((with_reducible apply at_slot 47); refine wpList_load_row rfl 40 (.tmp 2) rfl w.heap.size rfl 40 (h.cells 21).toArray (0, 0) _ R1.out Try.underlying40 rfl (cells_info _) ?_)
      | (go_at_call 53; ((with_reducible refine (HT1.out w1).mono ?_); rintro e w2 ⟨rfl, hb2⟩; have B2 := Lib.hid (B1.out.trans (hb2.mono B1.out.size)); have R2 := Lib.hid (R1.out.below hb2 R1.out.lt); have c71 := HD.nums_at R2.out 4 (by decide); have c72 := HD.nums_at R2.out 5 (by decide); clear hb2))
      | ((with_reducible apply at_slot 57); refine wpList_load_row rfl 40 (.tmp 2) rfl w.heap.size rfl 40 (h.cells 21).toArray (0, 0) _ R2.out Try.underlying40 rfl (cells_info _) ?_)
      | (go_at_call 53; ((with_reducible refine (HT2.out w2).mono ?_); rintro e w3 ⟨rfl, hb3⟩; have B3 := Lib.hid (B2.out.trans (hb3.mono B2.out.size)); clear hb3)))
    go_ret
    exact ⟨rfl, B1.out⟩
  have d4 : decide (h.N 0 < 272) = false := by simp; omega
  by_cases h5 : h.N 0 % 8 = 0
  · have h6 : ¬ h.N 1 % 8 = 0 := by omega
    clear h3
    go_enter Try.func32, Try.ntmps32
    go_wp2_with (first
      | ((with_reducible apply at_slot 9); refine wpList_load_row rfl 40 (.tmp 2) rfl w.heap.size rfl 40 (h.cells 21).toArray (0, 0) _ R0.out Try.underlying40 rfl (cells_info _) ?_)
      | (go_at_call 16; ((with_reducible refine (HE.out _).mono ?_); rintro e w1 ⟨rfl, hb1⟩; have B1 := Lib.hid (b0.out.trans (hb1.mono b0.out.size)); have R1 := Lib.hid (R0.out.below hb1 R0.out.lt); have c1 : w1.cell? ⟨w.heap.size, 1, none⟩ = some (.int .u32 h.ic) := R1.out.cell (h.get 21 1 (by decide)); have c2 : w1.cell? ⟨w.heap.size, 2, none⟩ = some (.int .i64 h.st) := R1.out.cell (h.get 21 2 (by decide)); have c67 := HD.nums_at R1.out 0 (by decide); have c68 := HD.nums_at R1.out 1 (by decide); have c69 := HD.nums_at R1.out 2 (by decide); have c70 := HD.nums_at R1.out 3 (by decide); clear hb1))
      | (go_at_call 52; ((with_reducible refine (HS.out _).mono ?_); rintro e w' ⟨rfl, rfl⟩))
      | ((with_reducible apply at_slot 47); refine wpList_load_row rfl 40 (.tmp 2) rfl w.heap.size rfl 40 (h.cells 21).toArray (0, 0) _ R1.out Try.underlying40 rfl (cells_info _) ?_)
      | (go_at_call 53; ((with_reducible refine (HT1.out w1).mono ?_); rintro e w2 ⟨rfl, hb2⟩; have B2 := Lib.hid (B1.out.trans (hb2.mono B1.out.size)); have R2 := Lib.hid (R1.out.below hb2 R1.out.lt); have c71 := HD.nums_at R2.out 4 (by decide); have c72 := HD.nums_at R2.out 5 (by decide); clear hb2))
      | ((with_reducible apply at_slot 57); refine wpList_load_row rfl 40 (.tmp 2) rfl w.heap.size rfl 40 (h.cells 21).toArray (0, 0) _ R2.out Try.underlying40 rfl (cells_info _) ?_)
      | (go_at_call 53; ((with_reducible refine (HT2.out w2).mono ?_); rintro e w3 ⟨rfl, hb3⟩; have B3 := Lib.hid (B2.out.trans (hb3.mono B2.out.size)); clear hb3)))
    go_ret
    exact ⟨rfl, B1.out⟩
  · clear h3
    go_enter Try.func32, Try.ntmps32
    go_wp2_with (first
      | ((with_reducible apply at_slot 9); refine wpList_load_row rfl 40 (.tmp 2) rfl w.heap.size rfl 40 (h.cells 21).toArray (0, 0) _ R0.out Try.underlying40 rfl (cells_info _) ?_)
      | (go_at_call 16; ((with_reducible refine (HE.out _).mono ?_); rintro e w1 ⟨rfl, hb1⟩; have B1 := Lib.hid (b0.out.trans (hb1.mono b0.out.size)); have R1 := Lib.hid (R0.out.below hb1 R0.out.lt); have c1 : w1.cell? ⟨w.heap.size, 1, none⟩ = some (.int .u32 h.ic) := R1.out.cell (h.get 21 1 (by decide)); have c2 : w1.cell? ⟨w.heap.size, 2, none⟩ = some (.int .i64 h.st) := R1.out.cell (h.get 21 2 (by decide)); have c67 := HD.nums_at R1.out 0 (by decide); have c68 := HD.nums_at R1.out 1 (by decide); have c69 := HD.nums_at R1.out 2 (by decide); have c70 := HD.nums_at R1.out 3 (by decide); clear hb1))
      | (go_at_call 52; ((with_reducible refine (HS.out _).mono ?_); rintro e w' ⟨rfl, rfl⟩))
      | ((with_reducible apply at_slot 47); refine wpList_load_row rfl 40 (.tmp 2) rfl w.heap.size rfl 40 (h.cells 21).toArray (0, 0) _ R1.out Try.underlying40 rfl (cells_info _) ?_)
      | (go_at_call 53; ((with_reducible refine (HT1.out w1).mono ?_); rintro e w2 ⟨rfl, hb2⟩; have B2 := Lib.hid (B1.out.trans (hb2.mono B1.out.size)); have R2 := Lib.hid (R1.out.below hb2 R1.out.lt); have c71 := HD.nums_at R2.out 4 (by decide); have c72 := HD.nums_at R2.out 5 (by decide); clear hb2))
      | ((with_reducible apply at_slot 57); refine wpList_load_row rfl 40 (.tmp 2) rfl w.heap.size rfl 40 (h.cells 21).toArray (0, 0) _ R2.out Try.underlying40 rfl (cells_info _) ?_)
      | (go_at_call 53; ((with_reducible refine (HT2.out w2).mono ?_); rintro e w3 ⟨rfl, hb3⟩; have B3 := Lib.hid (B2.out.trans (hb3.mono B2.out.size)); clear hb3)))
    go_ret
    exact ⟨rfl, B1.out⟩

set_option maxHeartbeats 2000000 in
theorem fault_range (h : HD) (ok : h.Ok 21) (n : Int) (w : World) (h1 : (bits BinOp.andNot IntKind.u32 h.ic 4 != 0) = false) (h2 : stB h.st = true) (h3 : ¬ (h.N 0 < 272 ∨ h.N 0 % 8 ≠ 0 ∨ h.N 1 % 8 ≠ 0)) (h4 : endB h = false ∨ n < endV h) : Calls Try.prog 32 #[.agg (h.cells 21).toArray, .int .u64 n] w (Told 2 w) := by
  have b0 := Lib.hid ((Below.refl w.heap.size w).alloc (Nat.le_refl _) (.cells (h.cells 21).toArray 40))
  have R0 := Lib.hid (show Blk (w.alloc (.cells (h.cells 21).toArray 40)) w.heap.size (h.cells 21) 40 from Blk.new w _ _)
  have HE := Lib.hid fun (W : World) => end_any h ok W
  have HS := Lib.hid fun (W : World) => isState_any h.st W
  have hic := ok.ic
  obtain ⟨p0, p1⟩ := ok.N 0
  obtain ⟨r0, r1⟩ := ok.N 1
  unfold stB at h2
  rw [h2] at HS
  clear h2
  have d4 : decide (h.N 0 < 272) = false := by simp; omega
  have h5 : h.N 0 % 8 = 0 := by omega
  have h6 : h.N 1 % 8 = 0 := by omega
  clear h3
  by_cases h7 : endB h = false
  · rw [h7] at HE
    clear h4 h7
    go_enter Try.func32, Try.ntmps32
    go_wp2_with (first
      | ((with_reducible apply at_slot 9); refine wpList_load_row rfl 40 (.tmp 2) rfl w.heap.size rfl 40 (h.cells 21).toArray (0, 0) _ R0.out Try.underlying40 rfl (cells_info _) ?_)
      | (go_at_call 16; ((with_reducible refine (HE.out _).mono ?_); rintro e w1 ⟨rfl, hb1⟩; have B1 := Lib.hid (b0.out.trans (hb1.mono b0.out.size)); have R1 := Lib.hid (R0.out.below hb1 R0.out.lt); have c1 : w1.cell? ⟨w.heap.size, 1, none⟩ = some (.int .u32 h.ic) := R1.out.cell (h.get 21 1 (by decide)); have c2 : w1.cell? ⟨w.heap.size, 2, none⟩ = some (.int .i64 h.st) := R1.out.cell (h.get 21 2 (by decide)); have c67 := HD.nums_at R1.out 0 (by decide); have c68 := HD.nums_at R1.out 1 (by decide); have c69 := HD.nums_at R1.out 2 (by decide); have c70 := HD.nums_at R1.out 3 (by decide); clear hb1))
      | (go_at_call 52; ((with_reducible refine (HS.out _).mono ?_); rintro e w' ⟨rfl, rfl⟩))
      | ((with_reducible apply at_slot 47); refine wpList_load_row rfl 40 (.tmp 2) rfl w.heap.size rfl 40 (h.cells 21).toArray (0, 0) _ R1.out Try.underlying40 rfl (cells_info _) ?_)
      | (go_at_call 53; ((with_reducible refine (HT1.out w1).mono ?_); rintro e w2 ⟨rfl, hb2⟩; have B2 := Lib.hid (B1.out.trans (hb2.mono B1.out.size)); have R2 := Lib.hid (R1.out.below hb2 R1.out.lt); have c71 := HD.nums_at R2.out 4 (by decide); have c72 := HD.nums_at R2.out 5 (by decide); clear hb2))
      | ((with_reducible apply at_slot 57); refine wpList_load_row rfl 40 (.tmp 2) rfl w.heap.size rfl 40 (h.cells 21).toArray (0, 0) _ R2.out Try.underlying40 rfl (cells_info _) ?_)
      | (go_at_call 53; ((with_reducible refine (HT2.out w2).mono ?_); rintro e w3 ⟨rfl, hb3⟩; have B3 := Lib.hid (B2.out.trans (hb3.mono B2.out.size)); clear hb3)))
    go_ret
    exact ⟨rfl, B1.out⟩
  · have h7' : endB h = true := by simpa using h7
    have h8 : n < endV h := by rcases h4 with h4 | h4; exact absurd h4 h7; exact h4
    rw [h7'] at HE
    clear h4 h7 h7'
    generalize endV h = V at *
    have d8 : decide (n < V) = true := by simp; omega
    go_enter Try.func32, Try.ntmps32
    go_wp2_with (first
      | ((with_reducible apply at_slot 9); refine wpList_load_row rfl 40 (.tmp 2) rfl w.heap.size rfl 40 (h.cells 21).toArray (0, 0) _ R0.out Try.underlying40 rfl (cells_info _) ?_)
      | (go_at_call 16; ((with_reducible refine (HE.out _).mono ?_); rintro e w1 ⟨rfl, hb1⟩; have B1 := Lib.hid (b0.out.trans (hb1.mono b0.out.size)); have R1 := Lib.hid (R0.out.below hb1 R0.out.lt); have c1 : w1.cell? ⟨w.heap.size, 1, none⟩ = some (.int .u32 h.ic) := R1.out.cell (h.get 21 1 (by decide)); have c2 : w1.cell? ⟨w.heap.size, 2, none⟩ = some (.int .i64 h.st) := R1.out.cell (h.get 21 2 (by decide)); have c67 := HD.nums_at R1.out 0 (by decide); have c68 := HD.nums_at R1.out 1 (by decide); have c69 := HD.nums_at R1.out 2 (by decide); have c70 := HD.nums_at R1.out 3 (by decide); clear hb1))
      | (go_at_call 52; ((with_reducible refine (HS.out _).mono ?_); rintro e w' ⟨rfl, rfl⟩))
      | ((with_reducible apply at_slot 47); refine wpList_load_row rfl 40 (.tmp 2) rfl w.heap.size rfl 40 (h.cells 21).toArray (0, 0) _ R1.out Try.underlying40 rfl (cells_info _) ?_)
      | (go_at_call 53; ((with_reducible refine (HT1.out w1).mono ?_); rintro e w2 ⟨rfl, hb2⟩; have B2 := Lib.hid (B1.out.trans (hb2.mono B1.out.size)); have R2 := Lib.hid (R1.out.below hb2 R1.out.lt); have c71 := HD.nums_at R2.out 4 (by decide); have c72 := HD.nums_at R2.out 5 (by decide); clear hb2))
      | ((with_reducible apply at_slot 57); refine wpList_load_row rfl 40 (.tmp 2) rfl w.heap.size rfl 40 (h.cells 21).toArray (0, 0) _ R2.out Try.underlying40 rfl (cells_info _) ?_)
      | (go_at_call 53; ((with_reducible refine (HT2.out w2).mono ?_); rintro e w3 ⟨rfl, hb3⟩; have B3 := Lib.hid (B2.out.trans (hb3.mono B2.out.size)); clear hb3)))
    go_ret
    exact ⟨rfl, B1.out⟩

set_option maxHeartbeats 4000000 in
theorem fault_table (h : HD) (ok : h.Ok 21) (n : Int) (hn : n ≤ 1000000) (w : World) (h1 : (bits BinOp.andNot IntKind.u32 h.ic 4 != 0) = false) (h2 : stB h.st = true) (h3 : ¬ (h.N 0 < 272 ∨ h.N 0 % 8 ≠ 0 ∨ h.N 1 % 8 ≠ 0)) (h4 : ¬ (endB h = false ∨ n < endV h)) : Calls Try.prog 32 #[.agg (h.cells 21).toArray, .int .u64 n] w (Told (if tcode (h.N 2) (h.N 3) (h.N 0) (endV h) ≠ 0 then tcode (h.N 2) (h.N 3) (h.N 0) (endV h) else tcode (h.N 4) (h.N 5) (h.N 0) (endV h)) w) := by
  have b0 := Lib.hid ((Below.refl w.heap.size w).alloc (Nat.le_refl _) (.cells (h.cells 21).toArray 40))
  have R0 := Lib.hid (show Blk (w.alloc (.cells (h.cells 21).toArray 40)) w.heap.size (h.cells 21) 40 from Blk.new w _ _)
  have HE := Lib.hid fun (W : World) => end_any h ok W
  have HS := Lib.hid fun (W : World) => isState_any h.st W
  have hic := ok.ic
  obtain ⟨p0, p1⟩ := ok.N 0
  obtain ⟨r0, r1⟩ := ok.N 1
  unfold stB at h2
  rw [h2] at HS
  clear h2
  have d4 : decide (h.N 0 < 272) = false := by simp; omega
  have h5 : h.N 0 % 8 = 0 := by omega
  have h6 : h.N 1 % 8 = 0 := by omega
  clear h3
  have h7 : endB h = true := by
    cases hb : endB h with
    | true => rfl
    | false => exact absurd (Or.inl hb) h4
  have h8 : ¬ n < endV h := fun hx => h4 (Or.inr hx)
  have hV : endV h = h.N 0 + h.N 1 := if_pos (of_decide_eq_true h7)
  have hN0 : h.N 0 ≤ 1000000000 := by omega
  have hVb := end_bd h ok
  have HT1 := Lib.hid fun (W : World) => tf_any h ok (endV h) (h.N 2) (h.N 3) hVb (ok.N 2) (ok.N 3) hN0 W
  have HT2 := Lib.hid fun (W : World) => tf_any h ok (endV h) (h.N 4) (h.N 5) hVb (ok.N 4) (ok.N 5) hN0 W
  rw [h7] at HE
  clear h4 h7 hV
  generalize tcode (h.N 2) (h.N 3) (h.N 0) (endV h) = t1 at *
  generalize tcode (h.N 4) (h.N 5) (h.N 0) (endV h) = t2 at *
  generalize endV h = V at *
  have d8 : decide (n < V) = false := by simp; omega
  by_cases ht : t1 = 0
  · subst ht
    rw [if_neg (by simp)]
    go_enter Try.func32, Try.ntmps32
    go_wp2_with (first
      | ((with_reducible apply at_slot 9); refine wpList_load_row rfl 40 (.tmp 2) rfl w.heap.size rfl 40 (h.cells 21).toArray (0, 0) _ R0.out Try.underlying40 rfl (cells_info _) ?_)
      | (go_at_call 16; ((with_reducible refine (HE.out _).mono ?_); rintro e w1 ⟨rfl, hb1⟩; have B1 := Lib.hid (b0.out.trans (hb1.mono b0.out.size)); have R1 := Lib.hid (R0.out.below hb1 R0.out.lt); have c1 : w1.cell? ⟨w.heap.size, 1, none⟩ = some (.int .u32 h.ic) := R1.out.cell (h.get 21 1 (by decide)); have c2 : w1.cell? ⟨w.heap.size, 2, none⟩ = some (.int .i64 h.st) := R1.out.cell (h.get 21 2 (by decide)); have c67 := HD.nums_at R1.out 0 (by decide); have c68 := HD.nums_at R1.out 1 (by decide); have c69 := HD.nums_at R1.out 2 (by decide); have c70 := HD.nums_at R1.out 3 (by decide); clear hb1))
      | (go_at_call 52; ((with_reducible refine (HS.out _).mono ?_); rintro e w' ⟨rfl, rfl⟩))
      | ((with_reducible apply at_slot 47); refine wpList_load_row rfl 40 (.tmp 2) rfl w.heap.size rfl 40 (h.cells 21).toArray (0, 0) _ R1.out Try.underlying40 rfl (cells_info _) ?_)
      | (go_at_call 53; ((with_reducible refine (HT1.out w1).mono ?_); rintro e w2 ⟨rfl, hb2⟩; have B2 := Lib.hid (B1.out.trans (hb2.mono B1.out.size)); have R2 := Lib.hid (R1.out.below hb2 R1.out.lt); have c71 := HD.nums_at R2.out 4 (by decide); have c72 := HD.nums_at R2.out 5 (by decide); clear hb2))
      | ((with_reducible apply at_slot 57); refine wpList_load_row rfl 40 (.tmp 2) rfl w.heap.size rfl 40 (h.cells 21).toArray (0, 0) _ R2.out Try.underlying40 rfl (cells_info _) ?_)
      | (go_at_call 53; ((with_reducible refine (HT2.out w2).mono ?_); rintro e w3 ⟨rfl, hb3⟩; have B3 := Lib.hid (B2.out.trans (hb3.mono B2.out.size)); clear hb3)))
    go_ret
    exact ⟨rfl, B3.out⟩
  · rw [if_pos ht]
    have dt : (t1 != 0) = true := by simp [ht]
    go_enter Try.func32, Try.ntmps32
    go_wp2_with (first
      | ((with_reducible apply at_slot 9); refine wpList_load_row rfl 40 (.tmp 2) rfl w.heap.size rfl 40 (h.cells 21).toArray (0, 0) _ R0.out Try.underlying40 rfl (cells_info _) ?_)
      | (go_at_call 16; ((with_reducible refine (HE.out _).mono ?_); rintro e w1 ⟨rfl, hb1⟩; have B1 := Lib.hid (b0.out.trans (hb1.mono b0.out.size)); have R1 := Lib.hid (R0.out.below hb1 R0.out.lt); have c1 : w1.cell? ⟨w.heap.size, 1, none⟩ = some (.int .u32 h.ic) := R1.out.cell (h.get 21 1 (by decide)); have c2 : w1.cell? ⟨w.heap.size, 2, none⟩ = some (.int .i64 h.st) := R1.out.cell (h.get 21 2 (by decide)); have c67 := HD.nums_at R1.out 0 (by decide); have c68 := HD.nums_at R1.out 1 (by decide); have c69 := HD.nums_at R1.out 2 (by decide); have c70 := HD.nums_at R1.out 3 (by decide); clear hb1))
      | (go_at_call 52; ((with_reducible refine (HS.out _).mono ?_); rintro e w' ⟨rfl, rfl⟩))
      | ((with_reducible apply at_slot 47); refine wpList_load_row rfl 40 (.tmp 2) rfl w.heap.size rfl 40 (h.cells 21).toArray (0, 0) _ R1.out Try.underlying40 rfl (cells_info _) ?_)
      | (go_at_call 53; ((with_reducible refine (HT1.out w1).mono ?_); rintro e w2 ⟨rfl, hb2⟩; have B2 := Lib.hid (B1.out.trans (hb2.mono B1.out.size)); have R2 := Lib.hid (R1.out.below hb2 R1.out.lt); have c71 := HD.nums_at R2.out 4 (by decide); have c72 := HD.nums_at R2.out 5 (by decide); clear hb2))
      | ((with_reducible apply at_slot 57); refine wpList_load_row rfl 40 (.tmp 2) rfl w.heap.size rfl 40 (h.cells 21).toArray (0, 0) _ R2.out Try.underlying40 rfl (cells_info _) ?_)
      | (go_at_call 53; ((with_reducible refine (HT2.out w2).mono ?_); rintro e w3 ⟨rfl, hb3⟩; have B3 := Lib.hid (B2.out.trans (hb3.mono B2.out.size)); clear hb3)))
    go_ret
    exact ⟨rfl, B2.out⟩

theorem fault_any (h : HD) (ok : h.Ok 21) (n : Int) (hn : n ≤ 1000000) (w : World) : Calls Try.prog 32 #[.agg (h.cells 21).toArray, .int .u64 n] w (Told (fcode h n) w) := by
  unfold fcode
  by_cases h1 : flB h.ic = true
  · rw [if_pos h1]; exact fault_flag h ok n w h1
  rw [if_neg h1]
  have h1' : flB h.ic = false := by simpa using h1
  by_cases h2 : stB h.st = false
  · rw [if_pos h2]; exact fault_state h ok n w h1' h2
  rw [if_neg h2]
  have h2' : stB h.st = true := by simpa using h2
  by_cases h3 : h.N 0 < 272 ∨ h.N 0 % 8 ≠ 0 ∨ h.N 1 % 8 ≠ 0
  · rw [if_pos h3]; exact fault_size h ok n w h1' h2' h3
  rw [if_neg h3]
  by_cases h4 : endB h = false ∨ n < endV h
  · rw [if_pos h4]; exact fault_range h ok n w h1' h2' h3 h4
  rw [if_neg h4]
  exact fault_table h ok n hn w h1' h2' h3 h4
end Go.Proofs.Ytekmbgcijkdkfaa.Gm
