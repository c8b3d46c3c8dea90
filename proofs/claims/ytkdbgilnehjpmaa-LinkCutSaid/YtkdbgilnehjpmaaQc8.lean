/-
  Texts beneath the proof, one behind the other.
-/
import Derived.Test.YtkdbgilnehjpmaaQc7
/-
  What is amiss with a head: all of it.
-/
namespace Go.Proofs.Ytkdbgilnehjpmaa.Gm
open Go.ChangeShapes Go.WideShapes Go.ChangeAt Go.RowKit
open Bytes8 Blk8 Own8 OwnM OwnE LeA LeNum LeB LeP Ob Oc Od Ga Gb Gc Gd Gf Gi Gj Gl
set_option linter.unusedVariables false
set_option linter.unusedSimpArgs false
set_option maxRecDepth 100000
/-- Is there a flag that is not known? Is it a state? -/
def flB (ic : Int) : Bool := bits BinOp.andNot IntKind.u32 ic 4 != 0
def stB (s : Int) : Bool := s == 0 || s == 1 || s == 2
def fcode (h : HD) (n : Int) : Int :=
  if flB h.ic = true then 7 else if stB h.st = false then 8
  else if h.N 0 < 272 ∨ h.N 0 % 8 ≠ 0 ∨ h.N 1 % 8 ≠ 0 then 5
  else if endB h = false ∨ n < endV h then 2
  else if tcode (h.N 2) (h.N 3) (h.N 0) (endV h) ≠ 0 then tcode (h.N 2) (h.N 3) (h.N 0) (endV h) else tcode (h.N 4) (h.N 5) (h.N 0) (endV h)
theorem end_bd (h : HD) (ok : h.Ok 21) : 0 ≤ endV h ∧ endV h ≤ 18446744073709551615 := by
  have h0 := ok.N 0
  have h1 := ok.N 1
  unfold endV
  split <;> omega
attribute [local irreducible] HD.cells wpList Code.wp
abbrev Told (c : Int) (w : World) (e : Ending) (w' : World) : Prop := e = .returned (.int .i64 c) ∧ Below w.heap.size w w'
set_option maxHeartbeats 2000000 in
theorem fault_flag (h : HD) (ok : h.Ok 21) (n : Int) (w : World) (h1 : (bits BinOp.andNot IntKind.u32 h.ic 4 != 0) = true) : Calls Try.prog 23 #[.agg (h.cells 21).toArray, .int .u64 n] w (Told 7 w) := by
  have b0 := Lib.hid ((Below.refl w.heap.size w).alloc (Nat.le_refl _) (.cells (h.cells 21).toArray 38))
  have R0 := Lib.hid (show Blk (w.alloc (.cells (h.cells 21).toArray 38)) w.heap.size (h.cells 21) 38 from Blk.new w _ _)
  have HE := Lib.hid fun (W : World) => end_any h ok W
  have HS := Lib.hid fun (W : World) => isState_any h.st W
  have hic := ok.ic
  obtain ⟨p0, p1⟩ := ok.N 0
  obtain ⟨r0, r1⟩ := ok.N 1
  go_enter Try.func23, Try.ntmps23
  go_wp2_with (first
    | ((with_reducible apply at_slot 9); refine wpList_load_row rfl 38 (.tmp 2) rfl w.heap.size rfl 38 (h.cells 21).toArray (0, 0) _ R0.out Try.underlying38 rfl (cells_info _) ?_)
    | (go_at_call 24; ((with_reducible refine (HE.out _).mono ?_); rintro e w1 ⟨rfl, hb1⟩; have B1 := Lib.hid (b0.out.trans (hb1.mono b0.out.size)); have R1 := Lib.hid (R0.out.below hb1 R0.out.lt); have c1 : w1.cell? ⟨w.heap.size, 1, none⟩ = some (.int .u32 h.ic) := R1.out.cell (h.get 21 1 (by decide)); have c2 : w1.cell? ⟨w.heap.size, 2, none⟩ = some (.int .i64 h.st) := R1.out.cell (h.get 21 2 (by decide)); have c67 := HD.nums_at R1.out 0 (by decide); have c68 := HD.nums_at R1.out 1 (by decide); have c69 := HD.nums_at R1.out 2 (by decide); have c70 := HD.nums_at R1.out 3 (by decide); clear hb1))
    | (go_at_call 46; ((with_reducible refine (HS.out _).mono ?_); rintro e w' ⟨rfl, rfl⟩))
    | ((with_reducible apply at_slot 47); refine wpList_load_row rfl 38 (.tmp 2) rfl w.heap.size rfl 38 (h.cells 21).toArray (0, 0) _ R1.out Try.underlying38 rfl (cells_info _) ?_)
    | (go_at_call 47; ((with_reducible refine (HT1.out w1).mono ?_); rintro e w2 ⟨rfl, hb2⟩; have B2 := Lib.hid (B1.out.trans (hb2.mono B1.out.size)); have R2 := Lib.hid (R1.out.below hb2 R1.out.lt); have c71 := HD.nums_at R2.out 4 (by decide); have c72 := HD.nums_at R2.out 5 (by decide); clear hb2))
    | ((with_reducible apply at_slot 57); refine wpList_load_row rfl 38 (.tmp 2) rfl w.heap.size rfl 38 (h.cells 21).toArray (0, 0) _ R2.out Try.underlying38 rfl (cells_info _) ?_)
    | (go_at_call 47; ((with_reducible refine (HT2.out w2).mono ?_); rintro e w3 ⟨rfl, hb3⟩; have B3 := Lib.hid (B2.out.trans (hb3.mono B2.out.size)); clear hb3)))
  go_ret
  exact ⟨rfl, B1.out⟩
set_option maxHeartbeats 2000000 in
theorem fault_state (h : HD) (ok : h.Ok 21) (n : Int) (w : World) (h1 : (bits BinOp.andNot IntKind.u32 h.ic 4 != 0) = false) (h2 : stB h.st = false) : Calls Try.prog 23 #[.agg (h.cells 21).toArray, .int .u64 n] w (Told 8 w) := by
  have b0 := Lib.hid ((Below.refl w.heap.size w).alloc (Nat.le_refl _) (.cells (h.cells 21).toArray 38))
  have R0 := Lib.hid (show Blk (w.alloc (.cells (h.cells 21).toArray 38)) w.heap.size (h.cells 21) 38 from Blk.new w _ _)
  have HE := Lib.hid fun (W : World) => end_any h ok W
  have HS := Lib.hid fun (W : World) => isState_any h.st W
  have hic := ok.ic
  obtain ⟨p0, p1⟩ := ok.N 0
  obtain ⟨r0, r1⟩ := ok.N 1
  unfold stB at h2
  rw [h2] at HS
  clear h2
  go_enter Try.func23, Try.ntmps23
  go_wp2_with (first
    | ((with_reducible apply at_slot 9); refine wpList_load_row rfl 38 (.tmp 2) rfl w.heap.size rfl 38 (h.cells 21).toArray (0, 0) _ R0.out Try.underlying38 rfl (cells_info _) ?_)
    | (go_at_call 24; ((with_reducible refine (HE.out _).mono ?_); rintro e w1 ⟨rfl, hb1⟩; have B1 := Lib.hid (b0.out.trans (hb1.mono b0.out.size)); have R1 := Lib.hid (R0.out.below hb1 R0.out.lt); have c1 : w1.cell? ⟨w.heap.size, 1, none⟩ = some (.int .u32 h.ic) := R1.out.cell (h.get 21 1 (by decide)); have c2 : w1.cell? ⟨w.heap.size, 2, none⟩ = some (.int .i64 h.st) := R1.out.cell (h.get 21 2 (by decide)); have c67 := HD.nums_at R1.out 0 (by decide); have c68 := HD.nums_at R1.out 1 (by decide); have c69 := HD.nums_at R1.out 2 (by decide); have c70 := HD.nums_at R1.out 3 (by decide); clear hb1))
    | (go_at_call 46; ((with_reducible refine (HS.out _).mono ?_); rintro e w' ⟨rfl, rfl⟩))
    | ((with_reducible apply at_slot 47); refine wpList_load_row rfl 38 (.tmp 2) rfl w.heap.size rfl 38 (h.cells 21).toArray (0, 0) _ R1.out Try.underlying38 rfl (cells_info _) ?_)
    | (go_at_call 47; ((with_reducible refine (HT1.out w1).mono ?_); rintro e w2 ⟨rfl, hb2⟩; have B2 := Lib.hid (B1.out.trans (hb2.mono B1.out.size)); have R2 := Lib.hid (R1.out.below hb2 R1.out.lt); have c71 := HD.nums_at R2.out 4 (by decide); have c72 := HD.nums_at R2.out 5 (by decide); clear hb2))
    | ((with_reducible apply at_slot 57); refine wpList_load_row rfl 38 (.tmp 2) rfl w.heap.size rfl 38 (h.cells 21).toArray (0, 0) _ R2.out Try.underlying38 rfl (cells_info _) ?_)
    | (go_at_call 47; ((with_reducible refine (HT2.out w2).mono ?_); rintro e w3 ⟨rfl, hb3⟩; have B3 := Lib.hid (B2.out.trans (hb3.mono B2.out.size)); clear hb3)))
  go_ret
  exact ⟨rfl, B1.out⟩
set_option maxHeartbeats 2000000 in
theorem fault_size (h : HD) (ok : h.Ok 21) (n : Int) (w : World) (h1 : (bits BinOp.andNot IntKind.u32 h.ic 4 != 0) = false) (h2 : stB h.st = true) (h3 : h.N 0 < 272 ∨ h.N 0 % 8 ≠ 0 ∨ h.N 1 % 8 ≠ 0) : Calls Try.prog 23 #[.agg (h.cells 21).toArray, .int .u64 n] w (Told 5 w) := by
  have b0 := Lib.hid ((Below.refl w.heap.size w).alloc (Nat.le_refl _) (.cells (h.cells 21).toArray 38))
  have R0 := Lib.hid (show Blk (w.alloc (.cells (h.cells 21).toArray 38)) w.heap.size (h.cells 21) 38 from Blk.new w _ _)
  have HE := Lib.hid fun (W : World) => end_any h ok W
  have HS := Lib.hid fun (W : World) => isState_any h.st W
  have hic := ok.ic
  obtain ⟨p0, p1⟩ := ok.N 0
  obtain ⟨r0, r1⟩ := ok.N 1
  unfold stB at h2
  rw [h2] at HS
  clear h2
  by_cases h4 : h.N 0 < 272
  · have d4 : decide (h.N 0 < 272) = true := by simp; omega
    clear h3
    go_enter Try.func23, Try.ntmps23
    go_wp2_with (first
      | ((with_reducible apply at_slot 9); refine wpList_load_row rfl 38 (.tmp 2) rfl w.heap.size rfl 38 (h.cells 21).toArray (0, 0) _ R0.out Try.underlying38 rfl (cells_info _) ?_)
      | (go_at_call 24; ((with_reducible refine (HE.out _).mono ?_); rintro e w1 ⟨rfl, hb1⟩; have B1 := Lib.hid (b0.out.trans (hb1.mono b0.out.size)); have R1 := Lib.hid (R0.out.below hb1 R0.out.lt); have c1 : w1.cell? ⟨w.heap.size, 1, none⟩ = some (.int .u32 h.ic) := R1.out.cell (h.get 21 1 (by decide)); have c2 : w1.cell? ⟨w.heap.size, 2, none⟩ = some (.int .i64 h.st) := R1.out.cell (h.get 21 2 (by decide)); have c67 := HD.nums_at R1.out 0 (by decide); have c68 := HD.nums_at R1.out 1 (by decide); have c69 := HD.nums_at R1.out 2 (by decide); have c70 := HD.nums_at R1.out 3 (by decide); clear hb1))
      | (go_at_call 46; ((with_reducible refine (HS.out _).mono ?_); rintro e w' ⟨rfl, rfl⟩))
      | ((with_reducible apply at_slot 47); refine wpList_load_row rfl 38 (.tmp 2) rfl w.heap.size rfl 38 (h.cells 21).toArray (0, 0) _ R1.out Try.underlying38 rfl (cells_info _) ?_)
      | (go_at_call 47; ((with_reducible refine (HT1.out w1).mono ?_); rintro e w2 ⟨rfl, hb2⟩; have B2 := Lib.hid (B1.out.trans (hb2.mono B1.out.size)); have R2 := Lib.hid (R1.out.below hb2 R1.out.lt); have c71 := HD.nums_at R2.out 4 (by decide); have c72 := HD.nums_at R2.out 5 (by decide); clear hb2))
      | ((with_reducible apply at_slot 57); refine wpList_load_row rfl 38 (.tmp 2) rfl w.heap.size rfl 38 (h.cells 21).toArray (0, 0) _ R2.out Try.underlying38 rfl (cells_info _) ?_)
      | (go_at_call 47; ((with_reducible refine (HT2.out w2).mono ?_); rintro e w3 ⟨rfl, hb3⟩; have B3 := Lib.hid (B2.out.trans (hb3.mono B2.out.size)); clear hb3)))
    go_ret
    exact ⟨rfl, B1.out⟩
  have d4 : decide (h.N 0 < 272) = false := by simp; omega
  by_cases h5 : h.N 0 % 8 = 0
  · have h6 : ¬ h.N 1 % 8 = 0 := by omega
    clear h3
    go_enter Try.func23, Try.ntmps23
    go_wp2_with (first
      | ((with_reducible apply at_slot 9); refine wpList_load_row rfl 38 (.tmp 2) rfl w.heap.size rfl 38 (h.cells 21).toArray (0, 0) _ R0.out Try.underlying38 rfl (cells_info _) ?_)
      | (go_at_call 24; ((with_reducible refine (HE.out _).mono ?_); rintro e w1 ⟨rfl, hb1⟩; have B1 := Lib.hid (b0.out.trans (hb1.mono b0.out.size)); have R1 := Lib.hid (R0.out.below hb1 R0.out.lt); have c1 : w1.cell? ⟨w.heap.size, 1, none⟩ = some (.int .u32 h.ic) := R1.out.cell (h.get 21 1 (by decide)); have c2 : w1.cell? ⟨w.heap.size, 2, none⟩ = some (.int .i64 h.st) := R1.out.cell (h.get 21 2 (by decide)); have c67 := HD.nums_at R1.out 0 (by decide); have c68 := HD.nums_at R1.out 1 (by decide); have c69 := HD.nums_at R1.out 2 (by decide); have c70 := HD.nums_at R1.out 3 (by decide); clear hb1))
      | (go_at_call 46; ((with_reducible refine (HS.out _).mono ?_); rintro e w' ⟨rfl, rfl⟩))
      | ((with_reducible apply at_slot 47); refine wpList_load_row rfl 38 (.tmp 2) rfl w.heap.size rfl 38 (h.cells 21).toArray (0, 0) _ R1.out Try.underlying38 rfl (cells_info _) ?_)
      | (go_at_call 47; ((with_reducible refine (HT1.out w1).mono ?_); rintro e w2 ⟨rfl, hb2⟩; have B2 := Lib.hid (B1.out.trans (hb2.mono B1.out.size)); have R2 := Lib.hid (R1.out.below hb2 R1.out.lt); have c71 := HD.nums_at R2.out 4 (by decide); have c72 := HD.nums_at R2.out 5 (by decide); clear hb2))
      | ((with_reducible apply at_slot 57); refine wpList_load_row rfl 38 (.tmp 2) rfl w.heap.size rfl 38 (h.cells 21).toArray (0, 0) _ R2.out Try.underlying38 rfl (cells_info _) ?_)
      | (go_at_call 47; ((with_reducible refine (HT2.out w2).mono ?_); rintro e w3 ⟨rfl, hb3⟩; have B3 := Lib.hid (B2.out.trans (hb3.mono B2.out.size)); clear hb3)))
    go_ret
    exact ⟨rfl, B1.out⟩
  · clear h3
    go_enter Try.func23, Try.ntmps23
    go_wp2_with (first
      | ((with_reducible apply at_slot 9); refine wpList_load_row rfl 38 (.tmp 2) rfl w.heap.size rfl 38 (h.cells 21).toArray (0, 0) _ R0.out Try.underlying38 rfl (cells_info _) ?_)
      | (go_at_call 24; ((with_reducible refine (HE.out _).mono ?_); rintro e w1 ⟨rfl, hb1⟩; have B1 := Lib.hid (b0.out.trans (hb1.mono b0.out.size)); have R1 := Lib.hid (R0.out.below hb1 R0.out.lt); have c1 : w1.cell? ⟨w.heap.size, 1, none⟩ = some (.int .u32 h.ic) := R1.out.cell (h.get 21 1 (by decide)); have c2 : w1.cell? ⟨w.heap.size, 2, none⟩ = some (.int .i64 h.st) := R1.out.cell (h.get 21 2 (by decide)); have c67 := HD.nums_at R1.out 0 (by decide); have c68 := HD.nums_at R1.out 1 (by decide); have c69 := HD.nums_at R1.out 2 (by decide); have c70 := HD.nums_at R1.out 3 (by decide); clear hb1))
      | (go_at_call 46; ((with_reducible refine (HS.out _).mono ?_); rintro e w' ⟨rfl, rfl⟩))
      | ((with_reducible apply at_slot 47); refine wpList_load_row rfl 38 (.tmp 2) rfl w.heap.size rfl 38 (h.cells 21).toArray (0, 0) _ R1.out Try.underlying38 rfl (cells_info _) ?_)
      | (go_at_call 47; ((with_reducible refine (HT1.out w1).mono ?_); rintro e w2 ⟨rfl, hb2⟩; have B2 := Lib.hid (B1.out.trans (hb2.mono B1.out.size)); have R2 := Lib.hid (R1.out.below hb2 R1.out.lt); have c71 := HD.nums_at R2.out 4 (by decide); have c72 := HD.nums_at R2.out 5 (by decide); clear hb2))
      | ((with_reducible apply at_slot 57); refine wpList_load_row rfl 38 (.tmp 2) rfl w.heap.size rfl 38 (h.cells 21).toArray (0, 0) _ R2.out Try.underlying38 rfl (cells_info _) ?_)
      | (go_at_call 47; ((with_reducible refine (HT2.out w2).mono ?_); rintro e w3 ⟨rfl, hb3⟩; have B3 := Lib.hid (B2.out.trans (hb3.mono B2.out.size)); clear hb3)))
    go_ret
    exact ⟨rfl, B1.out⟩
set_option maxHeartbeats 2000000 in
theorem fault_range (h : HD) (ok : h.Ok 21) (n : Int) (w : World) (h1 : (bits BinOp.andNot IntKind.u32 h.ic 4 != 0) = false) (h2 : stB h.st = true) (h3 : ¬ (h.N 0 < 272 ∨ h.N 0 % 8 ≠ 0 ∨ h.N 1 % 8 ≠ 0)) (h4 : endB h = false ∨ n < endV h) : Calls Try.prog 23 #[.agg (h.cells 21).toArray, .int .u64 n] w (Told 2 w) := by
  have b0 := Lib.hid ((Below.refl w.heap.size w).alloc (Nat.le_refl _) (.cells (h.cells 21).toArray 38))
  have R0 := Lib.hid (show Blk (w.alloc (.cells (h.cells 21).toArray 38)) w.heap.size (h.cells 21) 38 from Blk.new w _ _)
  have HE := Lib.hid fun (W : World) => end_any h ok W
  have HS := Lib.hid fun (W : World) => isState_any h.st W
  have hic := ok.ic
  obtain ⟨p0, p1⟩ := ok.N 0
  obtain ⟨r0, r1⟩ := ok.N 1
  unfold stB at h2
  rw [h2] at HS
  clear h2
  have d4 : decide (h.N 0 < 272) = false := by simp; omega
  have h5 : h.N 0 % 8 = 0 := by omega
  have h6 : h.N 1 % 8 = 0 := by omega
  clear h3
  by_cases h7 : endB h = false
  · rw [h7] at HE
    clear h4 h7
    go_enter Try.func23, Try.ntmps23
    go_wp2_with (first
      | ((with_reducible apply at_slot 9); refine wpList_load_row rfl 38 (.tmp 2) rfl w.heap.size rfl 38 (h.cells 21).toArray (0, 0) _ R0.out Try.underlying38 rfl (cells_info _) ?_)
      | (go_at_call 24; ((with_reducible refine (HE.out _).mono ?_); rintro e w1 ⟨rfl, hb1⟩; have B1 := Lib.hid (b0.out.trans (hb1.mono b0.out.size)); have R1 := Lib.hid (R0.out.below hb1 R0.out.lt); have c1 : w1.cell? ⟨w.heap.size, 1, none⟩ = some (.int .u32 h.ic) := R1.out.cell (h.get 21 1 (by decide)); have c2 : w1.cell? ⟨w.heap.size, 2, none⟩ = some (.int .i64 h.st) := R1.out.cell (h.get 21 2 (by decide)); have c67 := HD.nums_at R1.out 0 (by decide); have c68 := HD.nums_at R1.out 1 (by decide); have c69 := HD.nums_at R1.out 2 (by decide); have c70 := HD.nums_at R1.out 3 (by decide); clear hb1))
      | (go_at_call 46; ((with_reducible refine (HS.out _).mono ?_); rintro e w' ⟨rfl, rfl⟩))
      | ((with_reducible apply at_slot 47); refine wpList_load_row rfl 38 (.tmp 2) rfl w.heap.size rfl 38 (h.cells 21).toArray (0, 0) _ R1.out Try.underlying38 rfl (cells_info _) ?_)
      | (go_at_call 47; ((with_reducible refine (HT1.out w1).mono ?_); rintro e w2 ⟨rfl, hb2⟩; have B2 := Lib.hid (B1.out.trans (hb2.mono B1.out.size)); have R2 := Lib.hid (R1.out.below hb2 R1.out.lt); have c71 := HD.nums_at R2.out 4 (by decide); have c72 := HD.nums_at R2.out 5 (by decide); clear hb2))
      | ((with_reducible apply at_slot 57); refine wpList_load_row rfl 38 (.tmp 2) rfl w.heap.size rfl 38 (h.cells 21).toArray (0, 0) _ R2.out Try.underlying38 rfl (cells_info _) ?_)
      | (go_at_call 47; ((with_reducible refine (HT2.out w2).mono ?_); rintro e w3 ⟨rfl, hb3⟩; have B3 := Lib.hid (B2.out.trans (hb3.mono B2.out.size)); clear hb3)))
    go_ret
    exact ⟨rfl, B1.out⟩
  · have h7' : endB h = true := by simpa using h7
    have h8 : n < endV h := by rcases h4 with h4 | h4; exact absurd h4 h7; exact h4
    rw [h7'] at HE
    clear h4 h7 h7'
    generalize endV h = V at *
    have d8 : decide (n < V) = true := by simp; omega
    go_enter Try.func23, Try.ntmps23
    go_wp2_with (first
      | ((with_reducible apply at_slot 9); refine wpList_load_row rfl 38 (.tmp 2) rfl w.heap.size rfl 38 (h.cells 21).toArray (0, 0) _ R0.out Try.underlying38 rfl (cells_info _) ?_)
      | (go_at_call 24; ((with_reducible refine (HE.out _).mono ?_); rintro e w1 ⟨rfl, hb1⟩; have B1 := Lib.hid (b0.out.trans (hb1.mono b0.out.size)); have R1 := Lib.hid (R0.out.below hb1 R0.out.lt); have c1 : w1.cell? ⟨w.heap.size, 1, none⟩ = some (.int .u32 h.ic) := R1.out.cell (h.get 21 1 (by decide)); have c2 : w1.cell? ⟨w.heap.size, 2, none⟩ = some (.int .i64 h.st) := R1.out.cell (h.get 21 2 (by decide)); have c67 := HD.nums_at R1.out 0 (by decide); have c68 := HD.nums_at R1.out 1 (by decide); have c69 := HD.nums_at R1.out 2 (by decide); have c70 := HD.nums_at R1.out 3 (by decide); clear hb1))
      | (go_at_call 46; ((with_reducible refine (HS.out _).mono ?_); rintro e w' ⟨rfl, rfl⟩))
      | ((with_reducible apply at_slot 47); refine wpList_load_row rfl 38 (.tmp 2) rfl w.heap.size rfl 38 (h.cells 21).toArray (0, 0) _ R1.out Try.underlying38 rfl (cells_info _) ?_)
      | (go_at_call 47; ((with_reducible refine (HT1.out w1).mono ?_); rintro e w2 ⟨rfl, hb2⟩; have B2 := Lib.hid (B1.out.trans (hb2.mono B1.out.size)); have R2 := Lib.hid (R1.out.below hb2 R1.out.lt); have c71 := HD.nums_at R2.out 4 (by decide); have c72 := HD.nums_at R2.out 5 (by decide); clear hb2))
      | ((with_reducible apply at_slot 57); refine wpList_load_row rfl 38 (.tmp 2) rfl w.heap.size rfl 38 (h.cells 21).toArray (0, 0) _ R2.out Try.underlying38 rfl (cells_info _) ?_)
      | (go_at_call 47; ((with_reducible refine (HT2.out w2).mono ?_); rintro e w3 ⟨rfl, hb3⟩; have B3 := Lib.hid (B2.out.trans (hb3.mono B2.out.size)); clear hb3)))
    go_ret
    exact ⟨rfl, B1.out⟩
set_option maxHeartbeats 4000000 in
theorem fault_table (h : HD) (ok : h.Ok 21) (n : Int) (hn : n ≤ 1000000) (w : World) (h1 : (bits BinOp.andNot IntKind.u32 h.ic 4 != 0) = false) (h2 : stB h.st = true) (h3 : ¬ (h.N 0 < 272 ∨ h.N 0 % 8 ≠ 0 ∨ h.N 1 % 8 ≠ 0)) (h4 : ¬ (endB h = false ∨ n < endV h)) : Calls Try.prog 23 #[.agg (h.cells 21).toArray, .int .u64 n] w (Told (if tcode (h.N 2) (h.N 3) (h.N 0) (endV h) ≠ 0 then tcode (h.N 2) (h.N 3) (h.N 0) (endV h) else tcode (h.N 4) (h.N 5) (h.N 0) (endV h)) w) := by
  have b0 := Lib.hid ((Below.refl w.heap.size w).alloc (Nat.le_refl _) (.cells (h.cells 21).toArray 38))
  have R0 := Lib.hid (show Blk (w.alloc (.cells (h.cells 21).toArray 38)) w.heap.size (h.cells 21) 38 from Blk.new w _ _)
  have HE := Lib.hid fun (W : World) => end_any h ok W
  have HS := Lib.hid fun (W : World) => isState_any h.st W
  have hic := ok.ic
  obtain ⟨p0, p1⟩ := ok.N 0
  obtain ⟨r0, r1⟩ := ok.N 1
  unfold stB at h2
  rw [h2] at HS
  clear h2
  have d4 : decide (h.N 0 < 272) = false := by simp; omega
  have h5 : h.N 0 % 8 = 0 := by omega
  have h6 : h.N 1 % 8 = 0 := by omega
  clear h3
  have h7 : endB h = true := by
    cases hb : endB h with
    | true => rfl
    | false => exact absurd (Or.inl hb) h4
  have h8 : ¬ n < endV h := fun hx => h4 (Or.inr hx)
  have hV : endV h = h.N 0 + h.N 1 := if_pos (of_decide_eq_true h7)
  have hN0 : h.N 0 ≤ 1000000000 := by omega
  have hVb := end_bd h ok
  have HT1 := Lib.hid fun (W : World) => tf_any h ok (endV h) (h.N 2) (h.N 3) hVb (ok.N 2) (ok.N 3) hN0 W
  have HT2 := Lib.hid fun (W : World) => tf_any h ok (endV h) (h.N 4) (h.N 5) hVb (ok.N 4) (ok.N 5) hN0 W
  rw [h7] at HE
  clear h4 h7 hV
  generalize tcode (h.N 2) (h.N 3) (h.N 0) (endV h) = t1 at *
  generalize tcode (h.N 4) (h.N 5) (h.N 0) (endV h) = t2 at *
  generalize endV h = V at *
  have d8 : decide (n < V) = false := by simp; omega
  by_cases ht : t1 = 0
  · subst ht
    rw [if_neg (by simp)]
    go_enter Try.func23, Try.ntmps23
    go_wp2_with (first
      | ((with_reducible apply at_slot 9); refine wpList_load_row rfl 38 (.tmp 2) rfl w.heap.size rfl 38 (h.cells 21).toArray (0, 0) _ R0.out Try.underlying38 rfl (cells_info _) ?_)
      | (go_at_call 24; ((with_reducible refine (HE.out _).mono ?_); rintro e w1 ⟨rfl, hb1⟩; have B1 := Lib.hid (b0.out.trans (hb1.mono b0.out.size)); have R1 := Lib.hid (R0.out.below hb1 R0.out.lt); have c1 : w1.cell? ⟨w.heap.size, 1, none⟩ = some (.int .u32 h.ic) := R1.out.cell (h.get 21 1 (by decide)); have c2 : w1.cell? ⟨w.heap.size, 2, none⟩ = some (.int .i64 h.st) := R1.out.cell (h.get 21 2 (by decide)); have c67 := HD.nums_at R1.out 0 (by decide); have c68 := HD.nums_at R1.out 1 (by decide); have c69 := HD.nums_at R1.out 2 (by decide); have c70 := HD.nums_at R1.out 3 (by decide); clear hb1))
      | (go_at_call 46; ((with_reducible refine (HS.out _).mono ?_); rintro e w' ⟨rfl, rfl⟩))
      | ((with_reducible apply at_slot 47); refine wpList_load_row rfl 38 (.tmp 2) rfl w.heap.size rfl 38 (h.cells 21).toArray (0, 0) _ R1.out Try.underlying38 rfl (cells_info _) ?_)
      | (go_at_call 47; ((with_reducible refine (HT1.out w1).mono ?_); rintro e w2 ⟨rfl, hb2⟩; have B2 := Lib.hid (B1.out.trans (hb2.mono B1.out.size)); have R2 := Lib.hid (R1.out.below hb2 R1.out.lt); have c71 := HD.nums_at R2.out 4 (by decide); have c72 := HD.nums_at R2.out 5 (by decide); clear hb2))
      | ((with_reducible apply at_slot 57); refine wpList_load_row rfl 38 (.tmp 2) rfl w.heap.size rfl 38 (h.cells 21).toArray (0, 0) _ R2.out Try.underlying38 rfl (cells_info _) ?_)
      | (go_at_call 47; ((with_reducible refine (HT2.out w2).mono ?_); rintro e w3 ⟨rfl, hb3⟩; have B3 := Lib.hid (B2.out.trans (hb3.mono B2.out.size)); clear hb3)))
    go_ret
    exact ⟨rfl, B3.out⟩
  · rw [if_pos ht]
    have dt : (t1 != 0) = true := by simp [ht]
    go_enter Try.func23, Try.ntmps23
    go_wp2_with (first
      | ((with_reducible apply at_slot 9); refine wpList_load_row rfl 38 (.tmp 2) rfl w.heap.size rfl 38 (h.cells 21).toArray (0, 0) _ R0.out Try.underlying38 rfl (cells_info _) ?_)
      | (go_at_call 24; ((with_reducible refine (HE.out _).mono ?_); rintro e w1 ⟨rfl, hb1⟩; have B1 := Lib.hid (b0.out.trans (hb1.mono b0.out.size)); have R1 := Lib.hid (R0.out.below hb1 R0.out.lt); have c1 : w1.cell? ⟨w.heap.size, 1, none⟩ = some (.int .u32 h.ic) := R1.out.cell (h.get 21 1 (by decide)); have c2 : w1.cell? ⟨w.heap.size, 2, none⟩ = some (.int .i64 h.st) := R1.out.cell (h.get 21 2 (by decide)); have c67 := HD.nums_at R1.out 0 (by decide); have c68 := HD.nums_at R1.out 1 (by decide); have c69 := HD.nums_at R1.out 2 (by decide); have c70 := HD.nums_at R1.out 3 (by decide); clear hb1))
      | (go_at_call 46; ((with_reducible refine (HS.out _).mono ?_); rintro e w' ⟨rfl, rfl⟩))
      | ((with_reducible apply at_slot 47); refine wpList_load_row rfl 38 (.tmp 2) rfl w.heap.size rfl 38 (h.cells 21).toArray (0, 0) _ R1.out Try.underlying38 rfl (cells_info _) ?_)
      | (go_at_call 47; ((with_reducible refine (HT1.out w1).mono ?_); rintro e w2 ⟨rfl, hb2⟩; have B2 := Lib.hid (B1.out.trans (hb2.mono B1.out.size)); have R2 := Lib.hid (R1.out.below hb2 R1.out.lt); have c71 := HD.nums_at R2.out 4 (by decide); have c72 := HD.nums_at R2.out 5 (by decide); clear hb2))
      | ((with_reducible apply at_slot 57); refine wpList_load_row rfl 38 (.tmp 2) rfl w.heap.size rfl 38 (h.cells 21).toArray (0, 0) _ R2.out Try.underlying38 rfl (cells_info _) ?_)
      | (go_at_call 47; ((with_reducible refine (HT2.out w2).mono ?_); rintro e w3 ⟨rfl, hb3⟩; have B3 := Lib.hid (B2.out.trans (hb3.mono B2.out.size)); clear hb3)))
    go_ret
    exact ⟨rfl, B2.out⟩
theorem fault_any (h : HD) (ok : h.Ok 21) (n : Int) (hn : n ≤ 1000000) (w : World) : Calls Try.prog 23 #[.agg (h.cells 21).toArray, .int .u64 n] w (Told (fcode h n) w) := by
  unfold fcode
  by_cases h1 : flB h.ic = true
  · rw [if_pos h1]; exact fault_flag h ok n w h1
  rw [if_neg h1]
  have h1' : flB h.ic = false := by simpa using h1
  by_cases h2 : stB h.st = false
  · rw [if_pos h2]; exact fault_state h ok n w h1' h2
  rw [if_neg h2]
  have h2' : stB h.st = true := by simpa using h2
  by_cases h3 : h.N 0 < 272 ∨ h.N 0 % 8 ≠ 0 ∨ h.N 1 % 8 ≠ 0
  · rw [if_pos h3]; exact fault_size h ok n w h1' h2' h3
  rw [if_neg h3]
  by_cases h4 : endB h = false ∨ n < endV h
  · rw [if_pos h4]; exact fault_range h ok n w h1' h2' h3 h4
  rw [if_neg h4]
  exact fault_table h ok n hn w h1' h2' h3 h4
end Go.Proofs.Ytkdbgilnehjpmaa.Gm
/-
  The program's Read of a head.
-/
namespace Go.Proofs.Ytkdbgilnehjpmaa.Go1
open Go.ChangeShapes Go.WideShapes Go.ChangeAt Go.RowKit
open Bytes8 Blk8 Own8 OwnM OwnE LeA LeNum LeB LeP Ob Oc Od Ga Gb Gc Gd Gf Gi Gj Gk Gl Gm
set_option linter.unusedVariables false
set_option linter.unusedSimpArgs false
set_option maxRecDepth 100000
/-- Does it begin as a journal does? The code of a head's bytes; the head that is told. -/
def magicB (l : List Int) : Bool := (strOfNums (l.take 8)).toList == [76, 80, 75, 83, 72, 72, 82, 72]
def hcode (l : List Int) (n : Nat) : Int := if n < 272 then 22 else if magicB l = false then 6 else fcode (hdOf l) n
def rhd (l : List Int) (n : Nat) : HD := if hcode l n = 0 then hdOf l else hd0
abbrev HTold (h : HD) (c : Int) (w : World) (e : Ending) (w' : World) : Prop := e = .returned (.tuple #[.agg (h.cells 21).toArray, .int .i64 c]) ∧ Below w.heap.size w w'
theorem bytes_take {w : World} {A : Option Addr} {l : List Int} (hb : Bytes w A l) (k : Nat) : Bytes w A (l.take k) := ⟨hb.1.take k, fun i hi => by
  have h1 : i < k ∧ i < l.length := by simp at hi; omega
  obtain ⟨b, off, e, hlt, hcell⟩ := hb.2 i h1.2
  refine ⟨b, off, e, hlt, ?_⟩
  rw [hcell]
  simp [List.getD_eq_getElem?_getD, List.getElem?_take_of_lt h1.1]⟩
attribute [local irreducible] HD.cells wpList Code.wp
set_option maxHeartbeats 2000000 in
theorem read_magic (A : Option Addr) (l : List Int) (n c : Nat) (w : World) (hb : Bytes w A l) (hL : l.length = n) (h272 : 272 ≤ n) (hc : n ≤ c) (hm : magicB l = false) :
    Calls Try.prog 7 #[.slice A n c] w (HTold hd0 6 w) := by
  have d1 : ¬ (n : Int) < 272 := by omega
  go_enter Try.func7, Try.ntmps7
  go_upto_region 1 with fail
  have b1 := Lib.hid ((Below.refl w.heap.size w).alloc (Nat.le_refl _) (.cells Try.zeroCells38 38))
  have Z1 := Lib.hid (heap_alloc_new w (.cells Try.zeroCells38 38))
  generalize w.alloc (.cells Try.zeroCells38 38) = w1 at *
  have h8 : (l.take 8).length = 8 := by simp; omega
  have hst := (bytes_take (hb.below b1.out (Nat.le_refl _)) 8).string c 8 h8
  have hS : (!(strOfNums (l.take 8)).toList == [76, 80, 75, 83, 72, 72, 82, 72]) = true := by unfold magicB at hm; rw [hm]; rfl
  generalize strOfNums (l.take 8) = S at *
  have hcc : (8 : Int) ≤ (c : Int) := by omega
  clear hb h8 hm
  go_wp2_with (first
    | ((with_reducible apply at_slot 14); refine wpList_build_zero rfl 38 rfl _ zero_built ?_)
    | ((with_reducible apply at_store (.tmp 2) (.tmp 14)); refine wpList_store_row rfl 38 (.tmp 2) (.tmp 14) rfl w.heap.size (hd0.cells 21).toArray rfl rfl 38 Try.zeroCells38 Z1.out (cells_info _) zeros_size (HD.one _ 21) ?_))
  refine bodyPost_ret (v := .tuple #[.agg (hd0.cells 21).toArray, .int .i64 6]) (by exact res_rowG Try.results7 _ _ w.heap.size 38 _ (0, 0) _ _ rfl rfl (setRow_heap _ _ _ _ _ (0, 0) Z1.out) Try.underlying38 rfl (cells_info _)) rfl ?_
  exact ⟨rfl, below_setRow b1.out (Nat.le_refl _) _⟩
set_option maxHeartbeats 4000000 in
theorem read_taken (A : Option Addr) (l : List Int) (n c : Nat) (w : World) (hb : Bytes w A l) (hL : l.length = n) (h272 : 272 ≤ n) (hn : n ≤ 1000000) (hc : n ≤ c) (hm : magicB l = true) (cd : Int) (hcd : fcode (hdOf l) n = cd) :
    Calls Try.prog 7 #[.slice A n c] w (HTold (if cd = 0 then hdOf l else hd0) cd w) := by
  have d1 : ¬ (n : Int) < 272 := by omega
  have HT := Lib.hid fun (W : World) (hW : Bytes W A l) => taken_any A l n c W hW hL h272 hn hc
  have HF := Lib.hid fun (W : World) => fault_any (hdOf l) (hdOf_ok hb.1 21) (n : Int) (by omega) W
  rw [hcd] at HF
  go_enter Try.func7, Try.ntmps7
  go_upto_region 1 with fail
  have b1 := Lib.hid ((Below.refl w.heap.size w).alloc (Nat.le_refl _) (.cells Try.zeroCells38 38))
  have Z1 := Lib.hid (heap_alloc_new w (.cells Try.zeroCells38 38))
  have S1 := Lib.hid (show (w.alloc (.cells Try.zeroCells38 38)).heap.size = w.heap.size + 1 by simp)
  generalize w.alloc (.cells Try.zeroCells38 38) = w1 at *
  have h8 : (l.take 8).length = 8 := by simp; omega
  have HB1 := Lib.hid (hb.below b1.out (Nat.le_refl _))
  have hst := (bytes_take HB1.out 8).string c 8 h8
  have hS : (!(strOfNums (l.take 8)).toList == [76, 80, 75, 83, 72, 72, 82, 72]) = false := by unfold magicB at hm; rw [hm]; rfl
  generalize strOfNums (l.take 8) = S at *
  have hcc : (8 : Int) ≤ (c : Int) := by omega
  clear hb h8 hm hcd
  go_upto_region 6 with (first
    | (go_at_call 22; ((with_reducible refine (HT.out _ HB1.out).mono ?_); rintro e w2 ⟨rfl, hb2⟩; have B2 := Lib.hid hb2; clear hb2))
    | ((with_reducible apply at_store (.tmp 4) (.tmp 16)); refine wpList_store_row rfl 38 (.tmp 4) (.tmp 16) rfl w2.heap.size ((hdOf l).cells 21).toArray rfl rfl 38 Try.zeroCells38 (heap_alloc_new w2 _) (cells_info _) zeros_size (HD.one _ 21) ?_))
  have R3 := Lib.hid (show Blk ((w2.alloc (.cells Try.zeroCells38 38)).setRow w2.heap.size ((hdOf l).cells 21).toArray) w2.heap.size ((hdOf l).cells 21) 38 from setRow_heap _ _ _ _ _ (0, 0) (heap_alloc_new w2 _))
  have B3 := Lib.hid (show Below w1.heap.size w1 ((w2.alloc (.cells Try.zeroCells38 38)).setRow w2.heap.size ((hdOf l).cells 21).toArray) from below_setRow (B2.out.alloc B2.out.size _) B2.out.size _)
  generalize (w2.alloc (.cells Try.zeroCells38 38)).setRow w2.heap.size ((hdOf l).cells 21).toArray = w3 at *
  clear hst hS
  go_upto_region 7 with (first
    | ((with_reducible apply at_slot 17); refine wpList_load_row rfl 38 (.tmp 4) rfl w2.heap.size rfl 38 ((hdOf l).cells 21).toArray (0, 0) _ R3.out Try.underlying38 rfl (cells_info _) ?_)
    | (go_at_call 23; ((with_reducible refine (HF.out _).mono ?_); rintro e w4 ⟨rfl, hb4⟩; have R4 := Lib.hid (R3.out.below hb4 R3.out.lt); have B4 := Lib.hid (B3.out.trans (hb4.mono B3.out.size)); clear hb4)))
  have Z4 := Lib.hid ((B4.out.block w.heap.size (by rw [S1.out]; exact Nat.lt_succ_self _)).trans Z1.out)
  have Bz := Lib.hid (b1.out.trans (B4.out.mono (by rw [S1.out]; exact Nat.le_succ _)))
  by_cases hz : cd = 0
  · rw [if_pos hz]
    subst hz
    go_wp2_with (first
      | ((with_reducible apply at_slot 26); refine wpList_load_row rfl 38 (.tmp 4) rfl w2.heap.size rfl 38 ((hdOf l).cells 21).toArray (0, 0) _ R4.out Try.underlying38 rfl (cells_info _) ?_)
      | ((with_reducible apply at_store (.tmp 2) (.tmp 26)); refine wpList_store_row rfl 38 (.tmp 2) (.tmp 26) rfl w.heap.size ((hdOf l).cells 21).toArray rfl rfl 38 Try.zeroCells38 Z4.out (cells_info _) zeros_size (HD.one _ 21) ?_))
    refine bodyPost_ret (v := .tuple #[.agg ((hdOf l).cells 21).toArray, .int .i64 0]) (by exact res_rowG Try.results7 _ _ w.heap.size 38 _ (0, 0) _ _ rfl rfl (setRow_heap _ _ _ _ _ (0, 0) Z4.out) Try.underlying38 rfl (cells_info _)) rfl ?_
    exact ⟨rfl, below_setRow Bz.out (Nat.le_refl _) _⟩
  · rw [if_neg hz]
    have dz : (cd != 0) = true := by simp [hz]
    go_wp2_with (first
      | ((with_reducible apply at_slot 24); refine wpList_build_zero rfl 38 rfl _ zero_built ?_)
      | ((with_reducible apply at_store (.tmp 2) (.tmp 24)); refine wpList_store_row rfl 38 (.tmp 2) (.tmp 24) rfl w.heap.size (hd0.cells 21).toArray rfl rfl 38 Try.zeroCells38 Z4.out (cells_info _) zeros_size (HD.one _ 21) ?_))
    refine bodyPost_ret (v := .tuple #[.agg (hd0.cells 21).toArray, .int .i64 cd]) (by exact res_rowG Try.results7 _ _ w.heap.size 38 _ (0, 0) _ _ rfl rfl (setRow_heap _ _ _ _ _ (0, 0) Z4.out) Try.underlying38 rfl (cells_info _)) rfl ?_
    exact ⟨rfl, below_setRow Bz.out (Nat.le_refl _) _⟩
theorem hread_any (A : Option Addr) (l : List Int) (n c : Nat) (w : World) (hb : Bytes w A l) (hL : l.length = n) (hn : n ≤ 1000000) (hc : n ≤ c) :
    Calls Try.prog 7 #[.slice A n c] w (HTold (rhd l n) (hcode l n) w) := by
  unfold rhd
  by_cases h1 : n < 272
  · rw [show hcode l n = 22 from if_pos h1, if_neg (by decide)]
    exact read_short A n c w h1
  by_cases h2 : magicB l = false
  · rw [show hcode l n = 6 by unfold hcode; rw [if_neg h1, if_pos h2], if_neg (by decide)]
    exact read_magic A l n c w hb hL (by omega) hc h2
  · have h2' : magicB l = true := by simpa using h2
    exact read_taken A l n c w hb hL (by omega) hn hc h2' _ (by unfold hcode; rw [if_neg h1, if_neg h2])
end Go.Proofs.Ytkdbgilnehjpmaa.Go1
/-
  The document's sixteen bytes at a place; a head's cells set one by one.
-/
namespace Go.Proofs.Ytkdbgilnehjpmaa.Gp
open Go.ChangeShapes Go.WideShapes Go.ChangeAt Go.RowKit
open Bytes8 Blk8 Own8 OwnM OwnE LeA LeNum LeB LeP RefA Ob Oc Od Ga Gb Gc Gd Gf Gi Gj
set_option linter.unusedVariables false
set_option linter.unusedSimpArgs false
set_option maxRecDepth 100000
abbrev z16 : List Value := [.int .u8 0, .int .u8 0, .int .u8 0, .int .u8 0, .int .u8 0, .int .u8 0, .int .u8 0, .int .u8 0, .int .u8 0, .int .u8 0, .int .u8 0, .int .u8 0, .int .u8 0, .int .u8 0, .int .u8 0, .int .u8 0]
attribute [local irreducible] wpList Code.wp
theorem cells_set (h k : HD) (m p : Nat) (v : Value) (hp : p < 70 + m) (h1 : k.at_ m p = v) (h2 : ∀ i, i < 70 + m → i ≠ p → k.at_ m i = h.at_ m i) : (h.cells m).set p v = k.cells m := by
  apply List.ext_getElem?
  intro i
  rw [List.getElem?_set]
  by_cases hi : i < 70 + m
  · by_cases he : p = i
    · subst he
      rw [if_pos rfl, if_pos (by rw [HD.len]; exact hp), HD.get _ m _ hi, h1]
    · rw [if_neg he, HD.get _ m i hi, HD.get _ m i hi, h2 i hi (fun e => he e.symm)]
  · rw [if_neg (by omega), List.getElem?_eq_none (by rw [HD.len]; omega), List.getElem?_eq_none (by rw [HD.len]; omega)]
end Go.Proofs.Ytkdbgilnehjpmaa.Gp
/-
  What the document takes of a head's bytes.
-/
namespace Go.Proofs.Ytkdbgilnehjpmaa.Gq
open Go.ChangeShapes Go.WideShapes Go.ChangeAt Go.RowKit
open Bytes8 Blk8 Own8 OwnM OwnE LeA LeNum LeB LeP RefA Ob Oc Od Ga Gb Gc Gd Gf Gi Gj Gp
set_option linter.unusedVariables false
set_option linter.unusedSimpArgs false
set_option maxRecDepth 100000
def stR (p v : Value) : Sem Unit := Instr.storeAt 65 p v
theorem st_fold (p v : Value) : Instr.storeAt 65 p v = stR p v := rfl
def bldR (parts : Array (Nat × Value)) : Sem Value := Instr.build 65 parts
theorem bld_fold (parts : Array (Nat × Value)) : Instr.build 65 parts = bldR parts := rfl
theorem rcells_info (h : HD) : (Try.prog.info? 65).map (·.size) = some (h.cells 20).toArray.size := by rw [rheadInfo]; simp [HD.len]
theorem rcells_len (h : HD) : (Try.prog.info? 65).map (·.size) = some (h.cells 20).length := by rw [rheadInfo]; simp [HD.len]
theorem rzeros_size {h : HD} : Try.zeroCells65.size = (h.cells 20).toArray.size := by rw [show Try.zeroCells65.size = 90 by kernel_rfl]; simp [HD.len]
attribute [local irreducible] HD.cells wpList Code.wp
attribute [local go_sem ↓] st_fold bld_fold
end Go.Proofs.Ytkdbgilnehjpmaa.Gq
