/-
  The law's names: one of a few, now and then any.
-/
import Derived.Test.YtpgkimohekdmmaaNumb
import Derived.Test.YtpgkimohekdmmaaGr
import Derived.Test.YtpgkimohekdmmaaTx
namespace Go.Proofs.Ytpgkimohekdmmaa.Dq
open Go.ChangeShapes Go.WideShapes Go.ChangeAt Go.RowKit
open Bytes8 Blk8 Fa Fb Numb
set_option linter.unusedVariables false
set_option linter.unusedSimpArgs false
set_option maxRecDepth 100000

def nameOf (X : List Int) (q : Int) : List Int := if q = 9 then X else [97 + numBelow q 4]
theorem nameOf_all {X : List Int} (h : AllB X) (q : Int) : AllB (nameOf X q) := by
  unfold nameOf
  split
  · exact h
  · have h1 := numBelow_lo q 4 (by decide)
    have h2 := numBelow_hi q 4 (by decide)
    intro c hc
    simp only [List.mem_cons, List.not_mem_nil, or_false] at hc
    omega
theorem nameOf_len (X : List Int) (q : Int) : (nameOf X q).length ≤ X.length + 1 := by
  unfold nameOf
  split
  · omega
  · simp
/-- What is done, by value. -/
def doV (k a b p n : Int) (X : List Int) (A : Option Addr) (l c : Nat) (B : Option Addr) (m e : Nat) : Array Value := #[.int .i64 k, .int .i64 a, .int .i64 b, .int .i64 p, .int .i64 n, .string (T X), .slice A l c, .slice B m e]

set_option maxHeartbeats 1000000 in
theorem name_any (k a b p n : Int) (X : List Int) (A : Option Addr) (l c : Nat) (B : Option Addr) (m e : Nat) (q : Int) (w : World) :
    Calls Try.prog 18 #[.agg (doV k a b p n X A l c B m e), .int .i64 q] w fun e w' => e = .returned (.string (T (nameOf X q))) ∧ Grew w w' := by
  obtain ⟨j, hj, hj4⟩ := below_nat q 4 (by decide)
  have hG := Grew.boxed w (.cells (doV k a b p n X A l c B m e) 38)
  unfold nameOf
  rw [hj.out]
  have HN := Lib.hid fun w => number_nat q 4 j w (by decide) (by decide) hj.out
  clear hj
  dsimp only [doV] at *
  by_cases hq : q = 9
  · subst hq
    rw [if_pos rfl]
    have hB := Blk.new w [.int .i64 k, .int .i64 a, .int .i64 b, .int .i64 p, .int .i64 n, .string (T X), .slice A l c, .slice B m e] 38
    have c5 := hB.cell (i := 5) rfl
    clear hB
    generalize T X = S at *
    go_enter Try.func18, Try.ntmps18
    go_wp2
    go_ret
    exact ⟨rfl, hG⟩
  · rw [if_neg hq]
    have hne : (q == 9) = false := beq_eq_false_iff_ne.2 hq
    have hj5 : j = 0 ∨ j = 1 ∨ j = 2 ∨ j = 3 := by omega
    have hG2 := hG.alloc (.cells #[.string (T [97]), .string (T [98]), .string (T [99]), .string (T [100])] 9)
    have e0 : ({ data := #[97] } : ByteArray) = T [97] := by decide
    have e1 : ({ data := #[98] } : ByteArray) = T [98] := by decide
    have e2 : ({ data := #[99] } : ByteArray) = T [99] := by decide
    have e3 : ({ data := #[100] } : ByteArray) = T [100] := by decide
    rw [← e0, ← e1, ← e2, ← e3] at hG2
    have hB := Blk.new (w.alloc (.cells #[.int .i64 k, .int .i64 a, .int .i64 b, .int .i64 p, .int .i64 n, .string (T X), .slice A l c, .slice B m e] 38)) [.string { data := #[97] }, .string { data := #[98] }, .string { data := #[99] }, .string { data := #[100] }] 9
    rcases hj5 with rfl | rfl | rfl | rfl
    · have c0 := hB.cell (i := 0) rfl
      have e4 : T [97 + ((0 : Nat) : Int)] = { data := #[97] } := by decide
      rw [e4]
      clear hB e0 e1 e2 e3 e4
      generalize T X = S at *
      go_enter Try.func18, Try.ntmps18
      go_wp2_with (go_at_call 11; (with_reducible refine (HN.out _).mono ?_); rintro e w' ⟨rfl, rfl⟩)
      go_ret
      exact ⟨rfl, hG2⟩
    · have c0 := hB.cell (i := 1) rfl
      have e4 : T [97 + ((1 : Nat) : Int)] = { data := #[98] } := by decide
      rw [e4]
      clear hB e0 e1 e2 e3 e4
      generalize T X = S at *
      go_enter Try.func18, Try.ntmps18
      go_wp2_with (go_at_call 11; (with_reducible refine (HN.out _).mono ?_); rintro e w' ⟨rfl, rfl⟩)
      go_ret
      exact ⟨rfl, hG2⟩
    · have c0 := hB.cell (i := 2) rfl
      have e4 : T [97 + ((2 : Nat) : Int)] = { data := #[99] } := by decide
      rw [e4]
      clear hB e0 e1 e2 e3 e4
      generalize T X = S at *
      go_enter Try.func18, Try.ntmps18
      go_wp2_with (go_at_call 11; (with_reducible refine (HN.out _).mono ?_); rintro e w' ⟨rfl, rfl⟩)
      go_ret
      exact ⟨rfl, hG2⟩
    · have c0 := hB.cell (i := 3) rfl
      have e4 : T [97 + ((3 : Nat) : Int)] = { data := #[100] } := by decide
      rw [e4]
      clear hB e0 e1 e2 e3 e4
      generalize T X = S at *
      go_enter Try.func18, Try.ntmps18
      go_wp2_with (go_at_call 11; (with_reducible refine (HN.out _).mono ?_); rintro e w' ⟨rfl, rfl⟩)
      go_ret
      exact ⟨rfl, hG2⟩
end Go.Proofs.Ytpgkimohekdmmaa.Dq
