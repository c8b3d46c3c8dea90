/-
  The walk of LeZeros: at any numbers and any byte the law returns true, and nothing that was there is written.
-/
import Derived.Test.YtfofjnnjlnggjaaLeZ
namespace Go.Proofs.Ytfofjnnjlnggjaa.LeZerosW
open Go.ChangeShapes Go.WideShapes Go.ChangeAt Go.RowKit
open Bytes8 LeA LeNum LeB LeC LeZ
set_option linter.unusedVariables false

theorem zero_zeros (g m : Nat) (w : World) (hm : m ≤ 1000) (h : Row w g (List.replicate m 0)) :
    Calls Try.prog 18 #[.slice (some ⟨g, 0, none⟩) m m] w fun e w' => e = .returned (.bool true) ∧ w = w' := by
  have h1 := zero_any (some ⟨g, 0, none⟩) (List.replicate m 0) m w (by simp; omega) (h.bytes (AllB.zeros m))
  rw [List.length_replicate] at h1
  have e : allZero (List.replicate m 0) = true := (allZero_yes (fun i _ => by simp [List.getElem?_replicate]; split <;> rfl)).symm
  rw [e] at h1
  exact h1

theorem zero_nil (w : World) :
    Calls Try.prog 18 #[.slice none 0 0] w fun e w' => e = .returned (.bool true) ∧ w = w' :=
  zero_any none [] 0 w (by decide) (Bytes.nil w none)

theorem zero_set (g m j : Nat) (c : Int) (w : World) (hm : m ≤ 1000) (hj : j < m) (c0 : 0 ≤ c) (c1 : c ≤ 255) (h : Row w g ((List.replicate m 0).set j c)) :
    Calls Try.prog 18 #[.slice (some ⟨g, 0, none⟩) m m] w fun e w' => e = .returned (.bool (c == 0)) ∧ w = w' := by
  have h1 := zero_any (some ⟨g, 0, none⟩) ((List.replicate m 0).set j c) m w (by simp; omega) (h.bytes ((AllB.zeros m).set j c0 (by omega)))
  rw [List.length_set, List.length_replicate] at h1
  have e : allZero ((List.replicate m 0).set j c) = (c == 0) := by
    by_cases hc : c = 0
    · subst hc
      have : (List.replicate m (0 : Int)).set j 0 = List.replicate m 0 := by
        apply List.ext_getElem?
        intro i
        simp [List.getElem?_replicate]
      rw [this]
      exact (allZero_yes (fun i _ => by simp [List.getElem?_replicate]; split <;> rfl)).symm
    · have : (c == 0) = false := by simpa using hc
      rw [this]
      exact (allZero_no (k := j) (by simpa using hj) (by simpa [List.getElem?_set, hj] using hc)).symm
  rw [e] at h1
  exact h1

set_option maxRecDepth 100000 in
theorem walk (a0 : Int) (a1 : Int) (a2 : Int) (w0 : (Lit.int .i64 a0).wf = true) (w1 : (Lit.int .i64 a1).wf = true) (w2 : (Lit.int .u8 a2).wf = true) (w : World) :
    Calls Try.prog 6 #[.int .i64 a0, .int .i64 a1, .int .u8 a2] w fun e w' => e = .returned (.bool true) ∧ Below w.heap.size w w' := by
  obtain ⟨c0, c1⟩ := bounds_u8 w2
  clear w0 w1 w2
  obtain ⟨n, hn, hn2⟩ := below_nat a0 300 (by decide)
  obtain ⟨j, hj, hj2⟩ := below_nat a1 ((n : Int) + 1) (by omega)
  go_enter Try.func6, Try.ntmps6
  go_wp2_with (first | (go_at_call 7; (with_reducible refine (first_any _).mono ?_); rintro e w1 ⟨rfl, hbel⟩) | (go_at_call 17; (with_reducible refine (number_nat a0 300 n _ (by decide) (by decide) hn.out).mono ?_); rintro e w' ⟨rfl, rfl⟩) | (refine wpList_make_bytes _ rfl (.tmp 15) (.tmp 15) rfl .i64 .i64 (n + 1) _ _ rfl rfl (by omega) (by omega) (by omega) ?_; intro w2 hrow hbel2; have hcj := hrow.cell (i := j) (by simp; omega); have hfj := hrow.frozen j; have HR := Lib.hid hrow; clear hrow) | (go_at_call 18; (with_reducible refine (zero_zeros w1.heap.size (n + 1) _ (by omega) HR.out).mono ?_); rintro e w' ⟨rfl, rfl⟩) | (go_at_call 18; (with_reducible refine (zero_nil _).mono ?_); rintro e w' ⟨rfl, rfl⟩) | (go_at_call 17; (with_reducible refine (number_nat a1 (n + 1) j _ (by omega) (by omega) hj.out).mono ?_); rintro e w' ⟨rfl, rfl⟩) | (go_at_call 18; (with_reducible refine (zero_set w1.heap.size (n + 1) j a2 _ (by omega) (by omega) c0 c1 (HR.out.set_ j a2)).mono ?_); rintro e w' ⟨rfl, rfl⟩))
  go_ret
  exact ⟨rfl, (hbel.trans (hbel2.mono hbel.size)).setCell hbel.size _⟩
end Go.Proofs.Ytfofjnnjlnggjaa.LeZerosW
