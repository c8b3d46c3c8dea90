/-
  Texts beneath the proof, one behind the other.
-/
import Derived.Test.YtldkmobncmfodaaGreatQ13

/-
  The document's sixteen bytes at a place; a head's cells set one by one.
-/
namespace Go.Proofs.YtldkmobncmfodaaGreat.Gp
open Go.ChangeShapes Go.WideShapes Go.ChangeAt Go.RowKit
open Bytes8 Blk8 Own8 OwnM OwnE LeA LeNum LeB LeP RefA Ob Oc Od Ga Gb Gc Gd Gf Gi Gj
set_option linter.unusedVariables false
set_option linter.unusedSimpArgs false
set_option maxRecDepth 100000

abbrev z16 : List Value := [.int .u8 0, .int .u8 0, .int .u8 0, .int .u8 0, .int .u8 0, .int .u8 0, .int .u8 0, .int .u8 0, .int .u8 0, .int .u8 0, .int .u8 0, .int .u8 0, .int .u8 0, .int .u8 0, .int .u8 0, .int .u8 0]
attribute [local irreducible] wpList Code.wp
theorem cells_set (h k : HD) (m p : Nat) (v : Value) (hp : p < 70 + m) (h1 : k.at_ m p = v) (h2 : ∀ i, i < 70 + m → i ≠ p → k.at_ m i = h.at_ m i) : (h.cells m).set p v = k.cells m := by
  apply List.ext_getElem?
  intro i
  rw [List.getElem?_set]
  by_cases hi : i < 70 + m
  · by_cases he : p = i
    · subst he
      rw [if_pos rfl, if_pos (by rw [HD.len]; exact hp), HD.get _ m _ hi, h1]
    · rw [if_neg he, HD.get _ m i hi, HD.get _ m i hi, h2 i hi (fun e => he e.symm)]
  · rw [if_neg (by omega), List.getElem?_eq_none (by rw [HD.len]; omega), List.getElem?_eq_none (by rw [HD.len]; omega)]
theorem set_ic (h : HD) (m p : Nat) (v : Int) (hp : p = 1) : (h.cells m).set p (.int .u32 v) = ({ h with ic := v } : HD).cells m := by
  subst hp
  refine cells_set _ _ m _ _ (by omega) ?_ (fun i hi hne => ?_)
  · unfold HD.at_
    rfl
  · unfold HD.at_
    repeat' split
    all_goals first | rfl | (exfalso; omega)
theorem set_ta (h : HD) (m p : Nat) (v : Int) (hp : p = 67 + m) : (h.cells m).set p (.int .u32 v) = ({ h with ta := v } : HD).cells m := by
  subst hp
  refine cells_set _ _ m _ _ (by omega) ?_ (fun i hi hne => ?_)
  · unfold HD.at_
    rw [if_neg (by omega), if_neg (by omega), if_neg (by omega), if_pos rfl]
  · unfold HD.at_
    repeat' split
    all_goals first | rfl | (exfalso; omega)
theorem set_ti (h : HD) (m p : Nat) (v : Int) (hp : p = 68 + m) : (h.cells m).set p (.int .u32 v) = ({ h with ti := v } : HD).cells m := by
  subst hp
  refine cells_set _ _ m _ _ (by omega) ?_ (fun i hi hne => ?_)
  · unfold HD.at_
    rw [if_neg (by omega), if_neg (by omega), if_neg (by omega), if_neg (by omega), if_pos rfl]
  · unfold HD.at_
    repeat' split
    all_goals first | rfl | (exfalso; omega)
theorem set_te (h : HD) (m p : Nat) (v : Int) (hp : p = 69 + m) : (h.cells m).set p (.int .u64 v) = ({ h with te := v } : HD).cells m := by
  subst hp
  refine cells_set _ _ m _ _ (by omega) ?_ (fun i hi hne => ?_)
  · unfold HD.at_
    rw [if_neg (by omega), if_neg (by omega), if_neg (by omega), if_neg (by omega), if_neg (by omega)]
  · unfold HD.at_
    repeat' split
    all_goals first | rfl | (exfalso; omega)
end Go.Proofs.YtldkmobncmfodaaGreat.Gp
