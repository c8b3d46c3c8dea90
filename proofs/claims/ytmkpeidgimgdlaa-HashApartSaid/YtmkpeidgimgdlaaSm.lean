/-
  Sip piece by piece, as plain mathematics: what a sum has taken in behind one more byte.
-/
import Derived.Test.YtmkpeidgimgdlaaHm
namespace Go.Proofs.Ytmkpeidgimgdlaa.Sm
open Bytes8 LeNum Hm
set_option linter.unusedVariables false

def left8 (l : List Int) : Int := leNum (l.drop (8 * (l.length / 8)))
theorem left8_w8 (l : List Int) : w8 l (8 * (l.length / 8)) = left8 l := by
  unfold w8 left8
  rw [List.take_of_length_le (by simp; omega)]
theorem w8_app (l m : List Int) (o : Nat) (h : o + 8 ≤ l.length) : w8 (l ++ m) o = w8 l o := by
  unfold w8
  rw [List.drop_append_of_le_length (by omega), List.take_append_of_le_length (by simp; omega)]
theorem quadAt_app (key l m : List Int) (k : Nat) (h : 8 * k ≤ l.length) : quadAt key (l ++ m) k = quadAt key l k := by
  induction k with
  | zero => rfl
  | succ k ih => rw [quadAt, quadAt, ih (by omega), w8_app _ _ _ (by omega)]
theorem left8_bd (l : List Int) (h : AllB l) : 0 ≤ left8 l ∧ left8 l < 256 ^ (l.length % 8) := by
  have h1 := leNum_bound (l.drop (8 * (l.length / 8))) (h.drop _)
  rw [show (l.drop (8 * (l.length / 8))).length = l.length % 8 by simp; omega] at h1
  exact h1
theorem left8_snoc (l : List Int) (c : Int) : leNum ((l ++ [c]).drop (8 * (l.length / 8))) = left8 l + c * 256 ^ (l.length % 8) := by
  unfold left8
  rw [List.drop_append_of_le_length (by omega), leNum_snoc, show (l.drop (8 * (l.length / 8))).length = l.length % 8 by simp; omega]
/-- .. where no eight are full yet. -/
theorem more_left (l : List Int) (c : Int) (h : l.length % 8 < 7) : (l ++ [c]).length / 8 = l.length / 8 ∧ left8 (l ++ [c]) = left8 l + c * 256 ^ (l.length % 8) := by
  have e : (l ++ [c]).length / 8 = l.length / 8 := by simp; omega
  refine ⟨e, ?_⟩
  rw [← left8_snoc]
  unfold left8
  rw [e]
/-- .. where they are. -/
theorem more_full (key l : List Int) (c : Int) (h : l.length % 8 = 7) :
    quadAt key (l ++ [c]) ((l ++ [c]).length / 8) = quadPlus (quadAt key l (l.length / 8)) (left8 l + c * 256 ^ (l.length % 8)) ∧ left8 (l ++ [c]) = 0 := by
  have e : (l ++ [c]).length / 8 = l.length / 8 + 1 := by simp; omega
  constructor
  · rw [e, quadAt, quadAt_app _ _ _ _ (by omega), ← left8_snoc]
    unfold w8
    rw [List.take_of_length_le (by simp; omega)]
  · unfold left8
    rw [e, List.drop_of_length_le (by simp; omega)]
    rfl
theorem more_none (key l : List Int) (c : Int) (h : l.length % 8 < 7) : quadAt key (l ++ [c]) ((l ++ [c]).length / 8) = quadAt key l (l.length / 8) := by
  rw [(more_left l c h).1, quadAt_app _ _ _ _ (by omega)]

/-- The byte on top of what is left. -/
theorem or_top (l : List Int) (c : Int) (hA : AllB l) (c0 : 0 ≤ c) (c1 : c < 256) : bits .or .u64 (left8 l) (IntKind.u64.wrap (IntKind.u64.wrap c * 2 ^ (8 * (l.length % 8)))) = left8 l + c * 256 ^ (l.length % 8) :=
  or_step _ _ _ (by omega) (left8_bd l hA).1 (left8_bd l hA).2 c0 c1

theorem last8_left (l : List Int) : last8 l = bits .or .u64 (left8 l) ((l.length : Int) % 256 * 72057594037927936) := by
  unfold last8; rw [left8_w8]
end Go.Proofs.Ytmkpeidgimgdlaa.Sm
