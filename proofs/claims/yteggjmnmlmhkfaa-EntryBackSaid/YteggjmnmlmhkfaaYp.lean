/-
  What stands at a place, for entries, arrays, tables: plain.
-/
import Derived.Test.YteggjmnmlmhkfaaYc
namespace Go.Proofs.Yteggjmnmlmhkfaa.Yp
open Go.ChangeShapes Go.WideShapes Go.ChangeAt Go.RowKit
open Bytes8 Blk8 LeNum Ob Yc
set_option linter.unusedVariables false
set_option linter.unusedSimpArgs false
set_option maxRecDepth 100000

/-- What is wrong with the object at a place: its kind, its rows of so many bytes each behind so many. -/
def ecode (l : List Int) (a : Nat) (k : Int) (ah ea : Nat) : Int :=
  if code l a ≠ 0 then code l a else if kindL l a ≠ k then 4 else if (bodyL l a).length < ah + ea ∨ (bodyL l a).length % ea ≠ 0 then 5 else 0
/-- Each number is above the one ahead. -/
def risB (f : Nat → Int) : Nat → Bool
  | 0 => true
  | 1 => true
  | n + 2 => risB f (n + 1) && decide (f n < f (n + 1))
theorem risB_succ (f : Nat → Int) (n : Nat) (h : 0 < n) : risB f (n + 1) = (risB f n && decide (f (n - 1) < f n)) := by
  cases n with
  | zero => omega
  | succ n => rfl
theorem risB_mono {f : Nat → Int} {n m : Nat} (h : risB f n = true) (hm : m ≤ n) : risB f m = true := by
  induction n with
  | zero => obtain rfl : m = 0 := by omega
            exact h
  | succ n ih =>
    rcases Nat.lt_or_ge m (n + 1) with h1 | h1
    · refine ih ?_ (by omega)
      cases n with
      | zero => rfl
      | succ n => rw [risB] at h; exact (Bool.and_eq_true_iff.1 h).1
    · obtain rfl : m = n + 1 := by omega
      exact h
theorem risB_cong {f g : Nat → Int} {n : Nat} (h : ∀ i, i < n → f i = g i) : risB f n = risB g n := by
  induction n with
  | zero => rfl
  | succ n ih =>
    cases n with
    | zero => rfl
    | succ n => rw [risB, risB, ih (fun i hi => h i (by omega)), h n (by omega), h (n + 1) (by omega)]
/-- An entry's numbers. -/
def itA (bd : List Int) (i : Nat) : Int := u8 bd (48 + 16 * i)
def itH (bd : List Int) (i : Nat) : Int := u8 bd (48 + 16 * i + 8)
def itN (bd : List Int) : Nat := (bd.length - 48) / 16
def itK (bd : List Int) (i : Nat) : Int := if i < 16 then bd.getD (24 + i) 0 else 0
def entC0 (l : List Int) (a : Nat) : Int :=
  if ecode l a 3 48 16 ≠ 0 then ecode l a 3 48 16 else if u8 (bodyL l a) 0 = 0 then 13 else if risB (itA (bodyL l a)) (itN (bodyL l a)) then 0 else 11
theorem itK_ok {bd : List Int} (h : AllB bd) : IdOk (itK bd) := fun i => by
  unfold itK
  split
  · have := h.at_ (24 + i)
    omega
  · omega
theorem itK_L (bd : List Int) (h : 40 ≤ bd.length) : idL (itK bd) = (bd.drop 24).take 16 := by
  apply List.ext_getElem
  · simp [idL]; omega
  · intro i h1 h2
    have h16 : i < 16 := h1
    rw [List.getElem_take, List.getElem_drop]
    have e : itK bd i = bd[24 + i]'(by omega) := by
      unfold itK
      rw [if_pos h16, List.getD_eq_getElem?_getD, List.getElem?_eq_getElem (by omega)]; rfl
    rw [← e]
    unfold idL
    rcases i with _ | _ | _ | _ | _ | _ | _ | _ | _ | _ | _ | _ | _ | _ | _ | _ | i
    all_goals first | rfl | omega
theorem ecode_there {l : List Int} {a n : Nat} {k : Int} {ah ea : Nat} (hL : l.length = n) (h : ecode l a k ah ea = 0) : code l a = 0 ∧ kindL l a = k ∧ ah + ea ≤ (bodyL l a).length ∧ (bodyL l a).length % ea = 0 ∧ (bodyL l a).length ≤ n := by
  unfold ecode at h
  have h0 : code l a = 0 := by
    by_cases h0 : code l a = 0
    · exact h0
    · rw [if_pos h0] at h; exact h
  rw [if_neg (by omega)] at h
  have hk : kindL l a = k := by
    by_cases hk : kindL l a = k
    · exact hk
    · rw [if_pos hk] at h; omega
  rw [if_neg (by omega)] at h
  split at h
  · omega
  · refine ⟨h0, hk, by omega, by omega, ?_⟩
    unfold bodyL
    simp
    omega
theorem body_all {l : List Int} {a : Nat} (h : AllB l) : AllB (bodyL l a) := (h.drop _).take _
/-- Numbers two by two. -/
def arN (bd : List Int) : Nat := (bd.length - 8) / 8
def arF (bd : List Int) (i : Nat) : Int := u8 bd (8 + 8 * i)
def taN (bd : List Int) : Nat := bd.length / 16
def taA (bd : List Int) (i : Nat) : Int := u8 bd (16 * i)
def taB (bd : List Int) (i : Nat) : Int := u8 bd (16 * i + 8)
/-- .. of a table of that kind. -/
def isTab (k : Int) : Bool := k == 4 || k == 5
def tabC (l : List Int) (a : Nat) (k : Int) : Int := if isTab k then ecode l a k 0 16 else 1
end Go.Proofs.Yteggjmnmlmhkfaa.Yp
