/-
  The order of rows of numbers, plain; of texts.
-/
import Derived.Test.YtpfkhcgeblihcaaDoorTx
namespace Go.Proofs.YtpfkhcgeblihcaaDoor.Fo
open Go.ChangeShapes Go.WideShapes Go.ChangeAt Go.RowKit
open Bytes8 Blk8 Fa
set_option linter.unusedVariables false
set_option maxRecDepth 100000
set_option linter.unusedSimpArgs false

/-- Numbers one by one: which row is ahead. -/
def ltL : List Int → List Int → Bool
  | _, [] => false
  | [], _ :: _ => true
  | a :: r, b :: q => if a < b then true else if b < a then false else ltL r q
theorem ltL_irrefl : ∀ l, ltL l l = false
  | [] => rfl
  | a :: l => by simp [ltL, ltL_irrefl l]
theorem ltL_trans : ∀ a b c, ltL a b = true → ltL b c = true → ltL a c = true
  | [], [], _, h, _ => by simp [ltL] at h
  | _ :: _, [], _, h, _ => by simp [ltL] at h
  | _, _ :: _, [], _, h => by simp [ltL] at h
  | [], _ :: _, _ :: _, _, _ => rfl
  | x :: a, y :: b, z :: c, h, k => by
    unfold ltL at h k ⊢
    by_cases h1 : x < y
    · by_cases k1 : y < z
      · rw [if_pos (by omega)]
      · rw [if_neg k1] at k
        by_cases k2 : z < y
        · rw [if_pos k2] at k; cases k
        · rw [if_pos (by omega)]
    · rw [if_neg h1] at h
      by_cases h2 : y < x
      · rw [if_pos h2] at h; cases h
      · rw [if_neg h2] at h
        by_cases k1 : y < z
        · rw [if_pos (by omega)]
        · rw [if_neg k1] at k
          by_cases k2 : z < y
          · rw [if_pos k2] at k; cases k
          · rw [if_neg k2] at k
            rw [if_neg (by omega), if_neg (by omega)]
            exact ltL_trans a b c h k
theorem ltL_total : ∀ a b, ltL a b = false → ltL b a = false → a = b
  | [], [], _, _ => rfl
  | [], _ :: _, h, _ => by simp [ltL] at h
  | _ :: _, [], _, k => by simp [ltL] at k
  | x :: a, y :: b, h, k => by
    unfold ltL at h k
    by_cases h1 : x < y
    · rw [if_pos h1] at h; cases h
    · by_cases h2 : y < x
      · rw [if_pos h2] at k; cases k
      · rw [if_neg h1, if_neg h2] at h
        rw [if_neg h2, if_neg h1] at k
        have : x = y := by omega
        rw [this, ltL_total a b h k]
theorem ltL_asymm (a b : List Int) (h : ltL a b = true) : ltL b a = false := by
  cases k : ltL b a with
  | false => rfl
  | true => rw [← ltL_irrefl a, ltL_trans a b a h k]
theorem u8_lt {x y : Int} (hx : 0 ≤ x ∧ x < 256) (hy : 0 ≤ y ∧ y < 256) : (x.toNat.toUInt8 < y.toNat.toUInt8) = (x < y) := by
  rw [UInt8.lt_iff_toNat_lt]
  simp
  omega
theorem u8_eq {x y : Int} (hx : 0 ≤ x ∧ x < 256) (hy : 0 ≤ y ∧ y < 256) : (x.toNat.toUInt8 == y.toNat.toUInt8) = decide (x = y) := by
  by_cases h : x = y
  · simp [h]
  · have : x.toNat.toUInt8 ≠ y.toNat.toUInt8 := fun e => h (by
      have := congrArg UInt8.toNat e
      simp at this
      omega)
    simp only [beq_eq_false_iff_ne.2 this, h, decide_false]
theorem less_nums : ∀ l m, AllB l → AllB m → Op.bytesLess (l.map fun n => n.toNat.toUInt8) (m.map fun n => n.toNat.toUInt8) = ltL l m
  | [], [], _, _ => rfl
  | [], _ :: _, _, _ => rfl
  | _ :: _, [], _, _ => rfl
  | x :: l, y :: m, hl, hm => by
    have ih := less_nums l m (fun n hn => hl n (by simp [hn])) (fun n hn => hm n (by simp [hn]))
    have hx := hl x (by simp)
    have hy := hm y (by simp)
    simp only [List.map_cons, Op.bytesLess, ltL, u8_lt hx hy, u8_eq hx hy, ih]
    by_cases h1 : x < y
    · simp [h1]
    · by_cases h2 : y < x
      · have h3 : ¬ x = y := by omega
        simp [h1, h2, h3]
      · have h3 : x = y := by omega
        simp [h3]
theorem bytesLess_T {l m : List Int} (hl : AllB l) (hm : AllB m) : Op.bytesLess (T l).toList (T m).toList = ltL l m := by
  rw [T_toList, T_toList]; exact less_nums l m hl hm
end Go.Proofs.YtpfkhcgeblihcaaDoor.Fo
