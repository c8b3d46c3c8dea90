/-
  What was put is read: arrays, tables, entries: plain.
-/
import Derived.Test.YteggjmnmlmhkfaaYh
namespace Go.Proofs.Yteggjmnmlmhkfaa.Yj
open Go.ChangeShapes Go.WideShapes Go.ChangeAt Go.RowKit
open Bytes8 Blk8 LeNum Ob Rows2 Yc Yp Yd Yg Yh
set_option linter.unusedVariables false
set_option linter.unusedSimpArgs false
set_option maxRecDepth 100000

theorem obj_read (k : Int) (body : List Int) (h0 : 1 ≤ k) (h1 : k ≤ 7) (hn : body.length ≤ 1000000) : code (objB k body) 0 = 0 ∧ kindL (objB k body) 0 = k ∧ bodyL (objB k body) 0 = body := by
  have h := put_read [] [] body k 0 rfl rfl h0 h1 hn
  simp only [List.nil_append, List.append_nil] at h
  exact ⟨h.1, h.2.1, h.2.2.2⟩
theorem ecode_fine {k : Int} {body : List Int} {ah ea : Nat} (h0 : 1 ≤ k) (h1 : k ≤ 7) (hn : body.length ≤ 1000000) (h2 : ah + ea ≤ body.length) (h3 : body.length % ea = 0) : ecode (objB k body) 0 k ah ea = 0 := by
  obtain ⟨c1, c2, c3⟩ := obj_read k body h0 h1 hn
  unfold ecode
  rw [if_neg (by omega), if_neg (by omega), c3, if_neg (by omega)]
theorem ecode_other {k k2 : Int} {body : List Int} {ah ea : Nat} (h0 : 1 ≤ k) (h1 : k ≤ 7) (hn : body.length ≤ 1000000) (h2 : k ≠ k2) : ecode (objB k body) 0 k2 ah ea = 4 := by
  obtain ⟨c1, c2, c3⟩ := obj_read k body h0 h1 hn
  unfold ecode
  rw [if_neg (by omega), if_pos (by omega)]
theorem ecode_short {k : Int} {body : List Int} {ah ea : Nat} (h0 : 1 ≤ k) (h1 : k ≤ 7) (hn : body.length ≤ 1000000) (h2 : body.length < ah + ea) : ecode (objB k body) 0 k ah ea = 5 := by
  obtain ⟨c1, c2, c3⟩ := obj_read k body h0 h1 hn
  unfold ecode
  rw [if_neg (by omega), if_neg (by omega), c3, if_pos (by omega)]

theorem prs_at (f g : Nat → Int) (n i : Nat) (h : i < n) : (prs f g n)[i * 2]? = some (f i) ∧ (prs f g n)[i * 2 + 1]? = some (g i) := by
  induction n with
  | zero => omega
  | succ n ih =>
    have hl := prs_len f g n
    rw [prs_succ]
    rcases Nat.lt_or_ge i n with h1 | h1
    · rw [List.getElem?_append_left (by omega), List.getElem?_append_left (by omega)]
      exact ih h1
    · obtain rfl : i = n := by omega
      rw [List.getElem?_append_right (by omega), List.getElem?_append_right (by omega), show i * 2 - (prs f g i).length = 0 by omega, show i * 2 + 1 - (prs f g i).length = 1 by omega]
      exact ⟨rfl, rfl⟩
theorem prs_getD (f g : Nat → Int) (n i : Nat) (h : i < n) : (prs f g n).getD (2 * i) 0 = f i ∧ (prs f g n).getD (2 * i + 1) 0 = g i := by
  obtain ⟨h1, h2⟩ := prs_at f g n i h
  rw [Nat.mul_comm 2 i, List.getD_eq_getElem?_getD, List.getD_eq_getElem?_getD, h1, h2]
  exact ⟨rfl, rfl⟩
def Wd (f : Nat → Int) (n : Nat) : Prop := ∀ i, i < n → 0 ≤ f i ∧ f i ≤ 18446744073709551615
theorem nums_at (l m : List Int) (i j : Nat) (hj : j = 8 * i) (hi : i < l.length) (hb : 0 ≤ l.getD i 0 ∧ l.getD i 0 ≤ 18446744073709551615) : u8 (nums l ++ m) j = l.getD i 0 := by
  subst hj
  exact u8_nums l m i hi hb
theorem prs_read (f g : Nat → Int) (n i : Nat) (h : i < n) (hf : Wd f n) (hg : Wd g n) (m : List Int) : u8 (nums (prs f g n) ++ m) (16 * i) = f i ∧ u8 (nums (prs f g n) ++ m) (16 * i + 8) = g i := by
  obtain ⟨h1, h2⟩ := prs_getD f g n i h
  have hl := prs_len f g n
  refine ⟨(nums_at _ m (2 * i) _ (by omega) (by omega) (by rw [h1]; exact hf i h)).trans h1, (nums_at _ m (2 * i + 1) _ (by omega) (by omega) (by rw [h2]; exact hg i h)).trans h2⟩

/-! ## an array -/
theorem arr_len (x : Int) (f : Nat → Int) (n : Nat) : (arrB x (ints f n)).length = 8 + 8 * n := by
  unfold arrB
  rw [List.length_append, nums_len, nums_ints_len]; rfl
theorem ints_getD (f : Nat → Int) (n i : Nat) (h : i < n) : (ints f n).getD i 0 = f i := by simp [ints, List.getD_eq_getElem?_getD, h]
theorem arr_back (x : Int) (f : Nat → Int) (n : Nat) (hx : 0 ≤ x ∧ x ≤ 18446744073709551615) (hf : Wd f n) (h0 : 0 < n) (hn : n ≤ 1000) :
    ecode (objB 6 (arrB x (ints f n))) 0 6 8 8 = 0 ∧ arX (objB 6 (arrB x (ints f n))) 0 = x ∧ arM (objB 6 (arrB x (ints f n))) 0 = n ∧ ∀ i, i < n → arF (bodyL (objB 6 (arrB x (ints f n))) 0) i = f i := by
  have hl := arr_len x f n
  have he : ecode (objB 6 (arrB x (ints f n))) 0 6 8 8 = 0 := ecode_fine (by decide) (by decide) (by omega) (by omega) (by omega)
  have hb := (obj_read 6 (arrB x (ints f n)) (by decide) (by decide) (by omega)).2.2
  refine ⟨he, ?_, ?_, fun i hi => ?_⟩
  · unfold arX
    rw [if_pos he, hb]
    unfold arrB
    exact nums_at [x] _ 0 0 rfl (by simp) hx
  · unfold arM arN
    rw [if_pos he, hb, hl]; omega
  · unfold arF
    rw [hb]
    unfold arrB
    rw [← nums_app, ← List.append_nil (nums ([x] ++ ints f n)), nums_at ([x] ++ ints f n) [] (i + 1) _ (by omega) (by simp [ints_len]; omega)]
    · show (ints f n).getD i 0 = f i
      exact ints_getD f n i hi
    · show 0 ≤ (ints f n).getD i 0 ∧ (ints f n).getD i 0 ≤ _
      rw [ints_getD f n i hi]; exact hf i hi
theorem arr_none (x : Int) (f : Nat → Int) : ecode (objB 6 (arrB x (ints f 0))) 0 6 8 8 = 5 :=
  ecode_short (by decide) (by decide) (by rw [arr_len]; decide) (by rw [arr_len]; decide)
/-! ## a table -/
theorem tab_back (k : Int) (f g : Nat → Int) (n : Nat) (hk : k = 4 ∨ k = 5) (hf : Wd f n) (hg : Wd g n) (h0 : 0 < n) (hn : n ≤ 1000) :
    tabC (objB k (nums (prs f g n))) 0 k = 0 ∧ taNum (objB k (nums (prs f g n))) 0 k = n ∧ (∀ i, i < n → taA (bodyL (objB k (nums (prs f g n))) 0) i = f i ∧ taB (bodyL (objB k (nums (prs f g n))) 0) i = g i)
    ∧ ecode (objB k (nums (prs f g n))) 0 6 8 8 = 4 ∧ ∀ k2, k2 ≠ k → isTab k2 = true → tabC (objB k (nums (prs f g n))) 0 k2 = 4 := by
  have hl := nums_prs_len f g n
  have hk1 : 1 ≤ k ∧ k ≤ 7 := by omega
  have ht : isTab k = true := by rcases hk with rfl | rfl <;> rfl
  have he : ecode (objB k (nums (prs f g n))) 0 k 0 16 = 0 := ecode_fine hk1.1 hk1.2 (by omega) (by omega) (by omega)
  have hb := (obj_read k (nums (prs f g n)) hk1.1 hk1.2 (by omega)).2.2
  have hc : tabC (objB k (nums (prs f g n))) 0 k = 0 := by unfold tabC; rw [if_pos ht, he]
  refine ⟨hc, ?_, fun i hi => ?_, ecode_other hk1.1 hk1.2 (by omega) (by omega), fun k2 h2 ht2 => ?_⟩
  · unfold taNum taN
    rw [if_pos hc, hb, hl]; omega
  · unfold taA taB
    rw [hb]
    have h := prs_read f g n i hi hf hg []
    rw [List.append_nil] at h
    exact h
  · unfold tabC
    rw [if_pos ht2]
    exact ecode_other hk1.1 hk1.2 (by omega) (by omega)
theorem tab_none (k : Int) (f g : Nat → Int) (hk : k = 4 ∨ k = 5) : tabC (objB k (nums (prs f g 0))) 0 k = 5 := by
  have ht : isTab k = true := by rcases hk with rfl | rfl <;> rfl
  unfold tabC
  rw [if_pos ht]
  exact ecode_short (by omega) (by omega) (by rw [nums_prs_len]; decide) (by rw [nums_prs_len]; decide)
theorem tab_six (l : List Int) (a : Nat) : tabC l a 6 = 1 := rfl
end Go.Proofs.Yteggjmnmlmhkfaa.Yj
