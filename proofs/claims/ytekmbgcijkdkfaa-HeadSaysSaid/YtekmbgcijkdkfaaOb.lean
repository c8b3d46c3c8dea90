/-
  Objects of a journal as plain bytes: numbers of eight bytes one behind the other, an object, what stands at a place. No Go in sight.
-/
import Derived.Test.YtekmbgcijkdkfaaLeNum
import Derived.Test.YtekmbgcijkdkfaaLeAl
import Derived.Test.YtekmbgcijkdkfaaBlk
namespace Go.Proofs.Ytekmbgcijkdkfaa.Ob
open Bytes8 LeNum LeAl
set_option linter.unusedVariables false
set_option maxRecDepth 100000
set_option linter.unusedSimpArgs false

def I64 (l : List Int) : Prop := ∀ v ∈ l, 0 ≤ v ∧ v ≤ 18446744073709551615

/-- Numbers of eight bytes, one behind the other. -/
def nums (l : List Int) : List Int := l.flatMap fun v => lowB v 8
theorem nums_nil : nums [] = [] := rfl
theorem nums_cons (v : Int) (l : List Int) : nums (v :: l) = lowB v 8 ++ nums l := by simp [nums]
theorem nums_app (l m : List Int) : nums (l ++ m) = nums l ++ nums m := by simp [nums]
theorem nums_one (v : Int) : nums [v] = lowB v 8 := by simp [nums]
theorem nums_snoc (l : List Int) (v : Int) : nums (l ++ [v]) = nums l ++ lowB v 8 := by rw [nums_app, nums_one]
theorem nums_len (l : List Int) : (nums l).length = 8 * l.length := by
  induction l with
  | nil => rfl
  | cons v r ih => rw [nums_cons, List.length_append, lowB_len, ih, List.length_cons]; omega
theorem nums_all (l : List Int) : AllB (nums l) := fun x hx => by
  obtain ⟨v, _, h⟩ := List.mem_flatMap.1 hx
  exact lowB_all v 8 x h
theorem nums_take (l : List Int) (k : Nat) (hk : k < l.length) : nums (l.take (k + 1)) = nums (l.take k) ++ lowB (l.getD k 0) 8 := by
  rw [take_snoc l k hk, nums_snoc]

/-- The number of eight bytes from a place on. -/
def u8 (l : List Int) (a : Nat) : Int := leNum ((l.drop a).take 8)
theorem u8_bd {l : List Int} (h : AllB l) (a : Nat) : 0 ≤ u8 l a ∧ u8 l a ≤ 18446744073709551615 := by
  have h1 := leNum_bound ((l.drop a).take 8) ((h.drop a).take 8)
  have h2 : ((l.drop a).take 8).length ≤ 8 := by simp; omega
  have h3 := pow_le64 _ h2
  unfold u8
  omega
theorem u8_nums (l m : List Int) (i : Nat) (hi : i < l.length) (hb : 0 ≤ l.getD i 0 ∧ l.getD i 0 ≤ 18446744073709551615) : u8 (nums l ++ m) (8 * i) = l.getD i 0 := by
  induction l generalizing i with
  | nil => simp at hi
  | cons v r ih =>
    cases i with
    | zero =>
      have e : v = (v :: r).getD 0 0 := rfl
      rw [← e] at hb ⊢
      unfold u8
      rw [nums_cons, List.append_assoc, Nat.mul_zero, List.drop_zero, List.take_append_of_le_length (by rw [lowB_len]; exact Nat.le_refl _), List.take_of_length_le (by rw [lowB_len]; exact Nat.le_refl _), leNum_lowB]
      have : (256 : Int) ^ 8 = 18446744073709551616 := rfl
      omega
    | succ i =>
      have e : (v :: r).getD (i + 1) 0 = r.getD i 0 := rfl
      rw [e] at hb ⊢
      have := ih i (by simpa using hi) hb
      rw [← this]
      unfold u8
      rw [nums_cons, List.append_assoc, show 8 * (i + 1) = (lowB v 8).length + 8 * i by rw [lowB_len]; omega, List.drop_append, List.drop_of_length_le (by omega)]
      simp
theorem u8_app (p l : List Int) (n a : Nat) (hn : p.length = n) : u8 (p ++ l) (n + a) = u8 l a := by
  subst hn
  unfold u8
  rw [List.drop_append, List.drop_of_length_le (by omega)]
  simp
theorem u8_cut (l m : List Int) (a : Nat) (h : a + 8 ≤ l.length) : u8 (l ++ m) a = u8 l a := by
  unfold u8
  rw [List.drop_append_of_le_length (by omega), List.take_append_of_le_length (by simp; omega)]

/-- How many bytes of 0 stand behind so many. -/
def padN (n : Nat) : Nat := (8 - n % 8) % 8
theorem padN_le (n : Nat) : padN n ≤ 7 ∧ (n + padN n) % 8 = 0 := by unfold padN; omega
theorem padN_16 (n : Nat) : padN (16 + n) = padN n := by unfold padN; omega
theorem align_pad (n : Nat) : alignUp ((16 + n : Nat) : Int) = ((16 + n + padN n : Nat) : Int) := by unfold alignUp padN; omega

/-- What stands ahead of a body of so many bytes. -/
def front (k : Int) (n : Nat) : List Int := [k, 0, 0, 0, 0, 0, 0, 0] ++ lowB ((16 + n : Nat) : Int) 8
theorem front_len (k : Int) (n : Nat) : (front k n).length = 16 := by simp [front, lowB_len]
theorem front_all {k : Int} (n : Nat) (h0 : 1 ≤ k) (h1 : k ≤ 7) : AllB (front k n) := by
  refine AllB.app ?_ (lowB_all _ _)
  intro x hx
  simp at hx
  omega
/-- An object. -/
def objB (k : Int) (body : List Int) : List Int := front k body.length ++ (body ++ List.replicate (padN body.length) 0)
theorem objB_len (k : Int) (body : List Int) : (objB k body).length = 16 + body.length + padN body.length := by simp [objB, front_len]; omega
theorem objB_all {k : Int} {body : List Int} (h0 : 1 ≤ k) (h1 : k ≤ 7) (hb : AllB body) : AllB (objB k body) := (front_all _ h0 h1).app (hb.app (AllB.zeros _))
/-- .. of whatever kind. -/
def putB (k : Int) (body : List Int) : List Int := if 1 ≤ k ∧ k ≤ 7 then objB k body else []
theorem putB_all {k : Int} {body : List Int} (hb : AllB body) : AllB (putB k body) := by
  unfold putB
  split
  · next h => exact objB_all h.1 h.2 hb
  · intro x hx; cases hx

/-- The lowest eight bytes of a kind. -/
theorem low_kind (k : Int) (h0 : 1 ≤ k) (h1 : k ≤ 7) : lowB k 8 = [k, 0, 0, 0, 0, 0, 0, 0] := by
  have h : k = 1 ∨ k = 2 ∨ k = 3 ∨ k = 4 ∨ k = 5 ∨ k = 6 ∨ k = 7 := by omega
  rcases h with rfl | rfl | rfl | rfl | rfl | rfl | rfl <;> decide

/-- What is wrong at a place, 0 if nothing is. -/
def code (l : List Int) (a : Nat) : Int :=
  if a % 8 ≠ 0 then 3
  else if l.length < a + 16 then 2
  else if l.getD a 0 < 1 ∨ 7 < l.getD a 0 then 4
  else if l.getD (a + 1) 0 ≠ 0 then 7
  else if u8 l (a + 8) < 16 then 5
  else if (l.length : Int) < a + u8 l (a + 8) then 2
  else 0
theorem code_fine {l : List Int} {a : Nat} (h : code l a = 0) : a % 8 = 0 ∧ a + 16 ≤ l.length ∧ 1 ≤ l.getD a 0 ∧ l.getD a 0 ≤ 7 ∧ l.getD (a + 1) 0 = 0 ∧ 16 ≤ u8 l (a + 8) ∧ (a : Int) + u8 l (a + 8) ≤ l.length := by
  unfold code at h
  repeat' split at h
  all_goals first | (exact absurd h (by decide)) | (rename_i h1 h2 h3 h4 h5 h6; omega)
theorem code_is {l : List Int} {a : Nat} (h1 : a % 8 = 0) (h2 : a + 16 ≤ l.length) (h3 : 1 ≤ l.getD a 0) (h4 : l.getD a 0 ≤ 7) (h5 : l.getD (a + 1) 0 = 0) (h6 : 16 ≤ u8 l (a + 8)) (h7 : (a : Int) + u8 l (a + 8) ≤ l.length) : code l a = 0 := by
  unfold code
  rw [if_neg (by omega), if_neg (by omega), if_neg (by omega), if_neg (by omega), if_neg (by omega), if_neg (by omega)]

/-- What is told of a place. -/
def kindL (l : List Int) (a : Nat) : Int := if code l a = 0 then l.getD a 0 else 0
def sizeL (l : List Int) (a : Nat) : Int := if code l a = 0 then u8 l (a + 8) else 0
/-- The body of the object at a place. -/
def bodyL (l : List Int) (a : Nat) : List Int := (l.drop (a + 16)).take ((sizeL l a).toNat - 16)
/-- .. whether it is of that kind, and has a byte behind so many numbers. -/
def bcode (l : List Int) (a : Nat) (k : Int) (n : Nat) : Int :=
  if code l a ≠ 0 then code l a else if kindL l a ≠ k then 4 else if (bodyL l a).length ≤ 8 * n then 5 else 0
def bnum (l : List Int) (a : Nat) (k : Int) (n i : Nat) : Int := if bcode l a k n = 0 then u8 (bodyL l a) (8 * i) else 0
def bpay (l : List Int) (a : Nat) (k : Int) (n : Nat) : List Int := if bcode l a k n = 0 then (bodyL l a).drop (8 * n) else []

theorem body_len {l : List Int} {a : Nat} (h : code l a = 0) : ((bodyL l a).length : Int) = sizeL l a - 16 := by
  have hf := code_fine h
  unfold bodyL sizeL
  rw [if_pos h]
  simp
  omega

/-! ## what was put is read -/
theorem getD_app (p l : List Int) (n a : Nat) (hn : p.length = n) : (p ++ l).getD (n + a) 0 = l.getD a 0 := by
  subst hn
  simp [List.getD_eq_getElem?_getD, List.getElem?_append_right]
theorem getD_cut (l m : List Int) (a : Nat) (h : a < l.length) : (l ++ m).getD a 0 = l.getD a 0 := by
  simp [List.getD_eq_getElem?_getD, List.getElem?_append_left h]
theorem size_front (k : Int) (n : Nat) (hn : n ≤ 1000000) : u8 (front k n) 8 = (16 + n : Nat) := by
  have h := u8_app [k, 0, 0, 0, 0, 0, 0, 0] (lowB ((16 + n : Nat) : Int) 8) 8 0 rfl
  unfold front
  rw [Nat.add_zero] at h
  rw [h, ← nums_one]
  have h2 := u8_nums [((16 + n : Nat) : Int)] [] 0 (by simp) (by simp; omega)
  rw [List.append_nil, Nat.mul_zero] at h2
  rw [h2]; rfl
/-- An object at a place, whatever stands ahead and behind. -/
theorem put_read (p q body : List Int) (k : Int) (a : Nat) (hp : p.length = a) (ha : a % 8 = 0) (h0 : 1 ≤ k) (h1 : k ≤ 7) (hn : body.length ≤ 1000000) :
    code (p ++ (objB k body ++ q)) a = 0 ∧ kindL (p ++ (objB k body ++ q)) a = k ∧ sizeL (p ++ (objB k body ++ q)) a = (16 + body.length : Nat) ∧ bodyL (p ++ (objB k body ++ q)) a = body := by
  have g0 : (p ++ (objB k body ++ q)).getD a 0 = k := by
    have := getD_app p (objB k body ++ q) a 0 hp
    rw [Nat.add_zero] at this
    rw [this]; rfl
  have g1 : (p ++ (objB k body ++ q)).getD (a + 1) 0 = 0 := by
    rw [getD_app p _ a 1 hp]; rfl
  have g8 : u8 (p ++ (objB k body ++ q)) (a + 8) = (16 + body.length : Nat) := by
    rw [u8_app p _ a 8 hp]
    unfold objB
    rw [List.append_assoc, u8_cut _ _ 8 (by rw [front_len]; omega), size_front k _ hn]
  have hl : (p ++ (objB k body ++ q)).length = a + (16 + body.length + padN body.length) + q.length := by
    simp [objB_len, hp]; omega
  have hc : code (p ++ (objB k body ++ q)) a = 0 := code_is ha (by omega) (by omega) (by omega) g1 (by omega) (by rw [g8, hl]; omega)
  have hs : sizeL (p ++ (objB k body ++ q)) a = (16 + body.length : Nat) := by unfold sizeL; rw [if_pos hc, g8]
  refine ⟨hc, by unfold kindL; rw [if_pos hc, g0], hs, ?_⟩
  unfold bodyL
  rw [hs]
  have e1 : (p ++ (objB k body ++ q)).drop (a + 16) = body ++ (List.replicate (padN body.length) 0 ++ q) := by
    rw [← hp, List.drop_append]
    unfold objB
    rw [show p.length + 16 - p.length = 16 by omega, List.drop_of_length_le (by omega), List.nil_append, List.append_assoc, List.drop_append, front_len, List.drop_of_length_le (by rw [front_len]; omega)]
    simp
  rw [e1, show ((16 + body.length : Nat) : Int).toNat - 16 = body.length by omega]
  simp
/-- .. with numbers and a payload. -/
theorem put_nums (p q pay : List Int) (vs : List Int) (k : Int) (a n : Nat) (hp : p.length = a) (ha : a % 8 = 0) (h0 : 1 ≤ k) (h1 : k ≤ 7) (hn : pay.length ≤ 999000) (hv : I64 vs) (hvn : vs.length = n) (hn2 : n ≤ 100) (h8 : 0 < pay.length) :
    bcode (p ++ (objB k (nums vs ++ pay) ++ q)) a k n = 0 ∧ (∀ i, i < n → bnum (p ++ (objB k (nums vs ++ pay) ++ q)) a k n i = vs.getD i 0) ∧ bpay (p ++ (objB k (nums vs ++ pay) ++ q)) a k n = pay := by
  have hl := nums_len vs
  obtain ⟨c1, c2, c3, c4⟩ := put_read p q (nums vs ++ pay) k a hp ha h0 h1 (by rw [List.length_append]; omega)
  have hb : bcode (p ++ (objB k (nums vs ++ pay) ++ q)) a k n = 0 := by
    unfold bcode
    rw [if_neg (by omega), if_neg (by omega), if_neg (by rw [c4, List.length_append]; omega)]
  refine ⟨hb, fun i hi => ?_, ?_⟩
  · unfold bnum
    rw [if_pos hb, c4, u8_nums vs pay i (by omega)]
    have : i < vs.length := by omega
    have e : vs.getD i 0 = vs[i] := by simp [List.getElem?_eq_getElem this]
    rw [e]
    exact hv _ (List.getElem_mem this)
  · unfold bpay
    rw [if_pos hb, c4, List.drop_append, List.drop_of_length_le (by omega), hl, hvn]
    simp
/-- .. of another kind. -/
theorem put_other (p q body : List Int) (k k2 : Int) (a n : Nat) (hp : p.length = a) (ha : a % 8 = 0) (h0 : 1 ≤ k) (h1 : k ≤ 7) (hn : body.length ≤ 1000000) (hk : k ≠ k2) :
    bcode (p ++ (objB k body ++ q)) a k2 n = 4 := by
  obtain ⟨c1, c2, c3, c4⟩ := put_read p q body k a hp ha h0 h1 hn
  unfold bcode
  rw [if_neg (by omega), if_pos (by rw [c2]; exact hk)]
end Go.Proofs.Ytekmbgcijkdkfaa.Ob
