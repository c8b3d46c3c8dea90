/-
  Sealing and opening, as plain mathematics: what is sealed opens; what opens is sealed; bits turned within 32 neighbouring ones are told.
-/
import Derived.Test.YtmkpeidgimgdlaaCc
namespace Go.Proofs.Ytmkpeidgimgdlaa.Cd
open Bytes8 LeNum Cm Cb
set_option linter.unusedVariables false

theorem lowB_cons (v : Int) (n : Nat) (h0 : 0 ≤ v) : lowB v (n + 1) = v % 256 :: lowB (v / 256) n := by
  unfold lowB
  rw [List.range_succ_eq_map, List.map_cons, List.map_map]
  congr 1
  · simp
  · apply List.map_congr_left
    intro i _
    show v / 256 ^ (i + 1) % 256 = v / 256 / 256 ^ i % 256
    rw [Int.pow_succ, Int.mul_comm, Int.ediv_ediv_of_nonneg (by decide)]
theorem lowB_leNum (t : List Int) (h : AllB t) : lowB (leNum t) t.length = t := by
  induction t with
  | nil => rfl
  | cons c r ih =>
    have hc := h c (List.mem_cons_self ..)
    have hr : AllB r := fun n hn => h n (List.mem_cons_of_mem _ hn)
    have hb := leNum_bound r hr
    rw [List.length_cons, lowB_cons _ _ (by have := hb.1; simp only [leNum]; omega)]
    simp only [leNum]
    rw [show (c + 256 * leNum r) % 256 = c by omega, show (c + 256 * leNum r) / 256 = leNum r by omega, ih hr]

theorem tail4 (m : List Int) (h : 4 ≤ m.length) : (m.drop (m.length - 4)).take 4 = m.drop (m.length - 4) := List.take_of_length_le (by simp; omega)
theorem seal_open (m : List Int) (hA : AllB m) (h : 4 ≤ m.length) (hf : fitB m = true) : sealL (m.take (m.length - 4)) = m := by
  have h1 : leNat (m.drop (m.length - 4)) = crc 0 (m.take (m.length - 4)) := by
    have := of_decide_eq_true hf
    rw [tail4 m h] at this
    simpa using this
  unfold sealL
  rw [← h1, ← leNum_nat _ (hA.drop _)]
  have h2 := lowB_leNum (m.drop (m.length - 4)) (hA.drop _)
  rw [show (m.drop (m.length - 4)).length = 4 by simp; omega] at h2
  rw [h2, List.take_append_drop]
theorem sealL_len (l : List Int) : (sealL l).length = l.length + 4 := by unfold sealL; rw [List.length_append, lowB_len]
theorem sealL_all {l : List Int} (h : AllB l) : AllB (sealL l) := h.app (lowB_all _ _)
theorem fit_seal (l : List Int) (hA : AllB l) : fitB (sealL l) = true := by
  have hcl := crc_lt (s := 0) (by decide) l hA
  have h1 : (sealL l).take ((sealL l).length - 4) = l := by rw [sealL_len, Nat.add_sub_cancel]; unfold sealL; exact List.take_left
  have h2 : (sealL l).drop ((sealL l).length - 4) = lowB (crc 0 l : Nat) 4 := by rw [sealL_len, Nat.add_sub_cancel]; unfold sealL; exact List.drop_left
  unfold fitB
  rw [tail4 _ (by rw [sealL_len]; omega), h1, h2, beq_iff_eq]
  have h3 := leNum_lowB (crc 0 l : Nat) 4
  rw [leNum_nat _ (lowB_all _ _)] at h3
  have h4 : ((256 : Int) ^ 4) = 4294967296 := rfl
  rw [h4] at h3
  omega
theorem fit_raw (m : List Int) (hA : AllB m) (h : 4 ≤ m.length) : fitB m = true ↔ raw 4294967295 m = stps 32 4294967295 := by
  have := fit_iff (m.take (m.length - 4)) (m.drop (m.length - 4)) (hA.take _) (hA.drop _) (by simp; omega)
  rw [List.take_append_drop] at this
  rw [← this]
  unfold fitB
  rw [tail4 m h, beq_iff_eq]
/-- What was sealed opens; with some bits turned that lie within 32 neighbouring ones it does just where none is. -/
theorem fit_burst (l c : List Int) (hA : AllB l) (hc : AllB c) (hlen : c.length = l.length + 4) (at1 b : Nat) (hb : b < 4294967296) (hfit : at1 + 32 ≤ 8 * (l.length + 4)) (he : leNat c = leNat (sealL l) ^^^ 2 ^ at1 * b) : fitB c = true ↔ b = 0 := by
  have h1 := (fit_raw (sealL l) (sealL_all hA) (by rw [sealL_len]; omega)).1 (fit_seal l hA)
  rw [fit_raw c hc (by omega)]
  exact burst (sealL l) c (sealL_all hA) hc (by rw [hlen, sealL_len]) at1 b hb (by rw [sealL_len]; exact hfit) he _ h1

/-- The bits of b up to the i-th, from at1 on, turned. -/
def turnB (c : List Int) (j : Nat) : List Int := c.set (j / 8) ((c.getD (j / 8) 0).toNat ^^^ 2 ^ (j % 8) : Nat)
def turned (s : List Int) (at1 b : Nat) : Nat → List Int
  | 0 => s
  | i + 1 => if b / 2 ^ i % 2 = 1 then turnB (turned s at1 b i) (at1 + i) else turned s at1 b i
theorem turnB_len (c : List Int) (j : Nat) : (turnB c j).length = c.length := by simp [turnB]
theorem turnB_all {c : List Int} (h : AllB c) (j : Nat) : AllB (turnB c j) := by
  have hc := h.at_ (j / 8)
  have h1 : (c.getD (j / 8) 0).toNat ^^^ 2 ^ (j % 8) < 256 := Nat.xor_lt_two_pow (n := 8) (by omega) (Nat.pow_lt_pow_right (by decide) (Nat.mod_lt _ (by decide)))
  exact h.set _ (by omega) (by omega)
theorem turned_len (s : List Int) (at1 b i : Nat) : (turned s at1 b i).length = s.length := by
  induction i with
  | zero => rfl
  | succ i ih => unfold turned; split <;> simp [turnB_len, ih]
theorem turned_all {s : List Int} (h : AllB s) (at1 b i : Nat) : AllB (turned s at1 b i) := by
  induction i with
  | zero => exact h
  | succ i ih =>
    unfold turned
    split
    · exact turnB_all ih _
    · exact ih
theorem low_xor (b i : Nat) (h : b / 2 ^ i % 2 = 1) : b % 2 ^ (i + 1) = b % 2 ^ i ^^^ 2 ^ i := by
  have h1 : b % 2 ^ (i + 1) = b % 2 ^ i + 2 ^ i * (b / 2 ^ i % 2) := Nat.mod_pow_succ
  have h2 : b % 2 ^ i < 2 ^ i := Nat.mod_lt _ (Nat.pow_pos (by decide))
  have h3 := Nat.two_pow_add_eq_or_of_lt h2 1
  rw [Nat.mul_one] at h3
  rw [h1, h, Nat.mul_one, Nat.add_comm, h3]
  apply Nat.eq_of_testBit_eq
  intro k
  rw [Nat.testBit_or, Nat.testBit_xor, Nat.testBit_two_pow]
  by_cases hk : i = k
  · subst hk
    rw [Nat.testBit_lt_two_pow h2]
    simp
  · simp [hk]
theorem turned_num (s : List Int) (h : AllB s) (at1 b i : Nat) (hfit : at1 + i ≤ 8 * s.length) : leNat (turned s at1 b i) = leNat s ^^^ 2 ^ at1 * (b % 2 ^ i) := by
  induction i with
  | zero => simp [turned, Nat.mod_one]
  | succ i ih =>
    have ih := ih (by omega)
    unfold turned
    split
    · rename_i hb
      unfold turnB
      rw [flip_num _ (turned_all h _ _ _) _ (by rw [turned_len]; omega), ih, low_xor b i hb, mul_xor, Nat.xor_assoc, Nat.pow_add]
    · rename_i hb
      have h0 : b / 2 ^ i % 2 = 0 := by omega
      have h1 : b % 2 ^ (i + 1) = b % 2 ^ i + 2 ^ i * (b / 2 ^ i % 2) := Nat.mod_pow_succ
      rw [ih, h1, h0, Nat.mul_zero, Nat.add_zero]
end Go.Proofs.Ytmkpeidgimgdlaa.Cd
