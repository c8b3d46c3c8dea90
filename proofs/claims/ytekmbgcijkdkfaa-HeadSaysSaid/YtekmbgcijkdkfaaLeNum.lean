/-
  Plain mathematics of bytes as numbers, the lowest first: no Go in sight.
-/
import Derived.Laws.Bits64
import Derived.Test.YtekmbgcijkdkfaaBytes
namespace Go.Proofs.Ytekmbgcijkdkfaa.LeNum
set_option linter.unusedVariables false
set_option maxRecDepth 100000

def leNum : List Int → Int
  | [] => 0
  | b :: r => b + 256 * leNum r

open Bytes8

theorem leNum_snoc (l : List Int) (b : Int) : leNum (l ++ [b]) = leNum l + b * 256 ^ l.length := by
  induction l with
  | nil => simp [leNum]
  | cons a r ih =>
    simp only [List.cons_append, leNum, ih, List.length_cons, Int.pow_succ]
    rw [Int.mul_add, ← Int.add_assoc]
    congr 1
    rw [Int.mul_comm (256 ^ r.length) 256, ← Int.mul_assoc, ← Int.mul_assoc, Int.mul_comm 256 b]

theorem leNum_bound (l : List Int) (h : AllB l) : 0 ≤ leNum l ∧ leNum l < 256 ^ l.length := by
  induction l with
  | nil => simp [leNum]
  | cons a r ih =>
    have h1 := ih (fun n hn => h n (List.mem_cons_of_mem _ hn))
    have h2 := h a (List.mem_cons_self ..)
    simp only [leNum, List.length_cons, Int.pow_succ]
    omega

theorem pow_le64 (k : Nat) (h : k ≤ 8) : (256 : Int) ^ k ≤ 18446744073709551616 ∧ 1 ≤ (256 : Int) ^ k := by
  match k, h with
  | 0, _ | 1, _ | 2, _ | 3, _ | 4, _ | 5, _ | 6, _ | 7, _ | 8, _ => decide

theorem bits_or_u64_nat (a b : Nat) (ha : a < 18446744073709551616) (hb : b < 18446744073709551616) :
    bits .or .u64 (a : Int) (b : Int) = ((a ||| b : Nat) : Int) := by
  have hx : a ||| b < 2 ^ 64 := Nat.or_lt_two_pow (by omega) (by omega)
  have h1 : (BitVec.ofInt 64 (a : Int)).toNat = a := by
    rw [BitVec.ofInt_natCast, BitVec.toNat_ofNat]; exact Nat.mod_eq_of_lt (by omega)
  have h2 : (BitVec.ofInt 64 (b : Int)).toNat = b := by
    rw [BitVec.ofInt_natCast, BitVec.toNat_ofNat]; exact Nat.mod_eq_of_lt (by omega)
  show IntKind.u64.wrap ((BitVec.ofInt 64 (a : Int) ||| BitVec.ofInt 64 (b : Int)).toNat : Int) = _
  rw [BitVec.toNat_or, h1, h2, IntKind.wrap_u64]
  omega

theorem two_pow_8 (k : Nat) : (2 : Int) ^ (8 * k) = 256 ^ k := by rw [Int.pow_mul]; rfl

/-- One byte more on top: 'or' is plus there. -/
theorem or_step (v c : Int) (k : Nat) (hk : k < 8) (hv : 0 ≤ v) (hv2 : v < 256 ^ k) (hc : 0 ≤ c) (hc2 : c < 256) :
    bits .or .u64 v (IntKind.u64.wrap (IntKind.u64.wrap c * 2 ^ (8 * k))) = v + c * 256 ^ k := by
  obtain ⟨v', rfl⟩ := Int.eq_ofNat_of_zero_le hv
  obtain ⟨c', rfl⟩ := Int.eq_ofNat_of_zero_le hc
  have e1 : IntKind.u64.wrap (c' : Int) = (c' : Int) := by rw [IntKind.wrap_u64]; omega
  have hp : (256 : Nat) ^ (k + 1) ≤ 18446744073709551616 := by
    have := Nat.pow_le_pow_right (n := 256) (by decide) (show k + 1 ≤ 8 by omega)
    omega
  have hm : c' * 256 ^ k < 18446744073709551616 := by
    have : c' * 256 ^ k ≤ 255 * 256 ^ k := Nat.mul_le_mul_right _ (by omega)
    rw [Nat.pow_succ] at hp
    have := Nat.pow_pos (n := k) (show 0 < 256 by decide)
    omega
  have e2 : IntKind.u64.wrap ((c' : Int) * 2 ^ (8 * k)) = ((c' * 256 ^ k : Nat) : Int) := by
    rw [two_pow_8, IntKind.wrap_u64]
    have : ((c' : Int) * 256 ^ k) = ((c' * 256 ^ k : Nat) : Int) := by simp
    rw [this]; omega
  have hv3 : v' < 256 ^ k := by
    have : ((256 ^ k : Nat) : Int) = 256 ^ k := by simp
    omega
  have hv4 : v' < 18446744073709551616 := by rw [Nat.pow_succ] at hp; omega
  rw [e1, e2, bits_or_u64_nat _ _ hv4 hm]
  have e3 : v' ||| c' * 256 ^ k = v' + c' * 256 ^ k := by
    have h256 : (256 : Nat) ^ k = 2 ^ (8 * k) := by rw [Nat.pow_mul]
    rw [h256] at hv3 ⊢
    rw [Nat.or_comm, Nat.mul_comm, ← Nat.two_pow_add_eq_or_of_lt hv3, Nat.add_comm]
  rw [e3]
  simp

theorem take_snoc (l : List Int) (k : Nat) (h : k < l.length) : l.take (k + 1) = l.take k ++ [l.getD k 0] := by
  rw [List.take_succ_eq_append_getElem h]
  simp [List.getD_eq_getElem?_getD, List.getElem?_eq_getElem h]

/-- The round of the reading loop. -/
theorem get_step (l : List Int) (at1 k : Nat) (hk : k < 8) (h : at1 + k < l.length) (hB : AllB l) :
    bits .or .u64 (leNum ((l.drop at1).take k)) (IntKind.u64.wrap (IntKind.u64.wrap (l[at1 + k]?.getD 0) * 2 ^ (8 * k))) = leNum ((l.drop at1).take (k + 1)) := by
  have hlen : ((l.drop at1).take k).length = k := by simp; omega
  have hb := leNum_bound ((l.drop at1).take k) (hB.sub fun x hx => List.mem_of_mem_drop (List.mem_of_mem_take hx))
  rw [hlen] at hb
  have hm : l[at1 + k]?.getD 0 = l[at1 + k] := by simp [List.getElem?_eq_getElem h]
  have hc := hB (l[at1 + k]) (List.getElem_mem h)
  rw [hm, or_step _ _ k hk hb.1 hb.2 hc.1 hc.2, take_snoc _ _ (by simp; omega), leNum_snoc, hlen]
  congr 2
  simp [List.getElem?_drop, List.getElem?_eq_getElem h]

/-- The lowest bytes of a number, the lowest first. -/
def lowB (v : Int) (k : Nat) : List Int := (List.range k).map fun i => v / 256 ^ i % 256
theorem lowB_len (v : Int) (k : Nat) : (lowB v k).length = k := by simp [lowB]
theorem lowB_succ (v : Int) (k : Nat) : lowB v (k + 1) = lowB v k ++ [v / 256 ^ k % 256] := by simp [lowB, List.range_succ]
theorem lowB_all (v : Int) (k : Nat) : AllB (lowB v k) := by
  intro x hx
  obtain ⟨i, _, rfl⟩ := List.mem_map.1 hx
  omega

theorem mod_mul_step (v p : Int) (hp : 0 < p) : v % p + v / p % 256 * p = v % (p * 256) := by
  have h1 := Int.mul_ediv_add_emod v p
  have h2 := Int.mul_ediv_add_emod (v / p) 256
  have h3 := Int.emod_nonneg v (b := p) (by omega)
  have h4 := Int.emod_lt_of_pos v hp
  have h5 := Int.emod_nonneg (v / p) (b := 256) (by decide)
  have h6 := Int.emod_lt_of_pos (v / p) (b := 256) (by decide)
  have key : (v % p + v / p % 256 * p) + p * 256 * (v / p / 256) = v := by
    have e : v / p % 256 * p + p * 256 * (v / p / 256) = p * (v / p) := by
      rw [Int.mul_assoc, Int.mul_comm (v / p % 256) p, ← Int.mul_add, Int.add_comm, h2]
    rw [Int.add_assoc, e, Int.add_comm]
    exact h1
  have b0 : 0 ≤ v / p % 256 * p := Int.mul_nonneg h5 (by omega)
  have b1 : v / p % 256 * p ≤ 255 * p := Int.mul_le_mul_of_nonneg_right (by omega) (by omega)
  exact (((Int.ediv_emod_unique (show 0 < p * 256 by omega)).2 ⟨key, by omega, by omega⟩).2).symm

/-- The lowest bytes as a number again. -/
theorem leNum_lowB (v : Int) (k : Nat) : leNum (lowB v k) = v % 256 ^ k := by
  induction k with
  | zero => simp [lowB, leNum]
  | succ k ih =>
    rw [lowB_succ, leNum_snoc, ih, lowB_len, Int.pow_succ]
    exact mod_mul_step v (256 ^ k) (Int.pow_pos (by decide))

theorem bits_and_u64_nat (a b : Nat) (ha : a < 18446744073709551616) (hb : b < 18446744073709551616) :
    bits .and .u64 (a : Int) (b : Int) = ((a &&& b : Nat) : Int) := by
  have hx : a &&& b ≤ a := Nat.and_le_left
  have h1 : (BitVec.ofInt 64 (a : Int)).toNat = a := by
    rw [BitVec.ofInt_natCast, BitVec.toNat_ofNat]; exact Nat.mod_eq_of_lt (by omega)
  have h2 : (BitVec.ofInt 64 (b : Int)).toNat = b := by
    rw [BitVec.ofInt_natCast, BitVec.toNat_ofNat]; exact Nat.mod_eq_of_lt (by omega)
  show IntKind.u64.wrap ((BitVec.ofInt 64 (a : Int) &&& BitVec.ofInt 64 (b : Int)).toNat : Int) = _
  rw [BitVec.toNat_and, h1, h2, IntKind.wrap_u64]
  omega

/-- The lowest n bytes by a mask. -/
theorem mask_low (v : Int) (n : Nat) (hn : n ≤ 7) (h0 : 0 ≤ v) (h1 : v ≤ 18446744073709551615) :
    bits BinOp.and IntKind.u64 v (IntKind.u64.wrap (IntKind.u64.wrap (2 ^ (8 * n)) - 1)) = v % 256 ^ n := by
  obtain ⟨v', rfl⟩ := Int.eq_ofNat_of_zero_le h0
  have hp : 2 ^ (8 * n) ≤ 72057594037927936 := Nat.pow_le_pow_right (n := 2) (by decide) (show 8 * n ≤ 56 by omega)
  have hpos : 0 < 2 ^ (8 * n) := Nat.pow_pos (by decide)
  have e0 : ((2 : Int) ^ (8 * n)) = ((2 ^ (8 * n) : Nat) : Int) := by simp
  have e1 : IntKind.u64.wrap (IntKind.u64.wrap (2 ^ (8 * n)) - 1) = ((2 ^ (8 * n) - 1 : Nat) : Int) := by
    rw [e0, IntKind.wrap_u64, IntKind.wrap_u64]; omega
  rw [e1, bits_and_u64_nat v' _ (by omega) (by omega), Nat.and_two_pow_sub_one_eq_mod, ← two_pow_8, e0]
  simp

/-- Bytes m in the place of those from place o on. -/
def over (l : List Int) (o : Nat) (m : List Int) : List Int := l.take o ++ m ++ l.drop (o + m.length)
theorem over_nil (l : List Int) (o : Nat) : over l o [] = l := by simp [over]
theorem over_len (l : List Int) (o : Nat) (m : List Int) (h : o + m.length ≤ l.length) : (over l o m).length = l.length := by simp [over]; omega
theorem over_step (l : List Int) (o : Nat) (m : List Int) (x : Int) (h : o + m.length < l.length) : (over l o m).set (o + m.length) x = over l o (m ++ [x]) := by
  have e : l.drop (o + m.length) = l[o + m.length] :: l.drop (o + m.length + 1) := List.drop_eq_getElem_cons h
  unfold over
  rw [List.set_append_right _ _ (by simp; omega), e]
  have : o + m.length - (l.take o ++ m).length = 0 := by simp; omega
  rw [this]
  simp [Nat.add_assoc]
theorem over_all {l : List Int} {o : Nat} {m : List Int} (hl : AllB l) (hm : AllB m) : AllB (over l o m) := ((hl.take o).app hm).app (hl.drop _)
theorem over_end (l m : List Int) (n : Nat) (h : m.length = n) : over (l ++ List.replicate n 0) l.length m = l ++ m := by
  simp [over, h]
/-- .. ahead of them, they themselves, behind them. -/
theorem over_ahead (l : List Int) (o : Nat) (m : List Int) (h : o ≤ l.length) : (over l o m).take o = l.take o := by
  simp [over, h]
theorem over_there (l : List Int) (o n : Nat) (m : List Int) (h : o ≤ l.length) (hn : m.length = n) : ((over l o m).drop o).take n = m := by
  subst hn
  unfold over
  rw [List.append_assoc, List.drop_append]
  simp [h]
theorem over_behind (l : List Int) (o n : Nat) (m : List Int) (h : o ≤ l.length) (hn : m.length = n) : (over l o m).drop (o + n) = l.drop (o + n) := by
  subst hn
  unfold over
  rw [List.drop_append]
  simp [h]
end Go.Proofs.Ytekmbgcijkdkfaa.LeNum
