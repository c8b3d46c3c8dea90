/-
  What the document's own words of four and eight bytes are.
-/
import Derived.Test.YteggjmnmlmhkfaaHb
namespace Go.Proofs.Yteggjmnmlmhkfaa.He
open Go.ChangeShapes Go.WideShapes Go.ChangeAt Go.RowKit
open Bytes8 Blk8 LeNum Hm Ha Hb
set_option linter.unusedVariables false
set_option maxRecDepth 100000

def part4 (l : List Int) (o k : Nat) : Int := leNum ((l.drop (o + k)).take (4 - k))

theorem part4_bd (l : List Int) (o k : Nat) (h : AllB l) : 0 ≤ part4 l o (k + 1) ∧ part4 l o (k + 1) ≤ 16777215 := by
  have h1 := leNum_bound ((l.drop (o + (k + 1))).take (4 - (k + 1))) ((h.drop _).take _)
  have hl : ((l.drop (o + (k + 1))).take (4 - (k + 1))).length ≤ 3 := by
    have := List.length_take_le (4 - (k + 1)) (l.drop (o + (k + 1)))
    omega
  unfold part4
  generalize (l.drop (o + (k + 1))).take (4 - (k + 1)) = m at *
  have : (256 : Int) ^ m.length ≤ 16777216 := by
    generalize m.length = j at hl
    match j, hl with
    | 0, _ | 1, _ | 2, _ | 3, _ => decide
  omega
theorem part4_in (l : List Int) (o k : Nat) (hk : k < 4) (h : o + k < l.length) : part4 l o k = part4 l o (k + 1) * 256 + l.getD (o + k) 0 := by
  unfold part4
  have e1 : l.drop (o + k) = l[o + k] :: l.drop (o + k + 1) := List.drop_eq_getElem_cons (by omega)
  have e2 : 4 - k = (4 - (k + 1)) + 1 := by omega
  rw [e1, e2, List.take_succ_cons, leNum, Nat.add_assoc]
  have e3 : l.getD (o + k) 0 = l[o + k] := by simp [List.getElem?_eq_getElem h]
  rw [e3]
  simp
  omega
theorem part4_out (l : List Int) (o k : Nat) (h : l.length ≤ o + k) : part4 l o k = part4 l o (k + 1) * 256 := by
  unfold part4
  rw [List.drop_of_length_le h, List.drop_of_length_le (by omega : l.length ≤ o + (k + 1))]
  simp [leNum]
theorem part4_0 (l : List Int) (o : Nat) : part4 l o 0 = w4 l o := rfl

theorem bits_or_u32_nat (a b : Nat) (ha : a < 4294967296) (hb : b < 4294967296) : bits .or .u32 (a : Int) (b : Int) = ((a ||| b : Nat) : Int) :=
  (bits_nat .u32 32 (by decide) (fun n h0 h1 => by rw [IntKind.wrap_u32]; omega) a b (by omega) (by omega)).2
theorem or32 (v c : Int) (h0 : 0 ≤ v) (h1 : v ≤ 16777215) (c0 : 0 ≤ c) (c1 : c < 256) : bits .or .u32 (v * 256) c = v * 256 + c :=
  bits_join .u32 32 (by decide) (fun n h0 h1 => by rw [IntKind.wrap_u32]; omega) 8 (v * 256) c (by omega) (by omega) (by omega) c0 (by omega) (by omega)

set_option maxHeartbeats 1000000 in
theorem word_any (A : Option Addr) (l : List Int) (len cap o : Nat) (w : World) (hb : Bytes w A l) (hL : l.length = len) (hmax : len ≤ 1000000) (ho : o ≤ 1000000) :
    Calls Try.prog 41 #[.slice A len cap, .int .i64 o] w fun e w' => e = .returned (.int .u32 (w4 l o)) ∧ w = w' := by
  have HA := Lib.hid hb.1
  have HC := Lib.hid hb.2
  have HL := Lib.hid hL
  clear hb hL
  go_enter Try.func41, Try.ntmps41
  go_wp2
  go_loop [5, 6] (fun v i => ∃ k : Nat, k ≤ 4 ∧ i = .int .i64 ((k : Int) - 1) ∧ v = .int .u32 (part4 l o k)) (fun _ i => (intOf i + 1).toNat)
  case atStart => exact ⟨4, Nat.le_refl _, rfl, by simp [part4, leNum]⟩
  case round =>
    obtain ⟨k, hk, rfl, rfl⟩ := hrel
    cases k with
    | zero =>
      go_wp2
      go_ret
      exact ⟨rfl, rfl⟩
    | succ k =>
      have e : ((k + 1 : Nat) : Int) - 1 = (k : Int) := by omega
      obtain ⟨v0, v1⟩ := part4_bd l o k HA.out
      obtain ⟨c0, c1⟩ := HA.out.at_ (o + k)
      rw [e]
      clear e
      by_cases hin : o + k < len
      · have HS := Lib.hid (part4_in l o k (by omega) (by have := HL.out; omega))
        obtain ⟨b, off, rfl, _, hcell⟩ := HC.out (o + k) (by have := HL.out; omega)
        have HO := Lib.hid (or32 (part4 l o (k + 1)) (l.getD (o + k) 0) v0 v1 c0 c1)
        have hd : decide (o + k < len) = true := by simpa using hin
        generalize part4 l o (k + 1) = V at *
        generalize l.getD (o + k) 0 = C at *
        go_wp2
        go_round
        case rel => exact ⟨k, by omega, by go_num, by rw [HS.out, HO.out]⟩
        case measure => simp [intOf]
      · have HS := Lib.hid (part4_out l o k (by have := HL.out; omega))
        have hd : decide (o + k < len) = false := by simpa using hin
        generalize part4 l o (k + 1) = V at *
        go_wp2
        go_round
        case rel => exact ⟨k, by omega, by go_num, by rw [HS.out]⟩
        case measure => simp [intOf]

theorem leNum_app (l m : List Int) : leNum (l ++ m) = leNum l + 256 ^ l.length * leNum m := by
  induction l with
  | nil => simp [leNum]
  | cons a r ih =>
    simp only [List.cons_append, leNum, ih, List.length_cons, Int.pow_succ]
    rw [Int.mul_add, ← Int.mul_assoc, Int.mul_comm 256 (256 ^ r.length)]
    omega
theorem w8_parts (l : List Int) (o : Nat) : w8 l o = w4 l o + w4 l (o + 4) * 4294967296 := by
  unfold w8 w4
  have e : (l.drop o).take 8 = (l.drop o).take 4 ++ (l.drop (o + 4)).take 4 := by
    rw [show (8 : Nat) = 4 + 4 from rfl, List.take_add, List.drop_drop]
  rw [e, leNum_app]
  by_cases h : o + 4 ≤ l.length
  · rw [show ((l.drop o).take 4).length = 4 by simp; omega]
    omega
  · rw [List.drop_of_length_le (by omega : l.length ≤ o + 4)]
    simp [leNum]
theorem or64 (a b : Int) (a0 : 0 ≤ a) (a1 : a ≤ 4294967295) (b0 : 0 ≤ b) (b1 : b ≤ 4294967295) : bits .or .u64 a (b * 4294967296) = a + b * 4294967296 := by
  have h := bits_join .u64 64 (by decide) (fun n h0 h1 => by rw [IntKind.wrap_u64]; omega) 32 (b * 4294967296) a (by omega) (by omega) (by omega) a0 (by omega) (by omega)
  have hc : bits .or .u64 a (b * 4294967296) = bits .or .u64 (b * 4294967296) a := by
    obtain ⟨x, rfl⟩ := Int.eq_ofNat_of_zero_le a0
    obtain ⟨y, hy⟩ := Int.eq_ofNat_of_zero_le (show 0 ≤ b * 4294967296 by omega)
    rw [hy, LeNum.bits_or_u64_nat x y (by omega) (by omega), LeNum.bits_or_u64_nat y x (by omega) (by omega), Nat.or_comm]
  rw [hc, h]; omega

theorem word_at (A : Option Addr) (l : List Int) (len cap o : Nat) (i : Int) (hi : i = o) (w : World) (hb : Bytes w A l) (hL : l.length = len) (hmax : len ≤ 1000000) (ho : o ≤ 1000000) :
    Calls Try.prog 41 #[.slice A len cap, .int .i64 i] w fun e w' => e = .returned (.int .u32 (w4 l o)) ∧ w = w' := by
  subst hi; exact word_any A l len cap o w hb hL hmax ho
end Go.Proofs.Yteggjmnmlmhkfaa.He
