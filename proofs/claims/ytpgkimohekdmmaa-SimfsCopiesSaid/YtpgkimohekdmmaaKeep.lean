/-
  What 'Keep' answers: a slice of 64 bools, the bits of a number.
-/
import Derived.Test.YtpgkimohekdmmaaOwnE
import Derived.Test.YtpgkimohekdmmaaDo
namespace Go.Proofs.Ytpgkimohekdmmaa.Keep8
open Go.ChangeShapes Go.WideShapes Go.ChangeAt Go.RowKit
open Bytes8 Blk8 Own8 OwnE Do8
set_option linter.unusedVariables false
set_option maxRecDepth 100000
set_option linter.unusedSimpArgs false

theorem boolElt : Elt 4 36 1 1 (.bool false) := ⟨Try.underlying36, by kernel_rfl, rfl, by decide⟩
def bitsV (n k : Nat) : List Value := (List.range k).map fun i => Value.bool (n.testBit i)
theorem bitsV_succ (n k : Nat) : bitsV n (k + 1) = bitsV n k ++ [.bool (n.testBit k)] := by unfold bitsV; rw [List.range_succ, List.map_append]; rfl

theorem bit_and (n k : Nat) (hn : n < 18446744073709551616) : (bits .and .u64 ((n : Int) / 2 ^ k) 1 == 1) = n.testBit k := by
  have e : ((n : Int) / 2 ^ k) = ((n / 2 ^ k : Nat) : Int) := by rw [Int.natCast_ediv, Int.natCast_pow]; rfl
  have hlt : n / 2 ^ k < 18446744073709551616 := Nat.lt_of_le_of_lt (Nat.div_le_self _ _) hn
  rw [e, show (1 : Int) = ((1 : Nat) : Int) from rfl, u64_and_nat _ 1 hlt (by decide), Nat.and_one_is_mod, Nat.testBit_eq_decide_div_mod_eq]
  rcases Nat.mod_two_eq_zero_or_one (n / 2 ^ k) with h | h <;> rw [h] <;> rfl
/-- The 64 bools can be read. -/
theorem keep_bools {w : World} {base c n : Nat} {A : Option Addr} (h : OwnE 4 1 w base A 64 c (bitsV n 64)) : InBools w A 64 (fun i => n.testBit i) := fun i hi => by
  obtain ⟨g, rfl, _, hlt, hc⟩ := h.cell (i := i) (by unfold bitsV; simpa using hi)
  refine ⟨g, 0, rfl, hlt, ?_⟩
  rw [Nat.zero_add, hc]
  unfold bitsV
  simp [hi]

set_option maxRecDepth 100000 in
set_option maxHeartbeats 1000000 in
theorem keep_any (n : Nat) (hn : n < 18446744073709551616) (w : World) :
    Calls Try.prog 21 #[.int .u64 (n : Int)] w fun e w' => ∃ A c, e = .returned (.slice A 64 c) ∧ OwnE 4 1 w' w.heap.size A 64 c (bitsV n 64) ∧ Below w.heap.size w w' := by
  go_enter Try.func21, Try.ntmps21
  go_wp2
  go_loopw [3, 4] (fun s i wr => ∃ (k : Nat) (A : Option Addr) (c : Nat), k ≤ 64 ∧ i = .int .i64 (k : Int) ∧ s = .slice A k c ∧ Hid (OwnE 4 1 wr w.heap.size A k c (bitsV n k)) ∧ Hid (Below w.heap.size w wr)) (fun _ i _ => 64 - (intOf i).toNat)
  case atStart => exact ⟨0, none, 0, by omega, rfl, rfl, Lib.hid (OwnE.nil w _ (Nat.le_refl _)), Lib.hid (Below.refl _ _)⟩
  case round =>
    obtain ⟨k, A, c, hk, rfl, rfl, hO, hB⟩ := hrel
    rcases Nat.lt_or_ge k 64 with hlt | hge
    · have hin : (k : Int) < 64 := by omega
      have HV := Lib.hid (bit_and n k hn)
      go_wp2_with (at_builtin; refine wpList_append_elt boolElt rfl (.tmp 9) (.tmp 16) rfl w.heap.size A k c (bitsV n k) rfl (hO.out.alloc _) ⟨wr.heap.size, 0, none⟩ 1 1 [.bool (bits .and .u64 ((n : Int) / 2 ^ k) 1 == 1)] rfl rfl (Blk.news (Blk.new wr [.bool (bits .and .u64 ((n : Int) / 2 ^ k) 1 == 1)] 4)) (by intro u hu; simp at hu; subst hu; rfl) (by omega) (by omega) ?_; intro A2 c2 w2 ho2 hbel2; have HO2 := Lib.hid ho2; have HN2 := Lib.hid ((hB.out.alloc hB.out.size _).trans hbel2); clear ho2)
      go_round
      case rel => exact ⟨k + 1, A2, c2, by omega, by go_num, rfl, Lib.hid (by rw [bitsV_succ, ← HV.out]; exact HO2.out), HN2⟩
      case measure => simp [intOf]; omega
    · obtain rfl : k = 64 := by omega
      go_wp2
      go_ret
      exact ⟨A, c, rfl, hO.out, hB.out⟩
end Go.Proofs.Ytpgkimohekdmmaa.Keep8
