/-
  What opening answers: the program's and the document's own.
-/
import Derived.Test.YtmkpeidgimgdlaaCb
namespace Go.Proofs.Ytmkpeidgimgdlaa.Cc
open Go.ChangeShapes Go.WideShapes Go.ChangeAt Go.RowKit
open Bytes8 Blk8 Own8 LeNum LeA LeB LeP RefA RefB Numb Cm Ca Cb
set_option linter.unusedVariables false

/-- Bytes that can be read, and a code. -/
def Opened (m : List Int) (n : Nat) (c : Int) (w : World) (e : Ending) (w' : World) : Prop := ∃ A d, e = .returned (.tuple #[.slice A n d, .int .i64 c]) ∧ Bytes w' A m ∧ Below w.heap.size w w'

theorem get4 (a : Option Addr) (l : List Int) (k cap : Nat) (w : World) (hL : l.length = k + 4) (hl : k ≤ 1000000) (hb : Bytes w a l) :
    Calls Try.prog 40 #[.slice a (k + 4) cap, .int .i64 (k : Int), .int .i64 4] w fun e w' => e = .returned (.tuple #[.int .u64 (leNat ((l.drop k).take 4) : Nat), .bool true]) ∧ w = w' := by
  have h := get_yes a l cap k 4 w (by omega) (by simp [fits, isW]; omega) hb (by decide) (by decide) (by omega)
  rw [leNum_nat _ ((hb.1.drop k).take 4), hL] at h
  exact h
theorem rget4 (a : Option Addr) (l : List Int) (k cap : Nat) (w : World) (hL : l.length = k + 4) (hl : k ≤ 1000000) (hb : Bytes w a l) :
    Calls Try.prog 44 #[.slice a (k + 4) cap, .int .i64 (k : Int), .int .i64 4] w fun e w' => e = .returned (.tuple #[.int .u64 (leNat ((l.drop k).take 4) : Nat), .bool true]) ∧ w = w' := by
  have h := rget_yes a l cap k 4 w (by omega) (by simp [fits, isW]; omega) hb
  rw [leNum_nat _ ((hb.1.drop k).take 4), hL] at h
  exact h
theorem bytes_take {w : World} {a : Option Addr} {l : List Int} (h : Bytes w a l) (k : Nat) : Bytes w a (l.take k) := by
  have := h.part 0 k a (fun b off e _ _ => e)
  rw [List.drop_zero] at this; exact this

theorem open_any (A : Option Addr) (l : List Int) (len cap : Nat) (w : World) (hb : Bytes w A l) (hL : l.length = len) (hmax : len ≤ 999000) (hcap : len ≤ cap) (hcap2 : cap ≤ maxLen) :
    Calls Try.prog 23 #[.slice A len cap] w (Opened (openL l) (openL l).length (openE l) w) := by
  unfold maxLen at hcap2
  by_cases h4 : len < 4
  · rw [openL_short (by omega), openE_short (by omega)]
    have HG := Lib.hid (get_no A len cap ((len : Int) - 4) 4 w (by omega) (by simp [fits, isW]; omega))
    clear hb hL
    go_enter Try.func23, Try.ntmps23
    go_wp2_with (go_at_call 40; (with_reducible refine HG.out.mono ?_); rintro e w' ⟨rfl, rfl⟩)
    go_ret2
    exact ⟨none, 0, rfl, Bytes.nil _ _, Below.refl _ _⟩
  · obtain ⟨k, rfl⟩ : ∃ k, len = k + 4 := ⟨len - 4, by omega⟩
    have HG := Lib.hid (get4 A l k cap w hL (by omega) hb)
    have hb1 := bytes_take hb k
    have hl1 : (l.take k).length = k := by rw [List.length_take]; omega
    have hfit : fitB l = (leNat ((l.drop k).take 4) == crc 0 (l.take k)) := by unfold fitB; rw [hL]; rfl
    have HS := Lib.hid fun T => sum_one A (l.take k) k cap w hb1 hl1 (by omega) T w.heap.size rfl
    have HC := Lib.hid (crc_u64 (l.take k) hb1.1)
    have hcl := crc_lt (s := 0) (by decide) (l.take k) hb1.1
    have HK := Lib.hid fun T => clone_any A (l.take k) k cap (w.alloc (.cells #[.slice A (k + 4) cap] T)) (hb1.below ((Below.refl w.heap.size w).alloc (Nat.le_refl _) _) (Nat.le_refl _)) hl1 (by omega)
    have HK2 := Lib.hid fun T => clone_any A (l.take k) k cap (w.alloc (.cells #[.slice A k cap] T)) (hb1.below ((Below.refl w.heap.size w).alloc (Nat.le_refl _) _) (Nat.le_refl _)) hl1 (by omega)
    by_cases hf : fitB l = true
    · rw [openL_fine (by omega) hf, openE_fine (by omega) hf, hL, Nat.add_sub_cancel, hl1]
      rw [hfit] at hf
      have hne : ((leNat ((l.drop k).take 4) : Int) != (crc 0 (l.take k) : Nat)) = false := by
        have := of_decide_eq_true hf
        simp [this]
      clear hf hfit hb hb1 hL hl1
      generalize leNat ((l.drop k).take 4) = t at *
      generalize crc 0 (l.take k) = s at *
      generalize l.take k = m at *
      go_enter Try.func23, Try.ntmps23
      go_wp2_with (first
        | (go_at_call 40; (with_reducible refine HG.out.mono ?_); rintro e w' ⟨rfl, rfl⟩)
        | (go_at_call 25; (with_reducible refine (HS.out _).mono ?_); rintro e w' ⟨rfl, rfl⟩)
        | (go_at_call 43; (with_reducible refine (HK2.out _).mono ?_); rintro e w2 ⟨A2, c2, rfl, hb2, hbel⟩; have HB2 := Lib.hid hb2; clear hb2))
      go_ret2
      exact ⟨A2, c2, rfl, HB2.out, ((Below.refl w.heap.size w).alloc (Nat.le_refl _) _).trans (hbel.mono (by simp))⟩
    · have hf' : fitB l = false := by simpa using hf
      rw [openL_sum (by omega) hf', openE_sum (by omega) hf']
      rw [hfit] at hf'
      have hne : ((leNat ((l.drop k).take 4) : Int) != (crc 0 (l.take k) : Nat)) = true := by
        have := of_decide_eq_false hf'
        simp; omega
      clear hf hf' hfit hb hb1 hL hl1
      generalize leNat ((l.drop k).take 4) = t at *
      generalize crc 0 (l.take k) = s at *
      generalize l.take k = m at *
      go_enter Try.func23, Try.ntmps23
      go_wp2_with (first
        | (go_at_call 40; (with_reducible refine HG.out.mono ?_); rintro e w' ⟨rfl, rfl⟩)
        | (go_at_call 25; (with_reducible refine (HS.out _).mono ?_); rintro e w' ⟨rfl, rfl⟩))
      go_ret2
      exact ⟨none, 0, rfl, Bytes.nil _ _, (Below.refl w.heap.size w).alloc (Nat.le_refl _) _⟩

theorem ropen_any (A : Option Addr) (l : List Int) (len cap : Nat) (w : World) (hb : Bytes w A l) (hL : l.length = len) (hmax : len ≤ 999000) (hcap : len ≤ cap) (hcap2 : cap ≤ maxLen) :
    Calls Try.prog 24 #[.slice A len cap] w (Opened (openL l) (openL l).length (openE l) w) := by
  unfold maxLen at hcap2
  by_cases h4 : len < 4
  · rw [openL_short (by omega), openE_short (by omega)]
    clear hb hL
    go_enter Try.func24, Try.ntmps24
    go_wp2
    go_ret2
    exact ⟨none, 0, rfl, Bytes.nil _ _, Below.refl _ _⟩
  · obtain ⟨k, rfl⟩ : ∃ k, len = k + 4 := ⟨len - 4, by omega⟩
    have HG := Lib.hid (rget4 A l k cap w hL (by omega) hb)
    have hb1 := bytes_take hb k
    have hl1 : (l.take k).length = k := by rw [List.length_take]; omega
    have hfit : fitB l = (leNat ((l.drop k).take 4) == crc 0 (l.take k)) := by unfold fitB; rw [hL]; rfl
    have HS := Lib.hid (rmore0 A (l.take k) k cap w hb1 hl1 (by omega))
    have HC := Lib.hid (crc_u64 (l.take k) hb1.1)
    have hcl := crc_lt (s := 0) (by decide) (l.take k) hb1.1
    have HB1 := Lib.hid hb1
    by_cases hf : fitB l = true
    · rw [openL_fine (by omega) hf, openE_fine (by omega) hf, hL, Nat.add_sub_cancel, hl1]
      rw [hfit] at hf
      have hne : ((leNat ((l.drop k).take 4) : Int) != (crc 0 (l.take k) : Nat)) = false := by
        have := of_decide_eq_true hf
        simp [this]
      clear hf hfit hb hb1 hL hl1
      generalize leNat ((l.drop k).take 4) = t at *
      generalize crc 0 (l.take k) = s at *
      generalize l.take k = m at *
      go_enter Try.func24, Try.ntmps24
      go_wp2_with (first
        | (go_at_call 44; (with_reducible refine HG.out.mono ?_); rintro e w' ⟨rfl, rfl⟩)
        | (go_at_call 26; (with_reducible refine HS.out.mono ?_); rintro e w' ⟨rfl, rfl⟩))
      go_ret2
      exact ⟨_, _, rfl, HB1.out, Below.refl _ _⟩
    · have hf' : fitB l = false := by simpa using hf
      rw [openL_sum (by omega) hf', openE_sum (by omega) hf']
      rw [hfit] at hf'
      have hne : ((leNat ((l.drop k).take 4) : Int) != (crc 0 (l.take k) : Nat)) = true := by
        have := of_decide_eq_false hf'
        simp; omega
      clear hf hf' hfit hb hb1 hL hl1
      generalize leNat ((l.drop k).take 4) = t at *
      generalize crc 0 (l.take k) = s at *
      generalize l.take k = m at *
      go_enter Try.func24, Try.ntmps24
      go_wp2_with (first
        | (go_at_call 44; (with_reducible refine HG.out.mono ?_); rintro e w' ⟨rfl, rfl⟩)
        | (go_at_call 26; (with_reducible refine HS.out.mono ?_); rintro e w' ⟨rfl, rfl⟩))
      go_ret2
      exact ⟨none, 0, rfl, Bytes.nil _ _, Below.refl _ _⟩
end Go.Proofs.Ytmkpeidgimgdlaa.Cc
