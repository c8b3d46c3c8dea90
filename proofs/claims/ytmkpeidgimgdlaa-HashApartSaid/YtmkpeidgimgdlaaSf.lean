/-
  The chapter's examples come out true, and nothing that was there is written.
-/
import Derived.Test.YtmkpeidgimgdlaaSe
namespace Go.Proofs.Ytmkpeidgimgdlaa.Sf
open Go.ChangeShapes Go.WideShapes Go.ChangeAt Go.RowKit
open Bytes8 Blk8 Own8 LeNum LeA LeB Hm Ha Hb Hc Hd He Hf Sa Sb Sm Sc Sd Se
set_option linter.unusedVariables false

theorem one_byte (k : Nat) (h : k < 16) : AllB [(k : Int)] := fun n hn => by simp at hn; omega

theorem sip_first16 (A : Option Addr) (c : Nat) (w : World) (hb : Bytes w A (upTo 15)) :
    Calls Try.prog 14 #[.agg #[.int .u8 0, .int .u8 1, .int .u8 2, .int .u8 3, .int .u8 4, .int .u8 5, .int .u8 6, .int .u8 7, .int .u8 8, .int .u8 9, .int .u8 10, .int .u8 11, .int .u8 12, .int .u8 13, .int .u8 14, .int .u8 15], .slice A 15 c] w fun e w' => e = .returned (.int .u64 11613035633349379557) ∧ Below w.heap.size w w' := by
  have h := sip_any K16 A (upTo 15) 15 c w K16_ok hb (upTo_len 15) (by decide)
  rw [sip_K16] at h
  exact h
theorem look_none (w : World) : Calls Try.prog 12 #[.slice none 0 0] w fun e w' => e = .returned (.int .u64 16045690984833335023) ∧ Below w.heap.size w w' := by
  have h := look_nil_any none 0 w
  rw [look_nil] at h
  exact h

set_option maxRecDepth 100000 in
set_option maxHeartbeats 4000000 in
theorem first_any (w : World) :
    Calls Try.prog 11 #[] w fun e w' => e = .returned (.bool true) ∧ Below w.heap.size w w' := by
  go_enter Try.func11, Try.ntmps11
  go_wp2
  go_loopw [2, 3] (fun s i wr => ∃ (k : Nat) (A : Option Addr) (n c : Nat), k ≤ 16 ∧ Hid (n = min k 15) ∧ n ≤ 15 ∧ i = .int .i64 k ∧ s = .slice A n c ∧ Hid (Own wr (w.heap.size + 1) A n c (upTo n)) ∧ Hid (Blk wr w.heap.size (cells k) 24) ∧ Hid (Below w.heap.size w wr)) (fun _ i _ => 16 - (intOf i).toNat)
  case atStart => exact ⟨0, none, 0, 0, by omega, Lib.hid rfl, by omega, rfl, rfl, Lib.hid (Own.nil _ _ (by simp)), Lib.hid (Blk.new_at _ _ _ _ rfl), Lib.hid ((Below.refl _ _).alloc (Nat.le_refl _) _)⟩
  case round =>
    obtain ⟨k, A, n, c, hk, hn, hn15, rfl, rfl, ho, hr, hbel⟩ := hrel
    by_cases h16 : k < 16
    · have hd : decide (k < 16) = true := by simpa using h16
      have g0 := hr.out.cell (i := k) (v := .int .u8 0) (by simp [cells, h16])
      have f0 := hr.out.frozen k
      have hlt := hr.out.lt
      by_cases h15 : k < 15
      · have hd2 : decide (k < 15) = true := by simpa using h15
        have HOne := Lib.hid (one_byte k h16)
        go_wp2_with (at_builtin; refine wpList_append_bytes rfl (.tmp 14) (.tmp 17) rfl (w.heap.size + 1) A n c (upTo n) rfl ?ho (some ⟨_, 0, none⟩) 1 1 [(k : Int)] rfl ?hb rfl (by omega) ?_; rotate_right; intro A2 c2 w2 ho2 hbel2; have HO2 := Lib.hid ho2; clear ho2)
        case ho => exact (ho.out.far (by simp) _).alloc _
        case hb => exact Blk.bytes (l := [(k : Int)]) (T := 5) (Blk.new_at _ [.int .u8 (k : Int)] _ _ (by simp)) HOne.out
        go_roundw
        case rel =>
          have hnk : n = k := by have := hn.out; omega
          subst hnk
          refine ⟨n + 1, A2, n + 1, c2, by omega, Lib.hid (by omega), by omega, by go_num, rfl, ?_, ?_, ?_⟩
          · rw [upTo_succ]; exact Lib.hid HO2.out
          · rw [← cells_set n h16]; exact Lib.hid (((hr.out.set_ _ _).alloc _).below hbel2 (by simp))
          · exact Lib.hid (((hbel.out.setCell (Nat.le_refl _) _).alloc (by simpa using hbel.out.size) _).trans (hbel2.mono (by simp)))
        case measure => simp [intOf]; omega
      · have hd2 : decide (k < 15) = false := by simpa using h15
        go_wp2
        go_roundw
        case rel =>
          refine ⟨k + 1, A, n, c, by omega, Lib.hid (by have := hn.out; omega), hn15, by go_num, rfl, ?_, ?_, ?_⟩
          · exact Lib.hid (ho.out.far (by simp) _)
          · rw [← cells_set k h16]; exact Lib.hid (hr.out.set_ _ _)
          · exact Lib.hid (hbel.out.setCell (Nat.le_refl _) _)
        case measure => simp [intOf]; omega
    · obtain rfl : k = 16 := by omega
      have hd : decide (16 < 16) = false := rfl
      have hn' : n = 15 := by have := hn.out; omega
      subst hn'
      have R := hr.out
      have g0 := R.cell (i := 0) (v := .int .u8 0) rfl
      have g1 := R.cell (i := 1) (v := .int .u8 1) rfl
      have g2 := R.cell (i := 2) (v := .int .u8 2) rfl
      have g3 := R.cell (i := 3) (v := .int .u8 3) rfl
      have g4 := R.cell (i := 4) (v := .int .u8 4) rfl
      have g5 := R.cell (i := 5) (v := .int .u8 5) rfl
      have g6 := R.cell (i := 6) (v := .int .u8 6) rfl
      have g7 := R.cell (i := 7) (v := .int .u8 7) rfl
      have g8 := R.cell (i := 8) (v := .int .u8 8) rfl
      have g9 := R.cell (i := 9) (v := .int .u8 9) rfl
      have g10 := R.cell (i := 10) (v := .int .u8 10) rfl
      have g11 := R.cell (i := 11) (v := .int .u8 11) rfl
      have g12 := R.cell (i := 12) (v := .int .u8 12) rfl
      have g13 := R.cell (i := 13) (v := .int .u8 13) rfl
      have g14 := R.cell (i := 14) (v := .int .u8 14) rfl
      have g15 := R.cell (i := 15) (v := .int .u8 15) rfl
      have HS := Lib.hid fun W (hW : Below wr.heap.size wr W) => sip_first16 A c W (ho.out.bytes.below hW (Nat.le_refl _))
      have hz := hr.out.lt
      have HRR := Lib.hid R
      clear R
      go_wp2_with (first | (go_at_call 12; (with_reducible refine (look_none _).mono ?_); rintro e w2 ⟨rfl, hb2⟩; have R2 := HRR.out.below hb2 hz; have q0 := R2.cell (i := 0) (v := .int .u8 0) rfl; have q1 := R2.cell (i := 1) (v := .int .u8 1) rfl; have q2 := R2.cell (i := 2) (v := .int .u8 2) rfl; have q3 := R2.cell (i := 3) (v := .int .u8 3) rfl; have q4 := R2.cell (i := 4) (v := .int .u8 4) rfl; have q5 := R2.cell (i := 5) (v := .int .u8 5) rfl; have q6 := R2.cell (i := 6) (v := .int .u8 6) rfl; have q7 := R2.cell (i := 7) (v := .int .u8 7) rfl; have q8 := R2.cell (i := 8) (v := .int .u8 8) rfl; have q9 := R2.cell (i := 9) (v := .int .u8 9) rfl; have q10 := R2.cell (i := 10) (v := .int .u8 10) rfl; have q11 := R2.cell (i := 11) (v := .int .u8 11) rfl; have q12 := R2.cell (i := 12) (v := .int .u8 12) rfl; have q13 := R2.cell (i := 13) (v := .int .u8 13) rfl; have q14 := R2.cell (i := 14) (v := .int .u8 14) rfl; have q15 := R2.cell (i := 15) (v := .int .u8 15) rfl; clear R2) | (go_at_call 14; (with_reducible refine (HS.out _ hb2).mono ?_); rintro e w3 ⟨rfl, hb3⟩))
      go_ret
      have k2 := hbel.out.trans (hb2.mono hbel.out.size)
      exact ⟨rfl, k2.trans (hb3.mono k2.size)⟩
end Go.Proofs.Ytmkpeidgimgdlaa.Sf
