/-
  The walk of SectSafe: at any bytes and any numbers the law returns true, and nothing that was there is written.
-/
import Derived.Test.YtknkdppaalmknaaSfg
import Derived.Test.YtknkdppaalmknaaKeep
namespace Go.Proofs.Ytknkdppaalmknaa.SectSafeW
open Go.ChangeShapes Go.WideShapes Go.ChangeAt Go.RowKit
open Bytes8 Blk8 Own8 OwnM OwnA OwnE Kf Ta Fa Sfa Sfb Sfc Sfd Sfe Sfg Rows2 Do8 Numb Keep8
set_option linter.unusedVariables false
set_option linter.unusedSimpArgs false

theorem wc_first (b : List Int) (h : b.length ≤ 32768) : wcL [] 0 b = b := by
  have e : wcE 0 b.length = 0 := by unfold wcE; rw [if_neg (by omega), if_neg (by omega)]
  unfold wcL
  rw [e, if_pos rfl]
  by_cases h0 : b.length = 0
  · obtain rfl : b = [] := List.eq_nil_of_length_eq_zero h0
    rfl
  · refine (wr_is (by omega) (by simp) fun i hi => ?_).symm
    show b.getD i 0 = if (0 : Int).toNat ≤ i ∧ i < (0 : Int).toNat + b.length then b.getD (i - (0 : Int).toNat) 0 else _
    rw [if_pos ⟨Nat.zero_le _, by simpa using hi⟩]
    rfl
theorem wr_keeps (b s : List Int) (p : Nat) (h : b.length ≤ p) : b.length ≤ (wr b p s).length ∧ (wr b p s).length ≤ max b.length (p + s.length) ∧ ∀ i, i < b.length → (wr b p s).getD i 0 = b.getD i 0 := by
  by_cases h0 : s.length = 0
  · obtain rfl : s = [] := List.eq_nil_of_length_eq_zero h0
    rw [wr_nil]
    exact ⟨Nat.le_refl _, by omega, fun _ _ => rfl⟩
  · have hl := wr_length (now := b) (p := p) (show 0 < s.length by omega)
    exact ⟨by omega, by omega, fun i hi => by rw [wr_getD (by omega), if_neg (by omega)]⟩

set_option maxRecDepth 100000 in
set_option maxHeartbeats 1000000 in
theorem walk_long (a : Option Addr) (len cap : Nat) (a1 : Int) (a2 : Option Addr) (len2 cap2 : Nat) (a3 : Int) (w : World) (h : 2000 < len ∨ 2000 < len2) (hl : len ≤ 9223372036854775807) (hl2 : len2 ≤ 9223372036854775807) :
    Calls Try.prog 5 #[.slice a len cap, .int .i64 a1, .slice a2 len2 cap2, .int .u64 a3] w fun e w' => e = .returned (.bool true) ∧ Below w.heap.size w w' := by
  by_cases h : 2000 < len
  · have hd : (2000 : Int) < (len : Int) := by omega
    have hd1 : decide ((2000 : Int) < (len : Int)) = true := by simp; omega
    go_enter Try.func5, Try.ntmps5
    go_wp2_with (go_at_call 7; (with_reducible refine (first_any _).mono ?_); rintro e w1 ⟨rfl, hbel⟩)
    go_ret
    exact ⟨rfl, hbel⟩
  · have hd1 : decide ((2000 : Int) < (len : Int)) = false := by simp; omega
    have hd2 : decide ((2000 : Int) < (len2 : Int)) = true := by simp; omega
    go_enter Try.func5, Try.ntmps5
    go_wp2_with (go_at_call 7; (with_reducible refine (first_any _).mono ?_); rintro e w1 ⟨rfl, hbel⟩)
    go_ret
    exact ⟨rfl, hbel⟩

set_option maxRecDepth 100000 in
set_option maxHeartbeats 2000000 in
theorem walk_in (a : Option Addr) (len cap : Nat) (a1 : Int) (a2 : Option Addr) (len2 cap2 : Nat) (n t : Nat) (l s : List Int) (w : World) (hb : Bytes w a l) (hL : l.length = len) (hb2 : Bytes w a2 s) (hL2 : s.length = len2) (h1 : len ≤ 2000) (h2 : len2 ≤ 2000) (ht : numBelow a1 3000 = t) (ht2 : t < 3000) (hn : n < 18446744073709551616) :
    Calls Try.prog 5 #[.slice a len cap, .int .i64 a1, .slice a2 len2 cap2, .int .u64 (n : Int)] w fun e w' => e = .returned (.bool true) ∧ Below w.heap.size w w' := by
  have HT := Lib.hid ht
  have HL := Lib.hid hL
  have HL2 := Lib.hid hL2
  have HB := Lib.hid fun (W : World) (hW : Below w.heap.size w W) => hb.below hW (Nat.le_refl _)
  have HB2 := Lib.hid fun (W : World) (hW : Below w.heap.size w W) => hb2.below hW (Nat.le_refl _)
  have low : ∀ (A : Option Addr) (m : List Int), Bytes w A m → ∀ (k off : Nat), A = some ⟨k, off, none⟩ → 0 < m.length → k < w.heap.size := fun A m hb k off e hl => by
    obtain ⟨b', off', e', hlt, _⟩ := hb.2 0 hl
    rw [e] at e'; simp at e'; obtain ⟨rfl, rfl⟩ := e'; exact hlt
  have Hl := Lib.hid (low a l hb)
  have Hl2 := Lib.hid (low a2 s hb2)
  obtain ⟨p, hp⟩ : ∃ p, p = len + t := ⟨_, rfl⟩
  have ep : (len : Int) + (t : Int) = (p : Int) := by omega
  have e0 : wcE 0 len = 0 := by unfold wcE; rw [if_neg (by omega), if_neg (by omega)]
  have e1 : wcE (p : Int) len2 = 0 := by unfold wcE; rw [if_neg (by omega), if_neg (by omega)]
  have HX1 := Lib.hid (wc_first l (by omega))
  have HX2 := Lib.hid (show wcL l (p : Int) s = wr l p s by unfold wcL; rw [hL2, e1, if_pos rfl]; rfl)
  obtain ⟨k1, k2, k3⟩ := wr_keeps l s p (by omega)
  obtain ⟨X, hX⟩ : ∃ X, crash (wr l p s) l (kept 64 fun i => n.testBit i) = X := ⟨_, rfl⟩
  have HX := Lib.hid hX
  have x1 : len ≤ X.length := by rw [← hX, ← hL]; exact crash_len_ge k1 (Nat.le_refl _)
  have x2 : X.length ≤ max len (p + len2) := by
    have := crash_len_le (wr l p s) l (kept 64 fun i => n.testBit i)
    rw [hX] at this
    omega
  have HR := Lib.hid (show rdL X 0 (len : Int) = l by
    have h := crash_keeps (b := l) (kp := kept 64 fun i => n.testBit i) k1 k3
    rw [hX, hL] at h
    unfold rdL
    rw [if_neg (by omega), if_neg (by omega)]
    exact h)
  have er : rdE X.length 0 (len : Int) = 0 := by unfold rdE; rw [if_neg (by omega), if_neg (by omega)]
  obtain ⟨N, hN⟩ : ∃ N, N = X.length := ⟨_, rfl⟩
  have HN := Lib.hid hN
  rw [← hN] at er x1 x2
  have hd1 : decide ((2000 : Int) < (len : Int)) = false := by simp; omega
  have hd2 : decide ((2000 : Int) < (len2 : Int)) = false := by simp; omega
  obtain ⟨q, hq⟩ : ∃ q, q = p + len2 := ⟨_, rfl⟩
  have eq1 : (p : Int) + (len2 : Int) = (q : Int) := by omega
  have hmx : max (len : Int) (q : Int) = (q : Int) := by omega
  have hqN : (N : Int) ≤ (q : Int) := by omega
  have hlq : (len : Int) ≤ (q : Int) := by omega
  have hNl : (len : Int) ≤ (N : Int) := by omega
  have hqb : q ≤ 8000 := by omega
  have hpb : p ≤ 5000 := by omega
  clear hb hL hb2 hL2 ht low hX hN k1 k2 k3 x1 x2
  clear hp hq
  go_enter Try.func5, Try.ntmps5
  go_wp2_with (first
    | (go_at_call 7; (with_reducible refine (first_any _).mono ?_); rintro e w1 ⟨rfl, hb1⟩)
    | (go_at_call 8; (with_reducible refine (new_b w1 w.heap.size hb1.size).mono ?_); rintro e w2 ⟨rfl, hP, hb2⟩; have HP := Lib.hid hP; have Hb2 := Lib.hid (hb1.trans hb2); clear hP)
    | (go_at_call 9; (with_reducible refine (write_b w2 w.heap.size _ [] [] 0 a len cap l HP.out (HB.out _ Hb2.out) HL.out (by unfold maxLen; omega) Hl.out (by omega) (by omega)).mono ?_); rintro e w3 ⟨rfl, hP3, hb3⟩; rw [HX1.out] at hP3; rw [e0]; have HP3 := Lib.hid hP3; have Hb3 := Lib.hid (Hb2.out.trans hb3); clear hP3)
    | (go_at_call 11; (with_reducible refine (sync_b w3 w.heap.size _ _ _ HP3.out).mono ?_); rintro e w4 ⟨rfl, hP4, hb4⟩; have HP4 := Lib.hid hP4; have Hb4 := Lib.hid (Hb3.out.trans hb4); clear hP4)
    | (go_at_call 26; (with_reducible refine (number_nat a1 3000 t _ (by decide) (by decide) HT.out).mono ?_); rintro e w' ⟨rfl, rfl⟩)
    | (go_at_call 9; (with_reducible refine (write_b w4 w.heap.size _ l l (p : Int) a2 len2 cap2 s HP4.out (HB2.out _ Hb4.out) HL2.out (by unfold maxLen; omega) Hl2.out (by omega) (by omega)).mono ?_); rintro e w5 ⟨rfl, hP5, hb5⟩; rw [HX2.out] at hP5; rw [e1]; have HP5 := Lib.hid hP5; have Hb5 := Lib.hid (Hb4.out.trans hb5); clear hP5)
    | (go_at_call 27; (with_reducible refine (keep_any n hn w5).mono ?_); rintro e w6 ⟨A6, c6, rfl, ho6, hb6⟩; have HK6 := Lib.hid (keep_bools ho6); have HP6 := Lib.hid (HP5.out.below hb6); have hs5 := Hb5.out.size; have Hb6 := Lib.hid (Hb5.out.trans (hb6.mono hs5)); clear ho6 hs5)
    | (go_at_call 13; (with_reducible refine (crash_b w6 w.heap.size _ _ _ A6 64 c6 _ HP6.out HK6.out (by decide)).mono ?_); rintro e w7 ⟨rfl, hP7, hb7⟩; rw [HX.out] at hP7; have HP7 := Lib.hid hP7; have Hb7 := Lib.hid (Hb6.out.trans hb7); clear hP7)
    | (go_at_call 17; (with_reducible refine (read_b w7 w.heap.size _ X X 0 (len : Int) HP7.out (by omega) (by omega) (by omega) (by omega)).mono ?_); rintro e w8 ⟨A8, c8, rfl, hB8, hb8⟩; rw [HR.out] at hB8 ⊢; rw [← HN.out, er, HL.out]; have HB8 := Lib.hid hB8; have HP8 := Lib.hid (HP7.out.below hb8); have hs7 := Hb7.out.size; have Hb8 := Lib.hid (Hb7.out.trans (hb8.mono hs7)); clear hB8 hs7)
    | (go_at_call 19; (with_reducible refine (same_self A8 a l len c8 len cap w8 HB8.out (HB.out _ Hb8.out) HL.out HL.out).mono ?_); rintro e w' ⟨rfl, rfl⟩)
    | (go_at_call 20; (with_reducible refine (len_b w8 _ _ _ _ HP8.out).mono ?_); rintro e w' ⟨rfl, rfl⟩; rw [← HN.out]))
  all_goals
    go_ret
    refine ⟨?_, Hb8.out⟩
    first
      | rfl
      | exact congrArg (fun b => Ending.returned (.bool b)) (show decide (N ≤ len) = true from decide_eq_true (by omega))

theorem walk (a0 : Option Addr) (len0 cap0 : Nat) (z0 : List Int) (a1 : Int) (a2 : Option Addr) (len2 cap2 : Nat) (z2 : List Int) (a3 : Int) (w : World) (w0 : IsRow .u8 w a0 len0 cap0 z0) (w1 : (Lit.int .i64 a1).wf = true) (w2 : IsRow .u8 w a2 len2 cap2 z2) (w3 : (Lit.int .u64 a3).wf = true) :
    Calls Try.prog 5 #[.slice a0 len0 cap0, .int .i64 a1, .slice a2 len2 cap2, .int .u64 a3] w fun e w' => e = .returned (.bool true) ∧ Below w.heap.size w w' := by
  obtain ⟨v0, v1⟩ := bounds_u64 w3
  obtain ⟨n, rfl⟩ := Int.eq_ofNat_of_zero_le v0
  obtain ⟨hb, hL, hcap, hmax, _⟩ := w0.bytes
  obtain ⟨hb2, hL2, hcap2, hmax2, _⟩ := w2.bytes
  generalize z0.take len0 = l at hb hL
  generalize z2.take len2 = s at hb2 hL2
  unfold maxLen at hmax hmax2
  by_cases h : 2000 < len0 ∨ 2000 < len2
  · exact walk_long a0 len0 cap0 a1 a2 len2 cap2 _ w h (by omega) (by omega)
  · obtain ⟨t, ht, ht2⟩ := below_nat a1 3000 (by decide)
    exact walk_in a0 len0 cap0 a1 a2 len2 cap2 n t l s w hb hL hb2 hL2 (by omega) (by omega) ht.out (by omega) (by omega)
end Go.Proofs.Ytknkdppaalmknaa.SectSafeW
