/-
  The walk of FieldLists.
-/
import Derived.Test.YtmimfojlcihhaaaPr2
import Derived.Test.YtmimfojlcihhaaaPv
import Derived.Test.YtmimfojlcihhaaaPm
namespace Go.Proofs.Ytmimfojlcihhaaa.FieldListsW
open Go.ChangeShapes Go.WideShapes Go.ChangeAt Go.RowKit
open Bytes8 Blk8 Own8 OwnE Fa Fb Fc Fo Ff In8 Pr8 Pa8 Pb8 Pv8 Pl8 Pq8 Pm8 Pr2
set_option linter.unusedVariables false
set_option linter.unusedSimpArgs false

theorem listL_len (l : List PR) : (listL l).length ≤ l.length := by
  unfold listL; split
  · rw [Ps8.sortP_len]; exact ded_len l
  · exact Nat.zero_le _

theorem walk_long (a b : Option Addr) (n k c d : Nat) (nm : List Int) (w : World) (h : 40 < n ∨ 40 < k ∨ 100 < nm.length) :
    Calls Try.prog 4 #[.slice a n c, .slice b k d, .string (T nm)] w fun e w' => e = .returned (.bool true) ∧ Below w.heap.size w w' := by
  have hs := T_size nm
  generalize T nm = S at *
  generalize nm.length = ln at *
  have hc : 40 < n ∨ ¬ 40 < n ∧ 40 < k ∨ ¬ 40 < n ∧ ¬ 40 < k ∧ 100 < ln := by omega
  clear h
  rcases hc with h1 | ⟨h1, h2⟩ | ⟨h1, h2, h3⟩
  all_goals
    go_enter Try.func4, Try.ntmps4
    go_wp2_with (go_at_call 8; (with_reducible refine (first_any _).mono ?_); rintro e w1 ⟨rfl, hbel⟩; have B1 := Lib.hid hbel; clear hbel)
    go_ret
    exact ⟨rfl, B1.out⟩

set_option maxHeartbeats 8000000 in
set_option maxRecDepth 100000 in
theorem walk_main (a b : Option Addr) (l m : List PR) (n k c d : Nat) (nm : List Int) (w : World) (hP : Prs w a l) (hQ : Prs w b m) (hL : l.length = n) (hM : m.length = k) (hA : AllB nm) (h1 : n ≤ 40) (h2 : k ≤ 40) (h3 : nm.length ≤ 100) :
    Calls Try.prog 4 #[.slice a n c, .slice b k d, .string (T nm)] w fun e w' => e = .returned (.bool true) ∧ Below w.heap.size w w' := by
  have hs := T_size nm
  have HP := Lib.hid hP
  have HQ := Lib.hid hQ
  have H1 := Lib.hid fun w (h : Prs w a l) => list_any a l n c w h hL (by omega)
  have H2 := Lib.hid fun w (h : Prs w a l) => rlist_any a l n c w h hL (by omega)
  unfold Listed at H1 H2
  have hll := listL_len l
  have H3 := Lib.hid fun A B c d w (h : Prs w A (listL l)) (k : Prs w B (listL l)) => spairs_any A B (listL l) (listL l) (listL l).length (listL l).length c d w h k rfl rfl (by omega) (by omega)
  rw [decide_eq_true (by rfl : listL l = listL l)] at H3
  have H4 := Lib.hid fun w (h : Prs w a l) => values_any a l n c nm w h hL (by omega) hA
  have H5 := Lib.hid fun w (h : Prs w a l) => rvalues_any a l n c nm w h hL (by omega) hA
  unfold Vals at H4 H5
  have hvl := valsL_len l n nm
  rw [List.take_of_length_le (by omega)] at hvl
  have H6 := Lib.hid fun A B c d w (h : Txts w A (valsL l nm)) (k : Txts w B (valsL l nm)) => stexts_yes A B (valsL l nm) (valsL l nm).length c d w h k rfl (by omega)
  have H7 := Lib.hid fun w (h : Prs w a l) (h' : Prs w b m) => same_pairs a b l m n k c d w h h' hL hM (by omega) (by omega)
  have H8 := Lib.hid fun w (h : Prs w a l) (h' : Prs w b m) => rwithin_any a b l m n k c d w h h' hL hM (by omega) (by omega)
  have H9 := Lib.hid fun w (h : Prs w a l) (h' : Prs w b m) => rwithin_any b a m l k n d c w h' h hM hL (by omega) (by omega)
  clear hP hQ hL hM hA
  generalize (listL l).length = lx at *
  generalize listE l = E at *
  generalize (valsL l nm).length = lv at *
  generalize nm.length = ln at *
  generalize T nm = S at *
  generalize subB m l = z2 at *
  cases hz : subB l m with
  | false =>
    rw [hz] at H7 H8
    clear hz
    go_enter Try.func4, Try.ntmps4
    go_wp2_with (first
      | (go_at_call 8; (with_reducible refine (first_any _).mono ?_); rintro e w1 ⟨rfl, hb⟩; have P1 := Lib.hid (HP.out.below hb); have Q1 := Lib.hid (HQ.out.below hb); have B1 := Lib.hid hb; clear hb)
      | (go_at_call 20; (with_reducible refine (H1.out _ P1.out).mono ?_); rintro e w2 ⟨A2, c2, rfl, hx, hb⟩; have P2 := Lib.hid (P1.out.below hb); have Q2 := Lib.hid (Q1.out.below hb); have B2 := Lib.hid (B1.out.trans (hb.mono B1.out.size)); have X2 := Lib.hid hx; clear hx hb)
      | (go_at_call 21; (with_reducible refine (H2.out _ P2.out).mono ?_); rintro e w3 ⟨A3, c3, rfl, hy, hb⟩; have P3 := Lib.hid (P2.out.below hb); have Q3 := Lib.hid (Q2.out.below hb); have B3 := Lib.hid (B2.out.trans (hb.mono B2.out.size)); have Y3 := Lib.hid hy; have X3 := Lib.hid (X2.out.below hb); clear hy hb)
      | (go_at_call 22; (with_reducible refine (H3.out A2 A3 c2 c3 _ X3.out Y3.out).mono ?_); rintro e w4 ⟨rfl, hb⟩; have P4 := Lib.hid (P3.out.below hb); have Q4 := Lib.hid (Q3.out.below hb); have B4 := Lib.hid (B3.out.trans (hb.mono B3.out.size)); clear hb)
      | (go_at_call 24; (with_reducible refine (H4.out _ P4.out).mono ?_); rintro e w5 ⟨A5, c5, rfl, hx, hb⟩; have P5 := Lib.hid (P4.out.below hb); have Q5 := Lib.hid (Q4.out.below hb); have B5 := Lib.hid (B4.out.trans (hb.mono B4.out.size)); have U5 := Lib.hid hx; clear hx hb)
      | (go_at_call 25; (with_reducible refine (H5.out _ P5.out).mono ?_); rintro e w6 ⟨A6, c6, rfl, hy, hb⟩; have P6 := Lib.hid (P5.out.below hb); have Q6 := Lib.hid (Q5.out.below hb); have B6 := Lib.hid (B5.out.trans (hb.mono B5.out.size)); have V6 := Lib.hid hy; have U6 := Lib.hid (U5.out.below hb); clear hy hb)
      | (go_at_call 23; (with_reducible refine (H6.out A5 A6 c5 c6 _ U6.out V6.out).mono ?_); rintro e w7 ⟨rfl, hb⟩; have P7 := Lib.hid (P6.out.below hb); have Q7 := Lib.hid (Q6.out.below hb); have B7 := Lib.hid (B6.out.trans (hb.mono B6.out.size)); clear hb)
      | (go_at_call 26; (with_reducible refine (H7.out _ P7.out Q7.out).mono ?_); rintro e w8 ⟨rfl, hb⟩; have P8 := Lib.hid (P7.out.below hb); have Q8 := Lib.hid (Q7.out.below hb); have B8 := Lib.hid (B7.out.trans (hb.mono B7.out.size)); clear hb)
      | (go_at_call 27; (with_reducible refine (H8.out _ P8.out Q8.out).mono ?_); rintro e w9 ⟨rfl, hb⟩; have P9 := Lib.hid (P8.out.below hb); have Q9 := Lib.hid (Q8.out.below hb); have B9 := Lib.hid (B8.out.trans (hb.mono B8.out.size)); clear hb))
    go_ret
    exact ⟨ret_bool (by simp), B9.out⟩
  | true =>
    rw [hz] at H7 H8
    clear hz
    go_enter Try.func4, Try.ntmps4
    go_wp2_with (first
      | (go_at_call 8; (with_reducible refine (first_any _).mono ?_); rintro e w1 ⟨rfl, hb⟩; have P1 := Lib.hid (HP.out.below hb); have Q1 := Lib.hid (HQ.out.below hb); have B1 := Lib.hid hb; clear hb)
      | (go_at_call 20; (with_reducible refine (H1.out _ P1.out).mono ?_); rintro e w2 ⟨A2, c2, rfl, hx, hb⟩; have P2 := Lib.hid (P1.out.below hb); have Q2 := Lib.hid (Q1.out.below hb); have B2 := Lib.hid (B1.out.trans (hb.mono B1.out.size)); have X2 := Lib.hid hx; clear hx hb)
      | (go_at_call 21; (with_reducible refine (H2.out _ P2.out).mono ?_); rintro e w3 ⟨A3, c3, rfl, hy, hb⟩; have P3 := Lib.hid (P2.out.below hb); have Q3 := Lib.hid (Q2.out.below hb); have B3 := Lib.hid (B2.out.trans (hb.mono B2.out.size)); have Y3 := Lib.hid hy; have X3 := Lib.hid (X2.out.below hb); clear hy hb)
      | (go_at_call 22; (with_reducible refine (H3.out A2 A3 c2 c3 _ X3.out Y3.out).mono ?_); rintro e w4 ⟨rfl, hb⟩; have P4 := Lib.hid (P3.out.below hb); have Q4 := Lib.hid (Q3.out.below hb); have B4 := Lib.hid (B3.out.trans (hb.mono B3.out.size)); clear hb)
      | (go_at_call 24; (with_reducible refine (H4.out _ P4.out).mono ?_); rintro e w5 ⟨A5, c5, rfl, hx, hb⟩; have P5 := Lib.hid (P4.out.below hb); have Q5 := Lib.hid (Q4.out.below hb); have B5 := Lib.hid (B4.out.trans (hb.mono B4.out.size)); have U5 := Lib.hid hx; clear hx hb)
      | (go_at_call 25; (with_reducible refine (H5.out _ P5.out).mono ?_); rintro e w6 ⟨A6, c6, rfl, hy, hb⟩; have P6 := Lib.hid (P5.out.below hb); have Q6 := Lib.hid (Q5.out.below hb); have B6 := Lib.hid (B5.out.trans (hb.mono B5.out.size)); have V6 := Lib.hid hy; have U6 := Lib.hid (U5.out.below hb); clear hy hb)
      | (go_at_call 23; (with_reducible refine (H6.out A5 A6 c5 c6 _ U6.out V6.out).mono ?_); rintro e w7 ⟨rfl, hb⟩; have P7 := Lib.hid (P6.out.below hb); have Q7 := Lib.hid (Q6.out.below hb); have B7 := Lib.hid (B6.out.trans (hb.mono B6.out.size)); clear hb)
      | (go_at_call 26; (with_reducible refine (H7.out _ P7.out Q7.out).mono ?_); rintro e w8 ⟨rfl, hb⟩; have P8 := Lib.hid (P7.out.below hb); have Q8 := Lib.hid (Q7.out.below hb); have B8 := Lib.hid (B7.out.trans (hb.mono B7.out.size)); clear hb)
      | (go_at_call 27; (with_reducible refine (H8.out _ P8.out Q8.out).mono ?_); rintro e w9 ⟨rfl, hb⟩; have P9 := Lib.hid (P8.out.below hb); have Q9 := Lib.hid (Q8.out.below hb); have B9 := Lib.hid (B8.out.trans (hb.mono B8.out.size)); clear hb)
      | (go_at_call 27; (with_reducible refine (H9.out _ P9.out Q9.out).mono ?_); rintro e w10 ⟨rfl, hb⟩; have P10 := Lib.hid (P9.out.below hb); have Q10 := Lib.hid (Q9.out.below hb); have B10 := Lib.hid (B9.out.trans (hb.mono B9.out.size)); clear hb))
    go_ret
    exact ⟨ret_bool (by simp), B10.out⟩

theorem walk (a0 : Option Addr) (len0 cap0 : Nat) (N0 V0 : Nat → List Int) (a1 : Option Addr) (len1 cap1 : Nat) (N1 V1 : Nat → List Int) (a2 : ByteArray) (w : World) (w0 : InPairs w a0 len0 N0 V0 ∧ len0 ≤ cap0 ∧ cap0 ≤ maxLen) (w1 : InPairs w a1 len1 N1 V1 ∧ len1 ≤ cap1 ∧ cap1 ≤ maxLen) (w2 : a2.size ≤ maxLen) :
    Calls Try.prog 4 #[.slice a0 len0 cap0, .slice a1 len1 cap1, .string a2] w fun e w' => e = .returned (.bool true) ∧ Below w.heap.size w w' := by
  obtain ⟨nm, rfl, hA⟩ := text_of (s := a2)
  by_cases h : 40 < len0 ∨ 40 < len1 ∨ 100 < nm.length
  · exact walk_long a0 a1 len0 len1 cap0 cap1 nm w h
  · exact walk_main a0 a1 _ _ len0 len1 cap0 cap1 nm w (Prs.of_in w0.1) (Prs.of_in w1.1) (by simp) (by simp) hA (by omega) (by omega) (by omega)
end Go.Proofs.Ytmimfojlcihhaaa.FieldListsW
