/-
  Texts beneath the proof, one behind the other.
-/
import Derived.Sort.Grow
import Derived.Laws.IdiomStrings
import Derived.Test.YtldkmobncmfodaaGreatQ3
import Derived.Test.YtldkmobncmfodaaGreatQ20
import Derived.Test.YtldkmobncmfodaaGreatQ1
import Derived.Test.YtldkmobncmfodaaGreatQ4
import Derived.Test.YtldkmobncmfodaaGreatQ2

/-
  What the small functions of package field answer, and the document's own: names, flaws, payloads.
-/
namespace Go.Proofs.YtldkmobncmfodaaGreat.Fb
open Go.ChangeShapes Go.WideShapes Go.ChangeAt Go.RowKit
open Bytes8 Blk8 Fa
set_option linter.unusedVariables false
set_option maxRecDepth 100000
set_option linter.unusedSimpArgs false

theorem rname_any (l : List Int) (hA : AllB l) (hmax : l.length ≤ 9223372036854775807) (w : World) : Calls Tryz.prog 176 #[.string (T l)] w fun e w' => e = .returned (.bool (nmB l)) ∧ w = w' := by
  have hsz := T_size l
  have HI := Lib.hid (index_at l hA)
  have HC := Lib.hid fun j => hA.at_ j
  /- What keeps a name from being one, place by place. -/
  have HN := Lib.hid (fun j (hj : j < l.length) (h : okC (l.getD j 0) = false ∨ j = 0 ∧ isDig (l.getD j 0) = true) => (by
    rcases h with h | ⟨rfl, h⟩
    · exact nmB_no hj h
    · unfold nmB; rw [h]; simp : nmB l = false))
  have HE := Lib.hid (fun (h : ∀ j, j < l.length → okC (l.getD j 0) = true ∧ (j = 0 → isDig (l.getD j 0) = false)) => (by
    rcases Nat.eq_zero_or_pos l.length with h0 | h0
    · obtain rfl := List.eq_nil_of_length_eq_zero h0
      rfl
    · unfold nmB
      rw [(h 0 h0).2 rfl, all_of fun j hj => (h j hj).1]
      simp : nmB l = (decide (1 ≤ l.length) && decide (l.length ≤ 64))))
  generalize hL : l.length = len at *
  have HL := Lib.hid hL
  clear hL
  generalize T l = S at *
  go_enter Tryz.func176, Tryz.ntmps176
  go_wp2
  go_loop [3] (fun i => ∃ k : Nat, k ≤ len ∧ i = .int .i64 (k : Int) ∧ Hid (∀ j, j < k → okC (l.getD j 0) = true ∧ (j = 0 → isDig (l.getD j 0) = false))) (fun i => len - (intOf i).toNat)
  case atStart => exact ⟨0, by omega, rfl, Lib.hid fun j hj => absurd hj (by omega)⟩
  case round =>
    obtain ⟨k, hk, rfl, hall⟩ := hrel
    rcases Nat.lt_or_ge k len with hlt | hge
    · have hidx := HI.out k (by omega)
      have hin : (k : Int) < (len : Int) := by omega
      obtain ⟨c1, c2⟩ := HC.out k
      have HNk := Lib.hid (HN.out k (by omega))
      have HKk := Lib.hid (fun (h : okC (l.getD k 0) = true ∧ (k = 0 → isDig (l.getD k 0) = false)) j (hj : j < k + 1) => (by
        rcases Nat.lt_or_ge j k with h1 | h1
        · exact hall.out j h1
        · obtain rfl : j = k := by omega
          exact h : okC (l.getD j 0) = true ∧ (j = 0 → isDig (l.getD j 0) = false)))
      clear hall
      generalize l.getD k 0 = c at *
      have hgo : ((48 ≤ c ∧ c ≤ 57 ∧ 0 < k) ∨ (57 < c ∧ 65 ≤ c ∧ c ≤ 90) ∨ c = 95) ∧ (okC c = true ∧ (k = 0 → isDig c = false)) ∨ (c < 48 ∨ (48 ≤ c ∧ c ≤ 57 ∧ k = 0) ∨ (57 < c ∧ c < 65) ∨ (90 < c ∧ c ≠ 95)) ∧ (okC c = false ∨ k = 0 ∧ isDig c = true) := by
        simp only [okC, isDig, isLet, Bool.or_eq_true, Bool.and_eq_true, decide_eq_true_eq, Bool.or_eq_false_iff, Bool.and_eq_false_iff, decide_eq_false_iff_not]
        omega
      rcases hgo with ⟨hd, hok⟩ | ⟨hd, hok⟩
      · have HK2 := Lib.hid (HKk.out hok)
        clear HNk HKk hok
        rcases hd with ⟨d1, d2, d3⟩ | ⟨d1, d2, d3⟩ | rfl
        all_goals
          go_wp2
          go_round
          case rel => exact ⟨k + 1, by omega, by go_num, HK2⟩
          case measure => simp [intOf]; omega
      · have HN2 := Lib.hid (HNk.out hok)
        clear HKk HNk hok
        rcases hd with d1 | ⟨d1, d2, d3⟩ | ⟨d1, d2⟩ | ⟨d1, d2⟩
        · go_wp2
          go_ret
          exact ⟨ret_bool HN2.out.symm, rfl⟩
        · have hk0 : ¬ (0 : Int) < (k : Int) := by omega
          have hk1 : ¬ 0 < k := by omega
          clear d3
          go_wp2
          go_ret
          exact ⟨ret_bool HN2.out.symm, rfl⟩
        · go_wp2
          go_ret
          exact ⟨ret_bool HN2.out.symm, rfl⟩
        · have h95 : (c == 95) = false := by simpa using d2
          clear d2
          go_wp2
          go_ret
          exact ⟨ret_bool HN2.out.symm, rfl⟩
    · obtain rfl : k = len := by omega
      have HYk := Lib.hid (HE.out (fun j hj => hall.out j (by have := HL.out; omega)))
      clear hall
      have h3 : k = 0 ∨ (1 ≤ k ∧ k ≤ 64) ∨ 64 < k := by omega
      rcases h3 with rfl | ⟨h1, h2⟩ | h1
      · have HY2 := Lib.hid (HYk.out.trans (show (decide (1 ≤ 0) && decide (0 ≤ 64)) = false from rfl))
        clear HYk
        go_wp2
        go_ret
        exact ⟨ret_bool HY2.out.symm, rfl⟩
      · have HY2 := Lib.hid (HYk.out.trans (show (decide (1 ≤ k) && decide (k ≤ 64)) = true by rw [decide_eq_true h1, decide_eq_true h2]; rfl))
        clear HYk
        have hdd : decide ((k : Int) ≤ 64) = true := by simp; omega
        go_wp2
        go_ret
        exact ⟨ret_bool HY2.out.symm, rfl⟩
      · have HY2 := Lib.hid (HYk.out.trans (show (decide (1 ≤ k) && decide (k ≤ 64)) = false by rw [decide_eq_false (show ¬ k ≤ 64 by omega)]; simp))
        clear HYk
        have hdd : decide ((k : Int) ≤ 64) = false := by simp; omega
        go_wp2
        go_ret
        exact ⟨ret_bool HY2.out.symm, rfl⟩

abbrev box (n v : List Int) : Obj := .cells #[.string (T n), .string (T v)] 220
end Go.Proofs.YtldkmobncmfodaaGreat.Fb

/-
  What the small functions of package field answer, and the document's own: names, flaws, payloads.
-/
namespace Go.Proofs.YtldkmobncmfodaaGreat.Fb
open Go.ChangeShapes Go.WideShapes Go.ChangeAt Go.RowKit
open Bytes8 Blk8 Fa
set_option linter.unusedVariables false
set_option maxRecDepth 100000
set_option linter.unusedSimpArgs false

/-! ## names -/
theorem isDigit_any (c : Int) (w : World) : Calls Tryz.prog 210 #[.int .u8 c] w fun e w' => e = .returned (.bool (isDig c)) ∧ w = w' := by
  by_cases h1 : 48 ≤ c <;> by_cases h2 : c ≤ 57
  all_goals
    go_enter Tryz.func210, Tryz.ntmps210
    go_wp2
    go_ret
    exact ⟨by simp [isDig, h1, h2], rfl⟩
theorem isLetter_any (c : Int) (w : World) : Calls Tryz.prog 211 #[.int .u8 c] w fun e w' => e = .returned (.bool (isLet c)) ∧ w = w' := by
  by_cases h1 : 65 ≤ c <;> by_cases h2 : c ≤ 90
  all_goals
    go_enter Tryz.func211, Tryz.ntmps211
    go_wp2
    go_ret
    exact ⟨by simp [isLet, h1, h2], rfl⟩

theorem name_any (l : List Int) (hA : AllB l) (w : World) : Calls Tryz.prog 189 #[.string (T l)] w fun e w' => e = .returned (.bool (nmB l)) ∧ w = w' := by
  have hsz := T_size l
  have HI := Lib.hid (index_at l hA)
  have h0 : (T l).toList.isEmpty = decide (l.length = 0) := by
    rw [T_toList]; cases l <;> rfl
  by_cases hlen : l.length = 0
  · have he : nmB l = false := by
      obtain rfl := List.eq_nil_of_length_eq_zero hlen
      rfl
    rw [he]
    rw [decide_eq_true hlen] at h0
    generalize T l = S at *
    clear HI
    go_enter Tryz.func189, Tryz.ntmps189
    go_wp2
    go_ret
    exact ⟨rfl, rfl⟩
  rw [decide_eq_false hlen] at h0
  by_cases h64 : 64 < l.length
  · have he : nmB l = false := by
      cases h : nmB l with
      | false => rfl
      | true => have := nmB_len h; omega
    rw [he]
    generalize T l = S at *
    clear HI
    go_enter Tryz.func189, Tryz.ntmps189
    go_wp2
    go_ret
    exact ⟨rfl, rfl⟩
  have HI0 : ∀ w, (Instr.index 9 (.string (T l)) (.int .i64 0)).run Tryz.prog w = .ok (.int .u8 (l.getD 0 0)) w := HI.out 0 (by omega)
  have HD := Lib.hid fun w => isDigit_any (l.getD 0 0) w
  cases hd : isDig (l.getD 0 0) with
  | true =>
    have he : nmB l = false := by unfold nmB; rw [hd]; simp
    rw [he]
    rw [hd] at HD
    clear HI hd
    generalize l.getD 0 0 = c0 at *
    generalize T l = S at *
    go_enter Tryz.func189, Tryz.ntmps189
    go_wp2_with (go_at_call 210; (with_reducible refine (HD.out _).mono ?_); rintro e w' ⟨rfl, rfl⟩)
    go_ret
    exact ⟨rfl, rfl⟩
  | false =>
    have HY := Lib.hid (fun h => nmB_yes (l := l) (by omega) (by omega) hd h)
    have HN := Lib.hid (fun j hj h => nmB_no (l := l) (j := j) hj h)
    rw [hd] at HD
    clear hd
    have HC := Lib.hid fun j => hA.at_ j
    generalize hL : l.length = len at *
    have HL := Lib.hid hL
    clear hL
    generalize hc : l.getD 0 0 = c0 at *
    clear hc
    generalize T l = S at *
    go_enter Tryz.func189, Tryz.ntmps189
    go_wp2_with (go_at_call 210; (with_reducible refine (HD.out _).mono ?_); rintro e w' ⟨rfl, rfl⟩)
    go_loop [18] (fun i => ∃ k : Nat, k ≤ len ∧ i = .int .i64 (k : Int) ∧ Hid (∀ j, j < k → okC (l.getD j 0) = true)) (fun i => len - (intOf i).toNat)
    case atStart => exact ⟨0, by omega, rfl, Lib.hid fun j hj => absurd hj (by omega)⟩
    case round =>
      obtain ⟨k, hk, rfl, hall⟩ := hrel
      rcases Nat.lt_or_ge k len with hlt | hge
      · have hidx := HI.out k (by omega)
        have hin : (k : Int) < (len : Int) := by omega
        have hk1 : k ≤ 64 := by omega
        have HDk := Lib.hid fun w => isDigit_any (l.getD k 0) w
        have HLk := Lib.hid fun w => isLetter_any (l.getD k 0) w
        obtain ⟨c1, c2⟩ := HC.out k
        have HNk := Lib.hid (HN.out k (by omega))
        have HKk := Lib.hid (fun (h : okC (l.getD k 0) = true) j (hj : j < k + 1) => (by
          rcases Nat.lt_or_ge j k with h1 | h1
          · exact hall.out j h1
          · obtain rfl : j = k := by omega
            exact h : okC (l.getD j 0) = true))
        clear hall
        generalize l.getD k 0 = c at *
        have hgo : okC c = true ∧ (isDig c = true ∨ isDig c = false ∧ isLet c = true ∨ isDig c = false ∧ isLet c = false ∧ c = 95) ∨ okC c = false ∧ isDig c = false ∧ isLet c = false ∧ c ≠ 95 := by
          unfold okC
          cases isDig c <;> cases isLet c <;> by_cases h3 : c = 95 <;> simp [h3]
        rcases hgo with ⟨hok, hd | ⟨hd, hl⟩ | ⟨hd, hl, rfl⟩⟩ | ⟨hok, hd, hl, h95⟩
        · rw [hd] at HDk
          clear hd
          have HKk := Lib.hid (HKk.out hok)
          clear HNk hok
          go_wp2_with (go_at_call 210; (with_reducible refine (HDk.out _).mono ?_); rintro e w' ⟨rfl, rfl⟩)
          go_round
          case rel => exact ⟨k + 1, by omega, by go_num, HKk⟩
          case measure => simp [intOf]; omega
        · rw [hd] at HDk
          rw [hl] at HLk
          clear hd hl
          have HKk := Lib.hid (HKk.out hok)
          clear HNk hok
          go_wp2_with (first | (go_at_call 210; (with_reducible refine (HDk.out _).mono ?_); rintro e w' ⟨rfl, rfl⟩) | (go_at_call 211; (with_reducible refine (HLk.out _).mono ?_); rintro e w' ⟨rfl, rfl⟩))
          go_round
          case rel => exact ⟨k + 1, by omega, by go_num, HKk⟩
          case measure => simp [intOf]; omega
        · rw [hd] at HDk
          rw [hl] at HLk
          clear hd hl
          have HKk := Lib.hid (HKk.out hok)
          clear HNk hok
          go_wp2_with (first | (go_at_call 210; (with_reducible refine (HDk.out _).mono ?_); rintro e w' ⟨rfl, rfl⟩) | (go_at_call 211; (with_reducible refine (HLk.out _).mono ?_); rintro e w' ⟨rfl, rfl⟩))
          go_round
          case rel => exact ⟨k + 1, by omega, by go_num, HKk⟩
          case measure => simp [intOf]; omega
        · rw [hd] at HDk
          rw [hl] at HLk
          clear hd hl
          have HNk := Lib.hid (HNk.out hok)
          clear HKk hok
          go_wp2_with (first | (go_at_call 210; (with_reducible refine (HDk.out _).mono ?_); rintro e w' ⟨rfl, rfl⟩) | (go_at_call 211; (with_reducible refine (HLk.out _).mono ?_); rintro e w' ⟨rfl, rfl⟩))
          go_ret
          exact ⟨ret_bool HNk.out.symm, rfl⟩
      · obtain rfl : k = len := by omega
        have HYk := Lib.hid (HY.out (fun j hj => hall.out j (by have := HL.out; omega)))
        clear hall
        go_wp2
        go_ret
        exact ⟨ret_bool HYk.out.symm, rfl⟩

/-! ## flaws -/
end Go.Proofs.YtldkmobncmfodaaGreat.Fb

/-
  What Right, Join, Split, and the document's own, answer.
-/
namespace Go.Proofs.YtldkmobncmfodaaGreat.Fc
open Go.ChangeShapes Go.WideShapes Go.ChangeAt Go.RowKit
open Bytes8 Blk8 Fa Fb
set_option linter.unusedVariables false
set_option maxRecDepth 100000
set_option linter.unusedSimpArgs false

theorem add_run (a b : List Int) (h : a.length + b.length ≤ 1000000) (w : World) : (Op.stringOp .add (T a) (T b)).run Tryz.prog w = .ok (.string (T (a ++ b))) w := by
  rw [run_string_add_sum w _ _ (by rw [T_size, T_size]; omega), T_app]

theorem rpayload_any (n v : List Int) (hmax : n.length + v.length ≤ 900000) (w : World) :
    Calls Tryz.prog 194 #[pv n v] w fun e w' => e = .returned (.string (T (pay n v))) ∧ w.alloc (box n v) = w' := by
  have h1 := add_run n [61] (by simp; omega)
  have h2 := add_run (n ++ [61]) v (by simp; omega)
  rw [← T_one] at h1
  have hp : pay n v = n ++ [61] ++ v := rfl
  rw [← hp] at h2
  dsimp only [pv, box] at *
  generalize T n = S at *
  generalize T v = V at *
  generalize T (n ++ [61]) = S1 at *
  generalize T (pay n v) = S2 at *
  clear hp
  go_enter Tryz.func194, Tryz.ntmps194
  go_wp2
  go_ret
  exact ⟨rfl, rfl⟩

def joinL (n v : List Int) : List Int := if flawI n v = 0 then pay n v else []
theorem flaw_len {n v : List Int} (h : flawI n v = 0) : n.length ≤ 64 ∧ v.length ≤ 256 := by
  unfold flawI at h
  by_cases hn : nmB n = true
  · rw [if_pos hn] at h
    have := (nmB_len hn).2
    by_cases hv : 256 < v.length
    · rw [if_pos hv] at h; cases h
    · omega
  · rw [if_neg hn] at h; cases h
def Joined (n v : List Int) (w : World) (e : Ending) (w' : World) : Prop := ∃ A c, e = .returned (.tuple #[.slice A (joinL n v).length c, .int .i64 (flawI n v)]) ∧ Bytes w' A (joinL n v) ∧ Grew w w'

theorem rjoin_any (n v : List Int) (hn : AllB n) (hv : AllB v) (hmax : n.length ≤ 9223372036854775807) (w : World) : Calls Tryz.prog 193 #[pv n v] w (Joined n v w) := by
  have HN := Lib.hid fun w => rname_any n hn hmax w
  have hsz := T_size v
  by_cases h : flawI n v = 0
  · have hL : joinL n v = pay n v := if_pos h
    have hlen := flaw_len h
    have hnm : nmB n = true := by
      cases hnm : nmB n with
      | true => rfl
      | false => unfold flawI at h; rw [hnm] at h; cases h
    have HP := Lib.hid fun w => rpayload_any n v (by omega) w
    obtain ⟨cf, mk, hmk⟩ := text_conv (pay n v) (pay_all hn hv)
    have hcv := fun w => (hmk w).1
    have HB := Lib.hid fun w => (hmk w).2
    clear hmk
    unfold Joined
    rw [hL, h]
    rw [hnm] at HN
    have hv256 : ¬ (256 : Int) < (v.length : Int) := by omega
    dsimp only [pv, box] at *
    generalize T n = S at *
    generalize T v = V at *
    generalize T (pay n v) = P at *
    generalize pay n v = p at *
    generalize hpl : p.length = pl at *
    generalize v.length = vl at *
    clear h hL hlen hnm
    go_enter Tryz.func193, Tryz.ntmps193
    go_wp2_with (first | (go_at_call 176; (with_reducible refine (HN.out _).mono ?_); rintro e w' ⟨rfl, rfl⟩) | (go_at_call 194; (with_reducible refine (HP.out _).mono ?_); rintro e w' ⟨rfl, rfl⟩))
    go_ret2
    refine ⟨_, _, rfl, (HB.out _).1 _ (by simp), ?_⟩
    exact ((Grew.refl w).alloc _).alloc _ |>.trans (HB.out _).2
  · have hL : joinL n v = [] := if_neg h
    have hG := Grew.boxed w (box n v)
    unfold Joined
    rw [hL]
    cases hnm : nmB n with
    | false =>
      have hF : flawI n v = 1 := by unfold flawI; rw [hnm]; rfl
      rw [hF]
      rw [hnm] at HN
      dsimp only [pv, box] at *
      generalize T n = S at *
      generalize T v = V at *
      clear hL h hF hnm
      go_enter Tryz.func193, Tryz.ntmps193
      go_wp2_with (go_at_call 176; (with_reducible refine (HN.out _).mono ?_); rintro e w' ⟨rfl, rfl⟩)
      go_ret2
      exact ⟨none, 0, rfl, Bytes.nil _ _, hG⟩
    | true =>
      have h256 : 256 < v.length := by
        rcases Nat.lt_or_ge 256 v.length with h1 | h1
        · exact h1
        · exact absurd (by unfold flawI; rw [if_pos hnm, if_neg (by omega)]) h
      have hF : flawI n v = 21 := by unfold flawI; rw [if_pos hnm, if_pos h256]
      rw [hF]
      rw [hnm] at HN
      dsimp only [pv, box] at *
      generalize T n = S at *
      generalize T v = V at *
      generalize v.length = vl at *
      clear hL h hF hnm
      go_enter Tryz.func193, Tryz.ntmps193
      go_wp2_with (go_at_call 176; (with_reducible refine (HN.out _).mono ?_); rintro e w' ⟨rfl, rfl⟩)
      go_ret2
      exact ⟨none, 0, rfl, Bytes.nil _ _, hG⟩

end Go.Proofs.YtldkmobncmfodaaGreat.Fc

/-
  What Right, Join, Split, and the document's own, answer.
-/
namespace Go.Proofs.YtldkmobncmfodaaGreat.Fc
open Go.ChangeShapes Go.WideShapes Go.ChangeAt Go.RowKit
open Bytes8 Blk8 Fa Fb
set_option linter.unusedVariables false
set_option maxRecDepth 100000
set_option linter.unusedSimpArgs false

/-! ## joining -/
end Go.Proofs.YtldkmobncmfodaaGreat.Fc

/-
  The order of pairs: plain; what Less and compare answer.
-/
namespace Go.Proofs.YtldkmobncmfodaaGreat.Fo
open Go.ChangeShapes Go.WideShapes Go.ChangeAt Go.RowKit
open Bytes8 Blk8 Fa Fb Fc
set_option linter.unusedVariables false
set_option maxRecDepth 100000
set_option linter.unusedSimpArgs false

def lessP (n v m u : List Int) : Bool := ltL (pay n v) (pay m u)
theorem rpayload_grew (n v : List Int) (h : n.length + v.length ≤ 900000) (w : World) :
    Calls Tryz.prog 194 #[pv n v] w fun e w' => e = .returned (.string (T (pay n v))) ∧ Grew w w' :=
  (rpayload_any n v h w).mono (by rintro e w' ⟨rfl, rfl⟩; exact ⟨rfl, Grew.boxed _ _⟩)

end Go.Proofs.YtldkmobncmfodaaGreat.Fo

/-
  A maker of numbers behind a pointer: what N answers; a pair out of it.
-/
namespace Go.Proofs.YtldkmobncmfodaaGreat.Seq8
open Go.ChangeShapes Go.WideShapes Go.ChangeAt Go.RowKit
open Bytes8 Blk8 Fa Fb Fc Numb Rows2
set_option linter.unusedVariables false
set_option maxRecDepth 100000
set_option linter.unusedSimpArgs false

/-- The maker at the block gq: its numbers, and how many are told. -/
def SeqIn (w : World) (gq : Nat) (a : Option Addr) (len cap : Nat) (f : Nat → Int) (k : Nat) : Prop :=
  Blk w gq [.slice a len cap, .int .i64 (k : Int)] 92 ∧ InInts .i64 w a len f ∧ (0 < len → ∀ b off, a = some ⟨b, off, none⟩ → b ≠ gq) ∧ k ≤ len ∧ len ≤ 9223372036854775807
theorem SeqIn.below {w w' : World} {gq : Nat} {a : Option Addr} {len cap : Nat} {f : Nat → Int} {k : Nat} (h : SeqIn w gq a len cap f k) (hb : Below w.heap.size w w') : SeqIn w' gq a len cap f k :=
  ⟨h.1.below hb h.1.lt, h.2.1.below hb, h.2.2⟩

theorem ints_keptB {kk : IntKind} {w w' : World} {gq : Nat} {a : Option Addr} {len : Nat} {f : Nat → Int} (h : InInts kk w a len f) (hk : KeptB w.heap.size gq w w') (hne : 0 < len → ∀ b off, a = some ⟨b, off, none⟩ → b ≠ gq) : InInts kk w' a len f := fun i hi => by
  obtain ⟨b, off, e, h1, h2, h3⟩ := h i hi
  exact ⟨b, off, e, Nat.lt_of_lt_of_le h1 hk.size, (World.cell?_of_block (hk.block b h1 (hne (by omega) b off e))).trans h2, h3⟩

set_option maxRecDepth 100000 in
theorem seqN_any (gq : Nat) (a : Option Addr) (len cap : Nat) (f : Nat → Int) (k : Nat) (b : Int) (w : World) (hb : 1 ≤ b) (hb2 : b ≤ 1000000) (h : SeqIn w gq a len cap f k) :
    Calls Tryz.prog 88 #[.pointer (some ⟨gq, 0, none⟩), .int .i64 b] w fun e w' => ∃ (r k' : Nat), e = .returned (.int .i64 (r : Int)) ∧ (r : Int) < b ∧ SeqIn w' gq a len cap f k' ∧ KeptB w.heap.size gq w w' := by
  obtain ⟨hB, hI, hne, hk, hl⟩ := h
  have HB := Lib.hid hB
  have c0 := HB.out.cell (i := 0) rfl
  have c1 := HB.out.cell (i := 1) rfl
  have f1 := HB.out.frozen 1
  by_cases hlt : k < len
  · obtain ⟨bb, off, rfl, hbl, hc, hwf⟩ := hI k hlt
    have hbq := hne (by omega) bb off rfl
    obtain ⟨r, hr, hrb⟩ := below_nat (f k) b hb
    have HNum := Lib.hid fun w => number_nat (f k) b r w hb (by omega) hr.out
    have hkk : ¬ (len : Int) ≤ (k : Int) := by omega
    have hset : ∀ v, (w.setCell ⟨gq, 1, none⟩ v).cell? ⟨bb, off + k, none⟩ = some (.int .i64 (f k)) := fun v => by
      rw [← hc]; exact World.cell?_of_block (Below.heap_setCell _ _ _ _ hbq)
    have HI := Lib.hid hI
    have HNe := Lib.hid hne
    have hm : Tryz.prog.follows .mixedOrders = true := by kernel_rfl
    clear hI hne hB hr hwf
    generalize f k = x at *
    go_enter Tryz.func88, Tryz.ntmps88
    go_wp2_with fail
    go_quiet (fail)
    obtain ⟨nq_1, hnq⟩ : ∃ x, x = nq := ⟨_, rfl⟩
    rw [← hnq]
    clear hnq nq
    go_wp2_with fail
    go_quiet ((go_at_call 45; exact quiet_kept (HNum.out _)))
    have HK := Lib.hid ((((KeptB.refl w.heap.size gq w).drewN nq_1).setCell (Or.inr rfl) (.int .i64 ((k : Int) + 1)) (p := ⟨gq, 1, none⟩)).drewN nq)
    go_wp2
    go_ret
    refine ⟨r, k + 1, rfl, hrb, ⟨?_, ints_keptB HI.out HK.out HNe.out, HNe.out, by omega, hl⟩, HK.out⟩
    exact ((HB.out.drewN _).set_ 1 _).drewN _
  · have hkk : (len : Int) ≤ (k : Int) := by omega
    have HI := Lib.hid hI
    have HNe := Lib.hid hne
    clear hI hne hB
    go_enter Tryz.func88, Tryz.ntmps88
    go_wp2_with fail
    go_quiet (fail)
    go_wp2
    go_ret
    refine ⟨0, k, rfl, by omega, ⟨HB.out.drewN _, HI.out, HNe.out, hk, hl⟩, (KeptB.refl _ _ _).drewN _⟩

/-! ## the few names and values -/
abbrev nameLs : List (List Int) := [[65], [66], [77, 69, 83, 83, 65, 71, 69], [95, 80, 73, 68], [88, 95, 49], [80, 82, 73, 79, 82, 73, 84, 89]]
abbrev valueLs : List (List Int) := [[], [48], [49], [50, 50], [97, 61, 98], [111, 110, 101, 10, 116, 119, 111], [0, 255], [116, 97, 98, 9, 104, 101, 114, 101], [108, 111, 110, 103, 32, 108, 111, 110, 103, 32, 108, 111, 110, 103, 32, 108, 111, 110, 103, 32, 108, 111, 110, 103, 32, 108, 111, 110, 103, 32, 108, 111, 110, 103], [126, 127, 128]]
def texts (ls : List (List Int)) : List Value := ls.map fun l => .string (T l)
theorem names_ok : ∀ n ∈ nameLs, AllB n ∧ nmB n = true := by
  intro n hn
  have h : nameLs.all (fun n => n.all (fun x => decide (0 ≤ x) && decide (x < 256)) && nmB n) = true := by decide +kernel
  have := List.all_eq_true.1 h n hn
  simp only [Bool.and_eq_true] at this
  exact ⟨Ff.small_all this.1, this.2⟩
theorem values_ok : ∀ v ∈ valueLs, AllB v ∧ v.length ≤ 256 := by
  intro n hn
  have h : valueLs.all (fun n => n.all (fun x => decide (0 ≤ x) && decide (x < 256)) && decide (n.length ≤ 256)) = true := by decide +kernel
  have := List.all_eq_true.1 h n hn
  simp only [Bool.and_eq_true, decide_eq_true_eq] at this
  exact ⟨Ff.small_all this.1, this.2⟩
theorem flaw_ok {n v : List Int} (hn : nmB n = true) (hv : v.length ≤ 256) : flawI n v = 0 := by
  unfold flawI; rw [if_pos hn, if_neg (by omega)]

theorem names_any (w : World) : Calls Tryz.prog 30 #[] w fun e w' => e = .returned (.slice (some ⟨w.heap.size, 0, none⟩) 6 6) ∧ Blk w' w.heap.size (texts nameLs) 9 ∧ Below w.heap.size w w' ∧ w'.heap.size = w.heap.size + 1 := by
  have h : texts nameLs = [.string { data := #[65] }, .string { data := #[66] }, .string { data := #[77, 69, 83, 83, 65, 71, 69] }, .string { data := #[95, 80, 73, 68] }, .string { data := #[88, 95, 49] }, .string { data := #[80, 82, 73, 79, 82, 73, 84, 89] }] := rfl
  rw [h]
  go_enter Tryz.func30, Tryz.ntmps30
  go_wp2
  go_ret
  exact ⟨rfl, Blk.new w _ _, (Below.refl _ _).alloc (Nat.le_refl _) _, by simp⟩
set_option maxRecDepth 10000 in
theorem values_any (w : World) : Calls Tryz.prog 31 #[] w fun e w' => e = .returned (.slice (some ⟨w.heap.size, 0, none⟩) 10 10) ∧ Blk w' w.heap.size (texts valueLs) 9 ∧ Below w.heap.size w w' ∧ w'.heap.size = w.heap.size + 1 := by
  have h : texts valueLs = [.string { data := #[] }, .string { data := #[48] }, .string { data := #[49] }, .string { data := #[50, 50] }, .string { data := #[97, 61, 98] }, .string { data := #[111, 110, 101, 10, 116, 119, 111] }, .string { data := #[0, 255] }, .string { data := #[116, 97, 98, 9, 104, 101, 114, 101] }, .string { data := #[108, 111, 110, 103, 32, 108, 111, 110, 103, 32, 108, 111, 110, 103, 32, 108, 111, 110, 103, 32, 108, 111, 110, 103, 32, 108, 111, 110, 103, 32, 108, 111, 110, 103] }, .string { data := #[126, 127, 128] }] := rfl
  rw [h]
  go_enter Tryz.func31, Tryz.ntmps31
  go_wp2
  go_ret
  exact ⟨rfl, Blk.new w _ _, (Below.refl _ _).alloc (Nat.le_refl _) _, by simp⟩
end Go.Proofs.YtldkmobncmfodaaGreat.Seq8

/-
  A pair out of a maker of numbers.
-/
namespace Go.Proofs.YtldkmobncmfodaaGreat.SeqP
open Go.ChangeShapes Go.WideShapes Go.ChangeAt Go.RowKit
open Bytes8 Blk8 Fa Fb Fc Numb Rows2 Seq8
set_option linter.unusedVariables false
set_option maxRecDepth 100000
set_option linter.unusedSimpArgs false

theorem names_at (w : World) (g : Nat) (hg : w.heap.size = g) : Calls Tryz.prog 30 #[] w fun e w' => e = .returned (.slice (some ⟨g, 0, none⟩) 6 6) ∧ Blk w' g (texts nameLs) 9 ∧ Below w.heap.size w w' ∧ w'.heap.size = g + 1 := by
  subst hg; exact names_any w
theorem values_at (w : World) (g : Nat) (hg : w.heap.size = g) : Calls Tryz.prog 31 #[] w fun e w' => e = .returned (.slice (some ⟨g, 0, none⟩) 10 10) ∧ Blk w' g (texts valueLs) 9 ∧ Below w.heap.size w w' ∧ w'.heap.size = g + 1 := by
  subst hg; exact values_any w
theorem text_at {w : World} {g : Nat} {ls : List (List Int)} {T0 : TypeId} (h : Blk w g (texts ls) T0) (i : Nat) (hi : i < ls.length) : w.cell? ⟨g, i, none⟩ = some (.string (T (ls.getD i []))) := by
  refine h.cell ?_
  unfold texts
  rw [List.getElem?_map, List.getElem?_eq_getElem hi]
  simp [List.getElem?_eq_getElem hi]
theorem text_is {w : World} {g : Nat} {ls : List (List Int)} {T0 : TypeId} (h : Blk w g (texts ls) T0) (i : Nat) (hi : i < ls.length) {nm : List Int} (hn : nm = ls.getD i []) : w.cell? ⟨g, i, none⟩ = some (.string (T nm)) := hn ▸ text_at h i hi
theorem getD_mem {ls : List (List Int)} {i : Nat} (hi : i < ls.length) : ls.getD i [] ∈ ls := by
  rw [List.getD_eq_getElem?_getD, List.getElem?_eq_getElem hi]
  exact List.getElem_mem hi

/-- A pair that may be, and the maker further on. -/
def Paired (gq : Nat) (a : Option Addr) (len cap : Nat) (f : Nat → Int) (w : World) (e : Ending) (w' : World) : Prop :=
  ∃ n v k', e = .returned (pv n v) ∧ (AllB n ∧ AllB v ∧ flawI n v = 0) ∧ SeqIn w' gq a len cap f k' ∧ KeptB w.heap.size gq w w'

set_option maxHeartbeats 2000000 in
set_option maxRecDepth 100000 in
theorem pair_any (gq : Nat) (a : Option Addr) (len cap : Nat) (f : Nat → Int) (k : Nat) (w : World) (h : SeqIn w gq a len cap f k) :
    Calls Tryz.prog 195 #[.pointer (some ⟨gq, 0, none⟩)] w (Paired gq a len cap f w) := by
  have hgq := h.1.lt
  have B0 := Lib.hid ((Below.refl w.heap.size w).alloc (Nat.le_refl _) (.cells #[.string { data := #[] }, .string { data := #[] }] 220))
  have S0 := Lib.hid (h.below B0.out)
  have R0 := Lib.hid (Blk.new w [.string { data := #[] }, .string { data := #[] }] 220)
  have HI := Lib.hid h.2.1
  have HNe := Lib.hid h.2.2.1
  clear h
  unfold Paired
  have hm : Tryz.prog.follows .mixedOrders = true := by kernel_rfl
  go_enter Tryz.func195, Tryz.ntmps195
  go_wp2_with fail
  go_region_with (first
    | (go_at_call 30; (with_reducible refine (names_at _ (w.heap.size + 1) (by simp)).mono ?_); rintro e w1 ⟨rfl, hN, hb1, hs1⟩; have N1 := Lib.hid hN; have S1 := Lib.hid (SeqIn.below (w := (w.alloc (.cells #[.string { data := #[] }, .string { data := #[] }] 220)).drew) S0.out hb1); have R1 := Lib.hid (Blk.below (w := (w.alloc (.cells #[.string { data := #[] }, .string { data := #[] }] 220)).drew) R0.out hb1 R0.out.lt); have B1 := Lib.hid (B0.out.drew.trans (hb1.mono B0.out.size)); clear hN hb1)
    | (go_at_call 88; (with_reducible refine (seqN_any gq a len cap f k 6 w1 (by decide) (by decide) S1.out).mono ?_); rintro e w2 ⟨i, k2, rfl, hi, hS2, hK2⟩; have S2 := Lib.hid hS2; have N2 := Lib.hid (Blk.keptB N1.out hK2 N1.out.lt (by omega)); have R2 := Lib.hid (Blk.keptB R1.out hK2 R1.out.lt (by omega)); have K2 := Lib.hid ((KeptB.of_below (g := gq) B1.out).trans (hK2.mono B1.out.size)); obtain ⟨nm, hnm⟩ : ∃ nm, nm = nameLs.getD i [] := ⟨_, rfl⟩; have HNm := Lib.hid hnm; clear hnm; have hi6 : i < nameLs.length := (by simp; omega); have HI6 := Lib.hid hi6; clear hi6; have x2 := text_is N2.out i HI6.out HNm.out; clear hS2 hK2)
    | (go_at_call 31; (with_reducible refine (values_at _ w2.heap.size rfl).mono ?_); rintro e w3 ⟨rfl, hV, hb3, hs3⟩; have V3 := Lib.hid hV; have S3 := Lib.hid (SeqIn.below S2.out hb3); have R3 := Lib.hid (R2.out.below hb3 R2.out.lt); have N3 := Lib.hid (N2.out.below hb3 N2.out.lt); have K3 := Lib.hid (K2.out.trans (KeptB.of_below (hb3.mono K2.out.size))); have x3 := text_is N3.out i HI6.out HNm.out; clear hV hb3)
    | (go_at_call 88; (with_reducible refine (seqN_any gq a len cap f k2 10 w3 (by decide) (by decide) S3.out).mono ?_); rintro e w4 ⟨j, k4, rfl, hj, hS4, hK4⟩; have S4 := Lib.hid hS4; have N4 := Lib.hid (Blk.keptB N3.out hK4 N3.out.lt (by omega)); have R4 := Lib.hid (Blk.keptB R3.out hK4 R3.out.lt (by omega)); have V4 := Lib.hid (Blk.keptB V3.out hK4 V3.out.lt (by have := K2.out.size; omega)); have K4 := Lib.hid (K3.out.trans (hK4.mono K3.out.size)); have x4 := text_is N4.out i HI6.out HNm.out; obtain ⟨vl, hvl⟩ : ∃ vl, vl = valueLs.getD j [] := ⟨_, rfl⟩; have HVl := Lib.hid hvl; clear hvl; have hj10 : j < valueLs.length := (by simp; omega); have HJ10 := Lib.hid hj10; clear hj10; have y4 := text_is V4.out j HJ10.out HVl.out; have f0 := R4.out.frozen 0; have f1 := R4.out.frozen 1; have c0 := R4.out.cell (i := 0) rfl; have c1 := R4.out.cell (i := 1) rfl; clear hS4 hK4))
  all_goals
    go_wp2
    obtain ⟨n1, n2⟩ := names_ok nm (by rw [HNm.out]; exact getD_mem HI6.out)
    obtain ⟨v1, v2⟩ := values_ok vl (by rw [HVl.out]; exact getD_mem HJ10.out)
    have HK := (K4.out.setCell (p := ⟨w.heap.size, 0, none⟩) (Or.inl (Nat.le_refl _)) (.string (T nm))).setCell (p := ⟨w.heap.size, 1, none⟩) (Or.inl (Nat.le_refl _)) (.string (T vl))
    refine bodyPost_ret (v := pv nm vl) (by simp [results, Tryz.results195, go_sem, c0, c1]) rfl ⟨nm, vl, k4, rfl, ⟨n1, v1, flaw_ok n2 v2⟩, ⟨?_, ints_keptB HI.out HK HNe.out, S4.out.2.2⟩, HK⟩
    exact (S4.out.1.far (p := ⟨w.heap.size, 0, none⟩) (show gq ≠ w.heap.size by omega) _).far (p := ⟨w.heap.size, 1, none⟩) (show gq ≠ w.heap.size by omega) _
end Go.Proofs.YtldkmobncmfodaaGreat.SeqP
