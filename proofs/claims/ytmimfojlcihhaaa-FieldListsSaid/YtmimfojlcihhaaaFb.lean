/-
  What the small functions of package field answer, and the document's own: names, flaws, payloads.
-/
import Derived.Test.YtmimfojlcihhaaaFa
import Derived.Sort.Grow
namespace Go.Proofs.Ytmimfojlcihhaaa.Fb
open Go.ChangeShapes Go.WideShapes Go.ChangeAt Go.RowKit
open Bytes8 Blk8 Fa
set_option linter.unusedVariables false
set_option linter.unusedSimpArgs false

/-! ## a world that has grown -/
/-- Draws, and new blocks. -/
def Grew (w w' : World) : Prop := ∃ q os, w' = Sort.grow (w.drewN q) os
theorem Grew.refl (w : World) : Grew w w := ⟨0, #[], by rw [Sort.grow_empty]; rfl⟩
theorem Grew.alloc {w w' : World} (h : Grew w w') (o : Obj) : Grew w (w'.alloc o) := by
  obtain ⟨q, os, rfl⟩ := h
  exact ⟨q, os ++ #[o], by rw [Sort.alloc_eq_grow, Sort.grow_grow]⟩
theorem Grew.drew {w w' : World} (h : Grew w w') : Grew w w'.drew := by
  obtain ⟨q, os, rfl⟩ := h
  exact ⟨q + 1, os, rfl⟩
theorem Grew.drewN {w w' : World} (h : Grew w w') (n : Nat) : Grew w (w'.drewN n) := by
  obtain ⟨q, os, rfl⟩ := h
  refine ⟨q + n, os, ?_⟩
  simp only [Sort.grow, World.drewN, Nat.add_assoc]
theorem Grew.trans {a b c : World} (h : Grew a b) (k : Grew b c) : Grew a c := by
  obtain ⟨q, os, rfl⟩ := h
  obtain ⟨q', os', rfl⟩ := k
  refine ⟨q + q', os ++ os', ?_⟩
  simp only [Sort.grow, World.drewN, Nat.add_assoc, Array.append_assoc]
theorem Grew.below {w w' : World} (h : Grew w w') : Below w.heap.size w w' := by
  obtain ⟨q, os, rfl⟩ := h
  refine ⟨rfl, rfl, rfl, by simp [Sort.grow, World.drewN], fun k hk => ?_⟩
  exact Sort.heap_grow_old (w.drewN q) os hk
theorem Grew.boxed (w : World) (o : Obj) : Grew w (w.alloc o) := (Grew.refl w).alloc o

/-! ## names -/
theorem isDigit_any (c : Int) (w : World) : Calls Try.prog 33 #[.int .u8 c] w fun e w' => e = .returned (.bool (isDig c)) ∧ w = w' := by
  by_cases h1 : 48 ≤ c <;> by_cases h2 : c ≤ 57
  all_goals
    go_enter Try.func33, Try.ntmps33
    go_wp2
    go_ret
    exact ⟨by simp [isDig, h1, h2], rfl⟩
theorem isLetter_any (c : Int) (w : World) : Calls Try.prog 34 #[.int .u8 c] w fun e w' => e = .returned (.bool (isLet c)) ∧ w = w' := by
  by_cases h1 : 65 ≤ c <;> by_cases h2 : c ≤ 90
  all_goals
    go_enter Try.func34, Try.ntmps34
    go_wp2
    go_ret
    exact ⟨by simp [isLet, h1, h2], rfl⟩

theorem name_any (l : List Int) (hA : AllB l) (w : World) : Calls Try.prog 16 #[.string (T l)] w fun e w' => e = .returned (.bool (nmB l)) ∧ w = w' := by
  have hsz := T_size l
  have HI := Lib.hid (index_at l hA)
  have h0 : (T l).toList.isEmpty = decide (l.length = 0) := by
    rw [T_toList]; cases l <;> rfl
  by_cases hlen : l.length = 0
  · have he : nmB l = false := by
      obtain rfl := List.eq_nil_of_length_eq_zero hlen
      rfl
    rw [he]
    rw [decide_eq_true hlen] at h0
    generalize T l = S at *
    clear HI
    go_enter Try.func16, Try.ntmps16
    go_wp2
    go_ret
    exact ⟨rfl, rfl⟩
  rw [decide_eq_false hlen] at h0
  by_cases h64 : 64 < l.length
  · have he : nmB l = false := by
      cases h : nmB l with
      | false => rfl
      | true => have := nmB_len h; omega
    rw [he]
    generalize T l = S at *
    clear HI
    go_enter Try.func16, Try.ntmps16
    go_wp2
    go_ret
    exact ⟨rfl, rfl⟩
  have HI0 : ∀ w, (Instr.index 9 (.string (T l)) (.int .i64 0)).run Try.prog w = .ok (.int .u8 (l.getD 0 0)) w := HI.out 0 (by omega)
  have HD := Lib.hid fun w => isDigit_any (l.getD 0 0) w
  cases hd : isDig (l.getD 0 0) with
  | true =>
    have he : nmB l = false := by unfold nmB; rw [hd]; simp
    rw [he]
    rw [hd] at HD
    clear HI hd
    generalize l.getD 0 0 = c0 at *
    generalize T l = S at *
    go_enter Try.func16, Try.ntmps16
    go_wp2_with (go_at_call 33; (with_reducible refine (HD.out _).mono ?_); rintro e w' ⟨rfl, rfl⟩)
    go_ret
    exact ⟨rfl, rfl⟩
  | false =>
    have HY := Lib.hid (fun h => nmB_yes (l := l) (by omega) (by omega) hd h)
    have HN := Lib.hid (fun j hj h => nmB_no (l := l) (j := j) hj h)
    rw [hd] at HD
    clear hd
    have HC := Lib.hid fun j => hA.at_ j
    generalize hL : l.length = len at *
    have HL := Lib.hid hL
    clear hL
    generalize hc : l.getD 0 0 = c0 at *
    clear hc
    generalize T l = S at *
    go_enter Try.func16, Try.ntmps16
    go_wp2_with (go_at_call 33; (with_reducible refine (HD.out _).mono ?_); rintro e w' ⟨rfl, rfl⟩)
    go_loop [18] (fun i => ∃ k : Nat, k ≤ len ∧ i = .int .i64 (k : Int) ∧ Hid (∀ j, j < k → okC (l.getD j 0) = true)) (fun i => len - (intOf i).toNat)
    case atStart => exact ⟨0, by omega, rfl, Lib.hid fun j hj => absurd hj (by omega)⟩
    case round =>
      obtain ⟨k, hk, rfl, hall⟩ := hrel
      rcases Nat.lt_or_ge k len with hlt | hge
      · have hidx := HI.out k (by omega)
        have hin : (k : Int) < (len : Int) := by omega
        have hk1 : k ≤ 64 := by omega
        have HDk := Lib.hid fun w => isDigit_any (l.getD k 0) w
        have HLk := Lib.hid fun w => isLetter_any (l.getD k 0) w
        obtain ⟨c1, c2⟩ := HC.out k
        have HNk := Lib.hid (HN.out k (by omega))
        have HKk := Lib.hid (fun (h : okC (l.getD k 0) = true) j (hj : j < k + 1) => (by
          rcases Nat.lt_or_ge j k with h1 | h1
          · exact hall.out j h1
          · obtain rfl : j = k := by omega
            exact h : okC (l.getD j 0) = true))
        clear hall
        generalize l.getD k 0 = c at *
        have hgo : okC c = true ∧ (isDig c = true ∨ isDig c = false ∧ isLet c = true ∨ isDig c = false ∧ isLet c = false ∧ c = 95) ∨ okC c = false ∧ isDig c = false ∧ isLet c = false ∧ c ≠ 95 := by
          unfold okC
          cases isDig c <;> cases isLet c <;> by_cases h3 : c = 95 <;> simp [h3]
        rcases hgo with ⟨hok, hd | ⟨hd, hl⟩ | ⟨hd, hl, rfl⟩⟩ | ⟨hok, hd, hl, h95⟩
        · rw [hd] at HDk
          clear hd
          have HKk := Lib.hid (HKk.out hok)
          clear HNk hok
          go_wp2_with (go_at_call 33; (with_reducible refine (HDk.out _).mono ?_); rintro e w' ⟨rfl, rfl⟩)
          go_round
          case rel => exact ⟨k + 1, by omega, by go_num, HKk⟩
          case measure => simp [intOf]; omega
        · rw [hd] at HDk
          rw [hl] at HLk
          clear hd hl
          have HKk := Lib.hid (HKk.out hok)
          clear HNk hok
          go_wp2_with (first | (go_at_call 33; (with_reducible refine (HDk.out _).mono ?_); rintro e w' ⟨rfl, rfl⟩) | (go_at_call 34; (with_reducible refine (HLk.out _).mono ?_); rintro e w' ⟨rfl, rfl⟩))
          go_round
          case rel => exact ⟨k + 1, by omega, by go_num, HKk⟩
          case measure => simp [intOf]; omega
        · rw [hd] at HDk
          rw [hl] at HLk
          clear hd hl
          have HKk := Lib.hid (HKk.out hok)
          clear HNk hok
          go_wp2_with (first | (go_at_call 33; (with_reducible refine (HDk.out _).mono ?_); rintro e w' ⟨rfl, rfl⟩) | (go_at_call 34; (with_reducible refine (HLk.out _).mono ?_); rintro e w' ⟨rfl, rfl⟩))
          go_round
          case rel => exact ⟨k + 1, by omega, by go_num, HKk⟩
          case measure => simp [intOf]; omega
        · rw [hd] at HDk
          rw [hl] at HLk
          clear hd hl
          have HNk := Lib.hid (HNk.out hok)
          clear HKk hok
          go_wp2_with (first | (go_at_call 33; (with_reducible refine (HDk.out _).mono ?_); rintro e w' ⟨rfl, rfl⟩) | (go_at_call 34; (with_reducible refine (HLk.out _).mono ?_); rintro e w' ⟨rfl, rfl⟩))
          go_ret
          exact ⟨ret_bool HNk.out.symm, rfl⟩
      · obtain rfl : k = len := by omega
        have HYk := Lib.hid (HY.out (fun j hj => hall.out j (by have := HL.out; omega)))
        clear hall
        go_wp2
        go_ret
        exact ⟨ret_bool HYk.out.symm, rfl⟩

theorem rname_any (l : List Int) (hA : AllB l) (hmax : l.length ≤ 9223372036854775807) (w : World) : Calls Try.prog 17 #[.string (T l)] w fun e w' => e = .returned (.bool (nmB l)) ∧ w = w' := by
  have hsz := T_size l
  have HI := Lib.hid (index_at l hA)
  have HC := Lib.hid fun j => hA.at_ j
  /- What keeps a name from being one, place by place. -/
  have HN := Lib.hid (fun j (hj : j < l.length) (h : okC (l.getD j 0) = false ∨ j = 0 ∧ isDig (l.getD j 0) = true) => (by
    rcases h with h | ⟨rfl, h⟩
    · exact nmB_no hj h
    · unfold nmB; rw [h]; simp : nmB l = false))
  have HE := Lib.hid (fun (h : ∀ j, j < l.length → okC (l.getD j 0) = true ∧ (j = 0 → isDig (l.getD j 0) = false)) => (by
    rcases Nat.eq_zero_or_pos l.length with h0 | h0
    · obtain rfl := List.eq_nil_of_length_eq_zero h0
      rfl
    · unfold nmB
      rw [(h 0 h0).2 rfl, all_of fun j hj => (h j hj).1]
      simp : nmB l = (decide (1 ≤ l.length) && decide (l.length ≤ 64))))
  generalize hL : l.length = len at *
  have HL := Lib.hid hL
  clear hL
  generalize T l = S at *
  go_enter Try.func17, Try.ntmps17
  go_wp2
  go_loop [3] (fun i => ∃ k : Nat, k ≤ len ∧ i = .int .i64 (k : Int) ∧ Hid (∀ j, j < k → okC (l.getD j 0) = true ∧ (j = 0 → isDig (l.getD j 0) = false))) (fun i => len - (intOf i).toNat)
  case atStart => exact ⟨0, by omega, rfl, Lib.hid fun j hj => absurd hj (by omega)⟩
  case round =>
    obtain ⟨k, hk, rfl, hall⟩ := hrel
    rcases Nat.lt_or_ge k len with hlt | hge
    · have hidx := HI.out k (by omega)
      have hin : (k : Int) < (len : Int) := by omega
      obtain ⟨c1, c2⟩ := HC.out k
      have HNk := Lib.hid (HN.out k (by omega))
      have HKk := Lib.hid (fun (h : okC (l.getD k 0) = true ∧ (k = 0 → isDig (l.getD k 0) = false)) j (hj : j < k + 1) => (by
        rcases Nat.lt_or_ge j k with h1 | h1
        · exact hall.out j h1
        · obtain rfl : j = k := by omega
          exact h : okC (l.getD j 0) = true ∧ (j = 0 → isDig (l.getD j 0) = false)))
      clear hall
      generalize l.getD k 0 = c at *
      have hgo : ((48 ≤ c ∧ c ≤ 57 ∧ 0 < k) ∨ (57 < c ∧ 65 ≤ c ∧ c ≤ 90) ∨ c = 95) ∧ (okC c = true ∧ (k = 0 → isDig c = false)) ∨ (c < 48 ∨ (48 ≤ c ∧ c ≤ 57 ∧ k = 0) ∨ (57 < c ∧ c < 65) ∨ (90 < c ∧ c ≠ 95)) ∧ (okC c = false ∨ k = 0 ∧ isDig c = true) := by
        simp only [okC, isDig, isLet, Bool.or_eq_true, Bool.and_eq_true, decide_eq_true_eq, Bool.or_eq_false_iff, Bool.and_eq_false_iff, decide_eq_false_iff_not]
        omega
      rcases hgo with ⟨hd, hok⟩ | ⟨hd, hok⟩
      · have HK2 := Lib.hid (HKk.out hok)
        clear HNk HKk hok
        rcases hd with ⟨d1, d2, d3⟩ | ⟨d1, d2, d3⟩ | rfl
        all_goals
          go_wp2
          go_round
          case rel => exact ⟨k + 1, by omega, by go_num, HK2⟩
          case measure => simp [intOf]; omega
      · have HN2 := Lib.hid (HNk.out hok)
        clear HKk HNk hok
        rcases hd with d1 | ⟨d1, d2, d3⟩ | ⟨d1, d2⟩ | ⟨d1, d2⟩
        · go_wp2
          go_ret
          exact ⟨ret_bool HN2.out.symm, rfl⟩
        · have hk0 : ¬ (0 : Int) < (k : Int) := by omega
          have hk1 : ¬ 0 < k := by omega
          clear d3
          go_wp2
          go_ret
          exact ⟨ret_bool HN2.out.symm, rfl⟩
        · go_wp2
          go_ret
          exact ⟨ret_bool HN2.out.symm, rfl⟩
        · have h95 : (c == 95) = false := by simpa using d2
          clear d2
          go_wp2
          go_ret
          exact ⟨ret_bool HN2.out.symm, rfl⟩
    · obtain rfl : k = len := by omega
      have HYk := Lib.hid (HE.out (fun j hj => hall.out j (by have := HL.out; omega)))
      clear hall
      have h3 : k = 0 ∨ (1 ≤ k ∧ k ≤ 64) ∨ 64 < k := by omega
      rcases h3 with rfl | ⟨h1, h2⟩ | h1
      · have HY2 := Lib.hid (HYk.out.trans (show (decide (1 ≤ 0) && decide (0 ≤ 64)) = false from rfl))
        clear HYk
        go_wp2
        go_ret
        exact ⟨ret_bool HY2.out.symm, rfl⟩
      · have HY2 := Lib.hid (HYk.out.trans (show (decide (1 ≤ k) && decide (k ≤ 64)) = true by rw [decide_eq_true h1, decide_eq_true h2]; rfl))
        clear HYk
        have hdd : decide ((k : Int) ≤ 64) = true := by simp; omega
        go_wp2
        go_ret
        exact ⟨ret_bool HY2.out.symm, rfl⟩
      · have HY2 := Lib.hid (HYk.out.trans (show (decide (1 ≤ k) && decide (k ≤ 64)) = false by rw [decide_eq_false (show ¬ k ≤ 64 by omega)]; simp))
        clear HYk
        have hdd : decide ((k : Int) ≤ 64) = false := by simp; omega
        go_wp2
        go_ret
        exact ⟨ret_bool HY2.out.symm, rfl⟩

/-! ## flaws -/
abbrev box (n v : List Int) : Obj := .cells #[.string (T n), .string (T v)] 24
theorem flaw_any (n v : List Int) (hn : AllB n) (hv : AllB v) (w : World) :
    Calls Try.prog 31 #[pv n v] w fun e w' => e = .returned (.int .i64 (flawI n v)) ∧ w.alloc (box n v) = w' := by
  have hsz := T_size v
  have HN := Lib.hid fun w => name_any n hn w
  dsimp only [pv, box]
  have HF := Lib.hid (show flawI n v = if nmB n = true then (if 256 < v.length then 21 else 0) else 1 from rfl)
  generalize T n = S at *
  generalize T v = V at *
  generalize v.length = lv at *
  generalize flawI n v = F at *
  cases hnm : nmB n with
  | false =>
    rw [hnm] at HN HF
    have hF := HF.out
    simp at hF
    subst hF
    clear hnm
    go_enter Try.func31, Try.ntmps31
    go_wp2_with (go_at_call 16; (with_reducible refine (HN.out _).mono ?_); rintro e w' ⟨rfl, rfl⟩)
    go_ret
    exact ⟨rfl, rfl⟩
  | true =>
    rw [hnm] at HN HF
    clear hnm
    by_cases h : 256 < lv
    · have hF := HF.out
      simp [h] at hF
      subst hF
      clear HF
      go_enter Try.func31, Try.ntmps31
      go_wp2_with (go_at_call 16; (with_reducible refine (HN.out _).mono ?_); rintro e w' ⟨rfl, rfl⟩)
      go_ret
      exact ⟨rfl, rfl⟩
    · have hF := HF.out
      simp [h] at hF
      subst hF
      clear HF
      go_enter Try.func31, Try.ntmps31
      go_wp2_with (go_at_call 16; (with_reducible refine (HN.out _).mono ?_); rintro e w' ⟨rfl, rfl⟩)
      go_ret
      exact ⟨rfl, rfl⟩
end Go.Proofs.Ytmimfojlcihhaaa.Fb
