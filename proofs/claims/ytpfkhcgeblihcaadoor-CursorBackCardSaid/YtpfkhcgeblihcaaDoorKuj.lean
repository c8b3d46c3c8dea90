/-
  Short numbers, numbers of 16 digits, names read: the program's way.
-/
import Derived.Test.YtpfkhcgeblihcaaDoorKui
namespace Go.Proofs.YtpfkhcgeblihcaaDoor.Kuj
open Go.ChangeShapes Go.WideShapes Go.ChangeAt Go.RowKit
open Bytes8 Blk8 Own8 Fa Kua Kub Kuc Kud Kui
set_option linter.unusedVariables false
set_option linter.unusedSimpArgs false
set_option maxRecDepth 100000

theorem T_empty {l : List Int} : (T l).toList.isEmpty = decide (l.length = 0) := by
  have h := T_size l
  rw [T_toList]
  cases l <;> simp
theorem num_is {s : List Int} (h0 : s ≠ []) (h1 : s.length ≤ 16) (h2 : s.head? = some 48 → s = [48]) : numOk s = valB s ∧ Kub.numOf s = valR s := by
  have h : numOk s = valB s := by
    unfold numOk valB
    cases hv : valF s 0 with
    | none => simp [hv]
    | some u => rw [decide_eq_true ⟨h0, h1, h2, by simp⟩]; rfl
  refine ⟨h, ?_⟩
  unfold Kub.numOf valR
  rw [h]
  unfold valB
  cases hv : valF s 0 <;> simp
theorem num_not {s : List Int} (h : ¬ (s ≠ [] ∧ s.length ≤ 16 ∧ (s.head? = some 48 → s = [48]))) : numOk s = false ∧ Kub.numOf s = 0 := by
  have h1 : numOk s = false := by
    unfold numOk
    rw [decide_eq_false]
    exact fun k => h ⟨k.1, k.2.1, k.2.2.1⟩
  exact ⟨h1, by unfold Kub.numOf; rw [h1]; rfl⟩
set_option maxHeartbeats 4000000 in
theorem fshort_any (s : List Int) (hA : AllB s) (hl : s.length ≤ 1000000) (w : World) : Calls Tryd.prog 42 #[.string (T s)] w fun e w' => e = .returned (.tuple #[.int .u64 (Kub.numOf s : Nat), .bool (numOk s)]) ∧ w = w' := by
  have hemp := T_empty (l := s)
  have hsz := T_size s
  rcases Nat.eq_zero_or_pos s.length with h0 | h0
  · obtain ⟨e1, e2⟩ := num_not (s := s) (fun k => k.1 (List.length_eq_zero_iff.1 h0))
    have E1 := Lib.hid e1
    have E2 := Lib.hid e2
    rw [decide_eq_true h0] at hemp
    clear e1 e2 hA hl h0
    generalize T s = S at *
    go_enter Tryd.func42, Tryd.ntmps42
    go_wp2
    go_ret2
    exact ⟨by rw [E1.out, E2.out]; rfl, rfl⟩
  · rw [decide_eq_false (by omega)] at hemp
    by_cases h16 : 16 < s.length
    · obtain ⟨e1, e2⟩ := num_not (s := s) (fun k => by omega)
      have E1 := Lib.hid e1
      have E2 := Lib.hid e2
      clear e1 e2 hA
      obtain ⟨n, hn⟩ : ∃ n, s.length = n := ⟨_, rfl⟩
      rw [hn] at h16 hsz
      have h16i : (16 : Int) < (n : Int) := by omega
      clear hn hl h0
      generalize T s = S at *
      go_enter Tryd.func42, Tryd.ntmps42
      go_wp2
      go_ret2
      exact ⟨by rw [E1.out, E2.out]; rfl, rfl⟩
    · have hidx : ∀ W, (Instr.index 9 (.string (T s)) (.int .i64 0)).run Tryd.prog W = .ok (.int .u8 (s.getD 0 0)) W := fun W => index_at s hA 0 h0 W
      have hb := T_beq hA (m := [48]) (by intro x hx; simp at hx; subst hx; decide)
      have hV := Lib.hid fun W => value_any s hA (by omega) W
      have hhd : s.head? = some (s.getD 0 0) := by
        cases s with
        | nil => cases h0
        | cons x l => rfl
      have hne : s ≠ [] := fun e => by rw [e] at h0; cases h0
      have h16i : ¬ (16 : Int) < (s.length : Int) := by omega
      by_cases hc : s.getD 0 0 = 48
      · by_cases hs : s = [48]
        · obtain ⟨e1, e2⟩ := num_is hne (by omega) (fun _ => hs)
          rw [← e1, ← e2] at hV
          rw [decide_eq_true hs, show (T [48]).toList = [48] by kernel_rfl] at hb
          have hq : (s.getD 0 0 == 48) = true := by rw [hc]; rfl
          generalize Kub.numOf s = a at *
          generalize numOk s = b at *
          generalize s.getD 0 0 = c at *
          generalize s.length = n at *
          generalize T s = S at *
          clear hA hhd hne hs e1 e2 hc
          go_enter Tryd.func42, Tryd.ntmps42
          go_wp2_with (go_at_call 28; (with_reducible refine (hV.out _).mono ?_); rintro e w' ⟨rfl, rfl⟩)
          go_ret2
          exact ⟨rfl, rfl⟩
        · obtain ⟨e1, e2⟩ := num_not (s := s) (fun k => hs (k.2.2 (by rw [hhd, hc])))
          have E1 := Lib.hid e1
          have E2 := Lib.hid e2
          rw [decide_eq_false hs, show (T [48]).toList = [48] by kernel_rfl] at hb
          have hq : (s.getD 0 0 == 48) = true := by rw [hc]; rfl
          generalize s.getD 0 0 = c at *
          generalize s.length = n at *
          generalize T s = S at *
          clear hA hhd hne hs e1 e2 hc hV
          go_enter Tryd.func42, Tryd.ntmps42
          go_wp2
          go_ret2
          exact ⟨by rw [E1.out, E2.out]; rfl, rfl⟩
      · obtain ⟨e1, e2⟩ := num_is hne (by omega) (fun h => absurd (by rw [hhd] at h; injection h) hc)
        rw [← e1, ← e2] at hV
        have hq : (s.getD 0 0 == 48) = false := by simpa using hc
        generalize Kub.numOf s = a at *
        generalize numOk s = b at *
        generalize s.getD 0 0 = c at *
        generalize s.length = n at *
        generalize T s = S at *
        clear hA hhd hne e1 e2 hc hb
        go_enter Tryd.func42, Tryd.ntmps42
        go_wp2_with (go_at_call 28; (with_reducible refine (hV.out _).mono ?_); rintro e w' ⟨rfl, rfl⟩)
        go_ret2
        exact ⟨rfl, rfl⟩
/-- A number of 16 digits. -/
def fixOk (s : List Int) : Bool := decide (s.length = 16) && valB s
def fixOf (s : List Int) : Nat := if s.length = 16 then valR s else 0
theorem number_any (s : List Int) (hA : AllB s) (hl : s.length ≤ 1000000) (w : World) : Calls Tryd.prog 11 #[.string (T s)] w fun e w' => e = .returned (.tuple #[.int .u64 (fixOf s : Nat), .bool (fixOk s)]) ∧ w = w' := by
  have hsz := T_size s
  by_cases h : s.length = 16
  · have hV := Lib.hid fun W => value_any s hA (by omega) W
    have e1 : fixOk s = valB s := by unfold fixOk; rw [decide_eq_true h]; simp
    have e2 : fixOf s = valR s := by unfold fixOf; rw [if_pos h]
    rw [← e1, ← e2] at hV
    rw [h] at hsz
    clear hA hl h e1 e2
    generalize fixOf s = a at *
    generalize fixOk s = b at *
    generalize T s = S at *
    go_enter Tryd.func11, Tryd.ntmps11
    go_wp2_with (go_at_call 28; (with_reducible refine (hV.out _).mono ?_); rintro e w' ⟨rfl, rfl⟩)
    go_ret2
    exact ⟨rfl, rfl⟩
  · have e1 : Hid (fixOk s = false) := Lib.hid (by unfold fixOk; rw [decide_eq_false h]; rfl)
    have e2 : Hid (fixOf s = 0) := Lib.hid (by unfold fixOf; rw [if_neg h])
    obtain ⟨n, hn⟩ : ∃ n, s.length = n := ⟨_, rfl⟩
    rw [hn] at h hsz
    have hq : ((n : Int) != 16) = true := by simp; omega
    clear hn hl hA h
    generalize T s = S at *
    go_enter Tryd.func11, Tryd.ntmps11
    go_wp2
    go_ret2
    exact ⟨by rw [e1.out, e2.out]; rfl, rfl⟩
end Go.Proofs.YtpfkhcgeblihcaaDoor.Kuj
