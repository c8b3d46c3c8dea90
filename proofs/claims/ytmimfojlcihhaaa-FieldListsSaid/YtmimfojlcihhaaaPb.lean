/-
  The document's Within, loop in loop.
-/
import Derived.Test.YtmimfojlcihhaaaPa
namespace Go.Proofs.Ytmimfojlcihhaaa.Pb8
open Go.ChangeShapes Go.WideShapes Go.ChangeAt Go.RowKit
open Bytes8 Blk8 Own8 OwnE Fa Fb Fc Fo In8 Pr8 Pa8
set_option linter.unusedVariables false
set_option linter.unusedSimpArgs false

def subB (l m : List PR) : Bool := l.all fun p => decide (p ∈ m)
theorem subB_no {l m : List PR} {i : Nat} (hi : i < l.length) (h : l.getD i nil2 ∉ m) : subB l m = false := by
  cases hs : subB l m with
  | false => rfl
  | true =>
    have := List.all_eq_true.1 hs _ (getD_mem' hi)
    simp at this
    exact absurd this (by simpa using h)
theorem subB_yes {l m : List PR} (h : ∀ i, i < l.length → l.getD i nil2 ∈ m) : subB l m = true := by
  refine List.all_eq_true.2 fun p hp => ?_
  obtain ⟨i, hi, rfl⟩ := mem_getD hp
  simpa using h i hi
theorem mem_take_step {m : List PR} {k : Nat} (hk : k < m.length) (p : PR) : decide (p ∈ m.take (k + 1)) = (decide (p ∈ m.take k) || decide (p = m.getD k nil2)) := by
  rw [take_step hk]
  simp [List.mem_append]

set_option maxHeartbeats 1000000 in
set_option maxRecDepth 100000 in
theorem rwithin_any (a b : Option Addr) (l m : List PR) (n k c d : Nat) (w : World) (hP : Prs w a l) (hQ : Prs w b m) (hL : l.length = n) (hM : m.length = k) (hmax : n ≤ 1000000) (hmax2 : k ≤ 1000000) :
    Calls Try.prog 27 #[.slice a n c, .slice b k d] w fun e w' => e = .returned (.bool (subB l m)) ∧ Below w.heap.size w w' := by
  have HP := Lib.hid hP
  have HQ := Lib.hid hQ
  have HL := Lib.hid hL
  have HM := Lib.hid hM
  have HE := Lib.hid fun i j => eql_pr (hP.1.at_ i) (hQ.1.at_ j)
  have hmx : Try.prog.follows .mixedOrders = true := by kernel_rfl
  clear hP hQ hL hM
  go_enter Try.func27, Try.ntmps27
  go_wp2
  go_loopw [5] (fun i wr => ∃ j : Nat, j ≤ n ∧ i = .int .i64 (j : Int) ∧ Hid (∀ x, x < j → l.getD x nil2 ∈ m) ∧ Hid (Below w.heap.size w wr)) (fun i _ => n - (intOf i).toNat)
  case atStart => exact ⟨0, by omega, rfl, Lib.hid fun j hj => absurd hj (by omega), Lib.hid (Below.refl _ _)⟩
  case round =>
    obtain ⟨j, hj, rfl, hall, hB⟩ := hrel
    rcases Nat.lt_or_ge j n with hlt | hge
    · have hin : (j : Int) < (n : Int) := by omega
      go_wp2
      go_loopw [6, 7] (fun s i wr => ∃ x : Nat, x ≤ k ∧ i = .int .i64 (x : Int) ∧ s = .bool (decide (l.getD j nil2 ∈ m.take x)) ∧ Hid (Below w.heap.size w wr)) (fun _ i _ => k - (intOf i).toNat)
      case atStart => exact ⟨0, by omega, rfl, by simp, hB⟩
      case round =>
        obtain ⟨x, hx, rfl, rfl, hB2⟩ := hrel
        rcases Nat.lt_or_ge x k with hlt2 | hge2
        · have hin2 : (x : Int) < (k : Int) := by omega
          obtain ⟨b1, off1, rfl, hbl1, hc0, hc1⟩ := (HP.out.below hB2.out).2 j (by have := HL.out; omega)
          obtain ⟨b2, off2, rfl, hbl2, hd0, hd1⟩ := (HQ.out.below hB2.out).2 x (by have := HM.out; omega)
          have hq := HE.out j x
          have HS := Lib.hid (mem_take_step (m := m) (k := x) (by have := HM.out; omega) (l.getD j nil2))
          generalize T (l.getD j nil2).1 = E1 at *
          generalize T (l.getD j nil2).2 = E2 at *
          generalize T (m.getD x nil2).1 = F1 at *
          generalize T (m.getD x nil2).2 = F2 at *
          generalize decide (l.getD j nil2 = m.getD x nil2) = q at *
          cases hs : decide (l.getD j nil2 ∈ m.take x) with
          | true =>
            rw [hs] at HS
            clear hs
            go_wp2_with fail
            go_quiet (fail)
            go_wp2
            go_round
            case rel => exact ⟨x + 1, by omega, by go_num, by rw [HS.out]; rfl, Lib.hid (below_drewN hB2.out _)⟩
            case measure => simp [intOf]; omega
          | false =>
            rw [hs] at HS
            clear hs
            go_wp2_with fail
            go_quiet (fail)
            go_wp2
            go_round
            case rel => exact ⟨x + 1, by omega, by go_num, by rw [HS.out]; rfl, Lib.hid (below_drewN hB2.out _)⟩
            case measure => simp [intOf]; omega
        · obtain rfl : x = k := by omega
          have ht : m.take x = m := List.take_of_length_le (by have := HM.out; omega)
          rw [ht]
          by_cases hm : l.getD j nil2 ∈ m
          · have hall2 := Lib.hid (fun y (hy : y < j + 1) => (by
              rcases Nat.lt_or_ge y j with h1 | h1
              · exact hall.out y h1
              · obtain rfl : y = j := by omega
                exact hm : l.getD y nil2 ∈ m))
            rw [decide_eq_true hm]
            clear hm hall ht
            go_wp2
            go_round
            case rel => exact ⟨j + 1, by omega, by go_num, hall2, hB2⟩
            case measure => simp [intOf]; omega
          · have HN := Lib.hid (subB_no (m := m) (by have := HL.out; omega) hm)
            rw [decide_eq_false hm]
            clear hm hall ht
            go_wp2
            go_ret
            exact ⟨ret_bool HN.out.symm, hB2.out⟩
    · obtain rfl : j = n := by omega
      have HN := Lib.hid (subB_yes (m := m) fun i hi => hall.out i (by have := HL.out; omega))
      clear hall
      go_wp2
      go_ret
      exact ⟨ret_bool HN.out.symm, hB.out⟩
end Go.Proofs.Ytmimfojlcihhaaa.Pb8
