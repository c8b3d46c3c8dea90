/-
  What 'Zero' answers at bytes that can be read: whether all are 0.
-/
import Derived.Test.YtfofjnnjlnggjaaLeC
namespace Go.Proofs.Ytfofjnnjlnggjaa.LeZ
open Go.ChangeShapes Go.WideShapes Go.ChangeAt Go.RowKit
open Bytes8 LeA LeNum LeB LeC

def allZero (l : List Int) : Bool := l.all (· == 0)

theorem allZero_no {l : List Int} {k : Nat} (hk : k < l.length) (h : ¬ l.getD k 0 = 0) : false = allZero l := by
  unfold allZero
  symm
  rw [List.all_eq_false]
  exact ⟨l[k], List.getElem_mem hk, by simpa [List.getElem?_eq_getElem hk] using h⟩

theorem allZero_yes {l : List Int} (h : ∀ i, i < l.length → l.getD i 0 = 0) : true = allZero l := by
  unfold allZero
  symm
  rw [List.all_eq_true]
  intro x hx
  obtain ⟨i, hi, rfl⟩ := List.getElem_of_mem hx
  have := h i hi
  simpa [List.getElem?_eq_getElem hi] using this

theorem zero_any (a : Option Addr) (l : List Int) (cap : Nat) (w : World) (hl : l.length ≤ 9223372036854775807) (hb : Bytes w a l) :
    Calls Try.prog 18 #[.slice a l.length cap] w fun e w' => e = .returned (.bool (allZero l)) ∧ w = w' := by
  by_cases h0 : l.length = 0
  · obtain rfl : l = [] := List.eq_nil_of_length_eq_zero h0
    go_enter Try.func18, Try.ntmps18
    go_wp2
    go_loop [7] (fun i => i = .int .i64 0) (fun _ => 0)
    case atStart => rfl
    case round =>
      subst hrel
      go_wp2
      go_ret
      exact ⟨rfl, rfl⟩
  obtain ⟨b, off, rfl, hlt, hc⟩ := hb.spot (by omega)
  generalize hL : l.length = len at *
  have HL := Lib.hid hL
  clear hL hb
  have HC := Lib.hid hc
  clear hc
  go_enter Try.func18, Try.ntmps18
  go_wp2
  go_loop [7] (fun i => ∃ k : Nat, k ≤ len ∧ i = .int .i64 k ∧ Hid (∀ j, j < k → l.getD j 0 = 0)) (fun i => len - (intOf i).toNat)
  case atStart => exact ⟨0, Nat.zero_le _, rfl, fun j hj => absurd hj (by omega)⟩
  case round =>
    obtain ⟨k, hk, rfl, hz⟩ := hrel
    by_cases hlt2 : k < len
    · have hcell := HC.out k hlt2
      cases hzz : (l[k]?.getD 0 != 0) with
      | false =>
        have hz0 := Lib.hid (show l.getD k 0 = 0 by simpa using hzz)
        go_wp2
        go_round
        case rel => exact ⟨k + 1, by omega, by go_num, fun j hj => by
          rcases Nat.lt_or_ge j k with h | h
          · exact hz.out j h
          · obtain rfl : j = k := by omega
            exact hz0.out⟩
        case measure => simp [intOf]; omega
      | true =>
        have hne := Lib.hid (allZero_no (l := l) (k := k) (by have := HL.out; omega) (by simpa using hzz))
        go_wp2
        go_ret
        exact ⟨ret_bool hne.out, rfl⟩
    · go_wp2
      go_ret
      exact ⟨ret_bool (allZero_yes (fun i hi => hz.out i (by have := HL.out; omega))), rfl⟩
end Go.Proofs.Ytfofjnnjlnggjaa.LeZ
