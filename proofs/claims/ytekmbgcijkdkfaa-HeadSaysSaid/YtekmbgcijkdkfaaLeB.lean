/-
  What 'Get' answers at bytes that can be read: the number, or that there is none.
-/
import Derived.Test.YtekmbgcijkdkfaaLeA
import Derived.Test.YtekmbgcijkdkfaaLeNum
namespace Go.Proofs.Ytekmbgcijkdkfaa.LeB
open Go.ChangeShapes Go.WideShapes Go.ChangeAt Go.RowKit
open Bytes8 Blk8 LeA LeNum
set_option linter.unusedVariables false
set_option maxRecDepth 100000

theorem get_no (a : Option Addr) (len cap : Nat) (at1 n : Int) (w : World) (hl : len ≤ 9223372036854775807) (hf : fits len at1 n = false) :
    Calls Try.prog 47 #[.slice a len cap, .int .i64 at1, .int .i64 n] w fun e w' => e = .returned (.tuple #[.int .u64 0, .bool false]) ∧ w = w' := by
  go_enter Try.func47, Try.ntmps47
  go_wp2_with (go_at_call 71; refine (within_any _ _ _ _ _ _ hl).mono ?_; rintro e w' ⟨rfl, rfl⟩)
  go_ret2
  exact ⟨rfl, rfl⟩

theorem get_yes (a : Option Addr) (l : List Int) (cap : Nat) (at1 n : Nat) (w : World) (hl : l.length ≤ 9223372036854775807) (hf : fits l.length at1 n = true) (hb : Bytes w a l) (h8 : n ≤ 8) (h1 : 1 ≤ n) (hle : at1 + n ≤ l.length):
    Calls Try.prog 47 #[.slice a l.length cap, .int .i64 at1, .int .i64 n] w fun e w' => e = .returned (.tuple #[.int .u64 (leNum ((l.drop at1).take n)), .bool true]) ∧ w = w' := by
  obtain ⟨b, off, rfl, hlt, hc⟩ := hb.spot (by omega)
  have hA : AllB l := hb.1
  generalize hL : l.length = len at *
  have HL := Lib.hid hL
  clear hL hb
  have HC := Lib.hid hc
  have HA := Lib.hid hA
  clear hc hA
  go_enter Try.func47, Try.ntmps47
  go_wp2_with (go_at_call 71; refine (within_any _ _ _ _ _ _ hl).mono ?_; rintro e w' ⟨rfl, rfl⟩)
  go_loop [8, 16] (fun v i => ∃ k : Nat, k ≤ n ∧ i = .int .i64 k ∧ v = .int .u64 (leNum ((l.drop at1).take k))) (fun _ i => n - (intOf i).toNat)
  case atStart => exact ⟨0, Nat.zero_le _, rfl, rfl⟩
  case round =>
    obtain ⟨k, hk, rfl, rfl⟩ := hrel
    by_cases hlt : k < n
    · have hcell := HC.out (at1 + k) (by omega)
      have hs := get_step l at1 k (by omega) (by have := HL.out; omega) HA.out
      have HS := Lib.hid hs
      obtain ⟨hc0, hc1⟩ := HA.out.at_ (at1 + k)
      clear hs
      go_wp2
      go_round
      case rel => exact ⟨k + 1, by omega, by go_num, by rw [HS.out]⟩
      case measure => simp [intOf]; omega
    · go_wp2
      go_ret2
      obtain rfl : k = n := by omega
      exact ⟨rfl, rfl⟩
end Go.Proofs.Ytekmbgcijkdkfaa.LeB
