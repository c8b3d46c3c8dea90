/-
  What 'Get' answers at bytes that can be read: the number, or that there is none.
-/
import Derived.Test.YtfofjnnjlnggjaaLeA
import Derived.Test.YtfofjnnjlnggjaaLeNum
namespace Go.Proofs.Ytfofjnnjlnggjaa.LeB
open Go.ChangeShapes Go.WideShapes Go.ChangeAt Go.RowKit
open LeA LeNum

/-- So many bytes can be read from an address on. -/
def Bytes (w : World) (a : Option Addr) (l : List Int) : Prop :=
  ∀ i, i < l.length → ∃ b off, a = some ⟨b, off, none⟩ ∧ w.cell? ⟨b, off + i, none⟩ = some (.int .u8 (l.getD i 0)) ∧ 0 ≤ l.getD i 0 ∧ l.getD i 0 < 256

theorem Bytes.all {w : World} {a : Option Addr} {l : List Int} (h : Bytes w a l) : AllB l := by
  intro x hx
  obtain ⟨i, hi, rfl⟩ := List.getElem_of_mem hx
  obtain ⟨_, _, _, _, h2⟩ := h i hi
  simpa [List.getElem?_eq_getElem hi] using h2

theorem get_no (a : Option Addr) (len cap : Nat) (at1 n : Int) (w : World) (hl : len ≤ 9223372036854775000) (hf : fits len at1 n = false) :
    Calls Try.prog 8 #[.slice a len cap, .int .i64 at1, .int .i64 n] w fun e w' => e = .returned (.tuple #[.int .u64 0, .bool false]) ∧ w = w' := by
  go_enter Try.func8, Try.ntmps8
  go_wp2_with (go_at_call 19; refine (within_any _ _ _ _ _ _ hl).mono ?_; rintro e w' ⟨rfl, rfl⟩)
  go_ret2
  exact ⟨rfl, rfl⟩

theorem get_yes (a : Option Addr) (l : List Int) (cap : Nat) (at1 n : Nat) (w : World) (hl : l.length ≤ 9223372036854775000) (hf : fits l.length at1 n = true) (hb : Bytes w a l) (h8 : n ≤ 8) (h1 : 1 ≤ n) (hle : at1 + n ≤ l.length):
    Calls Try.prog 8 #[.slice a l.length cap, .int .i64 at1, .int .i64 n] w fun e w' => e = .returned (.tuple #[.int .u64 (leNum ((l.drop at1).take n)), .bool true]) ∧ w = w' := by
  obtain ⟨b, off, rfl, _⟩ := hb 0 (by omega)
  have hc : ∀ i, i < l.length → w.cell? ⟨b, off + i, none⟩ = some (.int .u8 (l.getD i 0)) ∧ 0 ≤ l.getD i 0 ∧ l.getD i 0 < 256 := by
    intro i hi
    obtain ⟨b', off', h, h2⟩ := hb i hi
    simp at h; obtain ⟨rfl, rfl⟩ := h; exact h2
  have hA : AllB l := hb.all
  generalize hL : l.length = len at *
  have HL := Lib.hid hL
  clear hL hb
  have HC := Lib.hid hc
  have HA := Lib.hid hA
  clear hc hA
  go_enter Try.func8, Try.ntmps8
  go_wp2_with (go_at_call 19; refine (within_any _ _ _ _ _ _ hl).mono ?_; rintro e w' ⟨rfl, rfl⟩)
  go_loop [8, 16] (fun v i => ∃ k : Nat, k ≤ n ∧ i = .int .i64 k ∧ v = .int .u64 (leNum ((l.drop at1).take k))) (fun _ i => n - (intOf i).toNat)
  case atStart => exact ⟨0, Nat.zero_le _, rfl, rfl⟩
  case round =>
    obtain ⟨k, hk, rfl, rfl⟩ := hrel
    by_cases hlt : k < n
    · obtain ⟨hcell, hc0, hc1⟩ := HC.out (at1 + k) (by omega)
      have hs := get_step l at1 k (by omega) (by have := HL.out; omega) HA.out
      have HS := Lib.hid hs
      clear hs
      go_wp2
      go_round
      case rel => exact ⟨k + 1, by omega, by go_num, by rw [HS.out]⟩
      case measure => simp [intOf]; omega
    · go_wp2
      go_ret2
      obtain rfl : k = n := by omega
      exact ⟨rfl, rfl⟩
end Go.Proofs.Ytfofjnnjlnggjaa.LeB
