/-
  What the document's own 'Low' makes: bytes of the call's own.
-/
import Derived.Test.YtekmbgcijkdkfaaRefA
namespace Go.Proofs.Ytekmbgcijkdkfaa.RefB
open Go.ChangeShapes Go.WideShapes Go.ChangeAt Go.RowKit
open Bytes8 Blk8 Own8 LeA LeNum LeB LeP RefA
set_option linter.unusedVariables false
set_option maxRecDepth 100000

theorem pow_succ_div (v : Int) (k : Nat) : v / 256 ^ k / 256 = v / 256 ^ (k + 1) := by
  rw [Int.pow_succ, Int.ediv_ediv_of_nonneg (Int.le_of_lt (Int.pow_pos (by decide)))]

theorem div_bound (v : Int) (k : Nat) (h0 : 0 ≤ v) (h1 : v ≤ 18446744073709551615) : 0 ≤ v / 256 ^ k ∧ v / 256 ^ k ≤ 18446744073709551615 := by
  have hp : (0 : Int) < 256 ^ k := Int.pow_pos (by decide)
  have h2 : 0 ≤ v / 256 ^ k := Int.ediv_nonneg h0 (by omega)
  have h3 : v / 256 ^ k ≤ v := Int.ediv_le_self _ h0
  omega

theorem one_byte (x : Int) : AllB [x % 256] := by
  intro y hy
  simp at hy
  omega

theorem rlow_any (v : Int) (n : Nat) (w : World) (h0 : 0 ≤ v) (h1 : v ≤ 18446744073709551615) (hn : n ≤ 8) :
    Calls Try.prog 39 #[.int .u64 v, .int .i64 n] w fun e w' => ∃ A c, e = .returned (.slice A n c) ∧ Own w' w.heap.size A n c (lowB v n) ∧ Below w.heap.size w w' := by
  go_enter Try.func39, Try.ntmps39
  go_wp2
  go_loopw [0, 5, 6] (fun x s i wr => ∃ (k : Nat) (A : Option Addr) (c : Nat), k ≤ n ∧ i = .int .i64 k ∧ x = .int .u64 (v / 256 ^ k) ∧ s = .slice A k c ∧ Own wr w.heap.size A k c (lowB v k) ∧ Below w.heap.size w wr) (fun _ _ i _ => n - (intOf i).toNat)
  case atStart => exact ⟨0, none, 0, Nat.zero_le _, rfl, by simp, rfl, Own.nil w _ (Nat.le_refl _), Below.refl _ _⟩
  case round =>
    obtain ⟨k, A, c, hk, rfl, rfl, rfl, ho, hbel⟩ := hrel
    by_cases hlt : k < n
    · obtain ⟨x0, x1⟩ := div_bound v k h0 h1
      have HO := Lib.hid ho
      have HP := Lib.hid (pow_succ_div v k)
      have HS := Lib.hid (lowB_succ v k)
      clear ho
      generalize v / 256 ^ k = x at *
      go_wp2_with (at_builtin; refine wpList_append_bytes rfl (.tmp 12) (.tmp 16) rfl w.heap.size A k c (lowB v k) rfl (HO.out.kept ((Below.refl _ _).alloc (Nat.le_refl _) _) (Nat.le_refl _)) (some ⟨wr.heap.size, 0, none⟩) 1 1 [x % 256] rfl (Row.bytes (Row.new wr [x % 256]) (one_byte x)) rfl (by omega) ?_; intro A2 c2 w2 ho2 hbel2; have HO2 := Lib.hid ho2; clear ho2)
      go_roundw
      case rel => exact ⟨k + 1, A2, c2, by omega, by go_num, by rw [HP.out], rfl, by rw [HS.out]; exact HO2.out, (hbel.alloc hbel.size _).trans hbel2⟩
      case measure => simp [intOf]; omega
    · obtain rfl : k = n := by omega
      go_wp2
      go_ret
      exact ⟨A, c, rfl, ho, hbel⟩
theorem rlow_at (v : Int) (n : Nat) (m : Int) (w : World) (h0 : 0 ≤ v) (h1 : v ≤ 18446744073709551615) (hn : n ≤ 8) (hm : m = n) :
    Calls Try.prog 39 #[.int .u64 v, .int .i64 m] w fun e w' => ∃ A c, e = .returned (.slice A n c) ∧ Own w' w.heap.size A n c (lowB v n) ∧ Below w.heap.size w w' := by
  subst hm; exact rlow_any v n w h0 h1 hn

end Go.Proofs.Ytekmbgcijkdkfaa.RefB
