/-
  What the document's own 'Low', 'Add' and 'Put' make: bytes of the call's own.
-/
import Derived.Test.YtmkpeidgimgdlaaRefA
namespace Go.Proofs.Ytmkpeidgimgdlaa.RefB
open Go.ChangeShapes Go.WideShapes Go.ChangeAt Go.RowKit
open Bytes8 Blk8 Own8 LeA LeNum LeB LeP RefA
set_option linter.unusedVariables false

theorem pow_succ_div (v : Int) (k : Nat) : v / 256 ^ k / 256 = v / 256 ^ (k + 1) := by
  rw [Int.pow_succ, Int.ediv_ediv_of_nonneg (Int.le_of_lt (Int.pow_pos (by decide)))]

theorem div_bound (v : Int) (k : Nat) (h0 : 0 ≤ v) (h1 : v ≤ 18446744073709551615) : 0 ≤ v / 256 ^ k ∧ v / 256 ^ k ≤ 18446744073709551615 := by
  have hp : (0 : Int) < 256 ^ k := Int.pow_pos (by decide)
  have h2 : 0 ≤ v / 256 ^ k := Int.ediv_nonneg h0 (by omega)
  have h3 : v / 256 ^ k ≤ v := Int.ediv_le_self _ h0
  omega

theorem one_byte (x : Int) : AllB [x % 256] := by
  intro y hy
  simp at hy
  omega

theorem rlow_any (v : Int) (n : Nat) (w : World) (h0 : 0 ≤ v) (h1 : v ≤ 18446744073709551615) (hn : n ≤ 8) :
    Calls Try.prog 56 #[.int .u64 v, .int .i64 n] w fun e w' => ∃ A c, e = .returned (.slice A n c) ∧ Own w' w.heap.size A n c (lowB v n) ∧ Below w.heap.size w w' := by
  go_enter Try.func56, Try.ntmps56
  go_wp2
  go_loopw [0, 5, 6] (fun x s i wr => ∃ (k : Nat) (A : Option Addr) (c : Nat), k ≤ n ∧ i = .int .i64 k ∧ x = .int .u64 (v / 256 ^ k) ∧ s = .slice A k c ∧ Own wr w.heap.size A k c (lowB v k) ∧ Below w.heap.size w wr) (fun _ _ i _ => n - (intOf i).toNat)
  case atStart => exact ⟨0, none, 0, Nat.zero_le _, rfl, by simp, rfl, Own.nil w _ (Nat.le_refl _), Below.refl _ _⟩
  case round =>
    obtain ⟨k, A, c, hk, rfl, rfl, rfl, ho, hbel⟩ := hrel
    by_cases hlt : k < n
    · obtain ⟨x0, x1⟩ := div_bound v k h0 h1
      have HO := Lib.hid ho
      have HP := Lib.hid (pow_succ_div v k)
      have HS := Lib.hid (lowB_succ v k)
      clear ho
      generalize v / 256 ^ k = x at *
      go_wp2_with (at_builtin; refine wpList_append_bytes rfl (.tmp 12) (.tmp 16) rfl w.heap.size A k c (lowB v k) rfl (HO.out.kept ((Below.refl _ _).alloc (Nat.le_refl _) _) (Nat.le_refl _)) (some ⟨wr.heap.size, 0, none⟩) 1 1 [x % 256] rfl (Row.bytes (Row.new wr [x % 256]) (one_byte x)) rfl (by omega) ?_; intro A2 c2 w2 ho2 hbel2; have HO2 := Lib.hid ho2; clear ho2)
      go_roundw
      case rel => exact ⟨k + 1, A2, c2, by omega, by go_num, by rw [HP.out], rfl, by rw [HS.out]; exact HO2.out, (hbel.alloc hbel.size _).trans hbel2⟩
      case measure => simp [intOf]; omega
    · obtain rfl : k = n := by omega
      go_wp2
      go_ret
      exact ⟨A, c, rfl, ho, hbel⟩
theorem rlow_at (v : Int) (n : Nat) (m : Int) (w : World) (h0 : 0 ≤ v) (h1 : v ≤ 18446744073709551615) (hn : n ≤ 8) (hm : m = n) :
    Calls Try.prog 56 #[.int .u64 v, .int .i64 m] w fun e w' => ∃ A c, e = .returned (.slice A n c) ∧ Own w' w.heap.size A n c (lowB v n) ∧ Below w.heap.size w w' := by
  subst hm; exact rlow_any v n w h0 h1 hn

theorem radd_no (a : Option Addr) (l : List Int) (cap : Nat) (n v : Int) (w : World) (hl : l.length ≤ 1000000) (hf : isW n = false) (hb : Bytes w a l) :
    Calls Try.prog 47 #[.slice a l.length cap, .int .i64 n, .int .u64 v] w fun e w' => ∃ A c, e = .returned (.slice A l.length c) ∧ Bytes w' A l ∧ Below w.heap.size w w' := by
  simp [isW] at hf
  obtain ⟨⟨⟨n1, n2⟩, n4⟩, n8⟩ := hf
  have b1 : (n != 1) = true := by simpa using n1
  have b2 : (n != 2) = true := by simpa using n2
  have b4 : (n != 4) = true := by simpa using n4
  have b8 : (n != 8) = true := by simpa using n8
  have HB := Lib.hid hb
  clear hb
  generalize hL : l.length = len at *
  have HL := Lib.hid hL
  clear hL
  go_enter Try.func47, Try.ntmps47
  go_wp2_with (at_builtin; refine wpList_append_bytes rfl (.tmp 8) (.tmp 9) rfl w.heap.size _ 0 0 [] rfl (Own.made w _ (Nat.le_refl _)) a len cap l rfl (HB.out.below ((Below.refl _ _).alloc (Nat.le_refl _) _) (Nat.le_refl _)) HL.out (by omega) ?_; intro A2 c2 w2 ho2 hbel2; rw [Nat.zero_add, List.nil_append] at ho2; rw [Nat.zero_add]; have HO2 := Lib.hid ho2; clear ho2)
  go_ret
  exact ⟨A2, c2, rfl, HO2.out.bytes, ((Below.refl _ _).alloc (Nat.le_refl _) _).trans hbel2⟩

theorem radd_yes (a : Option Addr) (l : List Int) (cap n : Nat) (v : Int) (w : World) (hl : l.length ≤ 1000000) (hf : isW n = true) (h0 : 0 ≤ v) (h1 : v ≤ 18446744073709551615) (hb : Bytes w a l) :
    Calls Try.prog 47 #[.slice a l.length cap, .int .i64 n, .int .u64 v] w fun e w' => ∃ A c, e = .returned (.slice A (l.length + n) c) ∧ Bytes w' A (l ++ lowB v n) ∧ Below w.heap.size w w' := by
  have hr : n = 1 ∨ n = 2 ∨ n = 4 ∨ n = 8 := by simp [isW] at hf; omega
  have HB := Lib.hid hb
  have HLow := Lib.hid (fun (m : Int) (hm : m = (n : Int)) w => rlow_at v n m w h0 h1 (by omega) hm)
  clear hb hf
  generalize hL : l.length = len at *
  have HL := Lib.hid hL
  clear hL
  rcases hr with rfl | rfl | rfl | rfl
  all_goals
    go_enter Try.func47, Try.ntmps47
    go_wp2_with (first | (at_builtin; refine wpList_append_bytes rfl (.tmp 8) (.tmp 9) rfl w.heap.size _ 0 0 [] rfl (Own.made w _ (Nat.le_refl _)) a len cap l rfl (HB.out.below ((Below.refl _ _).alloc (Nat.le_refl _) _) (Nat.le_refl _)) HL.out (by omega) ?_; intro A2 c2 w2 ho2 hbel2; rw [Nat.zero_add, List.nil_append] at ho2; rw [Nat.zero_add]; have HO2 := Lib.hid ho2; clear ho2) | (go_at_call 56; (with_reducible refine (HLow.out _ (by omega) _).mono ?_); rintro e w3 ⟨A3, c3, rfl, ho3, hbel3⟩; have HO3 := Lib.hid ho3; clear ho3) | (at_builtin; refine wpList_append_bytes rfl (.tmp 26) (.tmp 29) rfl w.heap.size A2 len c2 l rfl (HO2.out.kept hbel3 (Nat.le_refl _)) A3 _ c3 _ rfl HO3.out.bytes (lowB_len v _) (by omega) ?_; intro A4 c4 w4 ho4 hbel4; have HO4 := Lib.hid ho4; clear ho4))
    go_ret
    exact ⟨A4, c4, rfl, HO4.out.bytes, (((Below.refl _ _).alloc (Nat.le_refl _) _).trans hbel2).trans ((hbel3.mono (((Below.refl _ _).alloc (Nat.le_refl _) _).trans hbel2).size).trans hbel4)⟩

end Go.Proofs.Ytmkpeidgimgdlaa.RefB
