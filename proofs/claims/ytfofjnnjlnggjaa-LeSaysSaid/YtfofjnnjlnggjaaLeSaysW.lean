/-
  The walk of LeSays: at any bytes and any numbers the law returns true, and nothing that was there is written.
-/
import Derived.Test.YtfofjnnjlnggjaaRefC
namespace Go.Proofs.Ytfofjnnjlnggjaa.LeSaysW
open Go.ChangeShapes Go.WideShapes Go.ChangeAt Go.RowKit
open Bytes8 Own8 LeA LeNum LeB LeC LeP RefA RefB RefC
set_option linter.unusedVariables false

/-- A number and whether there is one. -/
def Num (x : Int) (t : Bool) (w : World) (e : Ending) (w' : World) : Prop := e = .returned (.tuple #[.int .u64 x, .bool t]) ∧ w = w'
/-- Bytes of the call's own, and a bool. -/
def Made (m : List Int) (t : Bool) (w : World) (e : Ending) (w' : World) : Prop := ∃ A c, e = .returned (.tuple #[.slice A m.length c, .bool t]) ∧ Bytes w' A m ∧ Below w.heap.size w w'
/-- .. alone. -/
def Fresh (m : List Int) (w : World) (e : Ending) (w' : World) : Prop := ∃ A c, e = .returned (.slice A m.length c) ∧ Bytes w' A m ∧ Below w.heap.size w w'

theorem gets (a : Option Addr) (l : List Int) (len cap : Nat) (at1 n : Int) (hL : l.length = len) (hl : len ≤ 1000000) (hat : -9223372036854775808 ≤ at1) :
    ∃ x t, (∀ W, Bytes W a l → Calls Try.prog 8 #[.slice a len cap, .int .i64 at1, .int .i64 n] W (Num x t W)) ∧
      (∀ W, Bytes W a l → Calls Try.prog 9 #[.slice a len cap, .int .i64 at1, .int .i64 n] W (Num x t W)) := by
  subst hL
  cases hf : fits l.length at1 n with
  | false => exact ⟨0, false, fun W hb => get_no a l.length cap at1 n W (by omega) hf, fun W hb => rget_no a l.length cap at1 n W (by omega) hat hf⟩
  | true =>
    obtain ⟨h1, h2, h3, h4⟩ := fits_parts hf
    obtain ⟨p, rfl⟩ := Int.eq_ofNat_of_zero_le h3
    obtain ⟨k, rfl⟩ := Int.eq_ofNat_of_zero_le (show 0 ≤ n by omega)
    exact ⟨_, true, fun W hb => get_yes a l cap p k W (by omega) hf hb (by omega) (by omega) (by omega), fun W hb => rget_yes a l cap p k W (by omega) hf hb⟩

theorem aligns (v : Int) (h0 : 0 ≤ v) (h1 : v ≤ 18446744073709551615) :
    ∃ x t, (∀ W, Calls Try.prog 12 #[.int .u64 v] W (Num x t W)) ∧ (∀ W, Calls Try.prog 13 #[.int .u64 v] W (Num x t W)) := by
  by_cases h : v ≤ 18446744073709551608
  · exact ⟨_, true, fun W => align_yes v W h0 h, fun W => ralign_yes v W h0 h⟩
  · exact ⟨_, false, fun W => align_no v W (by omega), fun W => ralign_no v W (by omega) h1⟩

theorem puts (a : Option Addr) (l : List Int) (len cap : Nat) (at1 n v : Int) (hL : l.length = len) (hl : len ≤ 1000000) (hcap : len ≤ cap) (hcap2 : cap ≤ maxLen) (hat : -9223372036854775808 ≤ at1) (h0 : 0 ≤ v) (h1 : v ≤ 18446744073709551615) :
    ∃ m t, (∀ W, Bytes W a l → Calls Try.prog 10 #[.slice a len cap, .int .i64 at1, .int .i64 n, .int .u64 v] W (Made m t W)) ∧
      (∀ W, Bytes W a l → Calls Try.prog 11 #[.slice a len cap, .int .i64 at1, .int .i64 n, .int .u64 v] W (Made m t W)) := by
  subst hL
  cases hf : fits l.length at1 n with
  | false =>
    refine ⟨[], false, fun W hb => ?_, fun W hb => ?_⟩
    · refine (put_no a l.length cap at1 n v W (by omega) hf).mono ?_
      rintro e W' ⟨rfl, rfl⟩
      exact ⟨none, 0, rfl, Bytes.nil _ _, Below.refl _ _⟩
    · refine (rput_no a l.length cap at1 n v W (by omega) hat hf).mono ?_
      rintro e W' ⟨rfl, rfl⟩
      exact ⟨none, 0, rfl, Bytes.nil _ _, Below.refl _ _⟩
  | true =>
    obtain ⟨k1, k2, h3, h4⟩ := fits_parts hf
    obtain ⟨p, rfl⟩ := Int.eq_ofNat_of_zero_le h3
    obtain ⟨k, rfl⟩ := Int.eq_ofNat_of_zero_le (show 0 ≤ n by omega)
    have hlen : (over l p (lowB v k)).length = l.length := over_len _ _ _ (by rw [lowB_len]; omega)
    refine ⟨over l p (lowB v k), true, fun W hb => ?_, fun W hb => ?_⟩
    · refine (put_yes a l cap p k v W hl hf hb).mono ?_
      rintro e W' ⟨rfl, hr, hbel⟩
      exact ⟨_, _, ret_slice_bool hlen.symm, hr.bytes (over_all hb.1 (lowB_all v k)), hbel⟩
    · refine (rput_some a l cap p k v W hl hcap hcap2 hf h0 h1 hb).mono ?_
      rintro e W' ⟨A, c, rfl, hb', hbel⟩
      exact ⟨_, _, ret_slice_bool hlen.symm, hb', hbel⟩

theorem ret_slice {A : Option Addr} {a b c : Nat} (h : a = b) : Ending.returned (.slice A a c) = .returned (.slice A b c) := by rw [h]

theorem adds (a : Option Addr) (l : List Int) (len cap : Nat) (n v : Int) (hL : l.length = len) (hl : len ≤ 1000000) (h0 : 0 ≤ v) (h1 : v ≤ 18446744073709551615) :
    ∃ m, (∀ W, Bytes W a l → Calls Try.prog 15 #[.slice a len cap, .int .i64 n, .int .u64 v] W (Fresh m W)) ∧
      (∀ W, Bytes W a l → Calls Try.prog 16 #[.slice a len cap, .int .i64 n, .int .u64 v] W (Fresh m W)) := by
  subst hL
  cases hf : isW n with
  | false =>
    refine ⟨l, fun W hb => ?_, fun W hb => ?_⟩
    · refine (add_no a l cap n v W hl hf hb).mono ?_
      rintro e W' ⟨rfl, hr, hbel⟩
      exact ⟨_, _, rfl, hr.bytes hb.1, hbel⟩
    · refine (radd_no a l cap n v W hl hf hb).mono ?_
      rintro e W' ⟨A, c, rfl, hb', hbel⟩
      exact ⟨_, _, rfl, hb', hbel⟩
  | true =>
    obtain ⟨k1, k2⟩ := isW_bd hf
    obtain ⟨k, rfl⟩ := Int.eq_ofNat_of_zero_le (show 0 ≤ n by omega)
    have hlen : (l ++ lowB v k).length = l.length + k := by rw [List.length_append, lowB_len]
    refine ⟨l ++ lowB v k, fun W hb => ?_, fun W hb => ?_⟩
    · refine (add_yes a l cap k v W hl hf hb).mono ?_
      rintro e W' ⟨rfl, hr, hbel⟩
      exact ⟨_, _, ret_slice hlen.symm, hr.bytes (hb.1.app (lowB_all v k)), hbel⟩
    · refine (radd_yes a l cap k v W hl hf h0 h1 hb).mono ?_
      rintro e W' ⟨A, c, rfl, hb', hbel⟩
      exact ⟨_, _, ret_slice hlen.symm, hb', hbel⟩

set_option maxRecDepth 100000 in
theorem walk_long (a0 : Option Addr) (len0 cap0 : Nat) (a1 a2 a3 : Int) (w : World) (hlen : 300 < len0) :
    Calls Try.prog 3 #[.slice a0 len0 cap0, .int .i64 a1, .int .i64 a2, .int .u64 a3] w fun e w' => e = .returned (.bool true) ∧ Below w.heap.size w w' := by
  have hd : decide ((300 : Int) < (len0 : Int)) = true := by simp; omega
  go_enter Try.func3, Try.ntmps3
  go_wp2_with (first | (go_at_call 7; (with_reducible refine (first_any _).mono ?_); rintro e w1 ⟨rfl, hbel⟩))
  go_ret
  exact ⟨rfl, hbel⟩

set_option maxRecDepth 100000 in
set_option maxHeartbeats 1000000 in
theorem walk_main (a0 : Option Addr) (l : List Int) (len0 cap0 : Nat) (a1 a2 a3 : Int) (w : World) (hb : Bytes w a0 l) (hL : l.length = len0) (hlen : len0 ≤ 300) (hcap : len0 ≤ cap0) (hcap2 : cap0 ≤ maxLen) (hat : -9223372036854775808 ≤ a1) (v0 : 0 ≤ a3) (v1 : a3 ≤ 18446744073709551615) :
    Calls Try.prog 3 #[.slice a0 len0 cap0, .int .i64 a1, .int .i64 a2, .int .u64 a3] w fun e w' => e = .returned (.bool true) ∧ Below w.heap.size w w' := by
  have hd : decide ((300 : Int) < (len0 : Int)) = false := by simp; omega
  obtain ⟨x1, t1, hg1, hg2⟩ := gets a0 l len0 cap0 a1 a2 hL (by omega) hat
  obtain ⟨x2, t2, ha1, ha2⟩ := aligns a3 v0 v1
  obtain ⟨m1, t3, hp1, hp2⟩ := puts a0 l len0 cap0 a1 a2 a3 hL (by omega) hcap hcap2 hat v0 v1
  obtain ⟨m2, hs1, hs2⟩ := adds a0 l len0 cap0 a2 a3 hL (by omega) v0 v1
  have HG1 := Lib.hid hg1
  have HG2 := Lib.hid hg2
  have HA1 := Lib.hid ha1
  have HA2 := Lib.hid ha2
  have HP1 := Lib.hid hp1
  have HP2 := Lib.hid hp2
  have HS1 := Lib.hid hs1
  have HS2 := Lib.hid hs2
  have HB := Lib.hid hb
  clear hg1 hg2 ha1 ha2 hp1 hp2 hs1 hs2 hb hL hcap2
  go_enter Try.func3, Try.ntmps3
  go_wp2_with (first | (go_at_call 7; (with_reducible refine (first_any _).mono ?_); rintro e w1 ⟨rfl, hbel⟩; have HB1 := Lib.hid (HB.out.below hbel (Nat.le_refl _))) | (go_at_call 8; (with_reducible refine (HG1.out _ HB1.out).mono ?_); rintro e w' ⟨rfl, rfl⟩) | (go_at_call 9; (with_reducible refine (HG2.out _ HB1.out).mono ?_); rintro e w' ⟨rfl, rfl⟩) | (go_at_call 12; (with_reducible refine (HA1.out _).mono ?_); rintro e w' ⟨rfl, rfl⟩) | (go_at_call 13; (with_reducible refine (HA2.out _).mono ?_); rintro e w' ⟨rfl, rfl⟩) | (go_at_call 10; (with_reducible refine (HP1.out _ HB1.out).mono ?_); rintro e w2 ⟨A2, c2, rfl, hb2, hbel2⟩; have HM2 := Lib.hid hb2; clear hb2; have HB2 := Lib.hid (HB1.out.below hbel2 (Nat.le_refl _))) | (go_at_call 11; (with_reducible refine (HP2.out _ HB2.out).mono ?_); rintro e w3 ⟨A3, c3, rfl, hb3, hbel3⟩; have HM3 := Lib.hid hb3; clear hb3; have HB3 := Lib.hid (HB2.out.below hbel3 (Nat.le_refl _)); have HM23 := Lib.hid (HM2.out.below hbel3 (Nat.le_refl _))) | (go_at_call 14; (with_reducible refine (same_yes A2 A3 m1 _ c2 c3 _ HM23.out HM3.out rfl).mono ?_); rintro e w' ⟨rfl, rfl⟩) | (go_at_call 15; (with_reducible refine (HS1.out _ HB3.out).mono ?_); rintro e w4 ⟨A4, c4, rfl, hb4, hbel4⟩; have HM4 := Lib.hid hb4; clear hb4; have HB4 := Lib.hid (HB3.out.below hbel4 (Nat.le_refl _))) | (go_at_call 16; (with_reducible refine (HS2.out _ HB4.out).mono ?_); rintro e w5 ⟨A5, c5, rfl, hb5, hbel5⟩; have HM5 := Lib.hid hb5; clear hb5; have HM45 := Lib.hid (HM4.out.below hbel5 (Nat.le_refl _))) | (go_at_call 14; (with_reducible refine (same_yes A4 A5 m2 _ c4 c5 _ HM45.out HM5.out rfl).mono ?_); rintro e w' ⟨rfl, rfl⟩))
  go_ret
  have h2 := hbel.trans (hbel2.mono hbel.size)
  have h3 := h2.trans (hbel3.mono h2.size)
  have h4 := h3.trans (hbel4.mono h3.size)
  exact ⟨rfl, h4.trans (hbel5.mono h4.size)⟩

theorem walk (a0 : Option Addr) (len0 cap0 : Nat) (z0 : List Int) (a1 : Int) (a2 : Int) (a3 : Int) (w : World) (w0 : IsRow .u8 w a0 len0 cap0 z0) (w1 : (Lit.int .i64 a1).wf = true) (w2 : (Lit.int .i64 a2).wf = true) (w3 : (Lit.int .u64 a3).wf = true) :
    Calls Try.prog 3 #[.slice a0 len0 cap0, .int .i64 a1, .int .i64 a2, .int .u64 a3] w fun e w' => e = .returned (.bool true) ∧ Below w.heap.size w w' := by
  obtain ⟨v0, v1⟩ := bounds_u64 w3
  obtain ⟨at0, _⟩ := bounds_i64 w1
  obtain ⟨hb, hL, hcap, hmax, _⟩ := w0.bytes
  by_cases h1 : 300 < len0
  · exact walk_long a0 len0 cap0 a1 a2 a3 w h1
  · exact walk_main a0 _ len0 cap0 a1 a2 a3 w hb hL (by omega) hcap hmax at0 v0 v1
end Go.Proofs.Ytfofjnnjlnggjaa.LeSaysW
