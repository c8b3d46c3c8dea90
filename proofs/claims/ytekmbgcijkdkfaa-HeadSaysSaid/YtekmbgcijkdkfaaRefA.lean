/-
  What the document's own answer on numbers in bytes is: reading, the lowest bytes, adding, putting, the same bytes.
-/
import Derived.Test.YtekmbgcijkdkfaaOwn
import Derived.Test.YtekmbgcijkdkfaaLeP
namespace Go.Proofs.Ytekmbgcijkdkfaa.RefA
open Go.ChangeShapes Go.WideShapes Go.ChangeAt Go.RowKit
open Bytes8 Blk8 Own8 LeA LeNum LeB LeP
set_option linter.unusedVariables false
set_option maxRecDepth 100000

theorem same_yes (a b : Option Addr) (l : List Int) (n c d : Nat) (w : World) (ha : Bytes w a l) (hb : Bytes w b l) (hn : l.length = n) :
    Calls Try.prog 18 #[.slice a n c, .slice b n d] w fun e w' => e = .returned (.bool true) ∧ w = w' := by
  have h1 := ha.string c n hn
  have h2 := hb.string d n hn
  generalize strOfNums l = S at h1 h2
  clear ha hb hn
  go_enter Try.func18, Try.ntmps18
  go_wp2
  go_ret
  exact ⟨rfl, rfl⟩

/-- The reading loop goes down. -/
theorem down_step (l : List Int) (at1 n k : Nat) (hk : k < n) (h : at1 + n ≤ l.length) :
    leNum ((l.drop (at1 + (k + 1))).take (n - (k + 1))) * 256 + l.getD (at1 + k) 0 = leNum ((l.drop (at1 + k)).take (n - k)) := by
  have e1 : l.drop (at1 + k) = l[at1 + k] :: l.drop (at1 + k + 1) := List.drop_eq_getElem_cons (by omega)
  have e2 : n - k = (n - (k + 1)) + 1 := by omega
  rw [e1, e2, List.take_succ_cons, leNum, Nat.add_assoc]
  have e3 : l.getD (at1 + k) 0 = l[at1 + k] := by simp [List.getElem?_eq_getElem (show at1 + k < l.length by omega)]
  rw [e3]
  omega

theorem down_bound (l : List Int) (at1 n k : Nat) (hk : k < n) (hn : n ≤ 8) (hA : AllB l) :
    0 ≤ leNum ((l.drop (at1 + (k + 1))).take (n - (k + 1))) ∧ leNum ((l.drop (at1 + (k + 1))).take (n - (k + 1))) ≤ 72057594037927935 := by
  have h := leNum_bound ((l.drop (at1 + (k + 1))).take (n - (k + 1))) ((hA.drop _).take _)
  have hl : ((l.drop (at1 + (k + 1))).take (n - (k + 1))).length ≤ 7 := by
    have := List.length_take_le (n - (k + 1)) (l.drop (at1 + (k + 1)))
    omega
  have h2 : (256 : Int) ^ ((l.drop (at1 + (k + 1))).take (n - (k + 1))).length ≤ 256 ^ 7 := by
    generalize ((l.drop (at1 + (k + 1))).take (n - (k + 1))).length = m at hl
    match m, hl with
    | 0, _ | 1, _ | 2, _ | 3, _ | 4, _ | 5, _ | 6, _ | 7, _ => decide
  have e : (256 : Int) ^ 7 = 72057594037927936 := rfl
  omega

theorem rget_no (a : Option Addr) (len cap : Nat) (at1 n : Int) (w : World) (hl : len ≤ 9223372036854775807) (hat : -9223372036854775808 ≤ at1) (hf : fits len at1 n = false) :
    Calls Try.prog 55 #[.slice a len cap, .int .i64 at1, .int .i64 n] w fun e w' => e = .returned (.tuple #[.int .u64 0, .bool false]) ∧ w = w' := by
  cases hw : isW n with
  | false =>
    simp [isW] at hw
    obtain ⟨⟨⟨n1, n2⟩, n4⟩, n8⟩ := hw
    go_enter Try.func55, Try.ntmps55
    go_wp2
    go_ret2
    exact ⟨rfl, rfl⟩
  | true =>
    have hr : n = 1 ∨ n = 2 ∨ n = 4 ∨ n = 8 := by simp [isW] at hw; omega
    by_cases h0 : at1 < 0
    · clear hf hw
      rcases hr with rfl | rfl | rfl | rfl
      all_goals
        go_enter Try.func55, Try.ntmps55
        go_wp2
        go_ret2
        exact ⟨rfl, rfl⟩
    by_cases h1 : (len : Int) < at1
    · clear hf hw
      rcases hr with rfl | rfl | rfl | rfl
      all_goals
        go_enter Try.func55, Try.ntmps55
        go_wp2
        go_ret2
        exact ⟨rfl, rfl⟩
    · have h2 : (len : Int) - at1 < n := by simp [fits, hw] at hf; omega
      clear hf hw
      rcases hr with rfl | rfl | rfl | rfl
      all_goals
        go_enter Try.func55, Try.ntmps55
        go_wp2
        go_ret2
        exact ⟨rfl, rfl⟩
theorem rget_yes (a : Option Addr) (l : List Int) (cap : Nat) (at1 n : Nat) (w : World) (hl : l.length ≤ 9223372036854775807) (hf : fits l.length at1 n = true) (hb : Bytes w a l) :
    Calls Try.prog 55 #[.slice a l.length cap, .int .i64 at1, .int .i64 n] w fun e w' => e = .returned (.tuple #[.int .u64 (leNum ((l.drop at1).take n)), .bool true]) ∧ w = w' := by
  obtain ⟨h1, h2, h3, h4⟩ := fits_parts hf
  have hr : n = 1 ∨ n = 2 ∨ n = 4 ∨ n = 8 := by simp [fits, isW] at hf; omega
  obtain ⟨b, off, rfl, hlt, hc⟩ := hb.spot (by omega)
  have HA := Lib.hid hb.1
  have HC := Lib.hid hc
  have h5 : at1 + n ≤ l.length := by omega
  generalize hL : l.length = len at *
  have HL := Lib.hid hL
  clear hL hb hc hf
  obtain ⟨N, HN⟩ : ∃ N, Hid (N = n) := ⟨_, rfl⟩
  rcases hr with rfl | rfl | rfl | rfl
  all_goals
    go_enter Try.func55, Try.ntmps55
    go_wp2
    go_loop [8, 9] (fun v i => ∃ k : Nat, k ≤ N ∧ i = .int .i64 ((k : Int) - 1) ∧ v = .int .u64 (leNum ((l.drop (at1 + k)).take (N - k)))) (fun _ i => (intOf i + 1).toNat)
    case atStart => exact ⟨N, Nat.le_refl _, by rw [HN.out]; rfl, by rw [Nat.sub_self]; rfl⟩
    case round =>
      obtain ⟨k, hk, rfl, rfl⟩ := hrel
      have hN := HN.out
      cases k with
      | zero =>
        clear hN
        go_wp2
        go_ret2
        exact ⟨ret_int_bool (by rw [HN.out]), rfl⟩
      | succ k =>
        have e : ((k + 1 : Nat) : Int) - 1 = (k : Int) := by omega
        have hk8 : k < 8 := by omega
        have hcell := HC.out (at1 + k) (by omega)
        obtain ⟨c0, c1⟩ := HA.out.at_ (at1 + k)
        obtain ⟨v0, v1⟩ := down_bound l at1 N k (by omega) (by omega) HA.out
        have HS := Lib.hid (down_step l at1 N k (by omega) (by have := HL.out; omega))
        have hin : at1 + k < len := by omega
        rw [e]
        generalize leNum ((l.drop (at1 + (k + 1))).take (N - (k + 1))) = V at *
        generalize l.getD (at1 + k) 0 = C at *
        clear hN e
        go_wp2
        go_round
        case rel => exact ⟨k, by omega, by go_num, by rw [← HS.out]⟩
        case measure => simp [intOf]
end Go.Proofs.Ytekmbgcijkdkfaa.RefA
