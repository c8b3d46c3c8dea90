/-
  What the document's 'Put' lays: an object's bytes.
-/
import Derived.Test.YtekmbgcijkdkfaaOd
namespace Go.Proofs.Ytekmbgcijkdkfaa.Oe
open Go.ChangeShapes Go.WideShapes Go.ChangeAt Go.RowKit
open Bytes8 Blk8 Own8 OwnM OwnE LeA LeAl LeNum LeB LeP RefA RefB Ob Oc Od
set_option linter.unusedVariables false
set_option maxRecDepth 100000
set_option linter.unusedSimpArgs false

theorem rput_no (k : Int) (A : Option Addr) (n cap : Nat) (w : World) (h : ¬ (1 ≤ k ∧ k ≤ 7)) :
    Calls Try.prog 86 #[.int .i64 k, .slice A n cap] w fun e w' => e = .returned (.slice none 0 0) ∧ w = w' := by
  by_cases h1 : k < 1
  · go_enter Try.func86, Try.ntmps86
    go_wp2
    go_ret
    exact ⟨rfl, rfl⟩
  · have h2 : 7 < k := by omega
    go_enter Try.func86, Try.ntmps86
    go_wp2
    go_ret
    exact ⟨rfl, rfl⟩

theorem rnums1 (s : Int) (w : World) (g : Nat) (hs : 0 ≤ s ∧ s ≤ 18446744073709551615) (hg : w.heap.size = g) :
    Calls Try.prog 40 #[.slice (some ⟨g, 0, none⟩) 1 1] (w.alloc (.cells #[.int .u64 s] 22)) fun e w' => ∃ A c, e = .returned (.slice A 8 c) ∧ Own w' w.heap.size A 8 c (lowB s 8) ∧ Below w.heap.size w w' := by
  subst hg
  have h := rnums_any w.heap.size 1 1 [s] 22 (w.alloc (.cells #[.int .u64 s] 22)) (Blk.new w _ _) (fun v hv => by simp at hv; omega) rfl (by decide)
  refine h.mono fun e w' ⟨A, c, h1, h2, h3⟩ => ⟨A, c, h1, ?_, ((Below.refl w.heap.size w).alloc (Nat.le_refl _) _).trans (h3.mono (by simp))⟩
  rw [nums_one] at h2
  exact Own.base h2 (by simp)

def sliceLen : Value → Nat
  | .slice _ n _ => n
  | _ => 0

set_option maxHeartbeats 2000000 in
theorem rput_yes (k : Int) (A : Option Addr) (l : List Int) (n cap : Nat) (w : World) (h : 1 ≤ k ∧ k ≤ 7) (hb : Bytes w A l) (hL : l.length = n) (hn : n ≤ 1000000) :
    Calls Try.prog 86 #[.int .i64 k, .slice A n cap] w (Owned (objB k l) (16 + n + padN n) w) := by
  obtain ⟨k1, k7⟩ := h
  have HL := Lib.hid hL
  have HB := Lib.hid hb
  have HN := Lib.hid fun (s : Int) (W : World) (g : Nat) (hs : 0 ≤ s ∧ s ≤ 18446744073709551615) (hg : W.heap.size = g) => rnums1 s W g hs hg
  have HK := Lib.hid (show AllB [k, 0, 0, 0, 0, 0, 0, 0] from fun x hx => by simp at hx; omega)
  have hp := padN_le n
  have HF := Lib.hid (show front k n = [k, 0, 0, 0, 0, 0, 0, 0] ++ lowB (16 + (n : Int)) 8 by unfold front; rw [show ((16 + n : Nat) : Int) = 16 + (n : Int) by omega])
  have HO := Lib.hid (show objB k l = front k n ++ (l ++ List.replicate (padN n) 0) by unfold objB; rw [hL])
  have HP := Lib.hid (show ∀ j, j ≤ padN n → ((16 + n + j) % 8 = 0 ↔ j = padN n) from fun j hj => by unfold padN at hj ⊢; omega)
  rw [HO.out]
  generalize padN n = p at *
  clear hb hL
  go_enter Try.func86, Try.ntmps86
  go_wp2_with (first
    | (go_at_call 40; (with_reducible refine (HN.out _ _ _ (by omega) (by simp)).mono ?_); rintro e w3 ⟨A3, c3, rfl, ho3, hbel3⟩; have HO3 := Lib.hid ho3; have HB3 := Lib.hid hbel3; clear ho3 hbel3)
    | (at_builtin; refine wpList_append_bytes rfl (.tmp 14) (.tmp 20) rfl w.heap.size _ 8 8 [k, 0, 0, 0, 0, 0, 0, 0] rfl ((own_row (Row.new w [k, 0, 0, 0, 0, 0, 0, 0]) HK.out (Nat.le_refl _) rfl (show 8 ≤ maxLen by decide)).kept HB3.out (Nat.le_refl _)) A3 8 c3 _ rfl HO3.out.bytes (lowB_len _ _) (by omega) ?_; intro A4 c4 w4 ho4 hbel4; have HO4 := Lib.hid ho4; have HB4 := Lib.hid hbel4; clear ho4 hbel4)
    | (at_builtin; refine wpList_append_bytes rfl (.tmp 22) (.tmp 23) rfl w.heap.size A4 16 c4 _ rfl HO4.out A n cap l rfl (HB.out.below (((Below.refl _ _).alloc (Nat.le_refl _) _).trans ((HB3.out.mono (by simp)).trans HB4.out)) (Nat.le_refl _)) HL.out (by omega) ?_; intro A5 c5 w5 ho5 hbel5; have HO5 := Lib.hid ho5; have HB5 := Lib.hid hbel5; clear ho5 hbel5))
  go_loopw [5] (fun s wr => ∃ (j : Nat) (A6 : Option Addr) (c6 : Nat), j ≤ p ∧ s = .slice A6 (16 + n + j) c6 ∧ Hid (Own wr w.heap.size A6 (16 + n + j) c6 (front k n ++ (l ++ List.replicate j 0))) ∧ Hid (Below w.heap.size w wr)) (fun s _ => p + 16 + n - sliceLen s)
  case atStart =>
    refine ⟨0, A5, c5, Nat.zero_le _, rfl, ?_, Lib.hid (((Below.refl _ _).alloc (Nat.le_refl _) _).trans ((HB3.out.mono (by simp)).trans (HB4.out.trans HB5.out)))⟩
    have h := HO5.out
    rw [HF.out, List.replicate_zero, List.append_nil]
    exact h
  case round =>
    obtain ⟨j, A6, c6, hj, rfl, ho, hbel⟩ := hrel
    have hq := HP.out j hj
    by_cases hlt : j < p
    · have hm : ¬ (16 + n + j) % 8 = 0 := by omega
      have hm2 : ¬ (((16 + n + j : Nat) : Int) % 8 = 0) := by omega
      clear hq
      go_wp2_with (at_builtin; refine wpList_append_bytes rfl (.tmp 29) (.tmp 30) rfl w.heap.size A6 (16 + n + j) c6 _ rfl (ho.out.kept ((Below.refl _ _).alloc (Nat.le_refl _) _) (Nat.le_refl _)) (some ⟨wr.heap.size, 0, none⟩) 1 1 [0] rfl (Row.bytes (Row.new wr [0]) (AllB.zeros 1)) rfl (by omega) ?_; intro A7 c7 w7 ho7 hbel7; have HO7 := Lib.hid ho7; have HB7 := Lib.hid hbel7; clear ho7 hbel7)
      go_roundw
      case rel =>
        refine ⟨j + 1, A7, c7, by omega, rfl, ?_, Lib.hid ((hbel.out.alloc hbel.out.size _).trans HB7.out)⟩
        have h := HO7.out
        rw [List.append_assoc, List.append_assoc, show List.replicate j (0 : Int) ++ [0] = List.replicate (j + 1) 0 by rw [List.replicate_succ'] ] at h
        exact h
      case measure => simp [sliceLen]; omega
    · obtain rfl : j = p := by omega
      have hm : (16 + n + j) % 8 = 0 := by omega
      have hm2 : ((16 + n + j : Nat) : Int) % 8 = 0 := by omega
      clear hq
      go_wp2
      go_ret
      exact ⟨A6, c6, rfl, ho.out, hbel.out⟩
end Go.Proofs.Ytekmbgcijkdkfaa.Oe
