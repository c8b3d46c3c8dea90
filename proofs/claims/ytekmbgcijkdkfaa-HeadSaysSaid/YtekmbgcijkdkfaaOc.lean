/-
  Small functions of objects: which kinds there are, a number at its place, numbers as bytes; the program's and the document's own.
-/
import Derived.Test.YtekmbgcijkdkfaaOb
import Derived.Test.YtekmbgcijkdkfaaOwnM
import Derived.Test.YtekmbgcijkdkfaaOwnE
import Derived.Test.YtekmbgcijkdkfaaLeB
import Derived.Test.YtekmbgcijkdkfaaLeP
import Derived.Test.YtekmbgcijkdkfaaRefB
namespace Go.Proofs.Ytekmbgcijkdkfaa.Oc
open Go.ChangeShapes Go.WideShapes Go.ChangeAt Go.RowKit
open Bytes8 Blk8 Own8 OwnM OwnE LeA LeNum LeB LeP RefA RefB Ob
set_option linter.unusedVariables false
set_option maxRecDepth 100000
set_option linter.unusedSimpArgs false

theorem own_row {w : World} {base g n : Nat} {l : List Int} (h : Row w g l) (hA : AllB l) (hg : base ≤ g) (hn : l.length = n) (hm : n ≤ maxLen) : Own w base (some ⟨g, 0, none⟩) n n l := by
  have hlt := h.lt
  refine ⟨hA, hn, by omega, by simpa using hn, .inr ⟨g, n, _, rfl, hg, h, Nat.le_refl _, hm, by simpa using hn, ?_⟩⟩
  rw [List.take_of_length_le (by simp; omega)]
theorem Own.row {w : World} {base n c : Nat} {A : Option Addr} {l : List Int} (h : Own w base A n c l) (hn : 0 < n) (hc : c = n) : ∃ g, A = some ⟨g, 0, none⟩ ∧ base ≤ g ∧ Row w g l := by
  subst hc
  obtain ⟨hA, hl, _, ho⟩ := h
  rcases ho.2 with ⟨_, h0⟩ | ⟨g, cap, cur, hv, hb, hg, _, _, hs, ht⟩
  · omega
  · injection hv with h1 h2 h3
    subst h1 h3
    refine ⟨g, rfl, hb, ?_⟩
    rw [List.take_of_length_le (by rw [Array.length_toList]; omega)] at ht
    unfold Row
    rw [hg, ← ht]

/-- 'numbers' that came: a block of them. -/
abbrev NumsAt (w : World) (g : Nat) (l : List Int) (T : TypeId) : Prop := Blk w g (l.map (Value.int .u64)) T

theorem isKind_any (k : Int) (w : World) :
    Calls Try.prog 48 #[.int .i64 k] w fun e w' => e = .returned (.bool (decide (1 ≤ k) && decide (k ≤ 7))) ∧ w = w' := by
  by_cases h : 1 ≤ k
  · go_enter Try.func48, Try.ntmps48
    go_wp2
    go_ret
    exact ⟨ret_bool (by rw [decide_eq_true h, Bool.true_and]), rfl⟩
  · go_enter Try.func48, Try.ntmps48
    go_wp2
    go_ret
    exact ⟨ret_bool (by rw [decide_eq_false (by omega : ¬ 1 ≤ k), Bool.false_and]), rfl⟩

theorem add8 (a : Option Addr) (l : List Int) (n cap : Nat) (v : Int) (w : World) (hL : l.length = n) (hl : n ≤ 1000000) (hb : Bytes w a l) :
    Calls Try.prog 36 #[.slice a n cap, .int .i64 8, .int .u64 v] w fun e w' => e = .returned (.slice (some ⟨w.heap.size, 0, none⟩) (n + 8) (n + 8)) ∧ Row w' w.heap.size (l ++ lowB v 8) ∧ Below w.heap.size w w' := by
  subst hL
  exact add_yes a l cap 8 v w hl (by decide) hb

set_option maxHeartbeats 1000000 in
theorem numbers_any (g n cap : Nat) (l : List Int) (T : TypeId) (w : World) (hb : NumsAt w g l T) (hv : I64 l) (hn : l.length = n) (hmax : n ≤ 1000) (h0 : 0 < n) :
    Calls Try.prog 50 #[.slice (some ⟨g, 0, none⟩) n cap] w fun e w' => ∃ g2, e = .returned (.slice (some ⟨g2, 0, none⟩) (8 * n) (8 * n)) ∧ w.heap.size ≤ g2 ∧ Row w' g2 (nums l) ∧ Below w.heap.size w w' := by
  have hlt := hb.lt
  have HC := Lib.hid fun (wr : World) (h : Below w.heap.size w wr) (k : Nat) (hk : k < n) => (hb.below h hlt).cell (i := k) (v := .int .u64 (l.getD k 0)) (by
    have : k < l.length := by omega
    simp [List.getElem?_eq_getElem this])
  have HL := Lib.hid hn
  have HV := Lib.hid fun k (hk : k < n) => hv (l.getD k 0) (by
    have : k < l.length := by omega
    simp [List.getElem?_eq_getElem this])
  clear hb hv hn
  go_enter Try.func50, Try.ntmps50
  go_wp2
  go_loopw [3, 8] (fun s i wr => ∃ (k : Nat) (A : Option Addr) (c : Nat), k ≤ n ∧ i = .int .i64 (k : Int) ∧ s = .slice A (8 * k) c ∧ (0 < k → c = 8 * k) ∧ Hid (Own wr w.heap.size A (8 * k) c (nums (l.take k))) ∧ Hid (Below w.heap.size w wr)) (fun _ i _ => n - (intOf i).toNat)
  case atStart => exact ⟨0, none, 0, Nat.zero_le _, rfl, rfl, fun _ => rfl, Own.nil w _ (Nat.le_refl _), Below.refl _ _⟩
  case round =>
    obtain ⟨k, A, c, hk, rfl, rfl, hcap, ho, hbel⟩ := hrel
    by_cases hlt2 : k < n
    · have hcell := HC.out wr hbel.out k hlt2
      have HA := Lib.hid fun (v : Int) => add8 A (nums (l.take k)) (8 * k) c v wr ho.out.2.1 (by omega) ho.out.bytes
      have HN := Lib.hid (nums_take l k (by rw [HL.out]; exact hlt2))
      have hsz := hbel.out.size
      generalize l.getD k 0 = x at *
      go_wp2_with (go_at_call 36; (with_reducible refine (HA.out _).mono ?_); rintro e w2 ⟨rfl, hrow, hbel2⟩; have HR := Lib.hid hrow; have HB2 := Lib.hid hbel2; clear hrow hbel2)
      go_roundw
      case rel =>
        refine ⟨k + 1, some ⟨wr.heap.size, 0, none⟩, 8 * k + 8, by omega, by go_num, rfl, fun _ => rfl, ?_, Lib.hid (hbel.out.trans (HB2.out.mono hsz))⟩
        rw [HN.out]
        exact Lib.hid (own_row HR.out ((nums_all _).app (lowB_all _ _)) hsz (by rw [List.length_append, nums_len, lowB_len, List.length_take]; have := HL.out; omega) (by unfold maxLen; omega))
      case measure => simp [intOf]; omega
    · obtain rfl : k = n := by omega
      have he : l.take k = l := List.take_of_length_le (by rw [HL.out]; exact Nat.le_refl _)
      have ho2 := ho.out
      rw [he] at ho2
      obtain rfl := hcap h0
      obtain ⟨g2, rfl, hg2, hr⟩ := Own.row ho2 (by omega) rfl
      have HR := Lib.hid hr
      clear hr ho2 ho he
      go_wp2
      go_ret
      exact ⟨g2, rfl, hg2, HR.out, hbel.out⟩

set_option maxHeartbeats 1000000 in
theorem rnums_any (g n cap : Nat) (l : List Int) (T : TypeId) (w : World) (hb : NumsAt w g l T) (hv : I64 l) (hn : l.length = n) (hmax : n ≤ 1000) :
    Calls Try.prog 40 #[.slice (some ⟨g, 0, none⟩) n cap] w fun e w' => ∃ A c, e = .returned (.slice A (8 * n) c) ∧ Own w' w.heap.size A (8 * n) c (nums l) ∧ Below w.heap.size w w' := by
  have hlt := hb.lt
  have HC := Lib.hid fun (wr : World) (h : Below w.heap.size w wr) (k : Nat) (hk : k < n) => (hb.below h hlt).cell (i := k) (v := .int .u64 (l.getD k 0)) (by
    have : k < l.length := by omega
    simp [List.getElem?_eq_getElem this])
  have HL := Lib.hid hn
  have HV := Lib.hid fun k (hk : k < n) => hv (l.getD k 0) (by
    have : k < l.length := by omega
    simp [List.getElem?_eq_getElem this])
  clear hb hv hn
  go_enter Try.func40, Try.ntmps40
  go_wp2
  go_loopw [3, 4] (fun s i wr => ∃ (k : Nat) (A : Option Addr) (c : Nat), k ≤ n ∧ i = .int .i64 (k : Int) ∧ s = .slice A (8 * k) c ∧ Hid (Own wr w.heap.size A (8 * k) c (nums (l.take k))) ∧ Hid (Below w.heap.size w wr)) (fun _ i _ => n - (intOf i).toNat)
  case atStart => exact ⟨0, none, 0, Nat.zero_le _, rfl, rfl, Own.nil w _ (Nat.le_refl _), Below.refl _ _⟩
  case round =>
    obtain ⟨k, A, c, hk, rfl, rfl, ho, hbel⟩ := hrel
    by_cases hlt2 : k < n
    · have hcell := HC.out wr hbel.out k hlt2
      obtain ⟨x0, x1⟩ := HV.out k hlt2
      have HN := Lib.hid (nums_take l k (by rw [HL.out]; exact hlt2))
      have hsz := hbel.out.size
      generalize l.getD k 0 = x at *
      have HLo := Lib.hid fun (W : World) => rlow_at x 8 8 W x0 x1 (by decide) rfl
      go_wp2_with (first | (go_at_call 39; (with_reducible refine (HLo.out _).mono ?_); rintro e w2 ⟨A2, c2, rfl, ho2, hbel2⟩; have HO2 := Lib.hid ho2; have HB2 := Lib.hid hbel2; clear ho2 hbel2) | (at_builtin; refine wpList_append_bytes rfl (.tmp 11) (.tmp 16) rfl w.heap.size A (8 * k) c (nums (l.take k)) rfl (ho.out.kept HB2.out (Nat.le_refl _)) A2 8 c2 _ rfl HO2.out.bytes (lowB_len _ _) (by omega) ?_; intro A3 c3 w3 ho3 hbel3; have HO3 := Lib.hid ho3; have HB3 := Lib.hid hbel3; clear ho3 hbel3))
      go_roundw
      case rel =>
        refine ⟨k + 1, A3, c3, by omega, by go_num, rfl, ?_, Lib.hid ((hbel.out.trans (HB2.out.mono hsz)).trans HB3.out)⟩
        rw [HN.out]
        exact HO3
      case measure => simp [intOf]; omega
    · obtain rfl : k = n := by omega
      have he : l.take k = l := List.take_of_length_le (by rw [HL.out]; exact Nat.le_refl _)
      rw [he] at ho
      clear he
      go_wp2
      go_ret
      exact ⟨A, c, rfl, ho.out, hbel.out⟩

theorem fits8 (len i : Nat) (h : i + 8 ≤ len) : fits len (i : Int) ((8 : Nat) : Int) = true := by
  simp [fits, isW]; omega
theorem get8 (a : Option Addr) (l : List Int) (n cap i : Nat) (z : Int) (w : World) (hz : z = (i : Int)) (hL : l.length = n) (hn : n ≤ 1000000) (hb : Bytes w a l) (hi : i + 8 ≤ n) :
    Calls Try.prog 47 #[.slice a n cap, .int .i64 z, .int .i64 8] w fun e w' => e = .returned (.tuple #[.int .u64 (u8 l i), .bool true]) ∧ w = w' := by
  subst hz hL
  exact get_yes a l cap i 8 w (by omega) (fits8 _ _ (by omega)) hb (by decide) (by decide) (by omega)
theorem rget8 (a : Option Addr) (l : List Int) (n cap i : Nat) (z : Int) (w : World) (hz : z = (i : Int)) (hL : l.length = n) (hn : n ≤ 1000000) (hb : Bytes w a l) (hi : i + 8 ≤ n) :
    Calls Try.prog 55 #[.slice a n cap, .int .i64 z, .int .i64 8] w fun e w' => e = .returned (.tuple #[.int .u64 (u8 l i), .bool true]) ∧ w = w' := by
  subst hz hL
  exact rget_yes a l cap i 8 w (by omega) (fits8 _ _ (by omega)) hb
theorem ru_any (A : Option Addr) (l : List Int) (n cap i : Nat) (w : World) (hb : Bytes w A l) (hL : l.length = n) (hn : n ≤ 1000000) (hi : i + 8 ≤ n) :
    Calls Try.prog 56 #[.slice A n cap, .int .u64 (i : Int)] w fun e w' => e = .returned (.int .u64 (u8 l i)) ∧ w = w' := by
  have HG := Lib.hid fun (z : Int) (hz : z = (i : Int)) => rget8 A l n cap i z w hz hL hn hb hi
  generalize u8 l i = x at *
  clear hb hL
  go_enter Try.func56, Try.ntmps56
  go_wp2_with (go_at_call 55; (with_reducible refine (HG.out _ (by omega)).mono ?_); rintro e w' ⟨rfl, rfl⟩)
  go_ret
  exact ⟨rfl, rfl⟩
end Go.Proofs.Ytekmbgcijkdkfaa.Oc
