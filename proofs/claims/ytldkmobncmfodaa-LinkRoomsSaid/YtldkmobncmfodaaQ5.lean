/-
  Texts beneath the proof, one behind the other.
-/
import Derived.Lib.SliceRun
import Derived.Maps.AppendAt
import Derived.Test.YtldkmobncmfodaaQ4
import Derived.Test.YtldkmobncmfodaaQ3
import Derived.Test.YtldkmobncmfodaaQ2

/-
  What the document's own 'Low' makes: bytes of the call's own.
-/
namespace Go.Proofs.Ytldkmobncmfodaa.RefB
open Go.ChangeShapes Go.WideShapes Go.ChangeAt Go.RowKit
open Bytes8 Blk8 Own8 LeA LeNum LeB LeP RefA
set_option linter.unusedVariables false
set_option maxRecDepth 100000

theorem pow_succ_div (v : Int) (k : Nat) : v / 256 ^ k / 256 = v / 256 ^ (k + 1) := by
  rw [Int.pow_succ, Int.ediv_ediv_of_nonneg (Int.le_of_lt (Int.pow_pos (by decide)))]

theorem div_bound (v : Int) (k : Nat) (h0 : 0 ≤ v) (h1 : v ≤ 18446744073709551615) : 0 ≤ v / 256 ^ k ∧ v / 256 ^ k ≤ 18446744073709551615 := by
  have hp : (0 : Int) < 256 ^ k := Int.pow_pos (by decide)
  have h2 : 0 ≤ v / 256 ^ k := Int.ediv_nonneg h0 (by omega)
  have h3 : v / 256 ^ k ≤ v := Int.ediv_le_self _ h0
  omega

theorem one_byte (x : Int) : AllB [x % 256] := by
  intro y hy
  simp at hy
  omega

theorem rlow_any (v : Int) (n : Nat) (w : World) (h0 : 0 ≤ v) (h1 : v ≤ 18446744073709551615) (hn : n ≤ 8) :
    Calls Try.prog 47 #[.int .u64 v, .int .i64 n] w fun e w' => ∃ A c, e = .returned (.slice A n c) ∧ Own w' w.heap.size A n c (lowB v n) ∧ Below w.heap.size w w' := by
  go_enter Try.func47, Try.ntmps47
  go_wp2
  go_loopw [0, 5, 6] (fun x s i wr => ∃ (k : Nat) (A : Option Addr) (c : Nat), k ≤ n ∧ i = .int .i64 k ∧ x = .int .u64 (v / 256 ^ k) ∧ s = .slice A k c ∧ Own wr w.heap.size A k c (lowB v k) ∧ Below w.heap.size w wr) (fun _ _ i _ => n - (intOf i).toNat)
  case atStart => exact ⟨0, none, 0, Nat.zero_le _, rfl, by simp, rfl, Own.nil w _ (Nat.le_refl _), Below.refl _ _⟩
  case round =>
    obtain ⟨k, A, c, hk, rfl, rfl, rfl, ho, hbel⟩ := hrel
    by_cases hlt : k < n
    · obtain ⟨x0, x1⟩ := div_bound v k h0 h1
      have HO := Lib.hid ho
      have HP := Lib.hid (pow_succ_div v k)
      have HS := Lib.hid (lowB_succ v k)
      clear ho
      generalize v / 256 ^ k = x at *
      go_wp2_with (at_builtin; refine wpList_append_bytes rfl (.tmp 12) (.tmp 16) rfl w.heap.size A k c (lowB v k) rfl (HO.out.kept ((Below.refl _ _).alloc (Nat.le_refl _) _) (Nat.le_refl _)) (some ⟨wr.heap.size, 0, none⟩) 1 1 [x % 256] rfl (Row.bytes (Row.new wr [x % 256]) (one_byte x)) rfl (by omega) ?_; intro A2 c2 w2 ho2 hbel2; have HO2 := Lib.hid ho2; clear ho2)
      go_roundw
      case rel => exact ⟨k + 1, A2, c2, by omega, by go_num, by rw [HP.out], rfl, by rw [HS.out]; exact HO2.out, (hbel.alloc hbel.size _).trans hbel2⟩
      case measure => simp [intOf]; omega
    · obtain rfl : k = n := by omega
      go_wp2
      go_ret
      exact ⟨A, c, rfl, ho, hbel⟩
theorem rlow_at (v : Int) (n : Nat) (m : Int) (w : World) (h0 : 0 ≤ v) (h1 : v ≤ 18446744073709551615) (hn : n ≤ 8) (hm : m = n) :
    Calls Try.prog 47 #[.int .u64 v, .int .i64 m] w fun e w' => ∃ A c, e = .returned (.slice A n c) ∧ Own w' w.heap.size A n c (lowB v n) ∧ Below w.heap.size w w' := by
  subst hm; exact rlow_any v n w h0 h1 hn

end Go.Proofs.Ytldkmobncmfodaa.RefB

/-
  Small functions of objects: which kinds there are, a number at its place, numbers as bytes; the program's and the document's own.
-/
namespace Go.Proofs.Ytldkmobncmfodaa.Oc
open Go.ChangeShapes Go.WideShapes Go.ChangeAt Go.RowKit
open Bytes8 Blk8 Own8 OwnM OwnE LeA LeNum LeB LeP RefA RefB Ob
set_option linter.unusedVariables false
set_option maxRecDepth 100000
set_option linter.unusedSimpArgs false

theorem own_row {w : World} {base g n : Nat} {l : List Int} (h : Row w g l) (hA : AllB l) (hg : base ≤ g) (hn : l.length = n) (hm : n ≤ maxLen) : Own w base (some ⟨g, 0, none⟩) n n l := by
  have hlt := h.lt
  refine ⟨hA, hn, by omega, by simpa using hn, .inr ⟨g, n, _, rfl, hg, h, Nat.le_refl _, hm, by simpa using hn, ?_⟩⟩
  rw [List.take_of_length_le (by simp; omega)]
theorem Own.row {w : World} {base n c : Nat} {A : Option Addr} {l : List Int} (h : Own w base A n c l) (hn : 0 < n) (hc : c = n) : ∃ g, A = some ⟨g, 0, none⟩ ∧ base ≤ g ∧ Row w g l := by
  subst hc
  obtain ⟨hA, hl, _, ho⟩ := h
  rcases ho.2 with ⟨_, h0⟩ | ⟨g, cap, cur, hv, hb, hg, _, _, hs, ht⟩
  · omega
  · injection hv with h1 h2 h3
    subst h1 h3
    refine ⟨g, rfl, hb, ?_⟩
    rw [List.take_of_length_le (by rw [Array.length_toList]; omega)] at ht
    unfold Row
    rw [hg, ← ht]

/-- 'numbers' that came: a block of them. -/
abbrev NumsAt (w : World) (g : Nat) (l : List Int) (T : TypeId) : Prop := Blk w g (l.map (Value.int .u64)) T

theorem isKind_any (k : Int) (w : World) :
    Calls Try.prog 86 #[.int .i64 k] w fun e w' => e = .returned (.bool (decide (1 ≤ k) && decide (k ≤ 7))) ∧ w = w' := by
  by_cases h : 1 ≤ k
  · go_enter Try.func86, Try.ntmps86
    go_wp2
    go_ret
    exact ⟨ret_bool (by rw [decide_eq_true h, Bool.true_and]), rfl⟩
  · go_enter Try.func86, Try.ntmps86
    go_wp2
    go_ret
    exact ⟨ret_bool (by rw [decide_eq_false (by omega : ¬ 1 ≤ k), Bool.false_and]), rfl⟩

set_option maxHeartbeats 1000000 in
theorem rnums_any (g n cap : Nat) (l : List Int) (T : TypeId) (w : World) (hb : NumsAt w g l T) (hv : I64 l) (hn : l.length = n) (hmax : n ≤ 1000) :
    Calls Try.prog 48 #[.slice (some ⟨g, 0, none⟩) n cap] w fun e w' => ∃ A c, e = .returned (.slice A (8 * n) c) ∧ Own w' w.heap.size A (8 * n) c (nums l) ∧ Below w.heap.size w w' := by
  have hlt := hb.lt
  have HC := Lib.hid fun (wr : World) (h : Below w.heap.size w wr) (k : Nat) (hk : k < n) => (hb.below h hlt).cell (i := k) (v := .int .u64 (l.getD k 0)) (by
    have : k < l.length := by omega
    simp [List.getElem?_eq_getElem this])
  have HL := Lib.hid hn
  have HV := Lib.hid fun k (hk : k < n) => hv (l.getD k 0) (by
    have : k < l.length := by omega
    simp [List.getElem?_eq_getElem this])
  clear hb hv hn
  go_enter Try.func48, Try.ntmps48
  go_wp2
  go_loopw [3, 4] (fun s i wr => ∃ (k : Nat) (A : Option Addr) (c : Nat), k ≤ n ∧ i = .int .i64 (k : Int) ∧ s = .slice A (8 * k) c ∧ Hid (Own wr w.heap.size A (8 * k) c (nums (l.take k))) ∧ Hid (Below w.heap.size w wr)) (fun _ i _ => n - (intOf i).toNat)
  case atStart => exact ⟨0, none, 0, Nat.zero_le _, rfl, rfl, Own.nil w _ (Nat.le_refl _), Below.refl _ _⟩
  case round =>
    obtain ⟨k, A, c, hk, rfl, rfl, ho, hbel⟩ := hrel
    by_cases hlt2 : k < n
    · have hcell := HC.out wr hbel.out k hlt2
      obtain ⟨x0, x1⟩ := HV.out k hlt2
      have HN := Lib.hid (nums_take l k (by rw [HL.out]; exact hlt2))
      have hsz := hbel.out.size
      generalize l.getD k 0 = x at *
      have HLo := Lib.hid fun (W : World) => rlow_at x 8 8 W x0 x1 (by decide) rfl
      go_wp2_with (first | (go_at_call 47; (with_reducible refine (HLo.out _).mono ?_); rintro e w2 ⟨A2, c2, rfl, ho2, hbel2⟩; have HO2 := Lib.hid ho2; have HB2 := Lib.hid hbel2; clear ho2 hbel2) | (at_builtin; refine wpList_append_bytes rfl (.tmp 11) (.tmp 16) rfl w.heap.size A (8 * k) c (nums (l.take k)) rfl (ho.out.kept HB2.out (Nat.le_refl _)) A2 8 c2 _ rfl HO2.out.bytes (lowB_len _ _) (by omega) ?_; intro A3 c3 w3 ho3 hbel3; have HO3 := Lib.hid ho3; have HB3 := Lib.hid hbel3; clear ho3 hbel3))
      go_roundw
      case rel =>
        refine ⟨k + 1, A3, c3, by omega, by go_num, rfl, ?_, Lib.hid ((hbel.out.trans (HB2.out.mono hsz)).trans HB3.out)⟩
        rw [HN.out]
        exact HO3
      case measure => simp [intOf]; omega
    · obtain rfl : k = n := by omega
      have he : l.take k = l := List.take_of_length_le (by rw [HL.out]; exact Nat.le_refl _)
      rw [he] at ho
      clear he
      go_wp2
      go_ret
      exact ⟨A, c, rfl, ho.out, hbel.out⟩

theorem fits8 (len i : Nat) (h : i + 8 ≤ len) : fits len (i : Int) ((8 : Nat) : Int) = true := by
  simp [fits, isW]; omega
theorem get8 (a : Option Addr) (l : List Int) (n cap i : Nat) (z : Int) (w : World) (hz : z = (i : Int)) (hL : l.length = n) (hn : n ≤ 1000000) (hb : Bytes w a l) (hi : i + 8 ≤ n) :
    Calls Try.prog 52 #[.slice a n cap, .int .i64 z, .int .i64 8] w fun e w' => e = .returned (.tuple #[.int .u64 (u8 l i), .bool true]) ∧ w = w' := by
  subst hz hL
  exact get_yes a l cap i 8 w (by omega) (fits8 _ _ (by omega)) hb (by decide) (by decide) (by omega)
theorem rget8 (a : Option Addr) (l : List Int) (n cap i : Nat) (z : Int) (w : World) (hz : z = (i : Int)) (hL : l.length = n) (hn : n ≤ 1000000) (hb : Bytes w a l) (hi : i + 8 ≤ n) :
    Calls Try.prog 60 #[.slice a n cap, .int .i64 z, .int .i64 8] w fun e w' => e = .returned (.tuple #[.int .u64 (u8 l i), .bool true]) ∧ w = w' := by
  subst hz hL
  exact rget_yes a l cap i 8 w (by omega) (fits8 _ _ (by omega)) hb
end Go.Proofs.Ytldkmobncmfodaa.Oc

/-
  What 'Put' lays: an object's bytes; the program's.
-/
namespace Go.Proofs.Ytldkmobncmfodaa.Od
open Go.ChangeShapes Go.WideShapes Go.ChangeAt Go.RowKit
open Bytes8 Blk8 Own8 OwnM OwnE LeA LeAl LeNum LeB LeP RefA RefB Ob Oc
set_option linter.unusedVariables false
set_option maxRecDepth 100000
set_option linter.unusedSimpArgs false

/-- Bytes of the call's own. -/
def Owned (m : List Int) (n : Nat) (w : World) (e : Ending) (w' : World) : Prop := ∃ A c, e = .returned (.slice A n c) ∧ Own w' w.heap.size A n c m ∧ Below w.heap.size w w'

theorem Own.base {w : World} {b b2 n c : Nat} {A : Option Addr} {l : List Int} (h : Own w b A n c l) (hb : b2 ≤ b) : Own w b2 A n c l := by
  obtain ⟨h1, h2, h3, h4, h5⟩ := h
  refine ⟨h1, h2, Nat.le_trans hb h3, h4, ?_⟩
  rcases h5 with h | ⟨g, cap, cur, e, h6, h7⟩
  · exact .inl h
  · exact .inr ⟨g, cap, cur, e, Nat.le_trans hb h6, h7⟩
/-- 'copy' of bytes into a row. -/
theorem wpList_copy_row {w : World} {ops : Array Oper} {rest : List Oper} {o : Oper} {a : Act} {Q : Exit → Act → World → Prop} (hgd : o.guard = none) (d s : Operand)
    (hop : o.op = .call { callee := .builtin .copy, args := #[d, s], argTypes := #[28, 28] })
    (g off : Nat) (cur : List Int) (D : Option Addr) (dLen dCap : Nat) (hd : a.eval d = .slice D dLen dCap) (S : Option Addr) (m c2 : Nat) (sl : List Int) (hs : a.eval s = .slice S m c2) (hb : Bytes w S sl) (hm : sl.length = m) (hD : 0 < m → D = some ⟨g, off, none⟩) (hfit : off + m ≤ cur.length) (hdl : m ≤ dLen) (hg : Row w g cur) (B : Nat) (w0 : World) (hbel : Below B w0 w) (hB : B ≤ g)
    (h : ∀ w', Row w' g (over cur off sl) → Below B w0 w' → wpList Try.prog ops Q rest (a.put o.dst (goInt m)) w') : wpList Try.prog ops Q (o :: rest) a w := by
  refine wpList_copy_splice hgd d s 28 28 hop 5 Try.underlying28 size8 D S dLen dCap m c2 hd hs g off (cur.map (Value.int .u8)) 5 hg (sl.map (Value.int .u8)) ?_ ?_ ?_ ?_ B w0 hbel hB ?_
  · rw [List.length_map, hm]; exact (Nat.min_eq_left hdl).symm
  · intro h0
    rw [List.length_map] at h0
    refine ⟨hD (by omega), ?_⟩
    obtain ⟨ad, e, hsrc⟩ := hb.source w (Below.refl _ _) h0
    refine ⟨ad, e, fun j v hj => ?_⟩
    rw [List.getElem?_map] at hj
    obtain ⟨x, hx, rfl⟩ := Option.map_eq_some_iff.1 hj
    exact hsrc j x hx
  · simp; omega
  · intro v hv; obtain ⟨x, _, rfl⟩ := List.mem_map.1 hv; rfl
  · intro w' h1 h2
    rw [List.length_map, hm]
    refine h w' ?_ h2
    have h1' := h1.out
    have e : splice (cur.map (Value.int .u8)) off (sl.map (Value.int .u8)) = (over cur off sl).map (Value.int .u8) := by simp [splice, over]
    rw [e] at h1'
    exact h1'

theorem put_laid (k : Int) (l : List Int) (m : Nat) (h0 : 1 ≤ k) (h1 : k ≤ 7) (hm : m = 16 + l.length + padN l.length) : over (over (List.replicate m 0) 0 (lowB k 8 ++ lowB (16 + (l.length : Int)) 8)) 16 l = objB k l := by
  subst hm
  have e1 : ((16 + l.length : Nat) : Int) = 16 + (l.length : Int) := by omega
  have hf : front k l.length = lowB k 8 ++ lowB (16 + (l.length : Int)) 8 := by unfold front; rw [low_kind k h0 h1, e1]
  have hfl := front_len k l.length
  rw [← hf]
  unfold objB
  generalize front k l.length = f at *
  unfold over
  rw [hfl, List.take_zero, List.nil_append, List.drop_replicate, List.take_append_of_le_length (by omega), List.take_of_length_le (by omega), List.drop_append, List.drop_of_length_le (by omega), hfl, List.drop_replicate, List.nil_append, List.append_assoc]
  congr 3
  omega
end Go.Proofs.Ytldkmobncmfodaa.Od

/-
  What the document's 'Put' lays: an object's bytes.
-/
namespace Go.Proofs.Ytldkmobncmfodaa.Oe
open Go.ChangeShapes Go.WideShapes Go.ChangeAt Go.RowKit
open Bytes8 Blk8 Own8 OwnM OwnE LeA LeAl LeNum LeB LeP RefA RefB Ob Oc Od
set_option linter.unusedVariables false
set_option maxRecDepth 100000
set_option linter.unusedSimpArgs false

theorem rput_no (k : Int) (A : Option Addr) (n cap : Nat) (w : World) (h : ¬ (1 ≤ k ∧ k ≤ 7)) :
    Calls Try.prog 53 #[.int .i64 k, .slice A n cap] w fun e w' => e = .returned (.slice none 0 0) ∧ w = w' := by
  by_cases h1 : k < 1
  · go_enter Try.func53, Try.ntmps53
    go_wp2
    go_ret
    exact ⟨rfl, rfl⟩
  · have h2 : 7 < k := by omega
    go_enter Try.func53, Try.ntmps53
    go_wp2
    go_ret
    exact ⟨rfl, rfl⟩

theorem rnums1 (s : Int) (w : World) (g : Nat) (hs : 0 ≤ s ∧ s ≤ 18446744073709551615) (hg : w.heap.size = g) :
    Calls Try.prog 48 #[.slice (some ⟨g, 0, none⟩) 1 1] (w.alloc (.cells #[.int .u64 s] 36)) fun e w' => ∃ A c, e = .returned (.slice A 8 c) ∧ Own w' w.heap.size A 8 c (lowB s 8) ∧ Below w.heap.size w w' := by
  subst hg
  have h := rnums_any w.heap.size 1 1 [s] 36 (w.alloc (.cells #[.int .u64 s] 36)) (Blk.new w _ _) (fun v hv => by simp at hv; omega) rfl (by decide)
  refine h.mono fun e w' ⟨A, c, h1, h2, h3⟩ => ⟨A, c, h1, ?_, ((Below.refl w.heap.size w).alloc (Nat.le_refl _) _).trans (h3.mono (by simp))⟩
  rw [nums_one] at h2
  exact Own.base h2 (by simp)

def sliceLen : Value → Nat
  | .slice _ n _ => n
  | _ => 0

set_option maxHeartbeats 2000000 in
theorem rput_yes (k : Int) (A : Option Addr) (l : List Int) (n cap : Nat) (w : World) (h : 1 ≤ k ∧ k ≤ 7) (hb : Bytes w A l) (hL : l.length = n) (hn : n ≤ 1000000) :
    Calls Try.prog 53 #[.int .i64 k, .slice A n cap] w (Owned (objB k l) (16 + n + padN n) w) := by
  obtain ⟨k1, k7⟩ := h
  have HL := Lib.hid hL
  have HB := Lib.hid hb
  have HN := Lib.hid fun (s : Int) (W : World) (g : Nat) (hs : 0 ≤ s ∧ s ≤ 18446744073709551615) (hg : W.heap.size = g) => rnums1 s W g hs hg
  have HK := Lib.hid (show AllB [k, 0, 0, 0, 0, 0, 0, 0] from fun x hx => by simp at hx; omega)
  have hp := padN_le n
  have HF := Lib.hid (show front k n = [k, 0, 0, 0, 0, 0, 0, 0] ++ lowB (16 + (n : Int)) 8 by unfold front; rw [show ((16 + n : Nat) : Int) = 16 + (n : Int) by omega])
  have HO := Lib.hid (show objB k l = front k n ++ (l ++ List.replicate (padN n) 0) by unfold objB; rw [hL])
  have HP := Lib.hid (show ∀ j, j ≤ padN n → ((16 + n + j) % 8 = 0 ↔ j = padN n) from fun j hj => by unfold padN at hj ⊢; omega)
  rw [HO.out]
  generalize padN n = p at *
  clear hb hL
  go_enter Try.func53, Try.ntmps53
  go_wp2_with (first
    | (go_at_call 48; (with_reducible refine (HN.out _ _ _ (by omega) (by simp)).mono ?_); rintro e w3 ⟨A3, c3, rfl, ho3, hbel3⟩; have HO3 := Lib.hid ho3; have HB3 := Lib.hid hbel3; clear ho3 hbel3)
    | (at_builtin; refine wpList_append_bytes rfl (.tmp 14) (.tmp 20) rfl w.heap.size _ 8 8 [k, 0, 0, 0, 0, 0, 0, 0] rfl ((own_row (Row.new w [k, 0, 0, 0, 0, 0, 0, 0]) HK.out (Nat.le_refl _) rfl (show 8 ≤ maxLen by decide)).kept HB3.out (Nat.le_refl _)) A3 8 c3 _ rfl HO3.out.bytes (lowB_len _ _) (by omega) ?_; intro A4 c4 w4 ho4 hbel4; have HO4 := Lib.hid ho4; have HB4 := Lib.hid hbel4; clear ho4 hbel4)
    | (at_builtin; refine wpList_append_bytes rfl (.tmp 22) (.tmp 23) rfl w.heap.size A4 16 c4 _ rfl HO4.out A n cap l rfl (HB.out.below (((Below.refl _ _).alloc (Nat.le_refl _) _).trans ((HB3.out.mono (by simp)).trans HB4.out)) (Nat.le_refl _)) HL.out (by omega) ?_; intro A5 c5 w5 ho5 hbel5; have HO5 := Lib.hid ho5; have HB5 := Lib.hid hbel5; clear ho5 hbel5))
  go_loopw [5] (fun s wr => ∃ (j : Nat) (A6 : Option Addr) (c6 : Nat), j ≤ p ∧ s = .slice A6 (16 + n + j) c6 ∧ Hid (Own wr w.heap.size A6 (16 + n + j) c6 (front k n ++ (l ++ List.replicate j 0))) ∧ Hid (Below w.heap.size w wr)) (fun s _ => p + 16 + n - sliceLen s)
  case atStart =>
    refine ⟨0, A5, c5, Nat.zero_le _, rfl, ?_, Lib.hid (((Below.refl _ _).alloc (Nat.le_refl _) _).trans ((HB3.out.mono (by simp)).trans (HB4.out.trans HB5.out)))⟩
    have h := HO5.out
    rw [HF.out, List.replicate_zero, List.append_nil]
    exact h
  case round =>
    obtain ⟨j, A6, c6, hj, rfl, ho, hbel⟩ := hrel
    have hq := HP.out j hj
    by_cases hlt : j < p
    · have hm : ¬ (16 + n + j) % 8 = 0 := by omega
      have hm2 : ¬ (((16 + n + j : Nat) : Int) % 8 = 0) := by omega
      clear hq
      go_wp2_with (at_builtin; refine wpList_append_bytes rfl (.tmp 29) (.tmp 30) rfl w.heap.size A6 (16 + n + j) c6 _ rfl (ho.out.kept ((Below.refl _ _).alloc (Nat.le_refl _) _) (Nat.le_refl _)) (some ⟨wr.heap.size, 0, none⟩) 1 1 [0] rfl (Row.bytes (Row.new wr [0]) (AllB.zeros 1)) rfl (by omega) ?_; intro A7 c7 w7 ho7 hbel7; have HO7 := Lib.hid ho7; have HB7 := Lib.hid hbel7; clear ho7 hbel7)
      go_roundw
      case rel =>
        refine ⟨j + 1, A7, c7, by omega, rfl, ?_, Lib.hid ((hbel.out.alloc hbel.out.size _).trans HB7.out)⟩
        have h := HO7.out
        rw [List.append_assoc, List.append_assoc, show List.replicate j (0 : Int) ++ [0] = List.replicate (j + 1) 0 by rw [List.replicate_succ'] ] at h
        exact h
      case measure => simp [sliceLen]; omega
    · obtain rfl : j = p := by omega
      have hm : (16 + n + j) % 8 = 0 := by omega
      have hm2 : ((16 + n + j : Nat) : Int) % 8 = 0 := by omega
      clear hq
      go_wp2
      go_ret
      exact ⟨A6, c6, rfl, ho.out, hbel.out⟩
end Go.Proofs.Ytldkmobncmfodaa.Oe

/-
  The document's Nums of numbers that can be read.
-/
namespace Go.Proofs.Ytldkmobncmfodaa.Gn
open Go.ChangeShapes Go.WideShapes Go.ChangeAt Go.RowKit
open Bytes8 Blk8 Own8 OwnM LeA LeAl LeNum LeB LeP RefA RefB Ob Oc Od Oe Rows2
set_option linter.unusedVariables false
set_option linter.unusedSimpArgs false
set_option maxRecDepth 100000

/-- The numbers up to the k-th. -/
def ints (f : Nat → Int) (k : Nat) : List Int := (List.range k).map f
theorem ints_zero (f : Nat → Int) : ints f 0 = [] := rfl
theorem ints_succ (f : Nat → Int) (k : Nat) : ints f (k + 1) = ints f k ++ [f k] := by simp [ints, List.range_succ]
theorem ints_len (f : Nat → Int) (k : Nat) : (ints f k).length = k := by simp [ints]
theorem ints_nums (f : Nat → Int) (k : Nat) : nums (ints f (k + 1)) = nums (ints f k) ++ lowB (f k) 8 := by rw [ints_succ, nums_snoc]
theorem ints_list (l : List Int) : ints (fun i => l.getD i 0) l.length = l := by
  apply List.ext_getElem
  · simp [ints]
  · intro i h1 h2
    simp [ints, List.getD_eq_getElem?_getD, List.getElem?_eq_getElem h2]
theorem nums_ints_len (f : Nat → Int) (k : Nat) : (nums (ints f k)).length = 8 * k := by rw [nums_len, ints_len]

/-- Numbers of a block, as a slice that came in. -/
theorem blk_ints {w : World} {g : Nat} {l : List Int} {T : TypeId} (h : Blk w g (l.map (Value.int .u64)) T) (hv : I64 l) : InInts .u64 w (some ⟨g, 0, none⟩) l.length (fun i => l.getD i 0) := fun i hi => by
  have e : l.getD i 0 = l[i] := by simp [List.getElem?_eq_getElem hi]
  refine ⟨g, 0, rfl, h.lt, ?_, ?_⟩
  · rw [Nat.zero_add, h.cell (i := i) (v := .int .u64 (l.getD i 0)) (by simp [List.getElem?_eq_getElem hi])]
  · have := hv _ (List.getElem_mem hi)
    show (Lit.int .u64 (l.getD i 0)).wf = true
    rw [e]
    simp [Lit.wf, IntKind.min, IntKind.max, IntKind.signed, IntKind.bits]
    omega
theorem InInts.bd {w : World} {a : Option Addr} {n : Nat} {f : Nat → Int} (h : InInts .u64 w a n f) (i : Nat) (hi : i < n) : 0 ≤ f i ∧ f i ≤ 18446744073709551615 := by
  obtain ⟨_, _, _, _, _, hw⟩ := h i hi
  exact bounds_u64 hw
set_option maxHeartbeats 1000000 in
theorem rnums_in (Ai : Option Addr) (n cap : Nat) (f : Nat → Int) (w : World) (hi : InInts .u64 w Ai n f) (hmax : n ≤ 100000) :
    Calls Try.prog 48 #[.slice Ai n cap] w fun e w' => ∃ A c, e = .returned (.slice A (8 * n) c) ∧ Own w' w.heap.size A (8 * n) c (nums (ints f n)) ∧ Below w.heap.size w w' := by
  have HI := Lib.hid hi
  clear hi
  go_enter Try.func48, Try.ntmps48
  go_wp2
  go_loopw [3, 4] (fun s i wr => ∃ (k : Nat) (A : Option Addr) (c : Nat), k ≤ n ∧ i = .int .i64 (k : Int) ∧ s = .slice A (8 * k) c ∧ Hid (Own wr w.heap.size A (8 * k) c (nums (ints f k))) ∧ Hid (Below w.heap.size w wr)) (fun _ i _ => n - (intOf i).toNat)
  case atStart => exact ⟨0, none, 0, Nat.zero_le _, rfl, rfl, Own.nil w _ (Nat.le_refl _), Below.refl _ _⟩
  case round =>
    obtain ⟨k, A, c, hk, rfl, rfl, ho, hbel⟩ := hrel
    by_cases hlt2 : k < n
    · obtain ⟨b, off, rfl, hb, hc, hw⟩ := (HI.out.below hbel.out) k hlt2
      obtain ⟨x0, x1⟩ := bounds_u64 hw
      have HN := Lib.hid (ints_nums f k)
      have hsz := hbel.out.size
      generalize f k = x at *
      have HLo := Lib.hid fun (W : World) => rlow_at x 8 8 W x0 x1 (by decide) rfl
      go_wp2_with (first | (go_at_call 47; (with_reducible refine (HLo.out _).mono ?_); rintro e w2 ⟨A2, c2, rfl, ho2, hbel2⟩; have HO2 := Lib.hid ho2; have HB2 := Lib.hid hbel2; clear ho2 hbel2) | (at_builtin; refine wpList_append_bytes rfl (.tmp 11) (.tmp 16) rfl w.heap.size A (8 * k) c (nums (ints f k)) rfl (ho.out.kept HB2.out (Nat.le_refl _)) A2 8 c2 _ rfl HO2.out.bytes (lowB_len _ _) (by omega) ?_; intro A3 c3 w3 ho3 hbel3; have HO3 := Lib.hid ho3; have HB3 := Lib.hid hbel3; clear ho3 hbel3))
      go_roundw
      case rel =>
        refine ⟨k + 1, A3, c3, by omega, by go_num, rfl, ?_, Lib.hid ((hbel.out.trans (HB2.out.mono hsz)).trans HB3.out)⟩
        rw [HN.out]
        exact HO3
      case measure => simp [intOf]; omega
    · obtain rfl : k = n := by omega
      go_wp2
      go_ret
      exact ⟨A, c, rfl, ho.out, hbel.out⟩

end Go.Proofs.Ytldkmobncmfodaa.Gn

/-
  A copy of bytes: the library's, and the statements' own.
-/
namespace Go.Proofs.Ytldkmobncmfodaa.Cl8
open Go.ChangeShapes Go.WideShapes Go.ChangeAt Go.RowKit
open Bytes8 Blk8 Own8 OwnE
set_option linter.unusedVariables false
set_option maxRecDepth 100000
set_option linter.unusedSimpArgs false

/-- Bytes of the call's own. -/
def Made (m : List Int) (n : Nat) (w : World) (e : Ending) (w' : World) : Prop := ∃ A c, e = .returned (.slice A n c) ∧ Bytes w' A m ∧ Below w.heap.size w w'

theorem clone_any (A : Option Addr) (l : List Int) (len cap : Nat) (w : World) (hb : Bytes w A l) (hL : l.length = len) (hmax : len ≤ 1000000) :
    Calls Try.prog 11 #[.slice A len cap] w (Made l len w) := by
  have q22 : ∀ (w : World) (a : Option Addr) (n c n' c' : Nat), (binOp .eql 28 (.slice a n c) (.slice none n' c')).run Try.prog w = .ok (.bool a.isNone) w := fun w a n c n' c' => Lib.run_eql_slice_nil w _ _ a n c n' c' Try.underlying28
  cases A with
  | none =>
    have h0 : l = [] := by
      rcases l with _ | ⟨x, r⟩
      · rfl
      · obtain ⟨b, off, e, _⟩ := hb.2 0 (by simp)
        cases e
    subst h0
    obtain rfl : len = 0 := by simpa using hL.symm
    clear hb hL
    go_enter Try.func11, Try.ntmps11
    go_wp2
    go_ret
    exact ⟨none, 0, rfl, Bytes.nil _ _, Below.refl _ _⟩
  | some a =>
    have HB := Lib.hid (hb.below ((Below.refl w.heap.size w).alloc (Nat.le_refl _) (.cells #[] 5)) (Nat.le_refl _))
    have HL := Lib.hid hL
    clear hb hL
    go_enter Try.func11, Try.ntmps11
    go_wp2_with (at_builtin; refine wpList_append_bytes rfl (.tmp 5) (.tmp 6) rfl w.heap.size _ 0 0 [] rfl (Own.made w _ (Nat.le_refl _)) (some a) len cap l rfl HB.out HL.out (by omega) ?_; intro A2 c2 w2 ho2 hbel2; rw [Nat.zero_add, List.nil_append] at ho2; rw [Nat.zero_add]; have HO2 := Lib.hid ho2; clear ho2)
    go_ret
    exact ⟨A2, c2, rfl, HO2.out.bytes, ((Below.refl _ _).alloc (Nat.le_refl _) _).trans hbel2⟩

end Go.Proofs.Ytldkmobncmfodaa.Cl8

/-
  'append' of bytes onto one of several rows of the call's own: where the new slice lies, and that the other rows stay.
-/
namespace Go.Proofs.Ytldkmobncmfodaa.OwnA
open Go.ChangeShapes Go.WideShapes Go.ChangeAt Go.RowKit
open Bytes8 Blk8 Own8 OwnM
set_option linter.unusedVariables false
set_option maxRecDepth 100000

def ownB (A : Option Addr) : Option Nat := A.map (·.block)
theorem ownB_eq (A : Option Addr) (n c : Nat) : (Value.slice A n c).ownBlock = ownB A := by cases A <;> rfl
/-- Two slices lie in no block together. -/
def Apart (A B : Option Addr) : Prop := ∀ g, ownB A = some g → ownB B ≠ some g
theorem Apart.symm {A B : Option Addr} (h : Apart A B) : Apart B A := fun g h1 h2 => h g h2 h1
theorem Apart.none (B : Option Addr) : Apart none B := fun _ h => by cases h

theorem own_kept {w w' : World} {base n c : Nat} {row : Option Nat} {A : Option Addr} {l : List Int} (h : Own w base A n c l) (hg : w.grownBy w' row) (hne : ∀ g, ownB A = some g → row ≠ some g) : Own w' base A n c l := by
  refine ⟨h.1, h.2.1, Nat.le_trans h.2.2.1 hg.size, h.2.2.2.1, ?_⟩
  rcases h.2.2.2.2 with h1 | ⟨k, cap, cur, h1, h2, h3, h4⟩
  · exact .inl h1
  · refine .inr ⟨k, cap, cur, h1, h2, ?_, h4⟩
    have hk : k < w.heap.size := by
      rcases Nat.lt_or_ge k w.heap.size with h | h
      · exact h
      · rw [Array.getElem?_eq_none h] at h3; cases h3
    injection h1 with e1 e2 e3
    subst e1
    rw [hg.block k hk (fun e => hne k rfl e.symm)]; exact h3

theorem run_append_at (w : World) (ty : TypeId) (base : Nat) (A : Option Addr) (n c : Nat) (l : List Int) (ho : Own w base A n c l) (A2 : Option Addr) (m c2 : Nat) (ys : List Int) (hb : Bytes w A2 ys) (hm : ys.length = m) (hsz : n + m ≤ 70368744177664) :
    ∃ A' c' w', (Builtin.append_ #[28, 28] ty #[.slice A n c, .slice A2 m c2]).run Try.prog w = .ok (.slice A' (n + m) c') w' ∧ Own w' base A' (n + m) c' (l ++ ys) ∧ w.grownBy w' (ownB A) ∧ (ownB A' = ownB A ∨ ownB A' = some w.heap.size) := by
  obtain ⟨i, hi, hzz⟩ := Option.map_eq_some_iff.1 info8
  simp only [Prod.mk.injEq] at hzz
  obtain ⟨hz, hs, hby⟩ := hzz
  have hown := ho.2.2.2
  have done : ∀ (v' : Value) (w' : World), w'.ownsRow base 5 1 v' (n + m) (l.map (Value.int .u8) ++ ys.map (Value.int .u8)) → w.grownBy w' (Value.slice A n c).ownBlock → (v'.ownBlock = (Value.slice A n c).ownBlock ∨ v'.ownBlock = some w.heap.size) →
      ∃ A' c', v' = .slice A' (n + m) c' ∧ Own w' base A' (n + m) c' (l ++ ys) ∧ w.grownBy w' (ownB A) ∧ (ownB A' = ownB A ∨ ownB A' = some w.heap.size) := by
    intro v' w' h2 h3 h4
    have hsize := h3.size
    rw [ownB_eq] at h3 h4
    have hL : (l ++ ys).length = n + m := by rw [List.length_append, ho.2.1, hm]
    rw [← List.map_append] at h2
    rcases h2.2 with ⟨rfl, h0⟩ | ⟨g, cap, cur, rfl, _⟩
    · rw [h0] at h2 hL ⊢
      rw [ownB_eq] at h4
      exact ⟨none, 0, rfl, ⟨ho.1.app hb.1, hL, Nat.le_trans ho.2.2.1 hsize, h2⟩, h3, h4⟩
    · rw [ownB_eq] at h4
      exact ⟨_, _, rfl, ⟨ho.1.app hb.1, hL, Nat.le_trans ho.2.2.1 hsize, h2⟩, h3, h4⟩
  have hlen : (ys.map (Value.int .u8)).length = m * 1 := by simp [hm]
  by_cases h0 : 0 < ys.length
  · obtain ⟨ad, rfl, hsrc⟩ := hb.source w (Below.refl _ _) h0
    obtain ⟨v', w', hr, h2, h3, _, h4⟩ := run_append_own_at (P := Try.prog) w base 28 ty 5 i (.int .u8 0) 1 1 Try.underlying28 hi hz hs hby rfl (by decide) _ n _ hown ad m c2 (ys.map (Value.int .u8)) hlen
      (fun j u hu => by
        rw [List.getElem?_map] at hu
        obtain ⟨x, hx, rfl⟩ := Option.map_eq_some_iff.1 hu
        exact hsrc j x hx) (ones ys) (by unfold maxLen; omega) (by omega) ho.2.2.1
    obtain ⟨A', c', rfl, h5⟩ := done v' w' h2 h3 h4
    exact ⟨A', c', w', hr, h5⟩
  · obtain rfl : ys = [] := List.eq_nil_of_length_eq_zero (by omega)
    obtain rfl : m = 0 := by simpa using hm.symm
    cases A2 with
    | some ad =>
      obtain ⟨v', w', hr, h2, h3, _, h4⟩ := run_append_own_at (P := Try.prog) w base 28 ty 5 i (.int .u8 0) 1 1 Try.underlying28 hi hz hs hby rfl (by decide) _ n _ hown ad 0 c2 [] rfl
        (fun j u hu => by simp at hu) (fun u hu => by cases hu) (by unfold maxLen; omega) (by omega) ho.2.2.1
      obtain ⟨A', c', rfl, h5⟩ := done v' w' h2 h3 h4
      exact ⟨A', c', w', hr, h5⟩
    | none =>
      refine ⟨A, c, w, ?_, ?_, World.grownBy.refl _ _, .inl rfl⟩
      · rcases hown.2 with ⟨he, h0'⟩ | ⟨g, cap, cur, he, _, _, hnc, _⟩
        · injection he with e1 e2 e3
          subst e1; subst e2; subst e3
          simp [Builtin.append_, run_underlying Try.underlying28, sizeOf, typeInfo, hi, Builtin.lenOf, Builtin.firstCells]
        · injection he with e1 e2 e3
          subst e1; subst e3
          simp [Builtin.append_, run_underlying Try.underlying28, sizeOf, typeInfo, hi, Builtin.lenOf, Builtin.firstCells, hnc, storeCells]
      · rw [Nat.add_zero, List.append_nil]; exact ho

/-- .. in a walk: the other rows stay, and the new slice lies apart from them. -/
theorem wpList_append_at {w : World} {ops : Array Oper} {rest : List Oper} {o : Oper} {a : Act} {Q : Exit → Act → World → Prop} (hgd : o.guard = none) (s x : Operand)
    (hop : o.op = .call { callee := .builtin .append, args := #[s, x], argTypes := #[28, 28] })
    (base : Nat) (A : Option Addr) (n c : Nat) (l : List Int) (hs : a.eval s = .slice A n c) (ho : Own w base A n c l) (A2 : Option Addr) (m c2 : Nat) (ys : List Int) (hx : a.eval x = .slice A2 m c2) (hb : Bytes w A2 ys) (hm : ys.length = m) (hsz : n + m ≤ 70368744177664)
    (B : Option Addr) (nb cb : Nat) (lb : List Int) (hB : Own w base B nb cb lb) (hap : Apart A B)
    (h : ∀ A' c' w', Own w' base A' (n + m) c' (l ++ ys) → Own w' base B nb cb lb → Apart A' B → Below base w w' → wpList Try.prog ops Q rest (a.put o.dst (.slice A' (n + m) c')) w') : wpList Try.prog ops Q (o :: rest) a w :=
  wpList_plain hgd fun K hK => by
    obtain ⟨A', c', w', hr, h1, h2, h3⟩ := run_append_at w o.type base A n c l ho A2 m c2 ys hb hm hsz
    unfold Oper.wp execOp
    simp only [hop, resolve, invoke, builtin, Sem.run_bind, Sem.run_pure, Result.andThen_ok, List.map_toArray, List.map_cons, List.map_nil, hs, hx, hr]
    have hlt := fun g (hg : ownB B = some g) => hB.lt g (by rw [ownB_eq]; exact hg)
    refine hK _ _ (h A' c' w' h1 (own_kept hB h2 (fun g hg e => hap g e hg)) (fun g hg hg2 => ?_) (below_grown h2 ho.2.2.1 fun k hk => (ho.lt k (by rw [ownB_eq]; exact hk)).1))
    rcases h3 with h3 | h3
    · exact hap g (h3 ▸ hg) hg2
    · rw [h3] at hg
      injection hg with hg
      have := (hlt g hg2).2
      omega
end Go.Proofs.Ytldkmobncmfodaa.OwnA

/-
  'append' onto a slice of whatever elements: where the new one lies.
-/
namespace Go.Proofs.Ytldkmobncmfodaa.Dc
open Go.ChangeShapes Go.WideShapes Go.ChangeAt Go.RowKit
open Bytes8 Blk8 Own8 OwnA OwnM OwnE
set_option linter.unusedVariables false
set_option linter.unusedSimpArgs false
set_option maxRecDepth 100000

/-! ## 'append' onto a slice of whatever elements: where the new one lies -/
theorem run_append_elt_at {E S : TypeId} {size bytes : Nat} {z : Value} (he : Elt E S size bytes z) (w : World) (ty : TypeId) (base : Nat) (A : Option Addr) (n c : Nat) (xs : List Value) (ho : OwnE E size w base A n c xs) (ad : Addr) (m c2 : Nat) (news : List Value) (hl : news.length = m * size)
    (hnews : ∀ j u, news[j]? = some u → w.cell? (ad.add j) = some u) (h1 : ∀ u ∈ news, u.oneCell' = true) (h63 : n + m ≤ 4611686018427387904) (hbytes : (n + m) * bytes ≤ 140737488355328) (hml : n + m ≤ maxLen) :
    ∃ A' c' w', (Builtin.append_ #[S, S] ty #[.slice A n c, .slice (some ad) m c2]).run Try.prog w = .ok (.slice A' (n + m) c') w' ∧ OwnE E size w' base A' (n + m) c' (xs ++ news) ∧ w.grownBy w' (ownB A) ∧ (ownB A' = ownB A ∨ ownB A' = some w.heap.size) := by
  obtain ⟨i, hi, hzz⟩ := Option.map_eq_some_iff.1 he.info
  simp only [Prod.mk.injEq] at hzz
  obtain ⟨hz, hs, hby⟩ := hzz
  obtain ⟨v', w', hr, h2, h3, h4, h5⟩ := run_append_own_at (P := Try.prog) w base S ty E i z size bytes he.under hi hz hs hby he.zero he.pos _ n xs ho.2 ad m c2 news hl hnews h1 hml hbytes ho.1
  rw [ownB_eq] at h3 h5
  rcases h2.2 with ⟨rfl, h0⟩ | ⟨g, cap, cur, rfl, _⟩
  · rw [h0] at h2 ⊢
    rw [ownB_eq] at h5
    exact ⟨none, 0, w', hr, ⟨Nat.le_trans ho.1 h3.size, h2⟩, h3, h5⟩
  · rw [ownB_eq] at h5
    exact ⟨_, _, w', hr, ⟨Nat.le_trans ho.1 h3.size, h2⟩, h3, h5⟩
theorem wpList_append_elt_at {E S : TypeId} {size bytes : Nat} {z : Value} (he : Elt E S size bytes z) {w : World} {ops : Array Oper} {rest : List Oper} {o : Oper} {a : Act} {Q : Exit → Act → World → Prop} (hgd : o.guard = none) (s x : Operand)
    (hop : o.op = .call { callee := .builtin .append, args := #[s, x], argTypes := #[S, S] })
    (base : Nat) (A : Option Addr) (n c : Nat) (xs : List Value) (hs : a.eval s = .slice A n c) (ho : OwnE E size w base A n c xs) (ad : Addr) (m c2 : Nat) (news : List Value) (hx : a.eval x = .slice (some ad) m c2) (hl : news.length = m * size)
    (hnews : ∀ j u, news[j]? = some u → w.cell? (ad.add j) = some u) (h1 : ∀ u ∈ news, u.oneCell' = true) (h63 : n + m ≤ 4611686018427387904) (hbytes : (n + m) * bytes ≤ 140737488355328) (hml : n + m ≤ maxLen)
    (h : ∀ A' c' w', OwnE E size w' base A' (n + m) c' (xs ++ news) → w.grownBy w' (ownB A) → (ownB A' = ownB A ∨ ownB A' = some w.heap.size) → wpList Try.prog ops Q rest (a.put o.dst (.slice A' (n + m) c')) w') : wpList Try.prog ops Q (o :: rest) a w :=
  wpList_plain hgd fun _ hK => by
    obtain ⟨A', c', w', hr, h2, h3, h4⟩ := run_append_elt_at he w o.type base A n c xs ho ad m c2 news hl hnews h1 h63 hbytes hml
    unfold Oper.wp execOp
    simp only [hop, resolve, invoke, builtin, Sem.run_bind, Sem.run_pure, Result.andThen_ok, List.map_toArray, List.map_cons, List.map_nil, hs, hx, hr]
    exact hK _ _ (h A' c' w' h2 h3 h4)
theorem step_append_elt_at {E S : TypeId} {size bytes : Nat} {z : Value} (he : Elt E S size bytes z) {w : World} {ops : Array Oper} {o : Oper} {a : Act} {K : Act → World → Prop} {Q : Exit → Act → World → Prop} {F : Prop} (hgd : o.guard = none) (s x : Operand)
    (hop : o.op = .call { callee := .builtin .append, args := #[s, x], argTypes := #[S, S] })
    (base : Nat) (A : Option Addr) (n c : Nat) (xs : List Value) (hs : a.eval s = .slice A n c) (ho : OwnE E size w base A n c xs) (ad : Addr) (m c2 : Nat) (news : List Value) (hx : a.eval x = .slice (some ad) m c2) (hl : news.length = m * size)
    (hnews : ∀ j u, news[j]? = some u → w.cell? (ad.add j) = some u) (h1 : ∀ u ∈ news, u.oneCell' = true) (h63 : n + m ≤ 4611686018427387904) (hbytes : (n + m) * bytes ≤ 140737488355328) (hml : n + m ≤ maxLen)
    (h : ∀ A' c' w', OwnE E size w' base A' (n + m) c' (xs ++ news) → w.grownBy w' (ownB A) → (ownB A' = ownB A ∨ ownB A' = some w.heap.size) → K (a.put o.dst (.slice A' (n + m) c')) w') :
    if Region.wanted o (yielded ops a.tmps) = true then Oper.wp Try.prog o a w K Q else F := by
  have hw : Region.wanted o (yielded ops a.tmps) = true := by simp [Region.wanted, hgd]
  rw [if_pos hw]
  obtain ⟨A', c', w', hr, h2, h3, h4⟩ := run_append_elt_at he w o.type base A n c xs ho ad m c2 news hl hnews h1 h63 hbytes hml
  unfold Oper.wp execOp
  simp only [hop, resolve, invoke, builtin, Sem.run_bind, Sem.run_pure, Result.andThen_ok, List.map_toArray, List.map_cons, List.map_nil, hs, hx, hr]
  exact h A' c' w' h2 h3 h4
/-- .. where the operation has a guard that says yes. -/
theorem wpList_append_elt_want {E S : TypeId} {size bytes : Nat} {z : Value} (he : Elt E S size bytes z) {w : World} {ops : Array Oper} {rest : List Oper} {o : Oper} {a : Act} {Q : Exit → Act → World → Prop} (hw : Region.wanted o (yielded ops a.tmps) = true) (s x : Operand)
    (hop : o.op = .call { callee := .builtin .append, args := #[s, x], argTypes := #[S, S] })
    (base : Nat) (A : Option Addr) (n c : Nat) (xs : List Value) (hs : a.eval s = .slice A n c) (ho : OwnE E size w base A n c xs) (ad : Addr) (m c2 : Nat) (news : List Value) (hx : a.eval x = .slice (some ad) m c2) (hl : news.length = m * size)
    (hnews : ∀ j u, news[j]? = some u → w.cell? (ad.add j) = some u) (h1 : ∀ u ∈ news, u.oneCell' = true) (h63 : n + m ≤ 4611686018427387904) (hbytes : (n + m) * bytes ≤ 140737488355328)
    (h : ∀ A' c' w', OwnE E size w' base A' (n + m) c' (xs ++ news) → Below base w w' → wpList Try.prog ops Q rest (a.put o.dst (.slice A' (n + m) c')) w') : wpList Try.prog ops Q (o :: rest) a w :=
  BigFrame.wpList_want hw fun _ hK => wp_append_elt he s x hop base A n c xs hs ho ad m c2 news hx hl hnews h1 h63 hbytes fun A' c' w' h1 h2 => hK _ _ (h A' c' w' h1 h2)
/-- A row of the call's own stays, where another one grew. -/
theorem OwnE.keptG {E : TypeId} {size : Nat} {w w' : World} {base n c : Nat} {row : Option Nat} {A : Option Addr} {xs : List Value} (h : OwnE E size w base A n c xs) (hg : w.grownBy w' row) (hne : ∀ g, ownB A = some g → row ≠ some g) : OwnE E size w' base A n c xs := by
  refine ⟨Nat.le_trans h.1 hg.size, h.2.1, ?_⟩
  rcases h.2.2 with h1 | ⟨k, cap, cur, h1, h2, h3, h4⟩
  · exact .inl h1
  · refine .inr ⟨k, cap, cur, h1, h2, ?_, h4⟩
    have hk : k < w.heap.size := by
      rcases Nat.lt_or_ge k w.heap.size with h | h
      · exact h
      · rw [Array.getElem?_eq_none h] at h3; cases h3
    injection h1 with e1 e2 e3
    subst e1
    rw [hg.block k hk (fun e => hne k rfl e.symm)]; exact h3
theorem apart_grown {w : World} {A A' B : Option Addr} (hap : Apart A B) (hB : ∀ g, ownB B = some g → g < w.heap.size) (hat : ownB A' = ownB A ∨ ownB A' = some w.heap.size) : Apart A' B := fun g hg hg2 => by
  rcases hat with h3 | h3
  · exact hap g (h3 ▸ hg) hg2
  · rw [h3] at hg
    injection hg with hg
    have := hB g hg2
    omega
theorem OwnE.ltB {E : TypeId} {size : Nat} {w : World} {base n c : Nat} {A : Option Addr} {xs : List Value} (h : OwnE E size w base A n c xs) : ∀ g, ownB A = some g → base ≤ g ∧ g < w.heap.size := fun g hg => h.lt g (by rw [ownB_eq]; exact hg)
end Go.Proofs.Ytldkmobncmfodaa.Dc
