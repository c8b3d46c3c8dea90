/-
  The statements' own small functions of layer 7: the chapter's example; two objects held against each other.
-/
import Derived.Test.YtbfeomoafpgejaaOl
import Derived.Test.YtbfeomoafpgejaaSB
import Derived.Test.YtbfeomoafpgejaaGr
namespace Go.Proofs.Ytbfeomoafpgejaa.Om
open Go.ChangeShapes Go.WideShapes Go.ChangeAt Go.RowKit
open Bytes8 Blk8 Own8 OwnM OwnE LeA LeAl LeNum LeB LeP RefA RefB Ob Oc Od Oe Oi Oj Ok7 Ff Fb Og Fa
set_option linter.unusedVariables false
set_option maxRecDepth 100000
set_option linter.unusedSimpArgs false

abbrev exL : List Int := [7, 0, 0, 0, 0, 0, 0, 0, 16, 0, 0, 0, 0, 0, 0, 0]
theorem ex_is : objB 7 [] = exL := by decide +kernel
theorem put_ex (w : World) :
    Calls Try.prog 19 #[.int .i64 7, .slice none 0 0] w fun e w' => ∃ A c, e = .returned (.slice A 16 c) ∧ Bytes w' A exL ∧ Below w.heap.size w w' := by
  have h := put_yes 7 none [] 0 0 w (by decide) (Bytes.nil _ _) rfl (by decide)
  rw [ex_is] at h
  exact h.mono fun e w' ⟨A, c, h1, h2, h3⟩ => ⟨A, c, h1, h2.bytes, h3⟩
theorem ex_str : strOfNums exL = { data := #[7, 0, 0, 0, 0, 0, 0, 0, 16, 0, 0, 0, 0, 0, 0, 0] } := by decide +kernel
theorem first_any (w : World) : Calls Try.prog 8 #[] w fun e w' => e = .returned (.bool true) ∧ Below w.heap.size w w' := by
  have HP := Lib.hid (put_ex w)
  have HS := Lib.hid fun (W : World) (A : Option Addr) (c : Nat) (h : Bytes W A exL) => ex_str ▸ h.string c 16 rfl
  go_enter Try.func8, Try.ntmps8
  go_wp2_with (first
    | (go_at_call 19; (with_reducible refine HP.out.mono ?_); rintro e w1 ⟨A1, c1, rfl, hb1, hbel1⟩; have hs1 := HS.out _ _ c1 hb1; have HB := Lib.hid hbel1; clear hb1 hbel1)
    | (go_at_call 19; (with_reducible refine (put_no _ _ _ _ _ (by decide)).mono ?_); rintro e w' ⟨rfl, rfl⟩))
  go_ret
  exact ⟨rfl, HB.out⟩

theorem frame_any (k s : Int) (w : World) : Calls Try.prog 15 #[frV k s] w fun e w' => e = .returned (frV k s) ∧ Grew w w' := by
  go_enter Try.func15, Try.ntmps15
  go_wp2
  refine bodyPost_ret (v := frV k s) (by simp [results, Try.results15, go_sem, Result.andThen]) rfl ⟨rfl, ?_⟩
  exact ((Grew.refl w).alloc _).alloc _

set_option maxHeartbeats 1000000 in
theorem sameData_any (x0 x1 x2 x3 x4 x5 : Int) (A B : Option Addr) (n c d : Nat) (l : List Int) (w : World) (ha : Bytes w A l) (hb : Bytes w B l) (hn : l.length = n) :
    Calls Try.prog 16 #[dataV x0 x1 x2 x3 x4 x5 A n c, dataV x0 x1 x2 x3 x4 x5 B n d] w fun e w' => e = .returned (.bool true) ∧ Grew w w' := by
  have HS := Lib.hid fun (W : World) (h : Below w.heap.size w W) => same_any A B l l n c n d W (ha.below h (Nat.le_refl _)) (hb.below h (Nat.le_refl _)) hn hn
  rw [decide_eq_true (rfl : l = l)] at HS
  have B2 := Lib.hid (((Grew.refl w).alloc (.cells #[.int .u64 x0, .int .u64 x1, .int .u64 x2, .int .u64 x3, .int .u64 x4, .int .u64 x5, .slice A n c] 33)).alloc (.cells #[.int .u64 x0, .int .u64 x1, .int .u64 x2, .int .u64 x3, .int .u64 x4, .int .u64 x5, .slice B n d] 36))
  clear ha hb hn
  go_enter Try.func16, Try.ntmps16
  go_wp2_with (go_at_call 18; (with_reducible refine (HS.out _ B2.out.below).mono ?_); rintro e w' ⟨rfl, rfl⟩)
  go_ret
  exact ⟨rfl, B2.out⟩
set_option maxHeartbeats 1000000 in
theorem sameField_any (x0 x1 x2 : Int) (A B : Option Addr) (n c d : Nat) (l : List Int) (w : World) (ha : Bytes w A l) (hb : Bytes w B l) (hn : l.length = n) :
    Calls Try.prog 17 #[fieldV x0 x1 x2 A n c, fieldV x0 x1 x2 B n d] w fun e w' => e = .returned (.bool true) ∧ Grew w w' := by
  have HS := Lib.hid fun (W : World) (h : Below w.heap.size w W) => same_any A B l l n c n d W (ha.below h (Nat.le_refl _)) (hb.below h (Nat.le_refl _)) hn hn
  rw [decide_eq_true (rfl : l = l)] at HS
  have B2 := Lib.hid (((Grew.refl w).alloc (.cells #[.int .u64 x0, .int .u64 x1, .int .u64 x2, .slice A n c] 40)).alloc (.cells #[.int .u64 x0, .int .u64 x1, .int .u64 x2, .slice B n d] 43))
  clear ha hb hn
  go_enter Try.func17, Try.ntmps17
  go_wp2_with (go_at_call 18; (with_reducible refine (HS.out _ B2.out.below).mono ?_); rintro e w' ⟨rfl, rfl⟩)
  go_ret
  exact ⟨rfl, B2.out⟩
end Go.Proofs.Ytbfeomoafpgejaa.Om
