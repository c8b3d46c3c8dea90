/-
  The walk of ObjSays.
-/
import Derived.Test.YtbfeomoafpgejaaOm
import Derived.Shelf.SlSortCmp.QuietGrown
import Derived.Deep.CutBlock
namespace Go.Proofs.Ytbfeomoafpgejaa.ObjSaysW
open Go.ChangeShapes Go.WideShapes Go.ChangeAt Go.RowKit
open Bytes8 Blk8 Own8 OwnM OwnE LeA LeAl LeNum LeB LeP RefA RefB Ob Oc Od Oe Og Oh Oi Oj Ok7 Ol7 Ff Fb Om
set_option linter.unusedVariables false
set_option maxRecDepth 100000
set_option linter.unusedSimpArgs false

theorem eql_frame (k s : Int) (w : World) : (binOp .eql 26 (frV k s) (frV k s)).run Try.prog w = .ok (.bool true) w := by
  have hS : Try.prog.underlying 26 = some (.struct (Try.prog.fieldsOf 26)) := by kernel_rfl
  have hp : Try.prog.stoodInHeld 26 = false := by kernel_rfl
  have a3 := Try.isAgg3
  have z3 := Try.sizeOf3
  have a23 := Try.isAgg23
  have z23 := Try.sizeOf23
  rw [run_eql_struct, show (10000 : Nat) = 9999 + 1 from rfl, run_equalIn_agg w 9999 _ _ _ hS hp]
  simp only [Program.fieldsOf, Try.underlying26]
  go_simp

theorem walk_long (A : Option Addr) (n cap : Nat) (at1 : Int) (w : World) (h : 600 < n) :
    Calls Try.prog 3 #[.slice A n cap, .int .u64 at1] w fun e w' => e = .returned (.bool true) ∧ Below w.heap.size w w' := by
  go_enter Try.func3, Try.ntmps3
  go_wp2_with (go_at_call 8; (with_reducible refine (first_any _).mono ?_); rintro e w1 ⟨rfl, hbel⟩; have B1 := Lib.hid hbel; clear hbel)
  go_ret
  exact ⟨rfl, B1.out⟩

set_option maxHeartbeats 8000000 in
theorem walk_main (A : Option Addr) (l : List Int) (n cap a : Nat) (w : World) (hb : Bytes w A l) (hL : l.length = n) (hc : n ≤ cap) (hcm : cap ≤ maxLen) (ha : a ≤ 18446744073709551615) (h : n ≤ 600) :
    Calls Try.prog 3 #[.slice A n cap, .int .u64 (a : Int)] w fun e w' => e = .returned (.bool true) ∧ Below w.heap.size w w' := by
  have H1 := Lib.hid fun (W : World) (hb : Bytes W A l) => read_any A l n cap a W hb hL (by omega) hc hcm ha
  have H2 := Lib.hid fun (W : World) (hb : Bytes W A l) => rread_any A l n cap a W hb hL (by omega) ha
  have H3 := Lib.hid fun (W : World) (hb : Bytes W A l) => readData_any A l n cap a W hb hL (by omega) hc hcm ha
  have H4 := Lib.hid fun (W : World) (hb : Bytes W A l) => rreadData_any A l n cap a W hb hL (by omega) hc hcm ha
  have H5 := Lib.hid fun (W : World) (hb : Bytes W A l) => readField_any A l n cap a W hb hL (by omega) hc hcm ha
  have H6 := Lib.hid fun (W : World) (hb : Bytes W A l) => rreadField_any A l n cap a W hb hL (by omega) hc hcm ha
  unfold FrTold at H1 H2
  unfold DataTold at H3 H4
  unfold FieldTold at H5 H6
  have L0 := Lib.hid hb
  have heq := eql_frame (kindL l a) (sizeL l a)
  generalize kindL l a = K at *
  generalize sizeL l a = S at *
  generalize code l a = C at *
  generalize bcode l a 1 6 = C1 at *
  generalize bcode l a 2 3 = C2 at *
  generalize bpay l a 1 6 = P1 at *
  generalize bpay l a 2 3 = P2 at *
  generalize bnum l a 1 6 0 = D0 at *
  generalize bnum l a 1 6 1 = D1 at *
  generalize bnum l a 1 6 2 = D2 at *
  generalize bnum l a 1 6 3 = D3 at *
  generalize bnum l a 1 6 4 = D4 at *
  generalize bnum l a 1 6 5 = D5 at *
  generalize bnum l a 2 3 0 = F0 at *
  generalize bnum l a 2 3 1 = F1 at *
  generalize bnum l a 2 3 2 = F2 at *
  clear hb hL ha hcm hc
  go_enter Try.func3, Try.ntmps3
  go_upto_region 12 with (first
    | (go_at_call 8; (with_reducible refine (first_any _).mono ?_); rintro e w0 ⟨rfl, hbel⟩; have B0 := Lib.hid hbel; have L1 := Lib.hid (L0.out.below hbel (Nat.le_refl _)); clear hbel)
    | (go_at_call 9; (with_reducible refine (H1.out _ L1.out).mono ?_); rintro e w1 ⟨rfl, hbel⟩; have X1_1 := Lib.hid (Blk.new w1 [.int .i64 K, .int .i64 0, .int .u64 S] 26); have B1 := Lib.hid ((B0.out.trans (hbel.mono B0.out.size)).alloc (B0.out.trans (hbel.mono B0.out.size)).size (.cells #[.int .i64 K, .int .i64 0, .int .u64 S] 26)); have L2 := Lib.hid ((L1.out.below hbel (Nat.le_refl _)).below ((Below.refl _ _).alloc (Nat.le_refl _) (.cells #[.int .i64 K, .int .i64 0, .int .u64 S] 26)) (Nat.le_refl _)); clear hbel)
    | (go_at_call 10; (with_reducible refine (H2.out _ L2.out).mono ?_); rintro e w2 ⟨rfl, hbel⟩; have X1_2 := Lib.hid ((X1_1.out.below hbel X1_1.out.lt).alloc (.cells #[.int .i64 K, .int .i64 0, .int .u64 S] 29)); have X2_2 := Lib.hid (Blk.new w2 [.int .i64 K, .int .i64 0, .int .u64 S] 29); have B2 := Lib.hid ((B1.out.trans (hbel.mono B1.out.size)).alloc (B1.out.trans (hbel.mono B1.out.size)).size (.cells #[.int .i64 K, .int .i64 0, .int .u64 S] 29)); have L3 := Lib.hid ((L2.out.below hbel (Nat.le_refl _)).below ((Below.refl _ _).alloc (Nat.le_refl _) (.cells #[.int .i64 K, .int .i64 0, .int .u64 S] 29)) (Nat.le_refl _)); clear hbel)
    | (go_at_call 11; (with_reducible refine (H3.out _ L3.out).mono ?_); rintro e w3 ⟨A3, n3, c3, rfl, hbel, hby, hpn, hpm⟩; have X1_3 := Lib.hid ((X1_2.out.below hbel X1_2.out.lt).alloc (.cells #[.int .u64 D0, .int .u64 D1, .int .u64 D2, .int .u64 D3, .int .u64 D4, .int .u64 D5, .slice A3 n3 c3] 33)); have X2_3 := Lib.hid ((X2_2.out.below hbel X2_2.out.lt).alloc (.cells #[.int .u64 D0, .int .u64 D1, .int .u64 D2, .int .u64 D3, .int .u64 D4, .int .u64 D5, .slice A3 n3 c3] 33)); have Y3_3 := Lib.hid (hby.below ((Below.refl _ _).alloc (Nat.le_refl _) (.cells #[.int .u64 D0, .int .u64 D1, .int .u64 D2, .int .u64 D3, .int .u64 D4, .int .u64 D5, .slice A3 n3 c3] 33)) (Nat.le_refl _)); have HPn3 := Lib.hid hpn; clear hpn hpm hby; have X3_3 := Lib.hid (Blk.new w3 [.int .u64 D0, .int .u64 D1, .int .u64 D2, .int .u64 D3, .int .u64 D4, .int .u64 D5, .slice A3 n3 c3] 33); have B3 := Lib.hid ((B2.out.trans (hbel.mono B2.out.size)).alloc (B2.out.trans (hbel.mono B2.out.size)).size (.cells #[.int .u64 D0, .int .u64 D1, .int .u64 D2, .int .u64 D3, .int .u64 D4, .int .u64 D5, .slice A3 n3 c3] 33)); have L4 := Lib.hid ((L3.out.below hbel (Nat.le_refl _)).below ((Below.refl _ _).alloc (Nat.le_refl _) (.cells #[.int .u64 D0, .int .u64 D1, .int .u64 D2, .int .u64 D3, .int .u64 D4, .int .u64 D5, .slice A3 n3 c3] 33)) (Nat.le_refl _)); clear hbel)
    | (go_at_call 12; (with_reducible refine (H4.out _ L4.out).mono ?_); rintro e w4 ⟨A4, n4, c4, rfl, hbel, hby, hpn, hpm⟩; have X1_4 := Lib.hid ((X1_3.out.below hbel X1_3.out.lt).alloc (.cells #[.int .u64 D0, .int .u64 D1, .int .u64 D2, .int .u64 D3, .int .u64 D4, .int .u64 D5, .slice A4 n4 c4] 36)); have X2_4 := Lib.hid ((X2_3.out.below hbel X2_3.out.lt).alloc (.cells #[.int .u64 D0, .int .u64 D1, .int .u64 D2, .int .u64 D3, .int .u64 D4, .int .u64 D5, .slice A4 n4 c4] 36)); have X3_4 := Lib.hid ((X3_3.out.below hbel X3_3.out.lt).alloc (.cells #[.int .u64 D0, .int .u64 D1, .int .u64 D2, .int .u64 D3, .int .u64 D4, .int .u64 D5, .slice A4 n4 c4] 36)); have Y3_4 := Lib.hid ((Y3_3.out.below hbel (Nat.le_refl _)).below ((Below.refl _ _).alloc (Nat.le_refl _) (.cells #[.int .u64 D0, .int .u64 D1, .int .u64 D2, .int .u64 D3, .int .u64 D4, .int .u64 D5, .slice A4 n4 c4] 36)) (Nat.le_refl _)); have Y4_4 := Lib.hid (hby.below ((Below.refl _ _).alloc (Nat.le_refl _) (.cells #[.int .u64 D0, .int .u64 D1, .int .u64 D2, .int .u64 D3, .int .u64 D4, .int .u64 D5, .slice A4 n4 c4] 36)) (Nat.le_refl _)); have HPn4 := Lib.hid hpn; clear hpn hpm hby; have X4_4 := Lib.hid (Blk.new w4 [.int .u64 D0, .int .u64 D1, .int .u64 D2, .int .u64 D3, .int .u64 D4, .int .u64 D5, .slice A4 n4 c4] 36); have B4 := Lib.hid ((B3.out.trans (hbel.mono B3.out.size)).alloc (B3.out.trans (hbel.mono B3.out.size)).size (.cells #[.int .u64 D0, .int .u64 D1, .int .u64 D2, .int .u64 D3, .int .u64 D4, .int .u64 D5, .slice A4 n4 c4] 36)); have L5 := Lib.hid ((L4.out.below hbel (Nat.le_refl _)).below ((Below.refl _ _).alloc (Nat.le_refl _) (.cells #[.int .u64 D0, .int .u64 D1, .int .u64 D2, .int .u64 D3, .int .u64 D4, .int .u64 D5, .slice A4 n4 c4] 36)) (Nat.le_refl _)); clear hbel)
    | (go_at_call 13; (with_reducible refine (H5.out _ L5.out).mono ?_); rintro e w5 ⟨A5, n5, c5, rfl, hbel, hby, hpn, hpm⟩; have X1_5 := Lib.hid ((X1_4.out.below hbel X1_4.out.lt).alloc (.cells #[.int .u64 F0, .int .u64 F1, .int .u64 F2, .slice A5 n5 c5] 40)); have X2_5 := Lib.hid ((X2_4.out.below hbel X2_4.out.lt).alloc (.cells #[.int .u64 F0, .int .u64 F1, .int .u64 F2, .slice A5 n5 c5] 40)); have X3_5 := Lib.hid ((X3_4.out.below hbel X3_4.out.lt).alloc (.cells #[.int .u64 F0, .int .u64 F1, .int .u64 F2, .slice A5 n5 c5] 40)); have X4_5 := Lib.hid ((X4_4.out.below hbel X4_4.out.lt).alloc (.cells #[.int .u64 F0, .int .u64 F1, .int .u64 F2, .slice A5 n5 c5] 40)); have Y3_5 := Lib.hid ((Y3_4.out.below hbel (Nat.le_refl _)).below ((Below.refl _ _).alloc (Nat.le_refl _) (.cells #[.int .u64 F0, .int .u64 F1, .int .u64 F2, .slice A5 n5 c5] 40)) (Nat.le_refl _)); have Y4_5 := Lib.hid ((Y4_4.out.below hbel (Nat.le_refl _)).below ((Below.refl _ _).alloc (Nat.le_refl _) (.cells #[.int .u64 F0, .int .u64 F1, .int .u64 F2, .slice A5 n5 c5] 40)) (Nat.le_refl _)); have Y5_5 := Lib.hid (hby.below ((Below.refl _ _).alloc (Nat.le_refl _) (.cells #[.int .u64 F0, .int .u64 F1, .int .u64 F2, .slice A5 n5 c5] 40)) (Nat.le_refl _)); have HPn5 := Lib.hid hpn; clear hpn hpm hby; have X5_5 := Lib.hid (Blk.new w5 [.int .u64 F0, .int .u64 F1, .int .u64 F2, .slice A5 n5 c5] 40); have B5 := Lib.hid ((B4.out.trans (hbel.mono B4.out.size)).alloc (B4.out.trans (hbel.mono B4.out.size)).size (.cells #[.int .u64 F0, .int .u64 F1, .int .u64 F2, .slice A5 n5 c5] 40)); have L6 := Lib.hid ((L5.out.below hbel (Nat.le_refl _)).below ((Below.refl _ _).alloc (Nat.le_refl _) (.cells #[.int .u64 F0, .int .u64 F1, .int .u64 F2, .slice A5 n5 c5] 40)) (Nat.le_refl _)); clear hbel)
    | (go_at_call 14; (with_reducible refine (H6.out _ L6.out).mono ?_); rintro e w6 ⟨A6, n6, c6, rfl, hbel, hby, hpn, hpm⟩; have X1_6 := Lib.hid ((X1_5.out.below hbel X1_5.out.lt).alloc (.cells #[.int .u64 F0, .int .u64 F1, .int .u64 F2, .slice A6 n6 c6] 43)); have X2_6 := Lib.hid ((X2_5.out.below hbel X2_5.out.lt).alloc (.cells #[.int .u64 F0, .int .u64 F1, .int .u64 F2, .slice A6 n6 c6] 43)); have X3_6 := Lib.hid ((X3_5.out.below hbel X3_5.out.lt).alloc (.cells #[.int .u64 F0, .int .u64 F1, .int .u64 F2, .slice A6 n6 c6] 43)); have X4_6 := Lib.hid ((X4_5.out.below hbel X4_5.out.lt).alloc (.cells #[.int .u64 F0, .int .u64 F1, .int .u64 F2, .slice A6 n6 c6] 43)); have X5_6 := Lib.hid ((X5_5.out.below hbel X5_5.out.lt).alloc (.cells #[.int .u64 F0, .int .u64 F1, .int .u64 F2, .slice A6 n6 c6] 43)); have Y3_6 := Lib.hid ((Y3_5.out.below hbel (Nat.le_refl _)).below ((Below.refl _ _).alloc (Nat.le_refl _) (.cells #[.int .u64 F0, .int .u64 F1, .int .u64 F2, .slice A6 n6 c6] 43)) (Nat.le_refl _)); have Y4_6 := Lib.hid ((Y4_5.out.below hbel (Nat.le_refl _)).below ((Below.refl _ _).alloc (Nat.le_refl _) (.cells #[.int .u64 F0, .int .u64 F1, .int .u64 F2, .slice A6 n6 c6] 43)) (Nat.le_refl _)); have Y5_6 := Lib.hid ((Y5_5.out.below hbel (Nat.le_refl _)).below ((Below.refl _ _).alloc (Nat.le_refl _) (.cells #[.int .u64 F0, .int .u64 F1, .int .u64 F2, .slice A6 n6 c6] 43)) (Nat.le_refl _)); have Y6_6 := Lib.hid (hby.below ((Below.refl _ _).alloc (Nat.le_refl _) (.cells #[.int .u64 F0, .int .u64 F1, .int .u64 F2, .slice A6 n6 c6] 43)) (Nat.le_refl _)); have HPn6 := Lib.hid hpn; clear hpn hpm hby; have X6_6 := Lib.hid (Blk.new w6 [.int .u64 F0, .int .u64 F1, .int .u64 F2, .slice A6 n6 c6] 43); have B6 := Lib.hid ((B5.out.trans (hbel.mono B5.out.size)).alloc (B5.out.trans (hbel.mono B5.out.size)).size (.cells #[.int .u64 F0, .int .u64 F1, .int .u64 F2, .slice A6 n6 c6] 43)); have L7 := Lib.hid ((L6.out.below hbel (Nat.le_refl _)).below ((Below.refl _ _).alloc (Nat.le_refl _) (.cells #[.int .u64 F0, .int .u64 F1, .int .u64 F2, .slice A6 n6 c6] 43)) (Nat.le_refl _)); clear hbel))
  generalize w6.alloc (.cells #[.int .u64 F0, .int .u64 F1, .int .u64 F2, .slice A6 n6 c6] 43) = W at *
  generalize w1.heap.size = g1 at *
  generalize w2.heap.size = g2 at *
  generalize w3.heap.size = g3 at *
  generalize w4.heap.size = g4 at *
  generalize w5.heap.size = g5 at *
  generalize w6.heap.size = g6 at *
  have x10 := cell_grown X1_6.out.lt (X1_6.out.cell (i := 0) rfl)
  have x11 := cell_grown X1_6.out.lt (X1_6.out.cell (i := 1) rfl)
  have x12 := cell_grown X1_6.out.lt (X1_6.out.cell (i := 2) rfl)
  have x20 := cell_grown X2_6.out.lt (X2_6.out.cell (i := 0) rfl)
  have x21 := cell_grown X2_6.out.lt (X2_6.out.cell (i := 1) rfl)
  have x22 := cell_grown X2_6.out.lt (X2_6.out.cell (i := 2) rfl)
  have x30 := cell_grown X3_6.out.lt (X3_6.out.cell (i := 0) rfl)
  have x31 := cell_grown X3_6.out.lt (X3_6.out.cell (i := 1) rfl)
  have x32 := cell_grown X3_6.out.lt (X3_6.out.cell (i := 2) rfl)
  have x33 := cell_grown X3_6.out.lt (X3_6.out.cell (i := 3) rfl)
  have x34 := cell_grown X3_6.out.lt (X3_6.out.cell (i := 4) rfl)
  have x35 := cell_grown X3_6.out.lt (X3_6.out.cell (i := 5) rfl)
  have x36 := cell_grown X3_6.out.lt (X3_6.out.cell (i := 6) rfl)
  have x40 := cell_grown X4_6.out.lt (X4_6.out.cell (i := 0) rfl)
  have x41 := cell_grown X4_6.out.lt (X4_6.out.cell (i := 1) rfl)
  have x42 := cell_grown X4_6.out.lt (X4_6.out.cell (i := 2) rfl)
  have x43 := cell_grown X4_6.out.lt (X4_6.out.cell (i := 3) rfl)
  have x44 := cell_grown X4_6.out.lt (X4_6.out.cell (i := 4) rfl)
  have x45 := cell_grown X4_6.out.lt (X4_6.out.cell (i := 5) rfl)
  have x46 := cell_grown X4_6.out.lt (X4_6.out.cell (i := 6) rfl)
  have x50 := cell_grown X5_6.out.lt (X5_6.out.cell (i := 0) rfl)
  have x51 := cell_grown X5_6.out.lt (X5_6.out.cell (i := 1) rfl)
  have x52 := cell_grown X5_6.out.lt (X5_6.out.cell (i := 2) rfl)
  have x53 := cell_grown X5_6.out.lt (X5_6.out.cell (i := 3) rfl)
  have x60 := cell_grown X6_6.out.lt (X6_6.out.cell (i := 0) rfl)
  have x61 := cell_grown X6_6.out.lt (X6_6.out.cell (i := 1) rfl)
  have x62 := cell_grown X6_6.out.lt (X6_6.out.cell (i := 2) rfl)
  have x63 := cell_grown X6_6.out.lt (X6_6.out.cell (i := 3) rfl)
  obtain rfl : n4 = n3 := HPn4.out.symm.trans HPn3.out
  obtain rfl : n6 = n5 := HPn6.out.symm.trans HPn5.out
  have K1 : Hid (∀ k os, Calls Try.prog 15 #[frV K S] (Sort.grow (W.drewN k) os) fun e w' => e = .returned (frV K S) ∧ ∃ q os', w' = Sort.grow ((Sort.grow (W.drewN k) os).drewN q) os') := Lib.hid fun k os => frame_any K S _
  have K2 : Hid (∀ k os, Calls Try.prog 16 #[dataV D0 D1 D2 D3 D4 D5 A3 n4 c3, dataV D0 D1 D2 D3 D4 D5 A4 n4 c4] (Sort.grow (W.drewN k) os) fun e w' => e = .returned (.bool true) ∧ ∃ q os', w' = Sort.grow ((Sort.grow (W.drewN k) os).drewN q) os') := Lib.hid fun k os => sameData_any D0 D1 D2 D3 D4 D5 A3 A4 n4 c3 c4 P1 _ (Y3_6.out.below (Grew.below ⟨k, os, rfl⟩) (Nat.le_refl _)) (Y4_6.out.below (Grew.below ⟨k, os, rfl⟩) (Nat.le_refl _)) HPn4.out
  have K3 : Hid (∀ k os, Calls Try.prog 17 #[fieldV F0 F1 F2 A5 n6 c5, fieldV F0 F1 F2 A6 n6 c6] (Sort.grow (W.drewN k) os) fun e w' => e = .returned (.bool true) ∧ ∃ q os', w' = Sort.grow ((Sort.grow (W.drewN k) os).drewN q) os') := Lib.hid fun k os => sameField_any F0 F1 F2 A5 A6 n6 c5 c6 P2 _ (Y5_6.out.below (Grew.below ⟨k, os, rfl⟩) (Nat.le_refl _)) (Y6_6.out.below (Grew.below ⟨k, os, rfl⟩) (Nat.le_refl _)) HPn6.out
  have hmx : Try.prog.follows .mixedOrders = true := by kernel_rfl
  clear H1 H2 H3 H4 H5 H6
  go_quiet_grown (first | (go_at_call 15; with_reducible refine Calls.grown_of (K1.out _ _)) | (go_at_call 16; with_reducible refine Calls.grown_of (K2.out _ _)) | (go_at_call 17; with_reducible refine Calls.grown_of (K3.out _ _)))
  go_wp2
  go_ret
  refine ⟨ret_bool ?_, B6.out.trans (Below.mono (Grew.below ⟨nq, osq, rfl⟩) B6.out.size)⟩
  simp

theorem walk (A : Option Addr) (n cap : Nat) (z : List Int) (at1 : Int) (w : World) (h : IsRow .u8 w A n cap z) (hat : (Lit.int .u64 at1).wf = true) :
    Calls Try.prog 3 #[.slice A n cap, .int .u64 at1] w fun e w' => e = .returned (.bool true) ∧ Below w.heap.size w w' := by
  obtain ⟨hb, hL, hcap, hmax, _⟩ := h.bytes
  by_cases hn : 600 < n
  · exact walk_long A n cap at1 w hn
  · have h64 := bounds_u64 hat
    obtain ⟨a, rfl⟩ : ∃ a : Nat, at1 = (a : Int) := ⟨at1.toNat, by omega⟩
    exact walk_main A _ n cap a w hb hL hcap hmax (by omega) (by omega)
end Go.Proofs.Ytbfeomoafpgejaa.ObjSaysW
