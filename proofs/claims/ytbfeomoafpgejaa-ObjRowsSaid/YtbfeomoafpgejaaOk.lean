/-
  What 'ReadData' and 'ReadField' tell; the program's.
-/
import Derived.Test.YtbfeomoafpgejaaOj
import Derived.Test.YtbfeomoafpgejaaCl
import Derived.Deep.RegionHeld3
import Derived.Deep.CutBlock
namespace Go.Proofs.Ytbfeomoafpgejaa.Ok7
open Go.ChangeShapes Go.WideShapes Go.ChangeAt Go.RowKit
open Bytes8 Blk8 Own8 OwnM OwnE LeA LeAl LeNum LeB LeP RefA RefB Ob Oc Od Oe Oi Oj Cl8
set_option linter.unusedVariables false
set_option maxRecDepth 100000
set_option linter.unusedSimpArgs false

theorem bytes_far {w : World} {A : Option Addr} {l : List Int} {g : Nat} (h : Bytes w A l) (hA : ∀ b off, A = some ⟨b, off, none⟩ → b ≠ g) (i : Nat) (v : Value) : Bytes (w.setCell ⟨g, i, none⟩ v) A l := by
  refine ⟨h.1, fun j hj => ?_⟩
  obtain ⟨b, off, e, h1, h2⟩ := h.2 j hj
  refine ⟨b, off, e, by simpa using h1, ?_⟩
  rw [World.cell?_of_block (Below.heap_setCell w ⟨g, i, none⟩ v b (hA b off e))]
  exact h2

/-- A copy, its bytes new. -/
theorem clone_new (A : Option Addr) (l : List Int) (len cap : Nat) (w : World) (hb : Bytes w A l) (hL : l.length = len) (hmax : len ≤ 1000000) :
    Calls Try.prog 32 #[.slice A len cap] w fun e w' => ∃ A2 c2, e = .returned (.slice A2 len c2) ∧ Bytes w' A2 l ∧ Below w.heap.size w w' ∧ ∀ b off, A2 = some ⟨b, off, none⟩ → w.heap.size ≤ b := by
  have q22 : ∀ (w : World) (a : Option Addr) (n c n' c' : Nat), (binOp .eql 22 (.slice a n c) (.slice none n' c')).run Try.prog w = .ok (.bool a.isNone) w := fun w a n c n' c' => Lib.run_eql_slice_nil w _ _ a n c n' c' Try.underlying22
  cases A with
  | none =>
    have h0 : l = [] := by
      rcases l with _ | ⟨x, r⟩
      · rfl
      · obtain ⟨b, off, e, _⟩ := hb.2 0 (by simp)
        cases e
    subst h0
    obtain rfl : len = 0 := by simpa using hL.symm
    clear hb hL
    go_enter Try.func32, Try.ntmps32
    go_wp2
    go_ret
    exact ⟨none, 0, rfl, Bytes.nil _ _, Below.refl _ _, fun b off h => by cases h⟩
  | some a =>
    have HB := Lib.hid (hb.below ((Below.refl w.heap.size w).alloc (Nat.le_refl _) (.cells #[] 5)) (Nat.le_refl _))
    have HL := Lib.hid hL
    clear hb hL
    go_enter Try.func32, Try.ntmps32
    go_wp2_with (at_builtin; refine wpList_append_bytes rfl (.tmp 5) (.tmp 6) rfl w.heap.size _ 0 0 [] rfl (Own.made w _ (Nat.le_refl _)) (some a) len cap l rfl HB.out HL.out (by omega) ?_; intro A2 c2 w2 ho2 hbel2; rw [Nat.zero_add, List.nil_append] at ho2; rw [Nat.zero_add]; have HO2 := Lib.hid ho2; clear ho2)
    go_ret
    refine ⟨A2, c2, rfl, HO2.out.bytes, ((Below.refl _ _).alloc (Nat.le_refl _) _).trans hbel2, fun b off h => ?_⟩
    subst h
    exact (HO2.out.lt b rfl).1

/-- What ReadData tells. -/
def DataTold (l : List Int) (a : Nat) (w : World) (e : Ending) (w' : World) : Prop :=
  ∃ A m c, e = .returned (.tuple #[dataV (bnum l a 1 6 0) (bnum l a 1 6 1) (bnum l a 1 6 2) (bnum l a 1 6 3) (bnum l a 1 6 4) (bnum l a 1 6 5) A m c, .int .i64 (bcode l a 1 6)]) ∧ Below w.heap.size w w' ∧ Bytes w' A (bpay l a 1 6) ∧ (bpay l a 1 6).length = m ∧ m ≤ 1000000

set_option maxHeartbeats 4000000 in
theorem readData_any (A : Option Addr) (l : List Int) (n cap a : Nat) (w : World) (hb : Bytes w A l) (hL : l.length = n) (hn : n ≤ 1000000) (hc : n ≤ cap) (hcm : cap ≤ maxLen) (ha : a ≤ 18446744073709551615) :
    Calls Try.prog 11 #[.slice A n cap, .int .u64 (a : Int)] w (DataTold l a w) := by
  have b0 := Lib.hid ((Below.refl w.heap.size w).alloc (Nat.le_refl _) (.cells #[.int .u64 0, .int .u64 0, .int .u64 0, .int .u64 0, .int .u64 0, .int .u64 0, .slice none 0 0] 33))
  have R0 := Lib.hid (Blk.new w [.int .u64 0, .int .u64 0, .int .u64 0, .int .u64 0, .int .u64 0, .int .u64 0, .slice none 0 0] 33)
  have HBo := Lib.hid (bodyOf_at A l n cap a 6 1 6 (w.alloc (.cells #[.int .u64 0, .int .u64 0, .int .u64 0, .int .u64 0, .int .u64 0, .int .u64 0, .slice none 0 0] 33)) (hb.below b0.out (Nat.le_refl _)) hL hn hc hcm ha (by decide) rfl)
  unfold Bodied at HBo
  have hbn : ∀ i, bnum l a 1 6 i = if bcode l a 1 6 = 0 then u8 (bodyL l a) (8 * i) else 0 := fun i => rfl
  have hbp : bpay l a 1 6 = if bcode l a 1 6 = 0 then (bodyL l a).drop (8 * 6) else [] := rfl
  unfold DataTold
  by_cases h1 : bcode l a 1 6 ≠ 0
  · rw [if_neg h1] at hbp
    have hn0 : ∀ i, bnum l a 1 6 i = 0 := fun i => (hbn i).trans (if_neg h1)
    rw [hbp, hn0 0, hn0 1, hn0 2, hn0 3, hn0 4, hn0 5]
    clear hbp hbn hn0 hb hL
    generalize bcode l a 1 6 = cd at *
    generalize bodyL l a = bd at *
    go_enter Try.func11, Try.ntmps11
    go_wp2_with (go_at_call 30; (with_reducible refine HBo.out.mono ?_); rintro e w2 ⟨B, m, cb, rfl, hbel, _⟩; have R2 := Lib.hid (R0.out.below hbel R0.out.lt); have ca0 := R2.out.cell (i := 0) rfl; have ca1 := R2.out.cell (i := 1) rfl; have ca2 := R2.out.cell (i := 2) rfl; have ca3 := R2.out.cell (i := 3) rfl; have ca4 := R2.out.cell (i := 4) rfl; have ca5 := R2.out.cell (i := 5) rfl; have ca6 := R2.out.cell (i := 6) rfl; have fa0 := R2.out.frozen 0; have fa1 := R2.out.frozen 1; have fa2 := R2.out.frozen 2; have fa3 := R2.out.frozen 3; have fa4 := R2.out.frozen 4; have fa5 := R2.out.frozen 5; have fa6 := R2.out.frozen 6; have HB2 := Lib.hid (b0.out.trans (hbel.mono b0.out.size)); clear hbel)
    refine bodyPost_ret (v := .tuple #[dataV 0 0 0 0 0 0 none 0 0, .int .i64 cd]) (by simp [results_cell_tmp Try.results11, go_sem, ca0, fa0, ca1, fa1, ca2, fa2, ca3, fa3, ca4, fa4, ca5, fa5, ca6, fa6, Result.andThen]) rfl ⟨none, 0, 0, rfl, ?_, Bytes.nil _ _, rfl, by omega⟩
    (repeat (first | (with_reducible exact HB2.out) | refine Below.setCell ?_ (by simp) _ | refine Below.alloc ?_ (by simp) _ | refine Below.drew ?_ | refine below_drewN ?_ _))
  · have h0 : bcode l a 1 6 = 0 := by omega
    rw [if_pos h0] at hbp
    have hn0 : ∀ i, bnum l a 1 6 i = u8 (bodyL l a) (8 * i) := fun i => (hbn i).trans (if_pos h0)
    rw [h0] at HBo ⊢
    rw [hbp]
    have HNu := Lib.hid fun (i : Nat) (z : Int) (B : Option Addr) (m cb : Nat) (W : World) (hB : Bytes W B (bodyL l a)) (hm : (bodyL l a).length = m) (hm2 : m ≤ 1000000) (hz : z = (i : Int)) (hi : 8 * i + 8 ≤ m) => hz ▸ (hn0 i).symm ▸ number_any B (bodyL l a) m cb i W hB hm hm2 hi
    have HDr := Lib.hid fun (m : Nat) (hm : (bodyL l a).length = m) => show ((bodyL l a).drop (8 * 6)).length = m - 48 by rw [List.length_drop, hm]
    clear hbp hbn hn0 hb hL h1 h0
    go_enter Try.func11, Try.ntmps11
    go_upto_region 4 with (go_at_call 30; (with_reducible refine HBo.out.mono ?_); rintro e w2 ⟨B, m, cb, rfl, hbel, hbd⟩)
    have R2 := Lib.hid (R0.out.below hbel R0.out.lt)
    have ca0 := R2.out.cell (i := 0) rfl
    have ca1 := R2.out.cell (i := 1) rfl
    have ca2 := R2.out.cell (i := 2) rfl
    have ca3 := R2.out.cell (i := 3) rfl
    have ca4 := R2.out.cell (i := 4) rfl
    have ca5 := R2.out.cell (i := 5) rfl
    have ca6 := R2.out.cell (i := 6) rfl
    have fa0 := R2.out.frozen 0
    have fa1 := R2.out.frozen 1
    have fa2 := R2.out.frozen 2
    have fa3 := R2.out.frozen 3
    have fa4 := R2.out.frozen 4
    have fa5 := R2.out.frozen 5
    have fa6 := R2.out.frozen 6
    have HB2 := Lib.hid (b0.out.trans (hbel.mono b0.out.size))
    obtain ⟨d1, d2, d3, d4, d5, d6⟩ := hbd (by first | rfl | trivial)
    have D1 := Lib.hid d1
    have D2 := Lib.hid d2
    clear d1 d2 hbel hbd
    have hm8 : 48 < m := by omega
    have hmc : 48 ≤ m := by omega
    have hcut : ∀ W : World, (Instr.slice 22 (.slice B m cb) (some (.int .i64 48)) none none).run Try.prog W = .ok (.slice (cutA B cb 48) (m - 48) (cb - 48)) W := fun W : World => cut_l B m cb 48 (by omega) W
    have HC := Lib.hid (Bytes.cut D1.out cb 48 (m - 48) (by rw [D2.out]; omega))
    rw [List.take_of_length_le (Nat.le_of_eq (by rw [List.length_drop, D2.out]))] at HC
    generalize cutA B cb 48 = C at *
    go_region_held3 (fun w' => True) (first | (with_reducible exact trivial)) (first
      | (go_at_call 31; (first | (with_reducible refine (HNu.out 0 0 _ _ _ _ D1.out.drew D2.out (by omega) rfl (by omega)).mono ?_) | (with_reducible refine (HNu.out 1 1 _ _ _ _ D1.out.drew D2.out (by omega) rfl (by omega)).mono ?_) | (with_reducible refine (HNu.out 2 2 _ _ _ _ D1.out.drew D2.out (by omega) rfl (by omega)).mono ?_) | (with_reducible refine (HNu.out 3 3 _ _ _ _ D1.out.drew D2.out (by omega) rfl (by omega)).mono ?_) | (with_reducible refine (HNu.out 4 4 _ _ _ _ D1.out.drew D2.out (by omega) rfl (by omega)).mono ?_) | (with_reducible refine (HNu.out 5 5 _ _ _ _ D1.out.drew D2.out (by omega) rfl (by omega)).mono ?_)); rintro e w' ⟨rfl, rfl⟩)
      | (go_at_call 32; (with_reducible refine (clone_new C _ (m - 48) (cb - 48) _ HC.out.drew (by rw [List.length_drop, D2.out]) (by omega)).mono ?_); rintro e w3 ⟨A3, c3, rfl, hb3, hbel3, ho3⟩; have HB3 := Lib.hid hb3; have HO3 := Lib.hid (show ∀ b off, A3 = some ⟨b, off, none⟩ → b ≠ w.heap.size from fun b off e hh => by have h1 := ho3 b off e; have h2 := R2.out.lt; have h3 : w2.drew.heap.size = w2.heap.size := rfl; omega); have HBel3 := Lib.hid (HB2.out.drew.trans (hbel3.mono HB2.out.size)); have R3 := Lib.hid (R2.out.drew.below hbel3 R2.out.lt); have cb0 := R3.out.cell (i := 0) rfl; have cb1 := R3.out.cell (i := 1) rfl; have cb2 := R3.out.cell (i := 2) rfl; have cb3 := R3.out.cell (i := 3) rfl; have cb4 := R3.out.cell (i := 4) rfl; have cb5 := R3.out.cell (i := 5) rfl; have cb6 := R3.out.cell (i := 6) rfl; have fb0 := R3.out.frozen 0; have fb1 := R3.out.frozen 1; have fb2 := R3.out.frozen 2; have fb3 := R3.out.frozen 3; have fb4 := R3.out.frozen 4; have fb5 := R3.out.frozen 5; have fb6 := R3.out.frozen 6; clear hb3 hbel3))
    obtain ⟨W4, hW4⟩ : ∃ x, x = (((((((w3.setCell ⟨w.heap.size, 0, none⟩ (.int .u64 (bnum l a 1 6 0))).setCell ⟨w.heap.size, 1, none⟩ (.int .u64 (bnum l a 1 6 1))).setCell ⟨w.heap.size, 2, none⟩ (.int .u64 (bnum l a 1 6 2))).setCell ⟨w.heap.size, 3, none⟩ (.int .u64 (bnum l a 1 6 3))).setCell ⟨w.heap.size, 4, none⟩ (.int .u64 (bnum l a 1 6 4))).setCell ⟨w.heap.size, 5, none⟩ (.int .u64 (bnum l a 1 6 5))).setCell ⟨w.heap.size, 6, none⟩ (.slice A3 (m - 48) c3)) := ⟨_, rfl⟩
    have R4 : Hid (Blk W4 w.heap.size [.int .u64 (bnum l a 1 6 0), .int .u64 (bnum l a 1 6 1), .int .u64 (bnum l a 1 6 2), .int .u64 (bnum l a 1 6 3), .int .u64 (bnum l a 1 6 4), .int .u64 (bnum l a 1 6 5), .slice A3 (m - 48) c3] 33) := Lib.hid (hW4 ▸ (((((((R3.out.set_ 0 _).set_ 1 _).set_ 2 _).set_ 3 _).set_ 4 _).set_ 5 _).set_ 6 _))
    have HB4 : Hid (Below w.heap.size w W4) := Lib.hid (hW4 ▸ (Below.setCell (Below.setCell (Below.setCell (Below.setCell (Below.setCell (Below.setCell (Below.setCell HBel3.out (Nat.le_refl _) _) (Nat.le_refl _) _) (Nat.le_refl _) _) (Nat.le_refl _) _) (Nat.le_refl _) _) (Nat.le_refl _) _) (Nat.le_refl _) _))
    have HY4 : Hid (Bytes W4 A3 _) := Lib.hid (hW4 ▸ (bytes_far (bytes_far (bytes_far (bytes_far (bytes_far (bytes_far (bytes_far HB3.out HO3.out _ _) HO3.out _ _) HO3.out _ _) HO3.out _ _) HO3.out _ _) HO3.out _ _) HO3.out _ _))
    rw [← hW4]
    have e0 := R4.out.cell (i := 0) rfl; have e1 := R4.out.cell (i := 1) rfl; have e2 := R4.out.cell (i := 2) rfl; have e3 := R4.out.cell (i := 3) rfl; have e4 := R4.out.cell (i := 4) rfl; have e5 := R4.out.cell (i := 5) rfl; have e6 := R4.out.cell (i := 6) rfl
    clear hW4
    go_wp2
    refine bodyPost_ret (v := .tuple #[dataV (bnum l a 1 6 0) (bnum l a 1 6 1) (bnum l a 1 6 2) (bnum l a 1 6 3) (bnum l a 1 6 4) (bnum l a 1 6 5) A3 (m - 48) c3, .int .i64 0]) (by simp [results_cell_tmp Try.results11, go_sem, e0, e1, e2, e3, e4, e5, e6, Result.andThen]) rfl ⟨A3, m - 48, c3, rfl, HB4.out, HY4.out, by rw [List.length_drop, D2.out], by omega⟩

/-- What ReadField tells. -/
def FieldTold (l : List Int) (a : Nat) (w : World) (e : Ending) (w' : World) : Prop :=
  ∃ A m c, e = .returned (.tuple #[fieldV (bnum l a 2 3 0) (bnum l a 2 3 1) (bnum l a 2 3 2) A m c, .int .i64 (bcode l a 2 3)]) ∧ Below w.heap.size w w' ∧ Bytes w' A (bpay l a 2 3) ∧ (bpay l a 2 3).length = m ∧ m ≤ 1000000

set_option maxHeartbeats 4000000 in
theorem readField_any (A : Option Addr) (l : List Int) (n cap a : Nat) (w : World) (hb : Bytes w A l) (hL : l.length = n) (hn : n ≤ 1000000) (hc : n ≤ cap) (hcm : cap ≤ maxLen) (ha : a ≤ 18446744073709551615) :
    Calls Try.prog 13 #[.slice A n cap, .int .u64 (a : Int)] w (FieldTold l a w) := by
  have b0 := Lib.hid ((Below.refl w.heap.size w).alloc (Nat.le_refl _) (.cells #[.int .u64 0, .int .u64 0, .int .u64 0, .slice none 0 0] 40))
  have R0 := Lib.hid (Blk.new w [.int .u64 0, .int .u64 0, .int .u64 0, .slice none 0 0] 40)
  have HBo := Lib.hid (bodyOf_at A l n cap a 3 2 3 (w.alloc (.cells #[.int .u64 0, .int .u64 0, .int .u64 0, .slice none 0 0] 40)) (hb.below b0.out (Nat.le_refl _)) hL hn hc hcm ha (by decide) rfl)
  unfold Bodied at HBo
  have hbn : ∀ i, bnum l a 2 3 i = if bcode l a 2 3 = 0 then u8 (bodyL l a) (8 * i) else 0 := fun i => rfl
  have hbp : bpay l a 2 3 = if bcode l a 2 3 = 0 then (bodyL l a).drop (8 * 3) else [] := rfl
  unfold FieldTold
  by_cases h1 : bcode l a 2 3 ≠ 0
  · rw [if_neg h1] at hbp
    have hn0 : ∀ i, bnum l a 2 3 i = 0 := fun i => (hbn i).trans (if_neg h1)
    rw [hbp, hn0 0, hn0 1, hn0 2]
    clear hbp hbn hn0 hb hL
    generalize bcode l a 2 3 = cd at *
    generalize bodyL l a = bd at *
    go_enter Try.func13, Try.ntmps13
    go_wp2_with (go_at_call 30; (with_reducible refine HBo.out.mono ?_); rintro e w2 ⟨B, m, cb, rfl, hbel, _⟩; have R2 := Lib.hid (R0.out.below hbel R0.out.lt); have ca0 := R2.out.cell (i := 0) rfl; have ca1 := R2.out.cell (i := 1) rfl; have ca2 := R2.out.cell (i := 2) rfl; have ca3 := R2.out.cell (i := 3) rfl; have fa0 := R2.out.frozen 0; have fa1 := R2.out.frozen 1; have fa2 := R2.out.frozen 2; have fa3 := R2.out.frozen 3; have HB2 := Lib.hid (b0.out.trans (hbel.mono b0.out.size)); clear hbel)
    refine bodyPost_ret (v := .tuple #[fieldV 0 0 0 none 0 0, .int .i64 cd]) (by simp [results_cell_tmp Try.results13, go_sem, ca0, fa0, ca1, fa1, ca2, fa2, ca3, fa3, Result.andThen]) rfl ⟨none, 0, 0, rfl, ?_, Bytes.nil _ _, rfl, by omega⟩
    (repeat (first | (with_reducible exact HB2.out) | refine Below.setCell ?_ (by simp) _ | refine Below.alloc ?_ (by simp) _ | refine Below.drew ?_ | refine below_drewN ?_ _))
  · have h0 : bcode l a 2 3 = 0 := by omega
    rw [if_pos h0] at hbp
    have hn0 : ∀ i, bnum l a 2 3 i = u8 (bodyL l a) (8 * i) := fun i => (hbn i).trans (if_pos h0)
    rw [h0] at HBo ⊢
    rw [hbp]
    have HNu := Lib.hid fun (i : Nat) (z : Int) (B : Option Addr) (m cb : Nat) (W : World) (hB : Bytes W B (bodyL l a)) (hm : (bodyL l a).length = m) (hm2 : m ≤ 1000000) (hz : z = (i : Int)) (hi : 8 * i + 8 ≤ m) => hz ▸ (hn0 i).symm ▸ number_any B (bodyL l a) m cb i W hB hm hm2 hi
    have HDr := Lib.hid fun (m : Nat) (hm : (bodyL l a).length = m) => show ((bodyL l a).drop (8 * 3)).length = m - 24 by rw [List.length_drop, hm]
    clear hbp hbn hn0 hb hL h1 h0
    go_enter Try.func13, Try.ntmps13
    go_upto_region 4 with (go_at_call 30; (with_reducible refine HBo.out.mono ?_); rintro e w2 ⟨B, m, cb, rfl, hbel, hbd⟩)
    have R2 := Lib.hid (R0.out.below hbel R0.out.lt)
    have ca0 := R2.out.cell (i := 0) rfl
    have ca1 := R2.out.cell (i := 1) rfl
    have ca2 := R2.out.cell (i := 2) rfl
    have ca3 := R2.out.cell (i := 3) rfl
    have fa0 := R2.out.frozen 0
    have fa1 := R2.out.frozen 1
    have fa2 := R2.out.frozen 2
    have fa3 := R2.out.frozen 3
    have HB2 := Lib.hid (b0.out.trans (hbel.mono b0.out.size))
    obtain ⟨d1, d2, d3, d4, d5, d6⟩ := hbd (by first | rfl | trivial)
    have D1 := Lib.hid d1
    have D2 := Lib.hid d2
    clear d1 d2 hbel hbd
    have hm8 : 24 < m := by omega
    have hmc : 24 ≤ m := by omega
    have hcut : ∀ W : World, (Instr.slice 22 (.slice B m cb) (some (.int .i64 24)) none none).run Try.prog W = .ok (.slice (cutA B cb 24) (m - 24) (cb - 24)) W := fun W : World => cut_l B m cb 24 (by omega) W
    have HC := Lib.hid (Bytes.cut D1.out cb 24 (m - 24) (by rw [D2.out]; omega))
    rw [List.take_of_length_le (Nat.le_of_eq (by rw [List.length_drop, D2.out]))] at HC
    generalize cutA B cb 24 = C at *
    go_region_held3 (fun w' => True) (first | (with_reducible exact trivial)) (first
      | (go_at_call 31; (first | (with_reducible refine (HNu.out 0 0 _ _ _ _ D1.out.drew D2.out (by omega) rfl (by omega)).mono ?_) | (with_reducible refine (HNu.out 1 1 _ _ _ _ D1.out.drew D2.out (by omega) rfl (by omega)).mono ?_) | (with_reducible refine (HNu.out 2 2 _ _ _ _ D1.out.drew D2.out (by omega) rfl (by omega)).mono ?_)); rintro e w' ⟨rfl, rfl⟩)
      | (go_at_call 32; (with_reducible refine (clone_new C _ (m - 24) (cb - 24) _ HC.out.drew (by rw [List.length_drop, D2.out]) (by omega)).mono ?_); rintro e w3 ⟨A3, c3, rfl, hb3, hbel3, ho3⟩; have HB3 := Lib.hid hb3; have HO3 := Lib.hid (show ∀ b off, A3 = some ⟨b, off, none⟩ → b ≠ w.heap.size from fun b off e hh => by have h1 := ho3 b off e; have h2 := R2.out.lt; have h3 : w2.drew.heap.size = w2.heap.size := rfl; omega); have HBel3 := Lib.hid (HB2.out.drew.trans (hbel3.mono HB2.out.size)); have R3 := Lib.hid (R2.out.drew.below hbel3 R2.out.lt); have cb0 := R3.out.cell (i := 0) rfl; have cb1 := R3.out.cell (i := 1) rfl; have cb2 := R3.out.cell (i := 2) rfl; have cb3 := R3.out.cell (i := 3) rfl; have fb0 := R3.out.frozen 0; have fb1 := R3.out.frozen 1; have fb2 := R3.out.frozen 2; have fb3 := R3.out.frozen 3; clear hb3 hbel3))
    obtain ⟨W4, hW4⟩ : ∃ x, x = ((((w3.setCell ⟨w.heap.size, 0, none⟩ (.int .u64 (bnum l a 2 3 0))).setCell ⟨w.heap.size, 1, none⟩ (.int .u64 (bnum l a 2 3 1))).setCell ⟨w.heap.size, 2, none⟩ (.int .u64 (bnum l a 2 3 2))).setCell ⟨w.heap.size, 3, none⟩ (.slice A3 (m - 24) c3)) := ⟨_, rfl⟩
    have R4 : Hid (Blk W4 w.heap.size [.int .u64 (bnum l a 2 3 0), .int .u64 (bnum l a 2 3 1), .int .u64 (bnum l a 2 3 2), .slice A3 (m - 24) c3] 40) := Lib.hid (hW4 ▸ ((((R3.out.set_ 0 _).set_ 1 _).set_ 2 _).set_ 3 _))
    have HB4 : Hid (Below w.heap.size w W4) := Lib.hid (hW4 ▸ (Below.setCell (Below.setCell (Below.setCell (Below.setCell HBel3.out (Nat.le_refl _) _) (Nat.le_refl _) _) (Nat.le_refl _) _) (Nat.le_refl _) _))
    have HY4 : Hid (Bytes W4 A3 _) := Lib.hid (hW4 ▸ (bytes_far (bytes_far (bytes_far (bytes_far HB3.out HO3.out _ _) HO3.out _ _) HO3.out _ _) HO3.out _ _))
    rw [← hW4]
    have e0 := R4.out.cell (i := 0) rfl; have e1 := R4.out.cell (i := 1) rfl; have e2 := R4.out.cell (i := 2) rfl; have e3 := R4.out.cell (i := 3) rfl
    clear hW4
    go_wp2
    refine bodyPost_ret (v := .tuple #[fieldV (bnum l a 2 3 0) (bnum l a 2 3 1) (bnum l a 2 3 2) A3 (m - 24) c3, .int .i64 0]) (by simp [results_cell_tmp Try.results13, go_sem, e0, e1, e2, e3, Result.andThen]) rfl ⟨A3, m - 24, c3, rfl, HB4.out, HY4.out, by rw [List.length_drop, D2.out], by omega⟩

end Go.Proofs.Ytbfeomoafpgejaa.Ok7
