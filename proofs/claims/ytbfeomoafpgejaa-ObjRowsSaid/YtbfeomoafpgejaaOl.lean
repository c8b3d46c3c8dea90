/-
  What the document's 'ReadData' and 'ReadField' tell.
-/
import Derived.Test.YtbfeomoafpgejaaOk
namespace Go.Proofs.Ytbfeomoafpgejaa.Ol7
open Go.ChangeShapes Go.WideShapes Go.ChangeAt Go.RowKit
open Bytes8 Blk8 Own8 OwnM OwnE LeA LeAl LeNum LeB LeP RefA RefB Ob Oc Od Oe Oi Oj Cl8 Ok7
set_option linter.unusedVariables false
set_option maxRecDepth 100000
set_option linter.unusedSimpArgs false

theorem cut_block {B : Option Addr} {cb lo base : Nat} (h : ∀ x, B = some x → base ≤ x.block ∧ x.spot = none) {b off : Nat} (e : cutA B cb lo = some ⟨b, off, none⟩) : base ≤ b := by
  unfold cutA at e
  split at e
  · exact (h _ e).1
  · cases B with
    | none => cases e
    | some x =>
      obtain ⟨h1, h2⟩ := h x rfl
      obtain ⟨xb, xo, xs⟩ := x
      simp at h2
      subst h2
      rw [Option.map_some, add_none] at e
      injection e with e
      injection e with e1 e2
      subst e1
      exact h1

set_option maxHeartbeats 4000000 in
theorem rreadData_any (A : Option Addr) (l : List Int) (n cap a : Nat) (w : World) (hb : Bytes w A l) (hL : l.length = n) (hn : n ≤ 1000000) (hc : n ≤ cap) (hcm : cap ≤ maxLen) (ha : a ≤ 18446744073709551615) :
    Calls Try.prog 12 #[.slice A n cap, .int .u64 (a : Int)] w (DataTold l a w) := by
  have b0 := Lib.hid ((Below.refl w.heap.size w).alloc (Nat.le_refl _) (.cells #[.int .u64 0, .int .u64 0, .int .u64 0, .int .u64 0, .int .u64 0, .int .u64 0, .slice none 0 0] 36))
  have R0 := Lib.hid (Blk.new w [.int .u64 0, .int .u64 0, .int .u64 0, .int .u64 0, .int .u64 0, .int .u64 0, .slice none 0 0] 36)
  have HBo := Lib.hid (rbody_new A l n cap a 1 (w.alloc (.cells #[.int .u64 0, .int .u64 0, .int .u64 0, .int .u64 0, .int .u64 0, .int .u64 0, .slice none 0 0] 36)) (hb.below b0.out (Nat.le_refl _)) hL hn hc hcm ha)
  unfold RBodyNew at HBo
  have hbc : bcode l a 1 6 = if code l a ≠ 0 then code l a else if kindL l a ≠ 1 then 4 else if (bodyL l a).length ≤ 8 * 6 then 5 else 0 := rfl
  have hbn : ∀ i, bnum l a 1 6 i = if bcode l a 1 6 = 0 then u8 (bodyL l a) (8 * i) else 0 := fun i => rfl
  have hbp : bpay l a 1 6 = if bcode l a 1 6 = 0 then (bodyL l a).drop (8 * 6) else [] := rfl
  unfold DataTold
  by_cases h1 : (if code l a ≠ 0 then code l a else if kindL l a ≠ 1 then 4 else 0 : Int) ≠ 0
  · have hbc2 : bcode l a 1 6 = (if code l a ≠ 0 then code l a else if kindL l a ≠ 1 then 4 else 0) := by
      rw [hbc]
      by_cases h2 : code l a ≠ 0
      · rw [if_pos h2, if_pos h2]
      · rw [if_neg h2] at h1
        by_cases h3 : kindL l a ≠ 1
        · rw [if_neg h2, if_neg h2, if_pos h3, if_pos h3]
        · rw [if_neg h3] at h1; exact absurd rfl h1
    rw [← hbc2] at HBo h1
    rw [if_neg h1] at hbp
    have hn0 : ∀ i, bnum l a 1 6 i = 0 := fun i => (hbn i).trans (if_neg h1)
    rw [hbp, hn0 0, hn0 1, hn0 2, hn0 3, hn0 4, hn0 5]
    clear hbp hbn hn0 hb hL hbc hbc2
    generalize bcode l a 1 6 = cd at *
    generalize bodyL l a = bd at *
    go_enter Try.func12, Try.ntmps12
    go_wp2_with (go_at_call 33; (with_reducible refine HBo.out.mono ?_); rintro e w2 ⟨B, m, cb, rfl, hbel, hbd⟩; have R2 := Lib.hid (R0.out.below hbel R0.out.lt); have ca0 := R2.out.cell (i := 0) rfl; have ca1 := R2.out.cell (i := 1) rfl; have ca2 := R2.out.cell (i := 2) rfl; have ca3 := R2.out.cell (i := 3) rfl; have ca4 := R2.out.cell (i := 4) rfl; have ca5 := R2.out.cell (i := 5) rfl; have ca6 := R2.out.cell (i := 6) rfl; have fa0 := R2.out.frozen 0; have fa1 := R2.out.frozen 1; have fa2 := R2.out.frozen 2; have fa3 := R2.out.frozen 3; have fa4 := R2.out.frozen 4; have fa5 := R2.out.frozen 5; have fa6 := R2.out.frozen 6; have HB2 := Lib.hid (b0.out.trans (hbel.mono b0.out.size)); have HBd := Lib.hid hbd; clear hbd hbel)
    refine bodyPost_ret (v := .tuple #[dataV 0 0 0 0 0 0 none 0 0, .int .i64 cd]) (by simp [results_cell_tmp Try.results12, go_sem, ca0, fa0, ca1, fa1, ca2, fa2, ca3, fa3, ca4, fa4, ca5, fa5, ca6, fa6, Result.andThen]) rfl ⟨none, 0, 0, rfl, ?_, Bytes.nil _ _, rfl, by omega⟩
    (repeat (first | (with_reducible exact HB2.out) | refine Below.setCell ?_ (by simp) _ | refine Below.alloc ?_ (by simp) _ | refine Below.drew ?_ | refine below_drewN ?_ _))
  · have hc0 : code l a = 0 := by
      by_cases h2 : code l a ≠ 0
      · rw [if_pos h2] at h1; exact absurd h2 h1
      · omega
    have hk0 : kindL l a = 1 := by
      rw [if_neg (by omega)] at h1
      by_cases h2 : kindL l a ≠ 1
      · rw [if_pos h2] at h1; exact absurd (by decide) h1
      · omega
    have h1' : (if code l a ≠ 0 then code l a else if kindL l a ≠ 1 then 4 else 0 : Int) = 0 := by omega
    rw [h1'] at HBo
    rw [if_neg (by omega), if_neg (by omega)] at hbc
    have HBo2 : Hid (Calls Try.prog 33 #[.slice A n cap, .int .u64 (a : Int), .int .i64 1] (w.alloc (.cells #[.int .u64 0, .int .u64 0, .int .u64 0, .int .u64 0, .int .u64 0, .int .u64 0, .slice none 0 0] 36)) fun e w' => ∃ m : Nat, (bodyL l a).length = m ∧ ∃ B cb, e = .returned (.tuple #[.slice B m cb, .int .i64 0]) ∧ Below (w.alloc (.cells #[.int .u64 0, .int .u64 0, .int .u64 0, .int .u64 0, .int .u64 0, .int .u64 0, .slice none 0 0] 36)).heap.size (w.alloc (.cells #[.int .u64 0, .int .u64 0, .int .u64 0, .int .u64 0, .int .u64 0, .int .u64 0, .slice none 0 0] 36)) w' ∧ Bytes w' B (bodyL l a) ∧ m ≤ cb ∧ cb ≤ maxLen ∧ m ≤ 1000000 ∧ ∀ x, B = some x → (w.alloc (.cells #[.int .u64 0, .int .u64 0, .int .u64 0, .int .u64 0, .int .u64 0, .int .u64 0, .slice none 0 0] 36)).heap.size ≤ x.block ∧ x.spot = none) := Lib.hid (HBo.out.mono fun e w' ⟨B, m, cb, h1, h2, h3⟩ => by
      obtain ⟨q1, q2, q3, q4, q5, q6⟩ := h3 hc0 hk0
      exact ⟨m, q2, B, cb, h1, h2, q1, q3, q4, q5, q6⟩)
    by_cases h5 : (bodyL l a).length ≤ 8 * 6
    · rw [if_pos h5] at hbc
      have h1n : ¬ bcode l a 1 6 = 0 := by rw [hbc]; decide
      rw [if_neg h1n] at hbp
      have hn0 : ∀ i, bnum l a 1 6 i = 0 := fun i => (hbn i).trans (if_neg h1n)
      rw [hbp, hbc, hn0 0, hn0 1, hn0 2, hn0 3, hn0 4, hn0 5]
      clear hbp hbn hn0 hb hL h1 h1n h1' hbc HBo
      generalize bodyL l a = bd at *
      go_enter Try.func12, Try.ntmps12
      go_wp2_with (go_at_call 33; (with_reducible refine HBo2.out.mono ?_); rintro e w2 ⟨m, hm, B, cb, rfl, hbel, hb2, hm1, hm2, hm3, hnew⟩; have R2 := Lib.hid (R0.out.below hbel R0.out.lt); have ca0 := R2.out.cell (i := 0) rfl; have ca1 := R2.out.cell (i := 1) rfl; have ca2 := R2.out.cell (i := 2) rfl; have ca3 := R2.out.cell (i := 3) rfl; have ca4 := R2.out.cell (i := 4) rfl; have ca5 := R2.out.cell (i := 5) rfl; have ca6 := R2.out.cell (i := 6) rfl; have fa0 := R2.out.frozen 0; have fa1 := R2.out.frozen 1; have fa2 := R2.out.frozen 2; have fa3 := R2.out.frozen 3; have fa4 := R2.out.frozen 4; have fa5 := R2.out.frozen 5; have fa6 := R2.out.frozen 6; have HB2 := Lib.hid (b0.out.trans (hbel.mono b0.out.size)); have hm48 : m ≤ 48 := Nat.le_trans (Nat.le_of_eq hm.symm) h5; clear hbel hb2 hnew)
      refine bodyPost_ret (v := .tuple #[dataV 0 0 0 0 0 0 none 0 0, .int .i64 5]) (by simp [results_cell_tmp Try.results12, go_sem, ca0, fa0, ca1, fa1, ca2, fa2, ca3, fa3, ca4, fa4, ca5, fa5, ca6, fa6, Result.andThen]) rfl ⟨none, 0, 0, rfl, ?_, Bytes.nil _ _, rfl, by omega⟩
      (repeat (first | (with_reducible exact HB2.out) | refine Below.setCell ?_ (by simp) _ | refine Below.alloc ?_ (by simp) _ | refine Below.drew ?_ | refine below_drewN ?_ _))
    · rw [if_neg h5] at hbc
      rw [if_pos hbc] at hbp
      have hn0 : ∀ i, bnum l a 1 6 i = u8 (bodyL l a) (8 * i) := fun i => (hbn i).trans (if_pos hbc)
      rw [hbp, hbc]
      have HU := Lib.hid fun (i : Nat) (z : Int) (B : Option Addr) (m cb : Nat) (W : World) (hB : Bytes W B (bodyL l a)) (hm : (bodyL l a).length = m) (hm2 : m ≤ 1000000) (hz : z = ((8 * i : Nat) : Int)) (hi : 8 * i + 8 ≤ m) => hz ▸ (hn0 i).symm ▸ ru_any B (bodyL l a) m cb (8 * i) W hB hm hm2 hi
      have H5 := Lib.hid h5
      clear hbp hbn hn0 hb hL h1 h1' hbc HBo h5
      go_enter Try.func12, Try.ntmps12
      go_upto_region 6 with (go_at_call 33; (with_reducible refine HBo2.out.mono ?_); rintro e w2 ⟨m, hm, B, cb, rfl, hbel, hb2, hm1, hm2, hm3, hnew⟩; have R2 := Lib.hid (R0.out.below hbel R0.out.lt); have ca0 := R2.out.cell (i := 0) rfl; have ca1 := R2.out.cell (i := 1) rfl; have ca2 := R2.out.cell (i := 2) rfl; have ca3 := R2.out.cell (i := 3) rfl; have ca4 := R2.out.cell (i := 4) rfl; have ca5 := R2.out.cell (i := 5) rfl; have ca6 := R2.out.cell (i := 6) rfl; have fa0 := R2.out.frozen 0; have fa1 := R2.out.frozen 1; have fa2 := R2.out.frozen 2; have fa3 := R2.out.frozen 3; have fa4 := R2.out.frozen 4; have fa5 := R2.out.frozen 5; have fa6 := R2.out.frozen 6; have HB2 := Lib.hid (b0.out.trans (hbel.mono b0.out.size)); have D1 := Lib.hid hb2; have D2 := Lib.hid hm; have hm48 : ¬ m ≤ 48 := fun h => H5.out (by rw [hm]; omega); have HO3 := Lib.hid hnew; clear hbel hb2 hnew hm)
      have hmc : 48 ≤ m := by omega
      have hcut : ∀ W : World, (Instr.slice 22 (.slice B m cb) (some (.int .i64 48)) none none).run Try.prog W = .ok (.slice (cutA B cb 48) (m - 48) (cb - 48)) W := fun W : World => cut_l B m cb 48 (by omega) W
      have HC := Lib.hid (Bytes.cut D1.out cb 48 (m - 48) (by rw [D2.out]; omega))
      rw [List.take_of_length_le (Nat.le_of_eq (by rw [List.length_drop, D2.out]))] at HC
      have HOC := Lib.hid (show ∀ b off, cutA B cb 48 = some ⟨b, off, none⟩ → b ≠ w.heap.size from fun b off e hh => by have h1 := cut_block HO3.out e; have h2 := R0.out.lt; omega)
      clear HO3
      have HO3 := HOC
      clear HOC
      generalize cutA B cb 48 = C at *
      have a0 := Lib.hid (show ∀ j, j < 7 → w2.drew.frozen? ⟨w.heap.size, j, none⟩ = false from fun j _ => R2.out.frozen j)
      go_region_held3 (fun w' => True) (first | (with_reducible exact trivial)) (first
        | (go_at_call 29; (first | (with_reducible refine (HU.out 0 0 _ _ _ _ D1.out.drew D2.out (by omega) rfl (by omega)).mono ?_) | (with_reducible refine (HU.out 1 8 _ _ _ _ D1.out.drew D2.out (by omega) rfl (by omega)).mono ?_) | (with_reducible refine (HU.out 2 16 _ _ _ _ D1.out.drew D2.out (by omega) rfl (by omega)).mono ?_) | (with_reducible refine (HU.out 3 24 _ _ _ _ D1.out.drew D2.out (by omega) rfl (by omega)).mono ?_) | (with_reducible refine (HU.out 4 32 _ _ _ _ D1.out.drew D2.out (by omega) rfl (by omega)).mono ?_) | (with_reducible refine (HU.out 5 40 _ _ _ _ D1.out.drew D2.out (by omega) rfl (by omega)).mono ?_)); rintro e w' ⟨rfl, rfl⟩))
      obtain ⟨W4, hW4⟩ : ∃ x, x = ((((((((w2.setCell ⟨w.heap.size, 0, none⟩ (.int .u64 (bnum l a 1 6 0))).setCell ⟨w.heap.size, 1, none⟩ (.int .u64 (bnum l a 1 6 1))).setCell ⟨w.heap.size, 2, none⟩ (.int .u64 (bnum l a 1 6 2))).setCell ⟨w.heap.size, 3, none⟩ (.int .u64 (bnum l a 1 6 3))).setCell ⟨w.heap.size, 4, none⟩ (.int .u64 (bnum l a 1 6 4))).setCell ⟨w.heap.size, 5, none⟩ (.int .u64 (bnum l a 1 6 5))).setCell ⟨w.heap.size, 6, none⟩ (.slice C (m - 48) (cb - 48)))).drew := ⟨_, rfl⟩
      have R4 : Hid (Blk W4 w.heap.size [.int .u64 (bnum l a 1 6 0), .int .u64 (bnum l a 1 6 1), .int .u64 (bnum l a 1 6 2), .int .u64 (bnum l a 1 6 3), .int .u64 (bnum l a 1 6 4), .int .u64 (bnum l a 1 6 5), .slice C (m - 48) (cb - 48)] 36) := Lib.hid (hW4 ▸ (Blk.drew (((((((R2.out.set_ 0 _).set_ 1 _).set_ 2 _).set_ 3 _).set_ 4 _).set_ 5 _).set_ 6 _)))
      have HB4 : Hid (Below w.heap.size w W4) := Lib.hid (hW4 ▸ (Below.drew (Below.setCell (Below.setCell (Below.setCell (Below.setCell (Below.setCell (Below.setCell (Below.setCell HB2.out (Nat.le_refl _) _) (Nat.le_refl _) _) (Nat.le_refl _) _) (Nat.le_refl _) _) (Nat.le_refl _) _) (Nat.le_refl _) _) (Nat.le_refl _) _)))
      have HY4 : Hid (Bytes W4 C _) := Lib.hid (hW4 ▸ (Bytes.drew (bytes_far (bytes_far (bytes_far (bytes_far (bytes_far (bytes_far (bytes_far HC.out HO3.out _ _) HO3.out _ _) HO3.out _ _) HO3.out _ _) HO3.out _ _) HO3.out _ _) HO3.out _ _)))
      rw [← hW4]
      have e0 := R4.out.cell (i := 0) rfl; have e1 := R4.out.cell (i := 1) rfl; have e2 := R4.out.cell (i := 2) rfl; have e3 := R4.out.cell (i := 3) rfl; have e4 := R4.out.cell (i := 4) rfl; have e5 := R4.out.cell (i := 5) rfl; have e6 := R4.out.cell (i := 6) rfl
      clear hW4
      go_wp2
      refine bodyPost_ret (v := .tuple #[dataV (bnum l a 1 6 0) (bnum l a 1 6 1) (bnum l a 1 6 2) (bnum l a 1 6 3) (bnum l a 1 6 4) (bnum l a 1 6 5) C (m - 48) (cb - 48), .int .i64 0]) (by simp [results_cell_tmp Try.results12, go_sem, e0, e1, e2, e3, e4, e5, e6, Result.andThen]) rfl ⟨C, m - 48, (cb - 48), rfl, HB4.out, HY4.out, by rw [List.length_drop, D2.out], by omega⟩

set_option maxHeartbeats 4000000 in
theorem rreadField_any (A : Option Addr) (l : List Int) (n cap a : Nat) (w : World) (hb : Bytes w A l) (hL : l.length = n) (hn : n ≤ 1000000) (hc : n ≤ cap) (hcm : cap ≤ maxLen) (ha : a ≤ 18446744073709551615) :
    Calls Try.prog 14 #[.slice A n cap, .int .u64 (a : Int)] w (FieldTold l a w) := by
  have b0 := Lib.hid ((Below.refl w.heap.size w).alloc (Nat.le_refl _) (.cells #[.int .u64 0, .int .u64 0, .int .u64 0, .slice none 0 0] 43))
  have R0 := Lib.hid (Blk.new w [.int .u64 0, .int .u64 0, .int .u64 0, .slice none 0 0] 43)
  have HBo := Lib.hid (rbody_new A l n cap a 2 (w.alloc (.cells #[.int .u64 0, .int .u64 0, .int .u64 0, .slice none 0 0] 43)) (hb.below b0.out (Nat.le_refl _)) hL hn hc hcm ha)
  unfold RBodyNew at HBo
  have hbc : bcode l a 2 3 = if code l a ≠ 0 then code l a else if kindL l a ≠ 2 then 4 else if (bodyL l a).length ≤ 8 * 3 then 5 else 0 := rfl
  have hbn : ∀ i, bnum l a 2 3 i = if bcode l a 2 3 = 0 then u8 (bodyL l a) (8 * i) else 0 := fun i => rfl
  have hbp : bpay l a 2 3 = if bcode l a 2 3 = 0 then (bodyL l a).drop (8 * 3) else [] := rfl
  unfold FieldTold
  by_cases h1 : (if code l a ≠ 0 then code l a else if kindL l a ≠ 2 then 4 else 0 : Int) ≠ 0
  · have hbc2 : bcode l a 2 3 = (if code l a ≠ 0 then code l a else if kindL l a ≠ 2 then 4 else 0) := by
      rw [hbc]
      by_cases h2 : code l a ≠ 0
      · rw [if_pos h2, if_pos h2]
      · rw [if_neg h2] at h1
        by_cases h3 : kindL l a ≠ 2
        · rw [if_neg h2, if_neg h2, if_pos h3, if_pos h3]
        · rw [if_neg h3] at h1; exact absurd rfl h1
    rw [← hbc2] at HBo h1
    rw [if_neg h1] at hbp
    have hn0 : ∀ i, bnum l a 2 3 i = 0 := fun i => (hbn i).trans (if_neg h1)
    rw [hbp, hn0 0, hn0 1, hn0 2]
    clear hbp hbn hn0 hb hL hbc hbc2
    generalize bcode l a 2 3 = cd at *
    generalize bodyL l a = bd at *
    go_enter Try.func14, Try.ntmps14
    go_wp2_with (go_at_call 33; (with_reducible refine HBo.out.mono ?_); rintro e w2 ⟨B, m, cb, rfl, hbel, hbd⟩; have R2 := Lib.hid (R0.out.below hbel R0.out.lt); have ca0 := R2.out.cell (i := 0) rfl; have ca1 := R2.out.cell (i := 1) rfl; have ca2 := R2.out.cell (i := 2) rfl; have ca3 := R2.out.cell (i := 3) rfl; have fa0 := R2.out.frozen 0; have fa1 := R2.out.frozen 1; have fa2 := R2.out.frozen 2; have fa3 := R2.out.frozen 3; have HB2 := Lib.hid (b0.out.trans (hbel.mono b0.out.size)); have HBd := Lib.hid hbd; clear hbd hbel)
    refine bodyPost_ret (v := .tuple #[fieldV 0 0 0 none 0 0, .int .i64 cd]) (by simp [results_cell_tmp Try.results14, go_sem, ca0, fa0, ca1, fa1, ca2, fa2, ca3, fa3, Result.andThen]) rfl ⟨none, 0, 0, rfl, ?_, Bytes.nil _ _, rfl, by omega⟩
    (repeat (first | (with_reducible exact HB2.out) | refine Below.setCell ?_ (by simp) _ | refine Below.alloc ?_ (by simp) _ | refine Below.drew ?_ | refine below_drewN ?_ _))
  · have hc0 : code l a = 0 := by
      by_cases h2 : code l a ≠ 0
      · rw [if_pos h2] at h1; exact absurd h2 h1
      · omega
    have hk0 : kindL l a = 2 := by
      rw [if_neg (by omega)] at h1
      by_cases h2 : kindL l a ≠ 2
      · rw [if_pos h2] at h1; exact absurd (by decide) h1
      · omega
    have h1' : (if code l a ≠ 0 then code l a else if kindL l a ≠ 2 then 4 else 0 : Int) = 0 := by omega
    rw [h1'] at HBo
    rw [if_neg (by omega), if_neg (by omega)] at hbc
    have HBo2 : Hid (Calls Try.prog 33 #[.slice A n cap, .int .u64 (a : Int), .int .i64 2] (w.alloc (.cells #[.int .u64 0, .int .u64 0, .int .u64 0, .slice none 0 0] 43)) fun e w' => ∃ m : Nat, (bodyL l a).length = m ∧ ∃ B cb, e = .returned (.tuple #[.slice B m cb, .int .i64 0]) ∧ Below (w.alloc (.cells #[.int .u64 0, .int .u64 0, .int .u64 0, .slice none 0 0] 43)).heap.size (w.alloc (.cells #[.int .u64 0, .int .u64 0, .int .u64 0, .slice none 0 0] 43)) w' ∧ Bytes w' B (bodyL l a) ∧ m ≤ cb ∧ cb ≤ maxLen ∧ m ≤ 1000000 ∧ ∀ x, B = some x → (w.alloc (.cells #[.int .u64 0, .int .u64 0, .int .u64 0, .slice none 0 0] 43)).heap.size ≤ x.block ∧ x.spot = none) := Lib.hid (HBo.out.mono fun e w' ⟨B, m, cb, h1, h2, h3⟩ => by
      obtain ⟨q1, q2, q3, q4, q5, q6⟩ := h3 hc0 hk0
      exact ⟨m, q2, B, cb, h1, h2, q1, q3, q4, q5, q6⟩)
    by_cases h5 : (bodyL l a).length ≤ 8 * 3
    · rw [if_pos h5] at hbc
      have h1n : ¬ bcode l a 2 3 = 0 := by rw [hbc]; decide
      rw [if_neg h1n] at hbp
      have hn0 : ∀ i, bnum l a 2 3 i = 0 := fun i => (hbn i).trans (if_neg h1n)
      rw [hbp, hbc, hn0 0, hn0 1, hn0 2]
      clear hbp hbn hn0 hb hL h1 h1n h1' hbc HBo
      generalize bodyL l a = bd at *
      go_enter Try.func14, Try.ntmps14
      go_wp2_with (go_at_call 33; (with_reducible refine HBo2.out.mono ?_); rintro e w2 ⟨m, hm, B, cb, rfl, hbel, hb2, hm1, hm2, hm3, hnew⟩; have R2 := Lib.hid (R0.out.below hbel R0.out.lt); have ca0 := R2.out.cell (i := 0) rfl; have ca1 := R2.out.cell (i := 1) rfl; have ca2 := R2.out.cell (i := 2) rfl; have ca3 := R2.out.cell (i := 3) rfl; have fa0 := R2.out.frozen 0; have fa1 := R2.out.frozen 1; have fa2 := R2.out.frozen 2; have fa3 := R2.out.frozen 3; have HB2 := Lib.hid (b0.out.trans (hbel.mono b0.out.size)); have hm48 : m ≤ 24 := Nat.le_trans (Nat.le_of_eq hm.symm) h5; clear hbel hb2 hnew)
      refine bodyPost_ret (v := .tuple #[fieldV 0 0 0 none 0 0, .int .i64 5]) (by simp [results_cell_tmp Try.results14, go_sem, ca0, fa0, ca1, fa1, ca2, fa2, ca3, fa3, Result.andThen]) rfl ⟨none, 0, 0, rfl, ?_, Bytes.nil _ _, rfl, by omega⟩
      (repeat (first | (with_reducible exact HB2.out) | refine Below.setCell ?_ (by simp) _ | refine Below.alloc ?_ (by simp) _ | refine Below.drew ?_ | refine below_drewN ?_ _))
    · rw [if_neg h5] at hbc
      rw [if_pos hbc] at hbp
      have hn0 : ∀ i, bnum l a 2 3 i = u8 (bodyL l a) (8 * i) := fun i => (hbn i).trans (if_pos hbc)
      rw [hbp, hbc]
      have HU := Lib.hid fun (i : Nat) (z : Int) (B : Option Addr) (m cb : Nat) (W : World) (hB : Bytes W B (bodyL l a)) (hm : (bodyL l a).length = m) (hm2 : m ≤ 1000000) (hz : z = ((8 * i : Nat) : Int)) (hi : 8 * i + 8 ≤ m) => hz ▸ (hn0 i).symm ▸ ru_any B (bodyL l a) m cb (8 * i) W hB hm hm2 hi
      have H5 := Lib.hid h5
      clear hbp hbn hn0 hb hL h1 h1' hbc HBo h5
      go_enter Try.func14, Try.ntmps14
      go_upto_region 6 with (go_at_call 33; (with_reducible refine HBo2.out.mono ?_); rintro e w2 ⟨m, hm, B, cb, rfl, hbel, hb2, hm1, hm2, hm3, hnew⟩; have R2 := Lib.hid (R0.out.below hbel R0.out.lt); have ca0 := R2.out.cell (i := 0) rfl; have ca1 := R2.out.cell (i := 1) rfl; have ca2 := R2.out.cell (i := 2) rfl; have ca3 := R2.out.cell (i := 3) rfl; have fa0 := R2.out.frozen 0; have fa1 := R2.out.frozen 1; have fa2 := R2.out.frozen 2; have fa3 := R2.out.frozen 3; have HB2 := Lib.hid (b0.out.trans (hbel.mono b0.out.size)); have D1 := Lib.hid hb2; have D2 := Lib.hid hm; have hm48 : ¬ m ≤ 24 := fun h => H5.out (by rw [hm]; omega); have HO3 := Lib.hid hnew; clear hbel hb2 hnew hm)
      have hmc : 24 ≤ m := by omega
      have hcut : ∀ W : World, (Instr.slice 22 (.slice B m cb) (some (.int .i64 24)) none none).run Try.prog W = .ok (.slice (cutA B cb 24) (m - 24) (cb - 24)) W := fun W : World => cut_l B m cb 24 (by omega) W
      have HC := Lib.hid (Bytes.cut D1.out cb 24 (m - 24) (by rw [D2.out]; omega))
      rw [List.take_of_length_le (Nat.le_of_eq (by rw [List.length_drop, D2.out]))] at HC
      have HOC := Lib.hid (show ∀ b off, cutA B cb 24 = some ⟨b, off, none⟩ → b ≠ w.heap.size from fun b off e hh => by have h1 := cut_block HO3.out e; have h2 := R0.out.lt; omega)
      clear HO3
      have HO3 := HOC
      clear HOC
      generalize cutA B cb 24 = C at *
      have a0 := Lib.hid (show ∀ j, j < 4 → w2.drew.frozen? ⟨w.heap.size, j, none⟩ = false from fun j _ => R2.out.frozen j)
      go_region_held3 (fun w' => True) (first | (with_reducible exact trivial)) (first
        | (go_at_call 29; (first | (with_reducible refine (HU.out 0 0 _ _ _ _ D1.out.drew D2.out (by omega) rfl (by omega)).mono ?_) | (with_reducible refine (HU.out 1 8 _ _ _ _ D1.out.drew D2.out (by omega) rfl (by omega)).mono ?_) | (with_reducible refine (HU.out 2 16 _ _ _ _ D1.out.drew D2.out (by omega) rfl (by omega)).mono ?_)); rintro e w' ⟨rfl, rfl⟩))
      obtain ⟨W4, hW4⟩ : ∃ x, x = (((((w2.setCell ⟨w.heap.size, 0, none⟩ (.int .u64 (bnum l a 2 3 0))).setCell ⟨w.heap.size, 1, none⟩ (.int .u64 (bnum l a 2 3 1))).setCell ⟨w.heap.size, 2, none⟩ (.int .u64 (bnum l a 2 3 2))).setCell ⟨w.heap.size, 3, none⟩ (.slice C (m - 24) (cb - 24)))).drew := ⟨_, rfl⟩
      have R4 : Hid (Blk W4 w.heap.size [.int .u64 (bnum l a 2 3 0), .int .u64 (bnum l a 2 3 1), .int .u64 (bnum l a 2 3 2), .slice C (m - 24) (cb - 24)] 43) := Lib.hid (hW4 ▸ (Blk.drew ((((R2.out.set_ 0 _).set_ 1 _).set_ 2 _).set_ 3 _)))
      have HB4 : Hid (Below w.heap.size w W4) := Lib.hid (hW4 ▸ (Below.drew (Below.setCell (Below.setCell (Below.setCell (Below.setCell HB2.out (Nat.le_refl _) _) (Nat.le_refl _) _) (Nat.le_refl _) _) (Nat.le_refl _) _)))
      have HY4 : Hid (Bytes W4 C _) := Lib.hid (hW4 ▸ (Bytes.drew (bytes_far (bytes_far (bytes_far (bytes_far HC.out HO3.out _ _) HO3.out _ _) HO3.out _ _) HO3.out _ _)))
      rw [← hW4]
      have e0 := R4.out.cell (i := 0) rfl; have e1 := R4.out.cell (i := 1) rfl; have e2 := R4.out.cell (i := 2) rfl; have e3 := R4.out.cell (i := 3) rfl
      clear hW4
      go_wp2
      refine bodyPost_ret (v := .tuple #[fieldV (bnum l a 2 3 0) (bnum l a 2 3 1) (bnum l a 2 3 2) C (m - 24) (cb - 24), .int .i64 0]) (by simp [results_cell_tmp Try.results14, go_sem, e0, e1, e2, e3, Result.andThen]) rfl ⟨C, m - 24, (cb - 24), rfl, HB4.out, HY4.out, by rw [List.length_drop, D2.out], by omega⟩

end Go.Proofs.Ytbfeomoafpgejaa.Ol7
