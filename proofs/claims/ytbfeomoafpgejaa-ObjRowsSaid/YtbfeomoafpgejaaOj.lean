/-
  What 'PutData' and 'PutField' lay: the program's and the document's own.
-/
import Derived.Test.YtbfeomoafpgejaaOi
import Derived.Deep.RegionHeld3
namespace Go.Proofs.Ytbfeomoafpgejaa.Oj
open Go.ChangeShapes Go.WideShapes Go.ChangeAt Go.RowKit
open Bytes8 Blk8 Own8 OwnM OwnE LeA LeAl LeNum LeB LeP RefA RefB Ob Oc Od Oe Oi
set_option linter.unusedVariables false
set_option maxRecDepth 100000
set_option linter.unusedSimpArgs false

theorem six_I {x0 x1 x2 x3 x4 x5 : Int} (h0 : 0 ≤ x0 ∧ x0 ≤ 18446744073709551615) (h1 : 0 ≤ x1 ∧ x1 ≤ 18446744073709551615) (h2 : 0 ≤ x2 ∧ x2 ≤ 18446744073709551615) (h3 : 0 ≤ x3 ∧ x3 ≤ 18446744073709551615) (h4 : 0 ≤ x4 ∧ x4 ≤ 18446744073709551615) (h5 : 0 ≤ x5 ∧ x5 ≤ 18446744073709551615) : I64 [x0, x1, x2, x3, x4, x5] := by
  intro v hv
  simp at hv
  rcases hv with rfl | rfl | rfl | rfl | rfl | rfl <;> assumption
theorem three_I {x0 x1 x2 : Int} (h0 : 0 ≤ x0 ∧ x0 ≤ 18446744073709551615) (h1 : 0 ≤ x1 ∧ x1 ≤ 18446744073709551615) (h2 : 0 ≤ x2 ∧ x2 ≤ 18446744073709551615) : I64 [x0, x1, x2] := by
  intro v hv
  simp at hv
  rcases hv with rfl | rfl | rfl <;> assumption

/-- Numbers in a block that was just made. -/
theorem numbers_new (l : List Int) (n m : Nat) (w : World) (g : Nat) (hg : w.heap.size = g) (hv : I64 l) (hn : l.length = n) (hm : 8 * n = m) (h0 : 0 < n) (hmax : n ≤ 1000) :
    Calls Try.prog 35 #[.slice (some ⟨g, 0, none⟩) n n] (w.alloc (.cells (l.map (Value.int .u64)).toArray 23)) fun e w' => ∃ g2, e = .returned (.slice (some ⟨g2, 0, none⟩) m m) ∧ Own w' w.heap.size (some ⟨g2, 0, none⟩) m m (nums l) ∧ Below w.heap.size w w' := by
  subst hg hm
  have h := numbers_any w.heap.size n n l 23 _ (Blk.new w _ _) hv hn hmax h0
  exact h.mono fun e w' ⟨g2, h1, h2, h3, h4⟩ => ⟨g2, h1, own_row h3 (nums_all _) (by simp at h2; omega) (by rw [nums_len, hn]) (by unfold maxLen; omega), ((Below.refl w.heap.size w).alloc (Nat.le_refl _) _).trans (h4.mono (by simp))⟩
theorem rnums_new (l : List Int) (n m : Nat) (w : World) (g : Nat) (hg : w.heap.size = g) (hv : I64 l) (hn : l.length = n) (hm : 8 * n = m) (hmax : n ≤ 1000) :
    Calls Try.prog 36 #[.slice (some ⟨g, 0, none⟩) n n] (w.alloc (.cells (l.map (Value.int .u64)).toArray 23)) fun e w' => ∃ A c, e = .returned (.slice A m c) ∧ Own w' w.heap.size A m c (nums l) ∧ Below w.heap.size w w' := by
  subst hg hm
  have h := rnums_any w.heap.size n n l 23 _ (Blk.new w _ _) hv hn hmax
  exact h.mono fun e w' ⟨A, c, h1, h2, h3⟩ => ⟨A, c, h1, Own.base h2 (by simp), ((Below.refl w.heap.size w).alloc (Nat.le_refl _) _).trans (h3.mono (by simp))⟩

theorem numbers6 (x0 x1 x2 x3 x4 x5 : Int) (w : World) (g : Nat) (hg : w.heap.size = g) (hv : I64 [x0, x1, x2, x3, x4, x5]) :
    Calls Try.prog 35 #[.slice (some ⟨g, 0, none⟩) 6 6] (w.alloc (.cells #[.int .u64 x0, .int .u64 x1, .int .u64 x2, .int .u64 x3, .int .u64 x4, .int .u64 x5] 23)) fun e w' => ∃ g2, e = .returned (.slice (some ⟨g2, 0, none⟩) 48 48) ∧ Own w' w.heap.size (some ⟨g2, 0, none⟩) 48 48 (nums [x0, x1, x2, x3, x4, x5]) ∧ Below w.heap.size w w' :=
  numbers_new [x0, x1, x2, x3, x4, x5] 6 48 w g hg hv rfl rfl (by decide) (by decide)
theorem numbers3 (x0 x1 x2 : Int) (w : World) (g : Nat) (hg : w.heap.size = g) (hv : I64 [x0, x1, x2]) :
    Calls Try.prog 35 #[.slice (some ⟨g, 0, none⟩) 3 3] (w.alloc (.cells #[.int .u64 x0, .int .u64 x1, .int .u64 x2] 23)) fun e w' => ∃ g2, e = .returned (.slice (some ⟨g2, 0, none⟩) 24 24) ∧ Own w' w.heap.size (some ⟨g2, 0, none⟩) 24 24 (nums [x0, x1, x2]) ∧ Below w.heap.size w w' :=
  numbers_new [x0, x1, x2] 3 24 w g hg hv rfl rfl (by decide) (by decide)
theorem rnums6 (x0 x1 x2 x3 x4 x5 : Int) (w : World) (g : Nat) (hg : w.heap.size = g) (hv : I64 [x0, x1, x2, x3, x4, x5]) :
    Calls Try.prog 36 #[.slice (some ⟨g, 0, none⟩) 6 6] (w.alloc (.cells #[.int .u64 x0, .int .u64 x1, .int .u64 x2, .int .u64 x3, .int .u64 x4, .int .u64 x5] 23)) fun e w' => ∃ A c, e = .returned (.slice A 48 c) ∧ Own w' w.heap.size A 48 c (nums [x0, x1, x2, x3, x4, x5]) ∧ Below w.heap.size w w' :=
  rnums_new [x0, x1, x2, x3, x4, x5] 6 48 w g hg hv rfl rfl (by decide)
theorem rnums3 (x0 x1 x2 : Int) (w : World) (g : Nat) (hg : w.heap.size = g) (hv : I64 [x0, x1, x2]) :
    Calls Try.prog 36 #[.slice (some ⟨g, 0, none⟩) 3 3] (w.alloc (.cells #[.int .u64 x0, .int .u64 x1, .int .u64 x2] 23)) fun e w' => ∃ A c, e = .returned (.slice A 24 c) ∧ Own w' w.heap.size A 24 c (nums [x0, x1, x2]) ∧ Below w.heap.size w w' :=
  rnums_new [x0, x1, x2] 3 24 w g hg hv rfl rfl (by decide)
theorem rnumsd6 (x0 x1 x2 x3 x4 x5 : Int) (w : World) (g : Nat) (hg : w.heap.size = g) (hv : I64 [x0, x1, x2, x3, x4, x5]) :
    Calls Try.prog 36 #[.slice (some ⟨g, 0, none⟩) 6 6] (w.alloc (.cells #[.int .u64 x0, .int .u64 x1, .int .u64 x2, .int .u64 x3, .int .u64 x4, .int .u64 x5] 23)).drew fun e w' => ∃ A c, e = .returned (.slice A 48 c) ∧ Own w' w.heap.size A 48 c (nums [x0, x1, x2, x3, x4, x5]) ∧ Below w.heap.size w w' :=
  (rnums6 x0 x1 x2 x3 x4 x5 w.drew g hg hv).mono fun e w' ⟨A, c, h1, h2, h3⟩ => ⟨A, c, h1, h2, (Below.refl w.heap.size w).drew.trans h3⟩
theorem rnumsd3 (x0 x1 x2 : Int) (w : World) (g : Nat) (hg : w.heap.size = g) (hv : I64 [x0, x1, x2]) :
    Calls Try.prog 36 #[.slice (some ⟨g, 0, none⟩) 3 3] (w.alloc (.cells #[.int .u64 x0, .int .u64 x1, .int .u64 x2] 23)).drew fun e w' => ∃ A c, e = .returned (.slice A 24 c) ∧ Own w' w.heap.size A 24 c (nums [x0, x1, x2]) ∧ Below w.heap.size w w' :=
  (rnums3 x0 x1 x2 w.drew g hg hv).mono fun e w' ⟨A, c, h1, h2, h3⟩ => ⟨A, c, h1, h2, (Below.refl w.heap.size w).drew.trans h3⟩

abbrev dataV (x0 x1 x2 x3 x4 x5 : Int) (A : Option Addr) (n c : Nat) : Value := .agg #[.int .u64 x0, .int .u64 x1, .int .u64 x2, .int .u64 x3, .int .u64 x4, .int .u64 x5, .slice A n c]
abbrev fieldV (x0 x1 x2 : Int) (A : Option Addr) (n c : Nat) : Value := .agg #[.int .u64 x0, .int .u64 x1, .int .u64 x2, .slice A n c]

set_option maxHeartbeats 4000000 in
theorem putData_any (x0 x1 x2 x3 x4 x5 : Int) (A : Option Addr) (l : List Int) (n cap : Nat) (w : World) (hb : Bytes w A l) (hL : l.length = n) (hn : n ≤ 900000) (hv : I64 [x0, x1, x2, x3, x4, x5]) :
    Calls Try.prog 21 #[dataV x0 x1 x2 x3 x4 x5 A n cap] w (Owned (objB 1 (nums [x0, x1, x2, x3, x4, x5] ++ l)) (16 + (48 + n) + padN (48 + n)) w) := by
  have HN := Lib.hid fun (W : World) (g : Nat) (hg : W.heap.size = g) => numbers6 x0 x1 x2 x3 x4 x5 W g hg hv
  have HL := Lib.hid hL
  have HB := Lib.hid hb
  have HP := Lib.hid fun (A2 : Option Addr) (c2 : Nat) (W : World) (h : Bytes W A2 (nums [x0, x1, x2, x3, x4, x5] ++ l)) => put_yes 1 A2 (nums [x0, x1, x2, x3, x4, x5] ++ l) (48 + n) c2 W (by decide) h (by rw [List.length_append, nums_len, hL]; rfl) (by omega)
  unfold Owned at HP
  have b0 := Lib.hid ((Below.refl w.heap.size w).alloc (Nat.le_refl _) (.cells #[.int .u64 x0, .int .u64 x1, .int .u64 x2, .int .u64 x3, .int .u64 x4, .int .u64 x5, .slice A n cap] 33))
  have R0 := Lib.hid (Blk.new w [.int .u64 x0, .int .u64 x1, .int .u64 x2, .int .u64 x3, .int .u64 x4, .int .u64 x5, .slice A n cap] 33)
  generalize nums [x0, x1, x2, x3, x4, x5] = N at *
  generalize padN (48 + n) = p at *
  clear hb hL hv
  go_enter Try.func21, Try.ntmps21
  go_wp2_with (first
    | (go_at_call 35; (with_reducible refine (HN.out _ _ (by simp)).mono ?_); rintro e w2 ⟨g2, rfl, ho2, hbel2⟩; have HO2 := Lib.hid (Own.base ho2 b0.out.size); have HB2 := Lib.hid (b0.out.trans (hbel2.mono b0.out.size)); have r6 := (R0.out.below hbel2 R0.out.lt).cell (i := 6) rfl; clear ho2 hbel2)
    | (at_builtin; refine wpList_append_bytes rfl (.tmp 18) (.tmp 20) rfl w.heap.size _ 48 48 _ rfl HO2.out A n cap l rfl (HB.out.below HB2.out (Nat.le_refl _)) HL.out (by omega) ?_; intro A3 c3 w3 ho3 hbel3; have HO3 := Lib.hid ho3; have HB3 := Lib.hid hbel3; clear ho3 hbel3)
    | (go_at_call 19; (with_reducible refine (HP.out _ _ _ HO3.out.bytes).mono ?_); rintro e w4 ⟨A4, c4, rfl, ho4, hbel4⟩; have HO4 := Lib.hid ho4; have HB4 := Lib.hid hbel4; clear ho4 hbel4))
  go_ret
  have hb23 := HB2.out.trans HB3.out
  exact ⟨A4, c4, rfl, Own.base HO4.out hb23.size, hb23.trans (HB4.out.mono hb23.size)⟩

set_option maxHeartbeats 4000000 in
theorem putField_any (x0 x1 x2 : Int) (A : Option Addr) (l : List Int) (n cap : Nat) (w : World) (hb : Bytes w A l) (hL : l.length = n) (hn : n ≤ 900000) (hv : I64 [x0, x1, x2]) :
    Calls Try.prog 23 #[fieldV x0 x1 x2 A n cap] w (Owned (objB 2 (nums [x0, x1, x2] ++ l)) (16 + (24 + n) + padN (24 + n)) w) := by
  have HN := Lib.hid fun (W : World) (g : Nat) (hg : W.heap.size = g) => numbers3 x0 x1 x2 W g hg hv
  have HL := Lib.hid hL
  have HB := Lib.hid hb
  have HP := Lib.hid fun (A2 : Option Addr) (c2 : Nat) (W : World) (h : Bytes W A2 (nums [x0, x1, x2] ++ l)) => put_yes 2 A2 (nums [x0, x1, x2] ++ l) (24 + n) c2 W (by decide) h (by rw [List.length_append, nums_len, hL]; rfl) (by omega)
  unfold Owned at HP
  have b0 := Lib.hid ((Below.refl w.heap.size w).alloc (Nat.le_refl _) (.cells #[.int .u64 x0, .int .u64 x1, .int .u64 x2, .slice A n cap] 40))
  have R0 := Lib.hid (Blk.new w [.int .u64 x0, .int .u64 x1, .int .u64 x2, .slice A n cap] 40)
  generalize nums [x0, x1, x2] = N at *
  generalize padN (24 + n) = p at *
  clear hb hL hv
  go_enter Try.func23, Try.ntmps23
  go_wp2_with (first
    | (go_at_call 35; (with_reducible refine (HN.out _ _ (by simp)).mono ?_); rintro e w2 ⟨g2, rfl, ho2, hbel2⟩; have HO2 := Lib.hid (Own.base ho2 b0.out.size); have HB2 := Lib.hid (b0.out.trans (hbel2.mono b0.out.size)); have r6 := (R0.out.below hbel2 R0.out.lt).cell (i := 3) rfl; clear ho2 hbel2)
    | (at_builtin; refine wpList_append_bytes rfl (.tmp 12) (.tmp 14) rfl w.heap.size _ 24 24 _ rfl HO2.out A n cap l rfl (HB.out.below HB2.out (Nat.le_refl _)) HL.out (by omega) ?_; intro A3 c3 w3 ho3 hbel3; have HO3 := Lib.hid ho3; have HB3 := Lib.hid hbel3; clear ho3 hbel3)
    | (go_at_call 19; (with_reducible refine (HP.out _ _ _ HO3.out.bytes).mono ?_); rintro e w4 ⟨A4, c4, rfl, ho4, hbel4⟩; have HO4 := Lib.hid ho4; have HB4 := Lib.hid hbel4; clear ho4 hbel4))
  go_ret
  have hb23 := HB2.out.trans HB3.out
  exact ⟨A4, c4, rfl, Own.base HO4.out hb23.size, hb23.trans (HB4.out.mono hb23.size)⟩

set_option maxHeartbeats 4000000 in
theorem rputData_any (x0 x1 x2 x3 x4 x5 : Int) (A : Option Addr) (l : List Int) (n cap : Nat) (w : World) (hb : Bytes w A l) (hL : l.length = n) (hn : n ≤ 900000) (hv : I64 [x0, x1, x2, x3, x4, x5]) :
    Calls Try.prog 22 #[dataV x0 x1 x2 x3 x4 x5 A n cap] w (Owned (objB 1 (nums [x0, x1, x2, x3, x4, x5] ++ l)) (16 + (48 + n) + padN (48 + n)) w) := by
  have HN := Lib.hid fun (W : World) (g : Nat) (hg : W.heap.size = g) => rnumsd6 x0 x1 x2 x3 x4 x5 W g hg hv
  have HL := Lib.hid hL
  have HB := Lib.hid hb
  have HP := Lib.hid fun (A2 : Option Addr) (c2 : Nat) (W : World) (h : Bytes W A2 (nums [x0, x1, x2, x3, x4, x5] ++ l)) => rput_yes 1 A2 (nums [x0, x1, x2, x3, x4, x5] ++ l) (48 + n) c2 W (by decide) h (by rw [List.length_append, nums_len, hL]; rfl) (by omega)
  unfold Owned at HP
  have b0 := Lib.hid ((Below.refl w.heap.size w).alloc (Nat.le_refl _) (.cells #[.int .u64 x0, .int .u64 x1, .int .u64 x2, .int .u64 x3, .int .u64 x4, .int .u64 x5, .slice A n cap] 36))
  have R0 := Lib.hid (Blk.new w [.int .u64 x0, .int .u64 x1, .int .u64 x2, .int .u64 x3, .int .u64 x4, .int .u64 x5, .slice A n cap] 36)
  have u0 := R0.out.drew.cell (i := 0) rfl; have u1 := R0.out.drew.cell (i := 1) rfl; have u2 := R0.out.drew.cell (i := 2) rfl; have u3 := R0.out.drew.cell (i := 3) rfl; have u4 := R0.out.drew.cell (i := 4) rfl; have u5 := R0.out.drew.cell (i := 5) rfl; have u6 := R0.out.drew.cell (i := 6) rfl
  generalize nums [x0, x1, x2, x3, x4, x5] = N at *
  generalize padN (48 + n) = p at *
  clear hb hL hv
  go_enter Try.func22, Try.ntmps22
  go_wp2
  go_region_held3 (fun w' => w'.cell? ⟨w.heap.size, 0, none⟩ = some (.int .u64 x0) ∧ w'.cell? ⟨w.heap.size, 1, none⟩ = some (.int .u64 x1) ∧ w'.cell? ⟨w.heap.size, 2, none⟩ = some (.int .u64 x2) ∧ w'.cell? ⟨w.heap.size, 3, none⟩ = some (.int .u64 x3) ∧ w'.cell? ⟨w.heap.size, 4, none⟩ = some (.int .u64 x4) ∧ w'.cell? ⟨w.heap.size, 5, none⟩ = some (.int .u64 x5) ∧ w'.cell? ⟨w.heap.size, 6, none⟩ = some (.slice A n cap)) (first | (with_reducible exact ⟨u0, u1, u2, u3, u4, u5, u6⟩) | (with_reducible exact ⟨q0, q1, q2, q3, q4, q5, q6⟩) | (with_reducible exact ⟨s0, s1, s2, s3, s4, s5, s6⟩) | (with_reducible exact ⟨t0, t1, t2, t3, t4, t5, t6⟩) | go_keep) (first
    | (refine step_append_bytes (o := ⟨some 19, _, _, _, _, _⟩) rfl (.tmp 16) (.tmp 18) rfl _ _ 48 _ _ rfl HO2.out A n cap l rfl (HB.out.below (b0.out.trans (HB2.out.mono b0.out.size)) (Nat.le_refl _)) HL.out (by omega) ?_; intro A3 c3 w3 ho3 hbel3; have HO3 := Lib.hid ho3; have HB3 := Lib.hid hbel3; have R3 := Lib.hid (R2.out.below hbel3 R0.out.lt); have s0 := R3.out.cell (i := 0) rfl; have s1 := R3.out.cell (i := 1) rfl; have s2 := R3.out.cell (i := 2) rfl; have s3 := R3.out.cell (i := 3) rfl; have s4 := R3.out.cell (i := 4) rfl; have s5 := R3.out.cell (i := 5) rfl; have s6 := R3.out.cell (i := 6) rfl; clear ho3 hbel3)
    | (go_at_call 36; (with_reducible refine (HN.out _ _ (by simp)).mono ?_); rintro e w2 ⟨A2, c2, rfl, ho2, hbel2⟩; have HO2 := Lib.hid ho2; have HB2 := Lib.hid hbel2; have R2 := Lib.hid (R0.out.below hbel2 R0.out.lt); have q0 := R2.out.cell (i := 0) rfl; have q1 := R2.out.cell (i := 1) rfl; have q2 := R2.out.cell (i := 2) rfl; have q3 := R2.out.cell (i := 3) rfl; have q4 := R2.out.cell (i := 4) rfl; have q5 := R2.out.cell (i := 5) rfl; have q6 := R2.out.cell (i := 6) rfl; clear ho2 hbel2)
    | (go_at_call 20; (with_reducible refine (HP.out _ _ _ HO3.out.bytes).mono ?_); rintro e w4 ⟨A4, c4, rfl, ho4, hbel4⟩; have HO4 := Lib.hid ho4; have HB4 := Lib.hid hbel4; have R4 := Lib.hid (R3.out.below hbel4 R3.out.lt); have t0 := R4.out.cell (i := 0) rfl; have t1 := R4.out.cell (i := 1) rfl; have t2 := R4.out.cell (i := 2) rfl; have t3 := R4.out.cell (i := 3) rfl; have t4 := R4.out.cell (i := 4) rfl; have t5 := R4.out.cell (i := 5) rfl; have t6 := R4.out.cell (i := 6) rfl; clear ho4 hbel4))
  go_wp2
  go_ret
  have hb23 := (b0.out.trans (HB2.out.mono b0.out.size)).trans (HB3.out.mono b0.out.size)
  exact ⟨A4, c4, rfl, Own.base HO4.out hb23.size, hb23.trans (HB4.out.mono hb23.size)⟩

set_option maxHeartbeats 4000000 in
theorem rputField_any (x0 x1 x2 : Int) (A : Option Addr) (l : List Int) (n cap : Nat) (w : World) (hb : Bytes w A l) (hL : l.length = n) (hn : n ≤ 900000) (hv : I64 [x0, x1, x2]) :
    Calls Try.prog 24 #[fieldV x0 x1 x2 A n cap] w (Owned (objB 2 (nums [x0, x1, x2] ++ l)) (16 + (24 + n) + padN (24 + n)) w) := by
  have HN := Lib.hid fun (W : World) (g : Nat) (hg : W.heap.size = g) => rnumsd3 x0 x1 x2 W g hg hv
  have HL := Lib.hid hL
  have HB := Lib.hid hb
  have HP := Lib.hid fun (A2 : Option Addr) (c2 : Nat) (W : World) (h : Bytes W A2 (nums [x0, x1, x2] ++ l)) => rput_yes 2 A2 (nums [x0, x1, x2] ++ l) (24 + n) c2 W (by decide) h (by rw [List.length_append, nums_len, hL]; rfl) (by omega)
  unfold Owned at HP
  have b0 := Lib.hid ((Below.refl w.heap.size w).alloc (Nat.le_refl _) (.cells #[.int .u64 x0, .int .u64 x1, .int .u64 x2, .slice A n cap] 43))
  have R0 := Lib.hid (Blk.new w [.int .u64 x0, .int .u64 x1, .int .u64 x2, .slice A n cap] 43)
  have u0 := R0.out.drew.cell (i := 0) rfl; have u1 := R0.out.drew.cell (i := 1) rfl; have u2 := R0.out.drew.cell (i := 2) rfl; have u3 := R0.out.drew.cell (i := 3) rfl
  generalize nums [x0, x1, x2] = N at *
  generalize padN (24 + n) = p at *
  clear hb hL hv
  go_enter Try.func24, Try.ntmps24
  go_wp2
  go_region_held3 (fun w' => w'.cell? ⟨w.heap.size, 0, none⟩ = some (.int .u64 x0) ∧ w'.cell? ⟨w.heap.size, 1, none⟩ = some (.int .u64 x1) ∧ w'.cell? ⟨w.heap.size, 2, none⟩ = some (.int .u64 x2) ∧ w'.cell? ⟨w.heap.size, 3, none⟩ = some (.slice A n cap)) (first | (with_reducible exact ⟨u0, u1, u2, u3⟩) | (with_reducible exact ⟨q0, q1, q2, q3⟩) | (with_reducible exact ⟨s0, s1, s2, s3⟩) | (with_reducible exact ⟨t0, t1, t2, t3⟩) | go_keep) (first
    | (refine step_append_bytes (o := ⟨some 13, _, _, _, _, _⟩) rfl (.tmp 10) (.tmp 12) rfl _ _ 24 _ _ rfl HO2.out A n cap l rfl (HB.out.below (b0.out.trans (HB2.out.mono b0.out.size)) (Nat.le_refl _)) HL.out (by omega) ?_; intro A3 c3 w3 ho3 hbel3; have HO3 := Lib.hid ho3; have HB3 := Lib.hid hbel3; have R3 := Lib.hid (R2.out.below hbel3 R0.out.lt); have s0 := R3.out.cell (i := 0) rfl; have s1 := R3.out.cell (i := 1) rfl; have s2 := R3.out.cell (i := 2) rfl; have s3 := R3.out.cell (i := 3) rfl; clear ho3 hbel3)
    | (go_at_call 36; (with_reducible refine (HN.out _ _ (by simp)).mono ?_); rintro e w2 ⟨A2, c2, rfl, ho2, hbel2⟩; have HO2 := Lib.hid ho2; have HB2 := Lib.hid hbel2; have R2 := Lib.hid (R0.out.below hbel2 R0.out.lt); have q0 := R2.out.cell (i := 0) rfl; have q1 := R2.out.cell (i := 1) rfl; have q2 := R2.out.cell (i := 2) rfl; have q3 := R2.out.cell (i := 3) rfl; clear ho2 hbel2)
    | (go_at_call 20; (with_reducible refine (HP.out _ _ _ HO3.out.bytes).mono ?_); rintro e w4 ⟨A4, c4, rfl, ho4, hbel4⟩; have HO4 := Lib.hid ho4; have HB4 := Lib.hid hbel4; have R4 := Lib.hid (R3.out.below hbel4 R3.out.lt); have t0 := R4.out.cell (i := 0) rfl; have t1 := R4.out.cell (i := 1) rfl; have t2 := R4.out.cell (i := 2) rfl; have t3 := R4.out.cell (i := 3) rfl; clear ho4 hbel4))
  go_wp2
  go_ret
  have hb23 := (b0.out.trans (HB2.out.mono b0.out.size)).trans (HB3.out.mono b0.out.size)
  exact ⟨A4, c4, rfl, Own.base HO4.out hb23.size, hb23.trans (HB4.out.mono hb23.size)⟩

end Go.Proofs.Ytbfeomoafpgejaa.Oj
