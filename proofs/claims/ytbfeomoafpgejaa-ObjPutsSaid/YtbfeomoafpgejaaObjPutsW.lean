/-
  The walk of ObjPuts.
-/
import Derived.Test.YtbfeomoafpgejaaOm
import Derived.Test.YtbfeomoafpgejaaSt
import Derived.Deep.CutBlock
namespace Go.Proofs.Ytbfeomoafpgejaa.ObjPutsW
open Go.ChangeShapes Go.WideShapes Go.ChangeAt Go.RowKit
open Bytes8 Blk8 Own8 OwnM OwnE LeA LeAl LeNum LeB LeP RefA RefB Ob Oc Od Oe Oi Oj Ff Fb Om
set_option linter.unusedVariables false
set_option maxRecDepth 100000
set_option linter.unusedSimpArgs false

/-- Bytes that were laid. -/
def Laid (L : List Int) (w : World) (e : Ending) (w' : World) : Prop := ∃ A m c, e = .returned (.slice A m c) ∧ Bytes w' A L ∧ L.length = m ∧ Below w.heap.size w w'
theorem Owned.laid {L : List Int} {n : Nat} {w w' : World} {e : Ending} (h : Owned L n w e w') : Laid L w e w' := by
  obtain ⟨A, c, h1, h2, h3⟩ := h
  exact ⟨A, n, c, h1, h2.bytes, h2.2.1, h3⟩
theorem put_laid (k : Int) (A : Option Addr) (l : List Int) (n cap : Nat) (w : World) (hb : Bytes w A l) (hL : l.length = n) (hn : n ≤ 1000000) : Calls Try.prog 19 #[.int .i64 k, .slice A n cap] w (Laid (putB k l) w) := by
  unfold putB
  by_cases h : 1 ≤ k ∧ k ≤ 7
  · rw [if_pos h]
    exact (put_yes k A l n cap w h hb hL hn).mono fun e w' h => Owned.laid h
  · rw [if_neg h]
    exact (put_no k A n cap w h).mono fun e w' h => ⟨none, 0, 0, h.1, Bytes.nil _ _, rfl, h.2 ▸ Below.refl _ _⟩
theorem rput_laid (k : Int) (A : Option Addr) (l : List Int) (n cap : Nat) (w : World) (hb : Bytes w A l) (hL : l.length = n) (hn : n ≤ 1000000) : Calls Try.prog 20 #[.int .i64 k, .slice A n cap] w (Laid (putB k l) w) := by
  unfold putB
  by_cases h : 1 ≤ k ∧ k ≤ 7
  · rw [if_pos h]
    exact (rput_yes k A l n cap w h hb hL hn).mono fun e w' h => Owned.laid h
  · rw [if_neg h]
    exact (rput_no k A n cap w h).mono fun e w' h => ⟨none, 0, 0, h.1, Bytes.nil _ _, rfl, h.2 ▸ Below.refl _ _⟩
theorem same_yes2 (a b : Option Addr) (l : List Int) (n c k d : Nat) (w : World) (ha : Bytes w a l) (hb : Bytes w b l) (hn : l.length = n) (hk : l.length = k) :
    Calls Try.prog 18 #[.slice a n c, .slice b k d] w fun e w' => e = .returned (.bool true) ∧ w = w' := by
  have h := same_any a b l l n c k d w ha hb hn hk
  rw [decide_eq_true (rfl : l = l)] at h
  exact h

set_option maxHeartbeats 1000000 in
theorem walk_long (k : Int) (x0 x1 x2 x3 x4 x5 f0 f1 f2 : Int) (A B : Option Addr) (n c m d : Nat) (w : World) (h : 300 < n ∨ ¬ 300 < n ∧ 300 < m) :
    Calls Try.prog 4 #[.int .i64 k, dataV x0 x1 x2 x3 x4 x5 A n c, fieldV f0 f1 f2 B m d] w fun e w' => e = .returned (.bool true) ∧ Below w.heap.size w w' := by
  have P0 := Lib.hid ((Blk.new w [.int .u64 x0, .int .u64 x1, .int .u64 x2, .int .u64 x3, .int .u64 x4, .int .u64 x5, .slice A n c] 33).alloc (.cells #[.int .u64 f0, .int .u64 f1, .int .u64 f2, .slice B m d] 40))
  have Q0 := Lib.hid (Blk.new_at (w.alloc (.cells #[.int .u64 x0, .int .u64 x1, .int .u64 x2, .int .u64 x3, .int .u64 x4, .int .u64 x5, .slice A n c] 33)) [.int .u64 f0, .int .u64 f1, .int .u64 f2, .slice B m d] 40 (w.heap.size + 1) (by simp))
  have B0 := Lib.hid (((Below.refl w.heap.size w).alloc (Nat.le_refl _) (.cells #[.int .u64 x0, .int .u64 x1, .int .u64 x2, .int .u64 x3, .int .u64 x4, .int .u64 x5, .slice A n c] 33)).alloc (by simp) (.cells #[.int .u64 f0, .int .u64 f1, .int .u64 f2, .slice B m d] 40))
  rcases h with h | ⟨h1, h⟩
  all_goals
    go_enter Try.func4, Try.ntmps4
    go_wp2_with (go_at_call 8; (with_reducible refine (first_any _).mono ?_); rintro e w1 ⟨rfl, hbel⟩; have P1 := Lib.hid (P0.out.below hbel P0.out.lt); have Q1 := Lib.hid (Q0.out.below hbel Q0.out.lt); have a6 := P1.out.cell (i := 6) rfl; have b3 := Q1.out.cell (i := 3) rfl; have B1 := Lib.hid (B0.out.trans (hbel.mono B0.out.size)); clear hbel)
    go_ret
    exact ⟨rfl, B1.out⟩

set_option maxHeartbeats 8000000 in
theorem walk_main (k : Int) (x0 x1 x2 x3 x4 x5 f0 f1 f2 : Int) (A B : Option Addr) (n c m d : Nat) (l u : List Int) (w : World) (hl : Bytes w A l) (hu : Bytes w B u) (hn : l.length = n) (hm : u.length = m) (h1 : ¬ 300 < n) (h2 : ¬ 300 < m) (hv : I64 [x0, x1, x2, x3, x4, x5]) (hf : I64 [f0, f1, f2]) :
    Calls Try.prog 4 #[.int .i64 k, dataV x0 x1 x2 x3 x4 x5 A n c, fieldV f0 f1 f2 B m d] w fun e w' => e = .returned (.bool true) ∧ Below w.heap.size w w' := by
  have P0 := Lib.hid ((Blk.new w [.int .u64 x0, .int .u64 x1, .int .u64 x2, .int .u64 x3, .int .u64 x4, .int .u64 x5, .slice A n c] 33).alloc (.cells #[.int .u64 f0, .int .u64 f1, .int .u64 f2, .slice B m d] 40))
  have Q0 := Lib.hid (Blk.new_at (w.alloc (.cells #[.int .u64 x0, .int .u64 x1, .int .u64 x2, .int .u64 x3, .int .u64 x4, .int .u64 x5, .slice A n c] 33)) [.int .u64 f0, .int .u64 f1, .int .u64 f2, .slice B m d] 40 (w.heap.size + 1) (by simp))
  have B0 := Lib.hid (((Below.refl w.heap.size w).alloc (Nat.le_refl _) (.cells #[.int .u64 x0, .int .u64 x1, .int .u64 x2, .int .u64 x3, .int .u64 x4, .int .u64 x5, .slice A n c] 33)).alloc (by simp) (.cells #[.int .u64 f0, .int .u64 f1, .int .u64 f2, .slice B m d] 40))
  have H1 := Lib.hid fun (W : World) (h : Below w.heap.size w W) => put_laid k A l n c W (hl.below h (Nat.le_refl _)) hn (by omega)
  have H2 := Lib.hid fun (W : World) (h : Below w.heap.size w W) => rput_laid k A l n c W (hl.below h (Nat.le_refl _)) hn (by omega)
  have H3 := Lib.hid fun (W : World) (h : Below w.heap.size w W) => (putData_any x0 x1 x2 x3 x4 x5 A l n c W (hl.below h (Nat.le_refl _)) hn (by omega) hv).mono fun e w' h => Owned.laid h
  have H4 := Lib.hid fun (W : World) (h : Below w.heap.size w W) => (rputData_any x0 x1 x2 x3 x4 x5 A l n c W (hl.below h (Nat.le_refl _)) hn (by omega) hv).mono fun e w' h => Owned.laid h
  have H5 := Lib.hid fun (W : World) (h : Below w.heap.size w W) => (putField_any f0 f1 f2 B u m d W (hu.below h (Nat.le_refl _)) hm (by omega) hf).mono fun e w' h => Owned.laid h
  have H6 := Lib.hid fun (W : World) (h : Below w.heap.size w W) => (rputField_any f0 f1 f2 B u m d W (hu.below h (Nat.le_refl _)) hm (by omega) hf).mono fun e w' h => Owned.laid h
  unfold Laid at H1 H2 H3 H4 H5 H6
  generalize putB k l = L1 at *
  generalize objB 1 (nums [x0, x1, x2, x3, x4, x5] ++ l) = L2 at *
  generalize objB 2 (nums [f0, f1, f2] ++ u) = L3 at *
  have h1' : ¬ (300 : Int) < (n : Int) := by omega
  have h2' : ¬ (300 : Int) < (m : Int) := by omega
  clear hl hu hn hm hv hf
  go_enter Try.func4, Try.ntmps4
  go_upto_region 8 with (go_at_call 8; (with_reducible refine (first_any _).mono ?_); rintro e w1 ⟨rfl, hbel⟩; have P1 := Lib.hid (P0.out.below hbel P0.out.lt); have Q1 := Lib.hid (Q0.out.below hbel Q0.out.lt); have p1_0 := P1.out.cell (i := 0) rfl; have p1_1 := P1.out.cell (i := 1) rfl; have p1_2 := P1.out.cell (i := 2) rfl; have p1_3 := P1.out.cell (i := 3) rfl; have p1_4 := P1.out.cell (i := 4) rfl; have p1_5 := P1.out.cell (i := 5) rfl; have p1_6 := P1.out.cell (i := 6) rfl; have q1_0 := Q1.out.cell (i := 0) rfl; have q1_1 := Q1.out.cell (i := 1) rfl; have q1_2 := Q1.out.cell (i := 2) rfl; have q1_3 := Q1.out.cell (i := 3) rfl;  have qa0 := fun o => (Q1.out.alloc o).cell (i := 0) rfl; have qa1 := fun o => (Q1.out.alloc o).cell (i := 1) rfl; have qa2 := fun o => (Q1.out.alloc o).cell (i := 2) rfl; have qa3 := fun o => (Q1.out.alloc o).cell (i := 3) rfl; have B1 := Lib.hid (B0.out.trans (hbel.mono B0.out.size)); clear hbel)
  have P2 := Lib.hid ((P1.out.alloc (.cells #[.int .u64 x0, .int .u64 x1, .int .u64 x2, .int .u64 x3, .int .u64 x4, .int .u64 x5, .slice A n c] 36)).alloc (.cells #[.int .u64 f0, .int .u64 f1, .int .u64 f2, .slice B m d] 43))
  have Q2 := Lib.hid ((Q1.out.alloc (.cells #[.int .u64 x0, .int .u64 x1, .int .u64 x2, .int .u64 x3, .int .u64 x4, .int .u64 x5, .slice A n c] 36)).alloc (.cells #[.int .u64 f0, .int .u64 f1, .int .u64 f2, .slice B m d] 43))
  have R2 := Lib.hid ((Blk.new w1 [.int .u64 x0, .int .u64 x1, .int .u64 x2, .int .u64 x3, .int .u64 x4, .int .u64 x5, .slice A n c] 36).alloc (.cells #[.int .u64 f0, .int .u64 f1, .int .u64 f2, .slice B m d] 43))
  have U2 := Lib.hid (Blk.new_at (w1.alloc (.cells #[.int .u64 x0, .int .u64 x1, .int .u64 x2, .int .u64 x3, .int .u64 x4, .int .u64 x5, .slice A n c] 36)) [.int .u64 f0, .int .u64 f1, .int .u64 f2, .slice B m d] 43 (w1.heap.size + 1) (by simp))
  have B2 := Lib.hid ((B1.out.alloc B1.out.size (.cells #[.int .u64 x0, .int .u64 x1, .int .u64 x2, .int .u64 x3, .int .u64 x4, .int .u64 x5, .slice A n c] 36)).alloc (B1.out.alloc B1.out.size (.cells #[.int .u64 x0, .int .u64 x1, .int .u64 x2, .int .u64 x3, .int .u64 x4, .int .u64 x5, .slice A n c] 36)).size (.cells #[.int .u64 f0, .int .u64 f1, .int .u64 f2, .slice B m d] 43))
  generalize hg2 : w1.heap.size + 1 = g2 at *
  generalize hg1 : w1.heap.size = g1 at *
  clear hg1 hg2
  generalize (w1.alloc (.cells #[.int .u64 x0, .int .u64 x1, .int .u64 x2, .int .u64 x3, .int .u64 x4, .int .u64 x5, .slice A n c] 36)).alloc (.cells #[.int .u64 f0, .int .u64 f1, .int .u64 f2, .slice B m d] 43) = W at *
  have p2_0 := P2.out.cell (i := 0) rfl
  have p2_1 := P2.out.cell (i := 1) rfl
  have p2_2 := P2.out.cell (i := 2) rfl
  have p2_3 := P2.out.cell (i := 3) rfl
  have p2_4 := P2.out.cell (i := 4) rfl
  have p2_5 := P2.out.cell (i := 5) rfl
  have p2_6 := P2.out.cell (i := 6) rfl
  have q2_0 := Q2.out.cell (i := 0) rfl
  have q2_1 := Q2.out.cell (i := 1) rfl
  have q2_2 := Q2.out.cell (i := 2) rfl
  have q2_3 := Q2.out.cell (i := 3) rfl
  have r2_0 := R2.out.cell (i := 0) rfl
  have r2_1 := R2.out.cell (i := 1) rfl
  have r2_2 := R2.out.cell (i := 2) rfl
  have r2_3 := R2.out.cell (i := 3) rfl
  have r2_4 := R2.out.cell (i := 4) rfl
  have r2_5 := R2.out.cell (i := 5) rfl
  have r2_6 := R2.out.cell (i := 6) rfl
  have u2_0 := U2.out.cell (i := 0) rfl
  have u2_1 := U2.out.cell (i := 1) rfl
  have u2_2 := U2.out.cell (i := 2) rfl
  have u2_3 := U2.out.cell (i := 3) rfl
  clear qa0 qa1 qa2 qa3 P1 Q1 B1 p1_0 p1_1 p1_2 p1_3 p1_4 p1_5 p1_6 q1_0 q1_1 q1_2 q1_3
  have d2 := Lib.hid B2.out.drew
  have p2d_0 : W.drew.cell? _ = _ := p2_0
  have p2d_1 : W.drew.cell? _ = _ := p2_1
  have p2d_2 : W.drew.cell? _ = _ := p2_2
  have p2d_3 : W.drew.cell? _ = _ := p2_3
  have p2d_4 : W.drew.cell? _ = _ := p2_4
  have p2d_5 : W.drew.cell? _ = _ := p2_5
  have p2d_6 : W.drew.cell? _ = _ := p2_6
  have q2d_0 : W.drew.cell? _ = _ := q2_0
  have q2d_1 : W.drew.cell? _ = _ := q2_1
  have q2d_2 : W.drew.cell? _ = _ := q2_2
  have q2d_3 : W.drew.cell? _ = _ := q2_3
  have r2d_0 : W.drew.cell? _ = _ := r2_0
  have r2d_1 : W.drew.cell? _ = _ := r2_1
  have r2d_2 : W.drew.cell? _ = _ := r2_2
  have r2d_3 : W.drew.cell? _ = _ := r2_3
  have r2d_4 : W.drew.cell? _ = _ := r2_4
  have r2d_5 : W.drew.cell? _ = _ := r2_5
  have r2d_6 : W.drew.cell? _ = _ := r2_6
  have u2d_0 : W.drew.cell? _ = _ := u2_0
  have u2d_1 : W.drew.cell? _ = _ := u2_1
  have u2d_2 : W.drew.cell? _ = _ := u2_2
  have u2d_3 : W.drew.cell? _ = _ := u2_3
  go_region_held3 (fun w' => w'.cell? ⟨w.heap.size, 0, none⟩ = some (.int .u64 x0) ∧ w'.cell? ⟨w.heap.size, 1, none⟩ = some (.int .u64 x1) ∧ w'.cell? ⟨w.heap.size, 2, none⟩ = some (.int .u64 x2) ∧ w'.cell? ⟨w.heap.size, 3, none⟩ = some (.int .u64 x3) ∧ w'.cell? ⟨w.heap.size, 4, none⟩ = some (.int .u64 x4) ∧ w'.cell? ⟨w.heap.size, 5, none⟩ = some (.int .u64 x5) ∧ w'.cell? ⟨w.heap.size, 6, none⟩ = some (.slice A n c) ∧ w'.cell? ⟨w.heap.size + 1, 0, none⟩ = some (.int .u64 f0) ∧ w'.cell? ⟨w.heap.size + 1, 1, none⟩ = some (.int .u64 f1) ∧ w'.cell? ⟨w.heap.size + 1, 2, none⟩ = some (.int .u64 f2) ∧ w'.cell? ⟨w.heap.size + 1, 3, none⟩ = some (.slice B m d) ∧ w'.cell? ⟨g1, 0, none⟩ = some (.int .u64 x0) ∧ w'.cell? ⟨g1, 1, none⟩ = some (.int .u64 x1) ∧ w'.cell? ⟨g1, 2, none⟩ = some (.int .u64 x2) ∧ w'.cell? ⟨g1, 3, none⟩ = some (.int .u64 x3) ∧ w'.cell? ⟨g1, 4, none⟩ = some (.int .u64 x4) ∧ w'.cell? ⟨g1, 5, none⟩ = some (.int .u64 x5) ∧ w'.cell? ⟨g1, 6, none⟩ = some (.slice A n c) ∧ w'.cell? ⟨g2, 0, none⟩ = some (.int .u64 f0) ∧ w'.cell? ⟨g2, 1, none⟩ = some (.int .u64 f1) ∧ w'.cell? ⟨g2, 2, none⟩ = some (.int .u64 f2) ∧ w'.cell? ⟨g2, 3, none⟩ = some (.slice B m d)) (first | (with_reducible exact ⟨p2d_0, p2d_1, p2d_2, p2d_3, p2d_4, p2d_5, p2d_6, q2d_0, q2d_1, q2d_2, q2d_3, r2d_0, r2d_1, r2d_2, r2d_3, r2d_4, r2d_5, r2d_6, u2d_0, u2d_1, u2d_2, u2d_3⟩) | (with_reducible exact ⟨p3_0, p3_1, p3_2, p3_3, p3_4, p3_5, p3_6, q3_0, q3_1, q3_2, q3_3, r3_0, r3_1, r3_2, r3_3, r3_4, r3_5, r3_6, u3_0, u3_1, u3_2, u3_3⟩) | (with_reducible exact ⟨p4_0, p4_1, p4_2, p4_3, p4_4, p4_5, p4_6, q4_0, q4_1, q4_2, q4_3, r4_0, r4_1, r4_2, r4_3, r4_4, r4_5, r4_6, u4_0, u4_1, u4_2, u4_3⟩) | (with_reducible exact ⟨p5_0, p5_1, p5_2, p5_3, p5_4, p5_5, p5_6, q5_0, q5_1, q5_2, q5_3, r5_0, r5_1, r5_2, r5_3, r5_4, r5_5, r5_6, u5_0, u5_1, u5_2, u5_3⟩) | (with_reducible exact ⟨p6_0, p6_1, p6_2, p6_3, p6_4, p6_5, p6_6, q6_0, q6_1, q6_2, q6_3, r6_0, r6_1, r6_2, r6_3, r6_4, r6_5, r6_6, u6_0, u6_1, u6_2, u6_3⟩) | (with_reducible exact ⟨p7_0, p7_1, p7_2, p7_3, p7_4, p7_5, p7_6, q7_0, q7_1, q7_2, q7_3, r7_0, r7_1, r7_2, r7_3, r7_4, r7_5, r7_6, u7_0, u7_1, u7_2, u7_3⟩) | (with_reducible exact ⟨p8_0, p8_1, p8_2, p8_3, p8_4, p8_5, p8_6, q8_0, q8_1, q8_2, q8_3, r8_0, r8_1, r8_2, r8_3, r8_4, r8_5, r8_6, u8_0, u8_1, u8_2, u8_3⟩) | go_keep) (first
    | (go_at_call 19; (with_reducible refine (H1.out _ (B2.out.drew)).mono ?_); rintro e w3 ⟨A1, n1, c1, rfl, hby, hln, hbel⟩; have Y1 := Lib.hid hby; have N1 := Lib.hid hln; have P3 := Lib.hid (P2.out.drew.below hbel P2.out.lt); have Q3 := Lib.hid (Q2.out.drew.below hbel Q2.out.lt); have R3 := Lib.hid (R2.out.drew.below hbel R2.out.lt); have U3 := Lib.hid (U2.out.drew.below hbel U2.out.lt); have p3_0 := P3.out.cell (i := 0) rfl; have p3_1 := P3.out.cell (i := 1) rfl; have p3_2 := P3.out.cell (i := 2) rfl; have p3_3 := P3.out.cell (i := 3) rfl; have p3_4 := P3.out.cell (i := 4) rfl; have p3_5 := P3.out.cell (i := 5) rfl; have p3_6 := P3.out.cell (i := 6) rfl; have q3_0 := Q3.out.cell (i := 0) rfl; have q3_1 := Q3.out.cell (i := 1) rfl; have q3_2 := Q3.out.cell (i := 2) rfl; have q3_3 := Q3.out.cell (i := 3) rfl; have r3_0 := R3.out.cell (i := 0) rfl; have r3_1 := R3.out.cell (i := 1) rfl; have r3_2 := R3.out.cell (i := 2) rfl; have r3_3 := R3.out.cell (i := 3) rfl; have r3_4 := R3.out.cell (i := 4) rfl; have r3_5 := R3.out.cell (i := 5) rfl; have r3_6 := R3.out.cell (i := 6) rfl; have u3_0 := U3.out.cell (i := 0) rfl; have u3_1 := U3.out.cell (i := 1) rfl; have u3_2 := U3.out.cell (i := 2) rfl; have u3_3 := U3.out.cell (i := 3) rfl; have B3 := Lib.hid ((B2.out.drew).trans (hbel.mono (B2.out.drew).size)); clear hby hln hbel)
    | (go_at_call 20; (with_reducible refine (H2.out _ (B3.out)).mono ?_); rintro e w4 ⟨A2, n2, c2, rfl, hby, hln, hbel⟩; have Y2 := Lib.hid hby; have N2 := Lib.hid hln; have Y1b := Lib.hid (Y1.out.below hbel (Nat.le_refl _)); have P4 := Lib.hid (P3.out.below hbel P3.out.lt); have Q4 := Lib.hid (Q3.out.below hbel Q3.out.lt); have R4 := Lib.hid (R3.out.below hbel R3.out.lt); have U4 := Lib.hid (U3.out.below hbel U3.out.lt); have p4_0 := P4.out.cell (i := 0) rfl; have p4_1 := P4.out.cell (i := 1) rfl; have p4_2 := P4.out.cell (i := 2) rfl; have p4_3 := P4.out.cell (i := 3) rfl; have p4_4 := P4.out.cell (i := 4) rfl; have p4_5 := P4.out.cell (i := 5) rfl; have p4_6 := P4.out.cell (i := 6) rfl; have q4_0 := Q4.out.cell (i := 0) rfl; have q4_1 := Q4.out.cell (i := 1) rfl; have q4_2 := Q4.out.cell (i := 2) rfl; have q4_3 := Q4.out.cell (i := 3) rfl; have r4_0 := R4.out.cell (i := 0) rfl; have r4_1 := R4.out.cell (i := 1) rfl; have r4_2 := R4.out.cell (i := 2) rfl; have r4_3 := R4.out.cell (i := 3) rfl; have r4_4 := R4.out.cell (i := 4) rfl; have r4_5 := R4.out.cell (i := 5) rfl; have r4_6 := R4.out.cell (i := 6) rfl; have u4_0 := U4.out.cell (i := 0) rfl; have u4_1 := U4.out.cell (i := 1) rfl; have u4_2 := U4.out.cell (i := 2) rfl; have u4_3 := U4.out.cell (i := 3) rfl; have B4 := Lib.hid ((B3.out).trans (hbel.mono (B3.out).size)); clear hby hln hbel)
    | (go_at_call 21; (with_reducible refine (H3.out _ (B4.out)).mono ?_); rintro e w5 ⟨A3, n3, c3, rfl, hby, hln, hbel⟩; have Y3 := Lib.hid hby; have N3 := Lib.hid hln; have P5 := Lib.hid (P4.out.below hbel P4.out.lt); have Q5 := Lib.hid (Q4.out.below hbel Q4.out.lt); have R5 := Lib.hid (R4.out.below hbel R4.out.lt); have U5 := Lib.hid (U4.out.below hbel U4.out.lt); have p5_0 := P5.out.cell (i := 0) rfl; have p5_1 := P5.out.cell (i := 1) rfl; have p5_2 := P5.out.cell (i := 2) rfl; have p5_3 := P5.out.cell (i := 3) rfl; have p5_4 := P5.out.cell (i := 4) rfl; have p5_5 := P5.out.cell (i := 5) rfl; have p5_6 := P5.out.cell (i := 6) rfl; have q5_0 := Q5.out.cell (i := 0) rfl; have q5_1 := Q5.out.cell (i := 1) rfl; have q5_2 := Q5.out.cell (i := 2) rfl; have q5_3 := Q5.out.cell (i := 3) rfl; have r5_0 := R5.out.cell (i := 0) rfl; have r5_1 := R5.out.cell (i := 1) rfl; have r5_2 := R5.out.cell (i := 2) rfl; have r5_3 := R5.out.cell (i := 3) rfl; have r5_4 := R5.out.cell (i := 4) rfl; have r5_5 := R5.out.cell (i := 5) rfl; have r5_6 := R5.out.cell (i := 6) rfl; have u5_0 := U5.out.cell (i := 0) rfl; have u5_1 := U5.out.cell (i := 1) rfl; have u5_2 := U5.out.cell (i := 2) rfl; have u5_3 := U5.out.cell (i := 3) rfl; have B5 := Lib.hid ((B4.out).trans (hbel.mono (B4.out).size)); clear hby hln hbel)
    | (go_at_call 22; (with_reducible refine (H4.out _ (B5.out)).mono ?_); rintro e w6 ⟨A4, n4, c4, rfl, hby, hln, hbel⟩; have Y4 := Lib.hid hby; have N4 := Lib.hid hln; have Y3b := Lib.hid (Y3.out.below hbel (Nat.le_refl _)); have P6 := Lib.hid (P5.out.below hbel P5.out.lt); have Q6 := Lib.hid (Q5.out.below hbel Q5.out.lt); have R6 := Lib.hid (R5.out.below hbel R5.out.lt); have U6 := Lib.hid (U5.out.below hbel U5.out.lt); have p6_0 := P6.out.cell (i := 0) rfl; have p6_1 := P6.out.cell (i := 1) rfl; have p6_2 := P6.out.cell (i := 2) rfl; have p6_3 := P6.out.cell (i := 3) rfl; have p6_4 := P6.out.cell (i := 4) rfl; have p6_5 := P6.out.cell (i := 5) rfl; have p6_6 := P6.out.cell (i := 6) rfl; have q6_0 := Q6.out.cell (i := 0) rfl; have q6_1 := Q6.out.cell (i := 1) rfl; have q6_2 := Q6.out.cell (i := 2) rfl; have q6_3 := Q6.out.cell (i := 3) rfl; have r6_0 := R6.out.cell (i := 0) rfl; have r6_1 := R6.out.cell (i := 1) rfl; have r6_2 := R6.out.cell (i := 2) rfl; have r6_3 := R6.out.cell (i := 3) rfl; have r6_4 := R6.out.cell (i := 4) rfl; have r6_5 := R6.out.cell (i := 5) rfl; have r6_6 := R6.out.cell (i := 6) rfl; have u6_0 := U6.out.cell (i := 0) rfl; have u6_1 := U6.out.cell (i := 1) rfl; have u6_2 := U6.out.cell (i := 2) rfl; have u6_3 := U6.out.cell (i := 3) rfl; have B6 := Lib.hid ((B5.out).trans (hbel.mono (B5.out).size)); clear hby hln hbel)
    | (go_at_call 23; (with_reducible refine (H5.out _ (B6.out)).mono ?_); rintro e w7 ⟨A5, n5, c5, rfl, hby, hln, hbel⟩; have Y5 := Lib.hid hby; have N5 := Lib.hid hln; have P7 := Lib.hid (P6.out.below hbel P6.out.lt); have Q7 := Lib.hid (Q6.out.below hbel Q6.out.lt); have R7 := Lib.hid (R6.out.below hbel R6.out.lt); have U7 := Lib.hid (U6.out.below hbel U6.out.lt); have p7_0 := P7.out.cell (i := 0) rfl; have p7_1 := P7.out.cell (i := 1) rfl; have p7_2 := P7.out.cell (i := 2) rfl; have p7_3 := P7.out.cell (i := 3) rfl; have p7_4 := P7.out.cell (i := 4) rfl; have p7_5 := P7.out.cell (i := 5) rfl; have p7_6 := P7.out.cell (i := 6) rfl; have q7_0 := Q7.out.cell (i := 0) rfl; have q7_1 := Q7.out.cell (i := 1) rfl; have q7_2 := Q7.out.cell (i := 2) rfl; have q7_3 := Q7.out.cell (i := 3) rfl; have r7_0 := R7.out.cell (i := 0) rfl; have r7_1 := R7.out.cell (i := 1) rfl; have r7_2 := R7.out.cell (i := 2) rfl; have r7_3 := R7.out.cell (i := 3) rfl; have r7_4 := R7.out.cell (i := 4) rfl; have r7_5 := R7.out.cell (i := 5) rfl; have r7_6 := R7.out.cell (i := 6) rfl; have u7_0 := U7.out.cell (i := 0) rfl; have u7_1 := U7.out.cell (i := 1) rfl; have u7_2 := U7.out.cell (i := 2) rfl; have u7_3 := U7.out.cell (i := 3) rfl; have B7 := Lib.hid ((B6.out).trans (hbel.mono (B6.out).size)); clear hby hln hbel)
    | (go_at_call 24; (with_reducible refine (H6.out _ (B7.out)).mono ?_); rintro e w8 ⟨A6, n6, c6, rfl, hby, hln, hbel⟩; have Y6 := Lib.hid hby; have N6 := Lib.hid hln; have Y5b := Lib.hid (Y5.out.below hbel (Nat.le_refl _)); have P8 := Lib.hid (P7.out.below hbel P7.out.lt); have Q8 := Lib.hid (Q7.out.below hbel Q7.out.lt); have R8 := Lib.hid (R7.out.below hbel R7.out.lt); have U8 := Lib.hid (U7.out.below hbel U7.out.lt); have p8_0 := P8.out.cell (i := 0) rfl; have p8_1 := P8.out.cell (i := 1) rfl; have p8_2 := P8.out.cell (i := 2) rfl; have p8_3 := P8.out.cell (i := 3) rfl; have p8_4 := P8.out.cell (i := 4) rfl; have p8_5 := P8.out.cell (i := 5) rfl; have p8_6 := P8.out.cell (i := 6) rfl; have q8_0 := Q8.out.cell (i := 0) rfl; have q8_1 := Q8.out.cell (i := 1) rfl; have q8_2 := Q8.out.cell (i := 2) rfl; have q8_3 := Q8.out.cell (i := 3) rfl; have r8_0 := R8.out.cell (i := 0) rfl; have r8_1 := R8.out.cell (i := 1) rfl; have r8_2 := R8.out.cell (i := 2) rfl; have r8_3 := R8.out.cell (i := 3) rfl; have r8_4 := R8.out.cell (i := 4) rfl; have r8_5 := R8.out.cell (i := 5) rfl; have r8_6 := R8.out.cell (i := 6) rfl; have u8_0 := U8.out.cell (i := 0) rfl; have u8_1 := U8.out.cell (i := 1) rfl; have u8_2 := U8.out.cell (i := 2) rfl; have u8_3 := U8.out.cell (i := 3) rfl; have B8 := Lib.hid ((B7.out).trans (hbel.mono (B7.out).size)); clear hby hln hbel)
    | (go_at_call 18; (with_reducible refine (same_yes2 _ _ L1 _ _ _ _ _ Y1b.out Y2.out N1.out N2.out).mono ?_); rintro e w' ⟨rfl, rfl⟩)
    | (go_at_call 18; (with_reducible refine (same_yes2 _ _ L2 _ _ _ _ _ Y3b.out Y4.out N3.out N4.out).mono ?_); rintro e w' ⟨rfl, rfl⟩)
    | (go_at_call 18; (with_reducible refine (same_yes2 _ _ L3 _ _ _ _ _ Y5b.out Y6.out N5.out N6.out).mono ?_); rintro e w' ⟨rfl, rfl⟩))
  go_wp2
  go_ret
  exact ⟨rfl, B8.out⟩

theorem I64_six {x0 x1 x2 x3 x4 x5 : Int} (h0 : (Lit.int .u64 x0).wf = true) (h1 : (Lit.int .u64 x1).wf = true) (h2 : (Lit.int .u64 x2).wf = true) (h3 : (Lit.int .u64 x3).wf = true) (h4 : (Lit.int .u64 x4).wf = true) (h5 : (Lit.int .u64 x5).wf = true) : I64 [x0, x1, x2, x3, x4, x5] := six_I (by have := bounds_u64 h0; omega) (by have := bounds_u64 h1; omega) (by have := bounds_u64 h2; omega) (by have := bounds_u64 h3; omega) (by have := bounds_u64 h4; omega) (by have := bounds_u64 h5; omega)
theorem I64_three {f0 f1 f2 : Int} (h0 : (Lit.int .u64 f0).wf = true) (h1 : (Lit.int .u64 f1).wf = true) (h2 : (Lit.int .u64 f2).wf = true) : I64 [f0, f1, f2] := three_I (by have := bounds_u64 h0; omega) (by have := bounds_u64 h1; omega) (by have := bounds_u64 h2; omega)

theorem walk (k : Int) (x0 x1 x2 x3 x4 x5 : Int) (A : Option Addr) (n c : Nat) (z : List Int) (f0 f1 f2 : Int) (B : Option Addr) (m d : Nat) (y : List Int) (w : World) (hk : (Lit.int .i64 k).wf = true) (hd : (Lit.int .u64 x0).wf = true ∧ (Lit.int .u64 x1).wf = true ∧ (Lit.int .u64 x2).wf = true ∧ (Lit.int .u64 x3).wf = true ∧ (Lit.int .u64 x4).wf = true ∧ (Lit.int .u64 x5).wf = true ∧ IsRow .u8 w A n c z) (hf : (Lit.int .u64 f0).wf = true ∧ (Lit.int .u64 f1).wf = true ∧ (Lit.int .u64 f2).wf = true ∧ IsRow .u8 w B m d y) :
    Calls Try.prog 4 #[.int .i64 k, dataV x0 x1 x2 x3 x4 x5 A n c, fieldV f0 f1 f2 B m d] w fun e w' => e = .returned (.bool true) ∧ Below w.heap.size w w' := by
  obtain ⟨a0, a1, a2, a3, a4, a5, hz⟩ := hd
  obtain ⟨b0, b1, b2, hy⟩ := hf
  obtain ⟨hb, hL, hcap, hmax, _⟩ := hz.bytes
  obtain ⟨hb2, hL2, hcap2, hmax2, _⟩ := hy.bytes
  by_cases h1 : 300 < n
  · exact walk_long k x0 x1 x2 x3 x4 x5 f0 f1 f2 A B n c m d w (.inl h1)
  by_cases h2 : 300 < m
  · exact walk_long k x0 x1 x2 x3 x4 x5 f0 f1 f2 A B n c m d w (.inr ⟨h1, h2⟩)
  exact walk_main k x0 x1 x2 x3 x4 x5 f0 f1 f2 A B n c m d _ _ w hb hb2 hL hL2 h1 h2 (I64_six a0 a1 a2 a3 a4 a5) (I64_three b0 b1 b2)
end Go.Proofs.Ytbfeomoafpgejaa.ObjPutsW
