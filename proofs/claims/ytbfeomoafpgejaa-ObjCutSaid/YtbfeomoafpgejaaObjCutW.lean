/-
  The walk of ObjCut.
-/
import Derived.Test.YtbfeomoafpgejaaOm
import Derived.Test.YtbfeomoafpgejaaNumb
import Derived.Deep.CutBlock
import Derived.IntWalk
namespace Go.Proofs.Ytbfeomoafpgejaa.ObjCutW
open Go.ChangeShapes Go.WideShapes Go.ChangeAt Go.RowKit
open Bytes8 Blk8 Own8 OwnM OwnE LeA LeAl LeNum LeB LeP RefA RefB Ob Oc Od Oe Og Ff Fb Om Numb Cl8
set_option linter.unusedVariables false
set_option maxRecDepth 100000
set_option linter.unusedSimpArgs false

theorem own_some {w : World} {base n c : Nat} {A : Option Addr} {l : List Int} (h : Own w base A n c l) (hn : 0 < n) : ∃ g, A = some ⟨g, 0, none⟩ ∧ base ≤ g ∧ g < w.heap.size := by
  rcases h.2.2.2.2 with ⟨_, h0⟩ | ⟨g, cap, cur, he, hb, hg, _⟩
  · omega
  · injection he with e1 e2 e3
    refine ⟨g, e1, hb, ?_⟩
    rcases Nat.lt_or_ge g w.heap.size with hlt | hge
    · exact hlt
    · rw [Array.getElem?_eq_none hge] at hg; cases hg
theorem own_cell {w : World} {base n c g : Nat} {l : List Int} (h : Own w base (some ⟨g, 0, none⟩) n c l) (i : Nat) (hi : i < n) : w.cell? ⟨g, i, none⟩ = some (.int .u8 (l.getD i 0)) ∧ w.frozen? ⟨g, i, none⟩ = false := by
  obtain ⟨hA, hn, _, ho⟩ := h
  refine ⟨?_, ?_⟩
  · have := ho.cellAt i (by omega)
    rw [this]
    simp [List.getElem?_eq_getElem (show i < l.length by omega)]
  · rcases ho.2 with ⟨he, _⟩ | ⟨g', cap, cur, he, _, hg, _⟩
    · cases he
    · injection he with e1
      injection e1 with e1
      injection e1 with e1
      subst e1
      simp [World.frozen?, hg]
theorem own_set {w : World} {base g n c : Nat} {l : List Int} (h : Own w base (some ⟨g, 0, none⟩) n c l) (i : Nat) {x : Int} (h0 : 0 ≤ x) (h1 : x < 256) : Own (w.setCell ⟨g, i, none⟩ (.int .u8 x)) base (some ⟨g, 0, none⟩) n c (l.set i x) := by
  refine ⟨h.1.set i h0 h1, by rw [List.length_set]; exact h.2.1, by simpa using h.2.2.1, ?_⟩
  have := (h.2.2.2.stored i (.int .u8 x)).1
  rw [List.map_set]
  exact this
theorem bytes_far {w : World} {A : Option Addr} {l : List Int} {g : Nat} (h : Bytes w A l) (hA : ∀ b off, A = some ⟨b, off, none⟩ → b ≠ g) (i : Nat) (v : Value) : Bytes (w.setCell ⟨g, i, none⟩ v) A l := by
  refine ⟨h.1, fun j hj => ?_⟩
  obtain ⟨b, off, e, h1, h2⟩ := h.2 j hj
  refine ⟨b, off, e, by simpa using h1, ?_⟩
  rw [World.cell?_of_block (Below.heap_setCell w ⟨g, i, none⟩ v b (hA b off e))]
  exact h2
theorem cut_to (A : Option Addr) (len cap hi : Nat) (h2 : hi ≤ cap) (w : World) :
    (Instr.slice 22 (.slice A len cap) none (some (.int .i64 (hi : Int))) none).run Try.prog w = .ok (.slice (cutA A cap 0) hi cap) w := by
  have ht : Try.prog.underlying 22 = some (.slice (Try.prog.elem 22)) := by rw [elem8]; exact Try.underlying22
  rw [run_slice_h w 22 A len cap ht .i64 hi (by omega) (by omega), elem8, sizeof8]
  simp [Result.andThen, sliced, cutA]

/-! ## plain -/
/-- The first sixteen bytes laid open. -/
theorem code_open (k f y0 y1 : Int) (r : List Int) : code (k :: f :: 0 :: 0 :: 0 :: 0 :: 0 :: 0 :: y0 :: y1 :: 0 :: 0 :: 0 :: 0 :: 0 :: 0 :: r) 0 = if k < 1 ∨ 7 < k then 4 else if f ≠ 0 then 7 else if y0 + 256 * y1 < 16 then 5 else if (16 + r.length : Nat) < y0 + 256 * y1 then 2 else 0 := by
  have e : u8 (k :: f :: 0 :: 0 :: 0 :: 0 :: 0 :: 0 :: y0 :: y1 :: 0 :: 0 :: 0 :: 0 :: 0 :: 0 :: r) (0 + 8) = y0 + 256 * y1 := by
    simp [u8, leNum]
  have hl : (k :: f :: 0 :: 0 :: 0 :: 0 :: 0 :: 0 :: y0 :: y1 :: 0 :: 0 :: 0 :: 0 :: 0 :: 0 :: r).length = 16 + r.length := by simp; omega
  unfold code
  rw [e, hl, if_neg (by decide), if_neg (by omega)]
  simp
theorem low_small (x : Int) (h0 : 0 ≤ x) (h1 : x < 65536) : lowB x 8 = [x % 256, x / 256, 0, 0, 0, 0, 0, 0] := by
  have e : lowB x 8 = [x / 256 ^ 0 % 256, x / 256 ^ 1 % 256, x / 256 ^ 2 % 256, x / 256 ^ 3 % 256, x / 256 ^ 4 % 256, x / 256 ^ 5 % 256, x / 256 ^ 6 % 256, x / 256 ^ 7 % 256] := rfl
  rw [e]
  simp only [show (256 : Int) ^ 0 = 1 from rfl, show (256 : Int) ^ 1 = 256 from rfl, show (256 : Int) ^ 2 = 65536 from rfl, show (256 : Int) ^ 3 = 16777216 from rfl, show (256 : Int) ^ 4 = 4294967296 from rfl, show (256 : Int) ^ 5 = 1099511627776 from rfl, show (256 : Int) ^ 6 = 281474976710656 from rfl, show (256 : Int) ^ 7 = 72057594037927936 from rfl]
  have a0 : x / 1 % 256 = x % 256 := by omega
  have a1 : x / 256 % 256 = x / 256 := by omega
  have a2 : x / 65536 % 256 = 0 := by omega
  have a3 : x / 16777216 % 256 = 0 := by omega
  have a4 : x / 4294967296 % 256 = 0 := by omega
  have a5 : x / 1099511627776 % 256 = 0 := by omega
  have a6 : x / 281474976710656 % 256 = 0 := by omega
  have a7 : x / 72057594037927936 % 256 = 0 := by omega
  rw [a0, a1, a2, a3, a4, a5, a6, a7]
theorem obj_open (l : List Int) (n : Nat) (hL : l.length = n) (hn : n ≤ 200) : ∃ r, objB 3 l = 3 :: 0 :: 0 :: 0 :: 0 :: 0 :: 0 :: 0 :: ((16 + n : Nat) : Int) % 256 :: ((16 + n : Nat) : Int) / 256 :: 0 :: 0 :: 0 :: 0 :: 0 :: 0 :: r ∧ r.length = n + padN n := by
  subst hL
  refine ⟨l ++ List.replicate (padN l.length) 0, ?_, by simp⟩
  unfold objB front
  rw [low_small _ (by omega) (by omega)]
  rfl

theorem cut_code {b : List Int} {l : List Int} {n q : Nat} (hb : b = objB 3 l) (hL : l.length = n) (hn : n ≤ 200) (hq : q < 16 + n) : code (b.take q) 0 = 2 := by
  obtain ⟨r, e, hr⟩ := obj_open l n hL hn
  rw [hb, e]
  by_cases h : q < 16
  · unfold code
    rw [if_neg (by decide), if_pos (by rw [List.length_take]; omega)]
  · obtain ⟨p, rfl⟩ : ∃ p, q = p + 16 := ⟨q - 16, by omega⟩
    simp only [List.take_succ_cons]
    rw [code_open, if_neg (by omega), if_neg (by omega), if_neg (by omega), if_pos (by rw [List.length_take]; omega)]
theorem off_code {b : List Int} {q : Nat} (h0 : 0 < q) (h1 : q < 8) : code b q = 3 := by
  unfold code
  rw [if_pos (by omega)]
theorem kind_code {b l : List Int} {n : Nat} (hb : b = objB 3 l) (hL : l.length = n) (hn : n ≤ 200) (k : Int) (hk : 8 ≤ k) : code (b.set 0 k) 0 = 4 := by
  obtain ⟨r, e, hr⟩ := obj_open l n hL hn
  rw [hb, e]
  simp only [List.set_cons_zero]
  rw [code_open, if_pos (by omega)]
theorem flag_code {b l : List Int} {n : Nat} (hb : b = objB 3 l) (hL : l.length = n) (hn : n ≤ 200) (f : Int) : code (b.set 1 f) 0 = if f = 0 then 0 else 7 := by
  obtain ⟨r, e, hr⟩ := obj_open l n hL hn
  rw [hb, e]
  simp only [List.set_cons_succ, List.set_cons_zero]
  rw [code_open, if_neg (by omega)]
  by_cases h : f = 0
  · rw [if_neg (by omega), if_neg (by omega), if_neg (by omega), if_pos h]
  · rw [if_pos h, if_neg h]
theorem size_code {b l : List Int} {n : Nat} (hb : b = objB 3 l) (hL : l.length = n) (hn : n ≤ 200) (s : Int) (h0 : 0 ≤ s) (h1 : s < 16) : code ((b.set 8 s).set 9 0) 0 = 5 := by
  obtain ⟨r, e, hr⟩ := obj_open l n hL hn
  rw [hb, e]
  simp only [List.set_cons_succ, List.set_cons_zero]
  rw [code_open, if_neg (by omega), if_neg (by omega), if_pos (by omega)]

theorem walk_long (A : Option Addr) (n cap : Nat) (cut off kind fl : Int) (w : World) (h : 200 < n) :
    Calls Try.prog 7 #[.slice A n cap, .int .i64 cut, .int .i64 off, .int .i64 kind, .int .u8 fl] w fun e w' => e = .returned (.bool true) ∧ Below w.heap.size w w' := by
  go_enter Try.func7, Try.ntmps7
  go_wp2_with (go_at_call 8; (with_reducible refine (first_any _).mono ?_); rintro e w1 ⟨rfl, hbel⟩; have B1 := Lib.hid hbel; clear hbel)
  go_ret
  exact ⟨rfl, B1.out⟩

abbrev fr0 (k s : Int) : Obj := .cells #[.int .i64 k, .int .i64 0, .int .u64 s] 26
theorem read_at (A : Option Addr) (l : List Int) (n cap a : Nat) (z c : Int) (w : World) (hz : z = (a : Int)) (hc0 : code l a = c) (hb : Bytes w A l) (hL : l.length = n) (hn : n ≤ 1000000) (hc : n ≤ cap) (hcm : cap ≤ maxLen) (ha : a ≤ 18446744073709551615) :
    Calls Try.prog 9 #[.slice A n cap, .int .u64 z] w fun e w' => ∃ k s, e = .returned (.tuple #[frV k s, .int .i64 c]) ∧ Below w.heap.size w w' := by
  subst hz hc0
  exact (read_any A l n cap a w hb hL hn hc hcm ha).mono fun e w' h => ⟨_, _, h⟩

set_option maxHeartbeats 8000000 in
theorem walk_main (A : Option Addr) (n cap : Nat) (l : List Int) (cut off kind fl : Int) (w : World) (hl : Bytes w A l) (hL : l.length = n) (hn : n ≤ 200) (hf : 0 ≤ fl ∧ fl < 256) :
    Calls Try.prog 7 #[.slice A n cap, .int .i64 cut, .int .i64 off, .int .i64 kind, .int .u8 fl] w fun e w' => e = .returned (.bool true) ∧ Below w.heap.size w w' := by
  obtain ⟨q, hq, hq2⟩ := below_nat cut (16 + (n : Int)) (by omega)
  obtain ⟨j, hj, hj2⟩ := below_nat off 7 (by decide)
  obtain ⟨k, hk, hk2⟩ := below_nat kind 200 (by decide)
  obtain ⟨s, hs, hs2⟩ := below_nat kind 16 (by decide)
  have N1 := Lib.hid fun (W : World) => number_nat cut (16 + (n : Int)) q W (by omega) (by omega) hq.out
  have N2 := Lib.hid fun (W : World) => number_nat off 7 j W (by decide) (by decide) hj.out
  have N3 := Lib.hid fun (W : World) => number_nat kind 200 k W (by decide) (by decide) hk.out
  have N4 := Lib.hid fun (W : World) => number_nat kind 16 s W (by decide) (by decide) hs.out
  have HP := Lib.hid fun (W : World) (h : Below w.heap.size w W) => put_yes 3 A l n cap W (by decide) (hl.below h (Nat.le_refl _)) hL (by omega)
  unfold Owned at HP
  have hlen : (objB 3 l).length = 16 + n + padN n := by rw [objB_len, hL]
  have hp := padN_le n
  obtain ⟨b, hb⟩ : ∃ x, x = objB 3 l := ⟨_, rfl⟩
  obtain ⟨m, hm⟩ : ∃ x, x = 16 + n + padN n := ⟨_, rfl⟩
  have C1 := Lib.hid (cut_code (q := q) hb hL hn (by omega))
  have C2 := Lib.hid (off_code (b := b) (q := 1 + j) (by omega) (by omega))
  have C3 := Lib.hid (kind_code hb hL hn (8 + (k : Int)) (by omega))
  have C4 := Lib.hid (flag_code hb hL hn fl)
  have C5 := Lib.hid (size_code hb hL hn (s : Int) (by omega) (by omega))
  rw [← hb, ← hm] at HP hlen
  have HLen := Lib.hid hlen
  have hm1 : 16 + n ≤ m ∧ m ≤ 300 := by omega
  have hlt : ¬ ((m : Int) < 16 + (n : Int)) := by omega
  have w8 : IntKind.u8.wrap (8 + (k : Int)) = 8 + (k : Int) := IntWalk.u8_in _ (by omega)
  have w8' : IntKind.u8.wrap (s : Int) = (s : Int) := IntWalk.u8_in _ (by omega)
  clear hl hL hlen hb hm hp hq hj hk hs
  go_enter Try.func7, Try.ntmps7
  go_upto_region 9 with (first
    | (go_at_call 8; (with_reducible refine (first_any _).mono ?_); rintro e w1 ⟨rfl, hbel⟩; have B1 := Lib.hid hbel; clear hbel)
    | (go_at_call 19; (with_reducible refine (HP.out _ B1.out).mono ?_); rintro e w2 ⟨A2, c2, rfl, ho2, hbel2⟩; have O2 := Lib.hid ho2; have B2 := Lib.hid (B1.out.trans (hbel2.mono B1.out.size)); clear ho2 hbel2))
  obtain ⟨hc2, hcm2⟩ := own_cap O2.out
  have hcut := cut_to A2 m c2 q (by omega)
  have Y2 := Lib.hid O2.out.bytes
  have Y2c := Lib.hid (Bytes.cut Y2.out c2 0 q (by rw [HLen.out]; exact hc2))
  rw [List.drop_zero] at Y2c
  have HLq := Lib.hid (show (b.take q).length = q by rw [List.length_take, HLen.out]; omega)
  generalize cutA A2 c2 0 = A2c at *
  have R1 := Lib.hid (read_at A2c (b.take q) q c2 0 0 2 w2 rfl C1.out Y2c.out HLq.out (by omega) (by omega) hcm2 (by omega))
  have R2 := Lib.hid fun (z : Int) (W : World) (hz : z = ((1 + j : Nat) : Int)) (h : Below w2.heap.size w2 W) => read_at A2 b m c2 (1 + j) z 3 W hz C2.out (Y2.out.below h (Nat.le_refl _)) HLen.out (by omega) hc2 hcm2 (by omega)
  have HBy := Lib.hid fun (W : World) (h : Below w2.heap.size w2 W) => bytes_any A2 b m c2 W (Y2.out.below h (Nat.le_refl _)) HLen.out (by omega)
  have hz1 : 1 + (j : Int) = ((1 + j : Nat) : Int) := by omega
  have HZ1 := Lib.hid hz1
  clear hz1
  go_upto_region 12 with (first
    | (go_at_call 25; (with_reducible refine (N1.out _).mono ?_); rintro e w' ⟨rfl, rfl⟩)
    | (go_at_call 25; (with_reducible refine (N2.out _).mono ?_); rintro e w' ⟨rfl, rfl⟩)
    | (go_at_call 9; (with_reducible refine R1.out.mono ?_); rintro e w3 ⟨k3, s3, rfl, hbel⟩; have B3 := Lib.hid (hbel.alloc hbel.size (fr0 k3 s3)); clear hbel)
    | (go_at_call 9; (with_reducible refine (R2.out _ _ HZ1.out B3.out).mono ?_); rintro e w4 ⟨k4, s4, rfl, hbel⟩; have B4 := Lib.hid ((B3.out.trans (hbel.mono B3.out.size)).alloc (B3.out.trans (hbel.mono B3.out.size)).size (fr0 k4 s4)); clear hbel)
    | (go_at_call 26; (with_reducible refine (HBy.out _ B6.out).mono ?_); rintro e w7 ⟨A7, c7, rfl, ho, hbel⟩; have O7 := Lib.hid ho; have B7b := Lib.hid hbel; have O5c := Lib.hid (O5b.out.kept hbel (Nat.le_refl _)); have O6b := Lib.hid (O6.out.kept hbel (Nat.le_refl _)); have B7 := Lib.hid (B6.out.trans (hbel.mono B6.out.size)); clear ho hbel)
    | (go_at_call 26; (with_reducible refine (HBy.out _ B5.out).mono ?_); rintro e w6 ⟨A6, c6, rfl, ho, hbel⟩; have O6 := Lib.hid ho; have O5b := Lib.hid (O5.out.kept hbel (Nat.le_refl _)); have B6 := Lib.hid (B5.out.trans (hbel.mono B5.out.size)); clear ho hbel)
    | (go_at_call 26; (with_reducible refine (HBy.out _ B4.out).mono ?_); rintro e w5 ⟨A5, c5, rfl, ho, hbel⟩; have O5 := Lib.hid ho; have B5 := Lib.hid (B4.out.trans (hbel.mono B4.out.size)); clear ho hbel))
  have S2 := B2.out.size
  have S4 := B4.out.size
  obtain ⟨g5, rfl, h5, h5'⟩ := own_some O5.out (by omega)
  obtain ⟨g6, rfl, h6, h6'⟩ := own_some O6.out (by omega)
  obtain ⟨g7, rfl, h7, h7'⟩ := own_some O7.out (by omega)
  have hk8 : 0 ≤ 8 + (k : Int) ∧ 8 + (k : Int) < 256 := by omega
  have hs8 : 0 ≤ (s : Int) ∧ (s : Int) < 256 := by omega
  have m0 : 0 < m := by omega
  have m1 : 1 < m := by omega
  have m8 : 8 < m := by omega
  have m9 : 9 < m := by omega
  have X1 := own_set O5c.out 0 hk8.1 hk8.2
  have X2 := own_set (Own.far O6b.out (a := ⟨g5, 0, none⟩) (show g5 < w5.heap.size from h5') (.int .u8 (8 + (k : Int)))) 1 hf.1 hf.2
  have X3a := Own.far (Own.far O7.out (a := ⟨g5, 0, none⟩) (show g5 < w6.heap.size by omega) (.int .u8 (8 + (k : Int)))) (a := ⟨g6, 1, none⟩) (show g6 < w6.heap.size from h6') (.int .u8 fl)
  have X3b := own_set X3a 8 hs8.1 hs8.2
  have X3 := own_set X3b 9 (x := 0) (by decide) (by decide)
  obtain ⟨a0, a0f⟩ := own_cell O5c.out 0 m0
  obtain ⟨a1, a1f⟩ := own_cell (Own.far O6b.out (a := ⟨g5, 0, none⟩) (show g5 < w5.heap.size from h5') (.int .u8 (8 + (k : Int)))) 1 m1
  obtain ⟨a2, a2f⟩ := own_cell X3a 8 m8
  obtain ⟨a3, a3f⟩ := own_cell X3b 9 m9
  have YC := Lib.hid (bytes_far (bytes_far (bytes_far X1.bytes (g := g6) (fun b off e hh => by injection e with e; injection e with e1; omega) 1 (.int .u8 fl)) (g := g7) (fun b off e hh => by injection e with e; injection e with e1; omega) 8 (.int .u8 (s : Int))) (g := g7) (fun b off e hh => by injection e with e; injection e with e1; omega) 9 (.int .u8 0))
  have YD := Lib.hid (bytes_far (bytes_far X2.bytes (g := g7) (fun b off e hh => by injection e with e; injection e with e1; omega) 8 (.int .u8 (s : Int))) (g := g7) (fun b off e hh => by injection e with e; injection e with e1; omega) 9 (.int .u8 0))
  have YS := Lib.hid X3.bytes
  have bs5 := B5.out.size
  have bs6 := B6.out.size
  have BW := Lib.hid ((((((B2.out.trans (B7.out.mono S2)).setCell (p := ⟨g5, 0, none⟩) (show w.heap.size ≤ g5 by omega) (.int .u8 (8 + (k : Int)))).setCell (p := ⟨g6, 1, none⟩) (show w.heap.size ≤ g6 by omega) (.int .u8 fl)).setCell (p := ⟨g7, 8, none⟩) (show w.heap.size ≤ g7 by omega) (.int .u8 (s : Int))).setCell (p := ⟨g7, 9, none⟩) (show w.heap.size ≤ g7 by omega) (.int .u8 0)))
  have V5 := own_cap O5.out
  have V6 := own_cap O6.out
  have V7 := own_cap O7.out
  have HV := Lib.hid (And.intro V5 (And.intro V6 V7))
  clear X1 X2 X3a X3b X3 V5 V6 V7 h5 h6 h7 h5' h6' h7' S2 S4 bs5 bs6 O5 O6 O5b O5c O6b O7 B5 B6 B7 B7b B4 B3
  go_upto_region 15 with (first
    | (go_at_call 25; (with_reducible refine (N3.out _).mono ?_); rintro e w' ⟨rfl, rfl⟩)
    | (go_at_call 25; (with_reducible refine (N4.out _).mono ?_); rintro e w' ⟨rfl, rfl⟩))
  clear a0 a0f a1 a1f a2 a2f a3 a3f
  generalize (((w7.setCell ⟨g5, 0, none⟩ (.int .u8 (8 + (k : Int)))).setCell ⟨g6, 1, none⟩ (.int .u8 fl)).setCell ⟨g7, 8, none⟩ (.int .u8 (s : Int))).setCell ⟨g7, 9, none⟩ (.int .u8 0) = W at *
  have Q1 := Lib.hid (read_at (some ⟨g5, 0, none⟩) _ m c5 0 0 4 W rfl C3.out YC.out (by rw [List.length_set, HLen.out]) (by omega) HV.out.1.1 HV.out.1.2 (by omega))
  have Q2 := Lib.hid fun (W2 : World) (h : Below W.heap.size W W2) => read_at (some ⟨g6, 0, none⟩) _ m c6 0 0 _ W2 rfl C4.out (YD.out.below h (Nat.le_refl _)) (by rw [List.length_set, HLen.out]) (by omega) HV.out.2.1.1 HV.out.2.1.2 (by omega)
  have Q3 := Lib.hid fun (W2 : World) (h : Below W.heap.size W W2) => read_at (some ⟨g7, 0, none⟩) _ m c7 0 0 5 W2 rfl C5.out (YS.out.below h (Nat.le_refl _)) (by rw [List.length_set, List.length_set, HLen.out]) (by omega) HV.out.2.2.1 HV.out.2.2.2 (by omega)
  have hfin : ((if fl = 0 then (0 : Int) else 7) == 7) = (fl != 0) := by
    by_cases h : fl = 0
    · subst h; rfl
    · rw [if_neg h]; simp [h]
  generalize (if fl = 0 then (0 : Int) else 7) = cf at *
  clear N1 N2 N3 N4 w8 w8' hlt
  go_wp2_with (first
    | (go_at_call 9; (with_reducible refine Q1.out.mono ?_); rintro e w8 ⟨k8, s8, rfl, hbel⟩; have D8 := Lib.hid (hbel.alloc hbel.size (fr0 k8 s8)); clear hbel)
    | (go_at_call 9; (with_reducible refine (Q2.out _ D8.out).mono ?_); rintro e w9 ⟨k9, s9, rfl, hbel⟩; have D9 := Lib.hid ((D8.out.trans (hbel.mono D8.out.size)).alloc (D8.out.trans (hbel.mono D8.out.size)).size (fr0 k9 s9)); clear hbel)
    | (go_at_call 9; (with_reducible refine (Q3.out _ D9.out).mono ?_); rintro e w10 ⟨k10, s10, rfl, hbel⟩; have D10 := Lib.hid ((D9.out.trans (hbel.mono D9.out.size)).alloc (D9.out.trans (hbel.mono D9.out.size)).size (fr0 k10 s10)); clear hbel))
  go_ret
  exact ⟨ret_bool (by simp [hfin]), BW.out.trans (D10.out.mono BW.out.size)⟩

theorem walk (A : Option Addr) (n cap : Nat) (z : List Int) (cut off kind fl : Int) (w : World) (h : IsRow .u8 w A n cap z) (h1 : (Lit.int .i64 cut).wf = true) (h2 : (Lit.int .i64 off).wf = true) (h3 : (Lit.int .i64 kind).wf = true) (h4 : (Lit.int .u8 fl).wf = true) :
    Calls Try.prog 7 #[.slice A n cap, .int .i64 cut, .int .i64 off, .int .i64 kind, .int .u8 fl] w fun e w' => e = .returned (.bool true) ∧ Below w.heap.size w w' := by
  obtain ⟨hb, hL, hcap, hmax, _⟩ := h.bytes
  by_cases hn : 200 < n
  · exact walk_long A n cap cut off kind fl w hn
  · have h8 := bounds_u8 h4
    exact walk_main A n cap _ cut off kind fl w hb hL (by omega) (by omega)
end Go.Proofs.Ytbfeomoafpgejaa.ObjCutW
