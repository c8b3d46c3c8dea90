/-
  The walk of EntrySays.
-/
import Derived.Test.YtoklhjooldfcfaaYq
import Derived.Test.YtoklhjooldfcfaaYb
namespace Go.Proofs.Ytoklhjooldfcfaa.EntrySaysW
open Go.ChangeShapes Go.WideShapes Go.ChangeAt Go.RowKit
open Bytes8 Blk8 Own8 OwnM OwnE OwnA Rows2 Ob Yc Yp Yd Yg Yh Yj Yi Yl Ym Yn Yq Yb
set_option linter.unusedVariables false
set_option linter.unusedSimpArgs false
set_option maxRecDepth 100000

theorem eK_ok {l : List Int} {a : Nat} (h : AllB l) : IdOk (eK l a) := by
  unfold eK
  split
  · exact itK_ok (body_all h)
  · intro i; exact ⟨Int.le_refl 0, (by decide : (0 : Int) < 256)⟩
theorem body_le {l : List Int} {a : Nat} : (bodyL l a).length ≤ l.length := by unfold bodyL; simp; omega
theorem eN_le {l : List Int} {a : Nat} (h : l.length ≤ 1000000) : eN l a ≤ 1000000 := by
  have := body_le (l := l) (a := a)
  unfold eN itN
  split <;> omega
theorem arM_le {l : List Int} {a : Nat} (h : l.length ≤ 1000000) : arM l a ≤ 1000000 := by
  have := body_le (l := l) (a := a)
  unfold arM arN
  split <;> omega
theorem taNum_le {l : List Int} {a : Nat} {k : Int} (h : l.length ≤ 1000000) : taNum l a k ≤ 1000000 := by
  have := body_le (l := l) (a := a)
  unfold taNum taN
  split <;> omega
theorem wpList_load_row_want {P : Program} {ops : Array Oper} {rest : List Oper} {o : Oper} {a : Act} {w : World} {Q : Exit → Act → World → Prop} (hw : Region.wanted o (yielded ops a.tmps) = true) (ty : TypeId) (x : Operand) (ho : o.op = .load ty x)
    (g : Nat) (hx : a.eval x = .pointer (some ⟨g, 0, none⟩)) (t : TypeId) (cs : Array Value) (fr : Nat × Nat) (d : TypeDesc) (hg : w.heap[g]? = some (.cells cs t fr))
    (hu : P.underlying ty = some d) (hd : (match d with | .struct _ | .array _ _ => true | _ => false) = true) (hi : (P.info? ty).map (·.size) = some cs.size)
    (h : wpList P ops Q rest (a.put o.dst (.agg cs)) w) : wpList P ops Q (o :: rest) a w :=
  BigFrame.wpList_want hw fun _ hK => wp_load_row ty x ho g hx t cs fr d hg hu hd hi (hK _ _ h)

set_option maxHeartbeats 8000000 in
theorem walk_main (A : Option Addr) (l : List Int) (n cap a : Nat) (kd : Int) (w : World) (hb : Bytes w A l) (hL : l.length = n) (hn : n ≤ 900) (hc : n ≤ cap) (hcm : cap ≤ maxLen) (ha : a ≤ 18446744073709551615) :
    Calls Try.prog 3 #[.slice A n cap, .int .u64 (a : Int), .int .i64 kd] w fun e w' => e = .returned (.bool true) ∧ Below w.heap.size w w' := by
  have H1 := Lib.hid fun (W : World) (h : Below w.heap.size w W) => read_e A l n cap a W (hb.below h (Nat.le_refl _)) hL (by omega) hc hcm ha
  have H2 := Lib.hid fun (W : World) (h : Below w.heap.size w W) => rreadEntry_any A l n cap a W (hb.below h (Nat.le_refl _)) hL (by omega) hc hcm ha
  have H3 := Lib.hid fun (W : World) (h : Below w.heap.size w W) => readArray_e A l n cap a W (hb.below h (Nat.le_refl _)) hL (by omega) hc hcm ha
  have H4 := Lib.hid fun (W : World) (h : Below w.heap.size w W) => rreadArray_any A l n cap a W (hb.below h (Nat.le_refl _)) hL (by omega) hc hcm ha
  have H5 := Lib.hid fun (W : World) (h : Below w.heap.size w W) => readTable_e A l n cap a kd W (hb.below h (Nat.le_refl _)) hL (by omega) hc hcm ha
  have H6 := Lib.hid fun (W : World) (h : Below w.heap.size w W) => rreadTable_any A l n cap a kd W (hb.below h (Nat.le_refl _)) hL (by omega) hc hcm ha
  unfold EntTold at H1 H2
  unfold ArrTold at H3 H4
  unfold TabTold at H5 H6
  have hK := eK_ok (a := a) hb.1
  have hN := eN_le (l := l) (a := a) (by omega)
  have hM := arM_le (l := l) (a := a) (by omega)
  have hT := taNum_le (l := l) (a := a) (k := kd) (by omega)
  have d1 : decide ((900 : Int) < (n : Int)) = false := by simp; omega
  have d2 : ¬ (900 : Int) < (n : Int) := by omega
  generalize eNum l a 0 = S0 at *
  generalize eNum l a 8 = S8 at *
  generalize eNum l a 16 = S16 at *
  generalize eNum l a 40 = S40 at *
  generalize eK l a = K at *
  generalize eN l a = N at *
  generalize entC0 l a = CE at *
  generalize arX l a = AX at *
  generalize arM l a = M at *
  generalize ecode l a 6 8 8 = CA at *
  generalize taNum l a kd = T at *
  generalize tabC l a kd = CT at *
  generalize itA (bodyL l a) = fA at *
  generalize itH (bodyL l a) = fH at *
  generalize arF (bodyL l a) = fF at *
  generalize taA (bodyL l a) = fTa at *
  generalize taB (bodyL l a) = fTb at *
  clear hb hL
  go_enter Try.func3, Try.ntmps3
  go_upto_region 7 with (first
    | (go_at_call 8; (with_reducible refine (first_any _).mono ?_); rintro e w0 ⟨rfl, hb0⟩; have B0 := Lib.hid hb0; clear hb0)
    | (go_at_call 9; (with_reducible refine (H1.out _ B0.out).mono ?_); rintro e w1 ⟨A1, c1, rfl, hb1, hi1⟩; have I1 := Lib.hid hi1; have B1 := Lib.hid (B0.out.trans (hb1.mono B0.out.size)); clear hb1 hi1)
    | (refine wpList_store_row rfl 29 (.tmp 8) (.tmp 31) rfl w1.heap.size #[.int .u64 S0, .int .u64 S8, .int .u64 S16, .int .u8 (K 0), .int .u8 (K 1), .int .u8 (K 2), .int .u8 (K 3), .int .u8 (K 4), .int .u8 (K 5), .int .u8 (K 6), .int .u8 (K 7), .int .u8 (K 8), .int .u8 (K 9), .int .u8 (K 10), .int .u8 (K 11), .int .u8 (K 12), .int .u8 (K 13), .int .u8 (K 14), .int .u8 (K 15), .int .u64 S40, .slice A1 N c1] rfl rfl 29 zL.toArray (Blk.new w1 zL 29) entInfo rfl (ent_one _ _ _ _ _ _ _ _) ?_))
  have X1 := Lib.hid (show Blk ((w1.alloc (zC 29)).setRow w1.heap.size #[.int .u64 S0, .int .u64 S8, .int .u64 S16, .int .u8 (K 0), .int .u8 (K 1), .int .u8 (K 2), .int .u8 (K 3), .int .u8 (K 4), .int .u8 (K 5), .int .u8 (K 6), .int .u8 (K 7), .int .u8 (K 8), .int .u8 (K 9), .int .u8 (K 10), .int .u8 (K 11), .int .u8 (K 12), .int .u8 (K 13), .int .u8 (K 14), .int .u8 (K 15), .int .u64 S40, .slice A1 N c1]) w1.heap.size (entL S0 S8 S16 K S40 A1 N c1) 29 from Blk.setRow (show Blk (w1.alloc (zC 29)) w1.heap.size zL 29 from Blk.new w1 zL _) (entL S0 S8 S16 K S40 A1 N c1))
  have Y1 := Lib.hid (show Below w1.heap.size w1 ((w1.alloc (zC 29)).setRow w1.heap.size #[.int .u64 S0, .int .u64 S8, .int .u64 S16, .int .u8 (K 0), .int .u8 (K 1), .int .u8 (K 2), .int .u8 (K 3), .int .u8 (K 4), .int .u8 (K 5), .int .u8 (K 6), .int .u8 (K 7), .int .u8 (K 8), .int .u8 (K 9), .int .u8 (K 10), .int .u8 (K 11), .int .u8 (K 12), .int .u8 (K 13), .int .u8 (K 14), .int .u8 (K 15), .int .u64 S40, .slice A1 N c1]) from setRow_keepB ((Below.refl w1.heap.size w1).alloc (Nat.le_refl _) _) (Nat.le_refl _) _)
  have J1 := Lib.hid (I1.out.keep Y1.out)
  have Z1 := Lib.hid (B1.out.trans (Y1.out.mono B1.out.size))
  have L1 := Lib.hid X1.out.lt
  generalize (w1.alloc (zC 29)).setRow w1.heap.size #[.int .u64 S0, .int .u64 S8, .int .u64 S16, .int .u8 (K 0), .int .u8 (K 1), .int .u8 (K 2), .int .u8 (K 3), .int .u8 (K 4), .int .u8 (K 5), .int .u8 (K 6), .int .u8 (K 7), .int .u8 (K 8), .int .u8 (K 9), .int .u8 (K 10), .int .u8 (K 11), .int .u8 (K 12), .int .u8 (K 13), .int .u8 (K 14), .int .u8 (K 15), .int .u64 S40, .slice A1 N c1] = v1 at *
  clear Y1 I1
  go_upto_region 8 with (first
    | (go_at_call 10; (with_reducible refine (H2.out _ Z1.out).mono ?_); rintro e w2 ⟨A2, c2, rfl, hb2, hi2⟩; have I2 := Lib.hid hi2; have B2 := Lib.hid hb2; clear hb2 hi2)
    | (refine wpList_store_row rfl 34 (.tmp 10) (.tmp 37) rfl w2.heap.size #[.int .u64 S0, .int .u64 S8, .int .u64 S16, .int .u8 (K 0), .int .u8 (K 1), .int .u8 (K 2), .int .u8 (K 3), .int .u8 (K 4), .int .u8 (K 5), .int .u8 (K 6), .int .u8 (K 7), .int .u8 (K 8), .int .u8 (K 9), .int .u8 (K 10), .int .u8 (K 11), .int .u8 (K 12), .int .u8 (K 13), .int .u8 (K 14), .int .u8 (K 15), .int .u64 S40, .slice A2 N c2] rfl rfl 34 zL.toArray (Blk.new w2 zL 34) rentInfo rfl (ent_one _ _ _ _ _ _ _ _) ?_))
  have X2 := Lib.hid (show Blk ((w2.alloc (zC 34)).setRow w2.heap.size #[.int .u64 S0, .int .u64 S8, .int .u64 S16, .int .u8 (K 0), .int .u8 (K 1), .int .u8 (K 2), .int .u8 (K 3), .int .u8 (K 4), .int .u8 (K 5), .int .u8 (K 6), .int .u8 (K 7), .int .u8 (K 8), .int .u8 (K 9), .int .u8 (K 10), .int .u8 (K 11), .int .u8 (K 12), .int .u8 (K 13), .int .u8 (K 14), .int .u8 (K 15), .int .u64 S40, .slice A2 N c2]) w2.heap.size (entL S0 S8 S16 K S40 A2 N c2) 34 from Blk.setRow (show Blk (w2.alloc (zC 34)) w2.heap.size zL 34 from Blk.new w2 zL _) (entL S0 S8 S16 K S40 A2 N c2))
  have Y2 := Lib.hid (show Below w2.heap.size w2 ((w2.alloc (zC 34)).setRow w2.heap.size #[.int .u64 S0, .int .u64 S8, .int .u64 S16, .int .u8 (K 0), .int .u8 (K 1), .int .u8 (K 2), .int .u8 (K 3), .int .u8 (K 4), .int .u8 (K 5), .int .u8 (K 6), .int .u8 (K 7), .int .u8 (K 8), .int .u8 (K 9), .int .u8 (K 10), .int .u8 (K 11), .int .u8 (K 12), .int .u8 (K 13), .int .u8 (K 14), .int .u8 (K 15), .int .u64 S40, .slice A2 N c2]) from setRow_keepB ((Below.refl w2.heap.size w2).alloc (Nat.le_refl _) _) (Nat.le_refl _) _)
  have J2 := Lib.hid (I2.out.keep Y2.out)
  have V2 := Lib.hid (B2.out.trans (Y2.out.mono B2.out.size))
  have Z2 := Lib.hid (Z1.out.trans (V2.out.mono Z1.out.size))
  generalize (w2.alloc (zC 34)).setRow w2.heap.size #[.int .u64 S0, .int .u64 S8, .int .u64 S16, .int .u8 (K 0), .int .u8 (K 1), .int .u8 (K 2), .int .u8 (K 3), .int .u8 (K 4), .int .u8 (K 5), .int .u8 (K 6), .int .u8 (K 7), .int .u8 (K 8), .int .u8 (K 9), .int .u8 (K 10), .int .u8 (K 11), .int .u8 (K 12), .int .u8 (K 13), .int .u8 (K 14), .int .u8 (K 15), .int .u64 S40, .slice A2 N c2] = v2 at *
  clear Y2 I2 B2
  go_upto_region 9 with (go_at_call 11; (with_reducible refine (H3.out _ Z2.out).mono ?_); rintro e w3 ⟨A3, c3, rfl, hb3, hi3⟩; have I3 := Lib.hid hi3; have B3 := Lib.hid hb3; clear hb3 hi3)
  have X3 := Lib.hid (Blk.new w3 (aL AX A3 M c3) 39)
  have Y3 := Lib.hid ((Below.refl w3.heap.size w3).alloc (Nat.le_refl _) (.cells (aL AX A3 M c3).toArray 39))
  have J3 := Lib.hid (I3.out.below Y3.out)
  have V3 := Lib.hid (B3.out.trans (Y3.out.mono B3.out.size))
  have Z3 := Lib.hid (Z2.out.trans (V3.out.mono Z2.out.size))
  generalize w3.alloc (.cells (aL AX A3 M c3).toArray 39) = v3 at *
  clear Y3 I3 B3
  go_upto_region 10 with (go_at_call 12; (with_reducible refine (H4.out _ Z3.out).mono ?_); rintro e w4 ⟨A4, c4, rfl, hb4, hi4⟩; have I4 := Lib.hid hi4; have B4 := Lib.hid hb4; clear hb4 hi4)
  have X4 := Lib.hid (Blk.new w4 (aL AX A4 M c4) 42)
  have Y4 := Lib.hid ((Below.refl w4.heap.size w4).alloc (Nat.le_refl _) (.cells (aL AX A4 M c4).toArray 42))
  have J4 := Lib.hid (I4.out.below Y4.out)
  have V4 := Lib.hid (B4.out.trans (Y4.out.mono B4.out.size))
  have Z4 := Lib.hid (Z3.out.trans (V4.out.mono Z3.out.size))
  generalize w4.alloc (.cells (aL AX A4 M c4).toArray 42) = v4 at *
  clear Y4 I4 B4
  go_upto_region 12 with (first
    | (go_at_call 13; (with_reducible refine (H5.out _ Z4.out).mono ?_); rintro e w5 ⟨A5, c5, rfl, hb5, hi5⟩; have J5 := Lib.hid hi5; have V5 := Lib.hid hb5; have Z5 := Lib.hid (Z4.out.trans (hb5.mono Z4.out.size)); clear hb5 hi5)
    | (go_at_call 14; (with_reducible refine (H6.out _ Z5.out).mono ?_); rintro e w6 ⟨A6, c6, rfl, hb6, hi6⟩; have J6 := Lib.hid hi6; have V6 := Lib.hid hb6; have Z6 := Lib.hid (Z5.out.trans (hb6.mono Z5.out.size)); clear hb6 hi6))
  have U5 := Lib.hid V6.out
  have U4 := Lib.hid (V5.out.trans (V6.out.mono V5.out.size))
  have U3 := Lib.hid (V4.out.trans (U4.out.mono V4.out.size))
  have U2 := Lib.hid (V3.out.trans (U3.out.mono V3.out.size))
  have U1 := Lib.hid (V2.out.trans (U2.out.mono V2.out.size))
  have F1 := Lib.hid (X1.out.below U1.out X1.out.lt)
  have F2 := Lib.hid (X2.out.below U2.out X2.out.lt)
  have F3 := Lib.hid (X3.out.below U3.out X3.out.lt)
  have F4 := Lib.hid (X4.out.below U4.out X4.out.lt)
  have G1 := Lib.hid (J1.out.keep U1.out)
  have G2 := Lib.hid (J2.out.keep U2.out)
  have G3 := Lib.hid (J3.out.below U3.out)
  have G4 := Lib.hid (J4.out.below U4.out)
  have G5 := Lib.hid (J5.out.keep U5.out)
  have K1 := Lib.hid (sameEntry_yes S0 S8 S16 K S40 A1 A2 N c1 c2 fA fH w6 G1.out G2.out hN hK)
  have K2 := Lib.hid fun (W : World) (h : Below w6.heap.size w6 W) => sameArray_yes AX A3 A4 M c3 c4 fF W (G3.out.below h) (G4.out.below h) hM
  have K3 := Lib.hid fun (W : World) (h : Below w6.heap.size w6 W) => sameSlots_yes A5 A6 T c5 c6 fTa fTb W (G5.out.keep h) (J6.out.keep h) hT
  generalize w1.heap.size = g1 at *
  generalize w2.heap.size = g2 at *
  generalize w3.heap.size = g3 at *
  generalize w4.heap.size = g4 at *
  clear X1 X2 X3 X4 J1 J2 J3 J4 J5 U1 U2 U3 U4 U5 V2 V3 V4 V5 V6 H1 H2 H3 H4 H5 H6
  go_wp2_with (first
    | (refine wpList_load_row_want rfl 29 (.tmp 8) rfl g1 rfl 29 #[.int .u64 S0, .int .u64 S8, .int .u64 S16, .int .u8 (K 0), .int .u8 (K 1), .int .u8 (K 2), .int .u8 (K 3), .int .u8 (K 4), .int .u8 (K 5), .int .u8 (K 6), .int .u8 (K 7), .int .u8 (K 8), .int .u8 (K 9), .int .u8 (K 10), .int .u8 (K 11), .int .u8 (K 12), .int .u8 (K 13), .int .u8 (K 14), .int .u8 (K 15), .int .u64 S40, .slice A1 N c1] (0, 0) _ F1.out Try.underlying29 rfl entInfo ?_)
    | (refine wpList_load_row_want rfl 34 (.tmp 10) rfl g2 rfl 34 #[.int .u64 S0, .int .u64 S8, .int .u64 S16, .int .u8 (K 0), .int .u8 (K 1), .int .u8 (K 2), .int .u8 (K 3), .int .u8 (K 4), .int .u8 (K 5), .int .u8 (K 6), .int .u8 (K 7), .int .u8 (K 8), .int .u8 (K 9), .int .u8 (K 10), .int .u8 (K 11), .int .u8 (K 12), .int .u8 (K 13), .int .u8 (K 14), .int .u8 (K 15), .int .u64 S40, .slice A2 N c2] (0, 0) _ F2.out Try.underlying34 rfl rentInfo ?_)
    | (go_at_call 15; (with_reducible refine K1.out.mono ?_); rintro e w7 ⟨rfl, hb7⟩; have Q7 := Lib.hid hb7; have F3b := Lib.hid (F3.out.below hb7 F3.out.lt); have F4b := Lib.hid (F4.out.below hb7 F4.out.lt); clear hb7)
    | (refine wpList_load_row_want rfl 39 (.tmp 12) rfl g3 rfl 39 #[.int .u64 AX, .slice A3 M c3] (0, 0) _ F3b.out Try.underlying39 rfl arrInfo ?_)
    | (refine wpList_load_row_want rfl 42 (.tmp 14) rfl g4 rfl 42 #[.int .u64 AX, .slice A4 M c4] (0, 0) _ F4b.out Try.underlying42 rfl rarrInfo ?_)
    | (go_at_call 16; (with_reducible refine (K2.out _ Q7.out).mono ?_); rintro e w8 ⟨rfl, hb8⟩; have Q8 := Lib.hid (Q7.out.trans (hb8.mono Q7.out.size)); clear hb8)
    | (go_at_call 17; (with_reducible refine (K3.out _ Q8.out).mono ?_); rintro e w9 ⟨rfl, hb9⟩; have Q9 := Lib.hid (Q8.out.trans (hb9.mono Q8.out.size)); clear hb9))
  go_ret
  exact ⟨rfl, Z6.out.trans (Q9.out.mono Z6.out.size)⟩

theorem walk (a0 : Option Addr) (len0 cap0 : Nat) (z0 : List Int) (a1 : Int) (a2 : Int) (w : World) (w0 : IsRow .u8 w a0 len0 cap0 z0) (w1 : (Lit.int .u64 a1).wf = true) (w2 : (Lit.int .i64 a2).wf = true) :
    Calls Try.prog 3 #[.slice a0 len0 cap0, .int .u64 a1, .int .i64 a2] w fun e w' => e = .returned (.bool true) ∧ Below w.heap.size w w' := by
  obtain ⟨hb, hL, hcap, hmax, _⟩ := w0.bytes
  by_cases hn : 900 < len0
  · have d1 : decide ((900 : Int) < (len0 : Int)) = true := by simp; omega
    have d2 : (900 : Int) < (len0 : Int) := by omega
    clear hb hL w0
    go_enter Try.func3, Try.ntmps3
    go_wp2_with (go_at_call 8; (with_reducible refine (first_any _).mono ?_); rintro e w0 ⟨rfl, hb0⟩; have B0 := Lib.hid hb0; clear hb0)
    go_ret
    exact ⟨rfl, B0.out⟩
  · have h64 := bounds_u64 w1
    obtain ⟨a, rfl⟩ : ∃ a : Nat, a1 = (a : Int) := ⟨a1.toNat, by omega⟩
    exact walk_main a0 _ len0 cap0 a a2 w hb hL (by omega) hcap hmax (by omega)
end Go.Proofs.Ytoklhjooldfcfaa.EntrySaysW
