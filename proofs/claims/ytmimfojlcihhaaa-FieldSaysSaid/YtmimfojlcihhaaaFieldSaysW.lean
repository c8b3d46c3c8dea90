/-
  The walk of FieldSays.
-/
import Derived.Test.YtmimfojlcihhaaaFo
import Derived.Test.YtmimfojlcihhaaaIn
namespace Go.Proofs.Ytmimfojlcihhaaa.FieldSaysW
open Go.ChangeShapes Go.WideShapes Go.ChangeAt Go.RowKit
open Bytes8 Blk8 Fa Fb Fc Fsp Fe Ff Fo
set_option linter.unusedVariables false
set_option linter.unusedSimpArgs false

theorem two_cells {w : World} {g : Nat} {a b : Value} {T : TypeId} (h : Blk w g [a, b] T) : w.cell? ⟨g, 0, none⟩ = some a ∧ w.cell? ⟨g, 1, none⟩ = some b ∧ (∀ o, (w.alloc o).cell? ⟨g, 0, none⟩ = some a) ∧ (∀ o, (w.alloc o).cell? ⟨g, 1, none⟩ = some b) :=
  ⟨h.cell (i := 0) rfl, h.cell (i := 1) rfl, fun o => (h.alloc o).cell (i := 0) rfl, fun o => (h.alloc o).cell (i := 1) rfl⟩
def Joins (J : List Int) (F : Int) (w : World) (e : Ending) (w' : World) : Prop := ∃ A c, e = .returned (.tuple #[.slice A J.length c, .int .i64 F]) ∧ Bytes w' A J ∧ Below w.heap.size w w'
theorem joins_any (n v : List Int) (hn : AllB n) (hv : AllB v) (w : World) : Calls Try.prog 11 #[.agg #[.string (T n), .string (T v)]] w (Joins (joinL n v) (flawI n v) w) :=
  (join_any n v hn hv w).mono fun e w' ⟨A, c, h1, h2, h3⟩ => ⟨A, c, h1, h2, h3.below⟩
theorem rjoins_any (n v : List Int) (hn : AllB n) (hv : AllB v) (hmax : n.length ≤ 1000000) (w : World) : Calls Try.prog 12 #[.agg #[.string (T n), .string (T v)]] w (Joins (joinL n v) (flawI n v) w) :=
  (rjoin_any n v hn hv hmax w).mono fun e w' ⟨A, c, h1, h2, h3⟩ => ⟨A, c, h1, h2, h3.below⟩
theorem same_grew (a b : Option Addr) (l : List Int) (n c d : Nat) (w : World) (ha : Bytes w a l) (hb : Bytes w b l) (hn : l.length = n) :
    Calls Try.prog 13 #[.slice a n c, .slice b n d] w fun e w' => e = .returned (.bool true) ∧ Grew w w' :=
  (same_any a b l l n c n d w ha hb hn hn).mono (by rintro e w' ⟨rfl, rfl⟩; exact ⟨by simp, Grew.refl _⟩)
theorem name_grew (l : List Int) (hA : AllB l) (w : World) : Calls Try.prog 16 #[.string (T l)] w fun e w' => e = .returned (.bool (nmB l)) ∧ Grew w w' :=
  (name_any l hA w).mono (by rintro e w' ⟨rfl, rfl⟩; exact ⟨rfl, Grew.refl _⟩)
theorem rname_grew (l : List Int) (hA : AllB l) (hmax : l.length ≤ 1000000) (w : World) : Calls Try.prog 17 #[.string (T l)] w fun e w' => e = .returned (.bool (nmB l)) ∧ Grew w w' :=
  (rname_any l hA hmax w).mono (by rintro e w' ⟨rfl, rfl⟩; exact ⟨rfl, Grew.refl _⟩)

set_option maxHeartbeats 4000000 in
set_option maxRecDepth 100000 in
theorem walk_long (n v m u : List Int) (a : Option Addr) (len cap : Nat) (w : World) (h : 700 < len ∨ 300 < n.length ∨ 300 < m.length ∨ 400 < v.length ∨ 400 < u.length) :
    Calls Try.prog 3 #[.slice a len cap, pv n v, pv m u] w fun e w' => e = .returned (.bool true) ∧ Below w.heap.size w w' := by
  have hsn := T_size n
  have hsv := T_size v
  have hsm := T_size m
  have hsu := T_size u
  have P0 := Lib.hid ((Blk.new w [.string (T n), .string (T v)] 24).alloc (box m u))
  have Q0 := Lib.hid (Blk.new_at (w.alloc (box n v)) [.string (T m), .string (T u)] 24 (w.heap.size + 1) (by simp))
  have B0 := Lib.hid (((Below.refl w.heap.size w).alloc (Nat.le_refl _) (box n v)).alloc (by simp) (box m u))
  dsimp only [pv, box] at *
  generalize n.length = ln at *
  generalize v.length = lv at *
  generalize m.length = lm at *
  generalize u.length = lu at *
  generalize T n = SN at *
  generalize T v = SV at *
  generalize T m = SM at *
  generalize T u = SU at *
  have hc : 700 < len ∨ ¬ 700 < len ∧ 300 < ln ∨ ¬ 700 < len ∧ ¬ 300 < ln ∧ 300 < lm ∨ ¬ 700 < len ∧ ¬ 300 < ln ∧ ¬ 300 < lm ∧ 400 < lv ∨ ¬ 700 < len ∧ ¬ 300 < ln ∧ ¬ 300 < lm ∧ ¬ 400 < lv ∧ 400 < lu := by omega
  clear h
  rcases hc with h1 | ⟨h1, h2⟩ | ⟨h1, h2, h3⟩ | ⟨h1, h2, h3, h4⟩ | ⟨h1, h2, h3, h4, h5⟩
  all_goals
    go_enter Try.func3, Try.ntmps3
    go_wp2_with (go_at_call 8; (with_reducible refine (first_any _).mono ?_); rintro e w1 ⟨rfl, hbel⟩; have P1 := Lib.hid (P0.out.below hbel P0.out.lt); have Q1 := Lib.hid (Q0.out.below hbel Q0.out.lt); obtain ⟨a0, a1, _, _⟩ := two_cells P1.out; obtain ⟨b0, b1, _, _⟩ := two_cells Q1.out; have B1 := Lib.hid (B0.out.trans (hbel.mono B0.out.size)); clear hbel)
    go_ret
    exact ⟨rfl, B1.out⟩

set_option maxHeartbeats 4000000 in
set_option maxRecDepth 100000 in
theorem walk_main (n v m u l : List Int) (a : Option Addr) (len cap : Nat) (w : World) (hn : AllB n) (hv : AllB v) (hm : AllB m) (hu : AllB u) (hb : Bytes w a l) (hL : l.length = len) (hcap : len ≤ cap) (hcap2 : cap ≤ maxLen) (h0 : len ≤ 700) (h1 : n.length ≤ 300) (h2 : m.length ≤ 300) (h3 : v.length ≤ 400) (h4 : u.length ≤ 400) :
    Calls Try.prog 3 #[.slice a len cap, pv n v, pv m u] w fun e w' => e = .returned (.bool true) ∧ Below w.heap.size w w' := by
  have hsn := T_size n
  have hsv := T_size v
  have hsm := T_size m
  have hsu := T_size u
  have P0 := Lib.hid ((Blk.new w [.string (T n), .string (T v)] 24).alloc (box m u))
  have Q0 := Lib.hid (Blk.new_at (w.alloc (box n v)) [.string (T m), .string (T u)] 24 (w.heap.size + 1) (by simp))
  have B0 := Lib.hid (((Below.refl w.heap.size w).alloc (Nat.le_refl _) (box n v)).alloc (by simp) (box m u))
  have L0 := Lib.hid (hb.below B0.out (Nat.le_refl _))
  have HS := Lib.hid fun w (hb : Bytes w a l) => split_any a l len cap w hb hL (by omega)
  have HRS := Lib.hid fun w (hb : Bytes w a l) => rsplit_any a l len cap w hb hL (by omega) hcap hcap2
  unfold Splitted at HS HRS
  have HJ := Lib.hid fun w => joins_any n v hn hv w
  have HRJ := Lib.hid fun w => rjoins_any n v hn hv (by omega) w
  unfold Joins at HJ HRJ
  have HSame := Lib.hid fun A B c d w (ha : Bytes w A (joinL n v)) (hb : Bytes w B (joinL n v)) => same_grew A B (joinL n v) (joinL n v).length c d w ha hb rfl
  have HR := Lib.hid fun w => right_any n v hn hv w
  have HRR := Lib.hid fun w => rright_any n v hn hv (by omega) w
  have HN := Lib.hid fun w => name_grew n hn w
  have HRN := Lib.hid fun w => rname_grew n hn (by omega) w
  have HLe := Lib.hid fun w => less_any n v m u hn hv hm hu (by omega) (by omega) w
  have HY1 := Lib.hid fun w => rpayload_grew n v (by omega) w
  have HY2 := Lib.hid fun w => rpayload_grew m u (by omega) w
  have hbl : Op.bytesLess (T (pay n v)).toList (T (pay m u)).toList = lessP n v m u := bytesLess_T (pay_all hn hv) (pay_all hm hu)
  have heq := eql_pair (splitN_all hb.1) (splitV_all hb.1) (splitN_all hb.1) (splitV_all hb.1)
  rw [decide_eq_true (by exact ⟨rfl, rfl⟩ : splitN l = splitN l ∧ splitV l = splitV l)] at heq
  have hmx : Try.prog.follows .mixedOrders = true := by kernel_rfl
  dsimp only [pv, box] at *
  generalize decide (flawI n v = 0) = r at *
  generalize flawI n v = F at *
  generalize joinL n v = J at *
  generalize J.length = lj at *
  generalize lessP n v m u = ls at *
  generalize nmB n = nb at *
  generalize T (pay n v) = S1 at *
  generalize T (pay m u) = S2 at *
  generalize splitE l = E at *
  generalize T (splitN l) = XN at *
  generalize T (splitV l) = XV at *
  generalize n.length = ln at *
  generalize v.length = lv at *
  generalize m.length = lm at *
  generalize u.length = lu at *
  generalize T n = SN at *
  generalize T v = SV at *
  generalize T m = SM at *
  generalize T u = SU at *
  clear hn hv hm hu hb hL
  go_enter Try.func3, Try.ntmps3
  go_wp2_with (first
    | (go_at_call 8; (with_reducible refine (first_any _).mono ?_); rintro e w1 ⟨rfl, hbel⟩; have P1 := Lib.hid (P0.out.below hbel P0.out.lt); have Q1 := Lib.hid (Q0.out.below hbel Q0.out.lt); obtain ⟨a0, a1, a2, a3⟩ := two_cells P1.out; obtain ⟨b0, b1, b2, b3⟩ := two_cells Q1.out; have B1 := Lib.hid (B0.out.trans (Below.mono hbel B0.out.size)); have L1 := Lib.hid (L0.out.below hbel (Nat.le_refl _)); clear hbel)
    | (go_at_call 9; (with_reducible refine (HS.out _ L1.out).mono ?_); rintro e w2 ⟨rfl, hbel⟩; have P2 := Lib.hid (P1.out.below hbel P1.out.lt); have Q2 := Lib.hid (Q1.out.below hbel Q1.out.lt); obtain ⟨a0, a1, a2, a3⟩ := two_cells P2.out; obtain ⟨b0, b1, b2, b3⟩ := two_cells Q2.out; have B2 := Lib.hid (B1.out.trans (Below.mono hbel B1.out.size)); have L2 := Lib.hid (L1.out.below hbel (Nat.le_refl _)); have P3 := Lib.hid (P2.out.alloc (.cells #[.string XN, .string XV] 24)); have Q3 := Lib.hid (Q2.out.alloc (.cells #[.string XN, .string XV] 24)); have X3 := Lib.hid (Blk.new w2 [.string XN, .string XV] 24); have B3 := Lib.hid (B2.out.alloc B2.out.size (.cells #[.string XN, .string XV] 24)); have L3 := Lib.hid (L2.out.below ((Below.refl _ _).alloc (Nat.le_refl _) (.cells #[.string XN, .string XV] 24)) (Nat.le_refl _)); clear hbel)
    | (go_at_call 10; (with_reducible refine (HRS.out _ L3.out).mono ?_); rintro e w4 ⟨rfl, hbel⟩; have P4 := Lib.hid (P3.out.below hbel P3.out.lt); have Q4 := Lib.hid (Q3.out.below hbel Q3.out.lt); have X4 := Lib.hid (X3.out.below hbel X3.out.lt); obtain ⟨a0, a1, a2, a3⟩ := two_cells P4.out; obtain ⟨b0, b1, b2, b3⟩ := two_cells Q4.out; have B4 := Lib.hid (B3.out.trans (Below.mono hbel B3.out.size)); have L4 := Lib.hid (L3.out.below hbel (Nat.le_refl _)); have P5 := Lib.hid (P4.out.alloc (.cells #[.string XN, .string XV] 24)); have Q5 := Lib.hid (Q4.out.alloc (.cells #[.string XN, .string XV] 24)); have X5 := Lib.hid (X4.out.alloc (.cells #[.string XN, .string XV] 24)); have Y5 := Lib.hid (Blk.new w4 [.string XN, .string XV] 24); have B5 := Lib.hid (B4.out.alloc B4.out.size (.cells #[.string XN, .string XV] 24)); have L5 := Lib.hid (L4.out.below ((Below.refl _ _).alloc (Nat.le_refl _) (.cells #[.string XN, .string XV] 24)) (Nat.le_refl _)); clear hbel)
    | (go_at_call 11; (with_reducible refine (HJ.out _).mono ?_); rintro e w6 ⟨A6, c6, rfl, hJ, hbel⟩; have P6 := Lib.hid (P5.out.below hbel P5.out.lt); have Q6 := Lib.hid (Q5.out.below hbel Q5.out.lt); have X6 := Lib.hid (X5.out.below hbel X5.out.lt); have Y6 := Lib.hid (Y5.out.below hbel Y5.out.lt); obtain ⟨a0, a1, a2, a3⟩ := two_cells P6.out; obtain ⟨b0, b1, b2, b3⟩ := two_cells Q6.out; have B6 := Lib.hid (B5.out.trans (Below.mono hbel B5.out.size)); have L6 := Lib.hid (L5.out.below hbel (Nat.le_refl _)); have J6 := Lib.hid hJ; clear hbel hJ)
    | (go_at_call 12; (with_reducible refine (HRJ.out _).mono ?_); rintro e w7 ⟨A7, c7, rfl, hJ, hbel⟩; have P7 := Lib.hid (P6.out.below hbel P6.out.lt); have Q7 := Lib.hid (Q6.out.below hbel Q6.out.lt); have X7 := Lib.hid (X6.out.below hbel X6.out.lt); have Y7 := Lib.hid (Y6.out.below hbel Y6.out.lt); obtain ⟨a0, a1, a2, a3⟩ := two_cells P7.out; obtain ⟨b0, b1, b2, b3⟩ := two_cells Q7.out; have B7 := Lib.hid (B6.out.trans (Below.mono hbel B6.out.size)); have L7 := Lib.hid (L6.out.below hbel (Nat.le_refl _)); have I7 := Lib.hid hJ; have J7 := Lib.hid (J6.out.below hbel (Nat.le_refl _)); clear hbel hJ))
  have p0 := cell_grown P7.out.lt (P7.out.cell (i := 0) rfl)
  have p1 := cell_grown P7.out.lt (P7.out.cell (i := 1) rfl)
  have q0 := cell_grown Q7.out.lt (Q7.out.cell (i := 0) rfl)
  have q1 := cell_grown Q7.out.lt (Q7.out.cell (i := 1) rfl)
  have x0 := cell_grown X7.out.lt (X7.out.cell (i := 0) rfl)
  have x1 := cell_grown X7.out.lt (X7.out.cell (i := 1) rfl)
  have y0 := cell_grown Y7.out.lt (Y7.out.cell (i := 0) rfl)
  have y1 := cell_grown Y7.out.lt (Y7.out.cell (i := 1) rfl)
  have K1 : Hid (∀ k os, Calls Try.prog 13 #[.slice A6 lj c6, .slice A7 lj c7] (Sort.grow (w7.drewN k) os) fun e w' => e = .returned (.bool true) ∧ ∃ q os', w' = Sort.grow ((Sort.grow (w7.drewN k) os).drewN q) os') := Lib.hid fun k os => HSame.out _ _ _ _ _ (J7.out.below (Grew.below ⟨k, os, rfl⟩) (Nat.le_refl _)) (I7.out.below (Grew.below ⟨k, os, rfl⟩) (Nat.le_refl _))
  have K2 : Hid (∀ k os, Calls Try.prog 14 #[.agg #[.string SN, .string SV]] (Sort.grow (w7.drewN k) os) fun e w' => e = .returned (.bool r) ∧ ∃ q os', w' = Sort.grow ((Sort.grow (w7.drewN k) os).drewN q) os') := Lib.hid fun k os => HR.out _
  have K3 : Hid (∀ k os, Calls Try.prog 15 #[.agg #[.string SN, .string SV]] (Sort.grow (w7.drewN k) os) fun e w' => e = .returned (.bool r) ∧ ∃ q os', w' = Sort.grow ((Sort.grow (w7.drewN k) os).drewN q) os') := Lib.hid fun k os => HRR.out _
  have K4 : Hid (∀ k os, Calls Try.prog 16 #[.string SN] (Sort.grow (w7.drewN k) os) fun e w' => e = .returned (.bool nb) ∧ ∃ q os', w' = Sort.grow ((Sort.grow (w7.drewN k) os).drewN q) os') := Lib.hid fun k os => HN.out _
  have K5 : Hid (∀ k os, Calls Try.prog 17 #[.string SN] (Sort.grow (w7.drewN k) os) fun e w' => e = .returned (.bool nb) ∧ ∃ q os', w' = Sort.grow ((Sort.grow (w7.drewN k) os).drewN q) os') := Lib.hid fun k os => HRN.out _
  have K6 : Hid (∀ k os, Calls Try.prog 18 #[.agg #[.string SN, .string SV], .agg #[.string SM, .string SU]] (Sort.grow (w7.drewN k) os) fun e w' => e = .returned (.bool ls) ∧ ∃ q os', w' = Sort.grow ((Sort.grow (w7.drewN k) os).drewN q) os') := Lib.hid fun k os => HLe.out _
  have K7 : Hid (∀ k os, Calls Try.prog 19 #[.agg #[.string SN, .string SV]] (Sort.grow (w7.drewN k) os) fun e w' => e = .returned (.string S1) ∧ ∃ q os', w' = Sort.grow ((Sort.grow (w7.drewN k) os).drewN q) os') := Lib.hid fun k os => HY1.out _
  have K8 : Hid (∀ k os, Calls Try.prog 19 #[.agg #[.string SM, .string SU]] (Sort.grow (w7.drewN k) os) fun e w' => e = .returned (.string S2) ∧ ∃ q os', w' = Sort.grow ((Sort.grow (w7.drewN k) os).drewN q) os') := Lib.hid fun k os => HY2.out _
  clear HSame HR HRR HN HRN HLe HY1 HY2 HS HRS HJ HRJ
  go_quiet_grown (first | (go_at_call 13; with_reducible refine Calls.grown_of (K1.out _ _)) | (go_at_call 14; with_reducible refine Calls.grown_of (K2.out _ _)) | (go_at_call 15; with_reducible refine Calls.grown_of (K3.out _ _)) | (go_at_call 16; with_reducible refine Calls.grown_of (K4.out _ _)) | (go_at_call 17; with_reducible refine Calls.grown_of (K5.out _ _)) | (go_at_call 18; with_reducible refine Calls.grown_of (K6.out _ _)) | (go_at_call 19; with_reducible refine Calls.grown_of (K7.out _ _)) | (go_at_call 19; with_reducible refine Calls.grown_of (K8.out _ _)))
  go_wp2
  go_ret
  refine ⟨ret_bool ?_, B7.out.trans (Below.mono (Grew.below ⟨nq, osq, rfl⟩) B7.out.size)⟩
  simp

theorem walk (a0 : Option Addr) (len0 cap0 : Nat) (z0 : List Int) (n1 m1 n2 m2 : List Int) (w : World) (w0 : IsRow .u8 w a0 len0 cap0 z0) (w1 : AllB n1 ∧ AllB m1) (w2 : AllB n2 ∧ AllB m2) :
    Calls Try.prog 3 #[.slice a0 len0 cap0, pv n1 m1, pv n2 m2] w fun e w' => e = .returned (.bool true) ∧ Below w.heap.size w w' := by
  obtain ⟨hb, hL, hcap, hmax, _⟩ := w0.bytes
  by_cases h : 700 < len0 ∨ 300 < n1.length ∨ 300 < n2.length ∨ 400 < m1.length ∨ 400 < m2.length
  · exact walk_long n1 m1 n2 m2 a0 len0 cap0 w h
  · exact walk_main n1 m1 n2 m2 _ a0 len0 cap0 w w1.1 w1.2 w2.1 w2.2 hb hL hcap hmax (by omega) (by omega) (by omega) (by omega) (by omega)
end Go.Proofs.Ytmimfojlcihhaaa.FieldSaysW
