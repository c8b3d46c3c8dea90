/-
  The walk of FieldBack.
-/
import Derived.Test.YtmimfojlcihhaaaFf
import Derived.Test.YtmimfojlcihhaaaIn
namespace Go.Proofs.Ytmimfojlcihhaaa.FieldBackW
open Go.ChangeShapes Go.WideShapes Go.ChangeAt Go.RowKit
open Bytes8 Blk8 Fa Fb Fc Fsp Fe Ff
set_option linter.unusedVariables false
set_option linter.unusedSimpArgs false

theorem two_cells {w : World} {g : Nat} {a b : Value} {T : TypeId} (h : Blk w g [a, b] T) : w.cell? ⟨g, 0, none⟩ = some a ∧ w.cell? ⟨g, 1, none⟩ = some b ∧ (∀ o, (w.alloc o).cell? ⟨g, 0, none⟩ = some a) ∧ (∀ o, (w.alloc o).cell? ⟨g, 1, none⟩ = some b) :=
  ⟨h.cell (i := 0) rfl, h.cell (i := 1) rfl, fun o => (h.alloc o).cell (i := 0) rfl, fun o => (h.alloc o).cell (i := 1) rfl⟩

/-- Bytes of the call's own, and a code. -/
def Joins (J : List Int) (F : Int) (w : World) (e : Ending) (w' : World) : Prop := ∃ A c, e = .returned (.tuple #[.slice A J.length c, .int .i64 F]) ∧ Bytes w' A J ∧ Below w.heap.size w w'
theorem joins_any (n v : List Int) (hn : AllB n) (hv : AllB v) (w : World) : Calls Try.prog 11 #[.agg #[.string (T n), .string (T v)]] w (Joins (joinL n v) (flawI n v) w) :=
  (join_any n v hn hv w).mono fun e w' ⟨A, c, h1, h2, h3⟩ => ⟨A, c, h1, h2, h3.below⟩

theorem walk_long (n v l : List Int) (a : Option Addr) (len cap : Nat) (w : World) (h : 300 < n.length ∨ 400 < v.length ∨ 700 < len) :
    Calls Try.prog 5 #[pv n v, .slice a len cap] w fun e w' => e = .returned (.bool true) ∧ Below w.heap.size w w' := by
  have hsn := T_size n
  have hsv := T_size v
  have P0 := Lib.hid (Blk.new w [.string (T n), .string (T v)] 24)
  have B0 := Lib.hid ((Below.refl w.heap.size w).alloc (Nat.le_refl _) (.cells #[.string (T n), .string (T v)] 24))
  dsimp only [pv]
  generalize n.length = ln at *
  generalize v.length = lv at *
  generalize T n = S at *
  generalize T v = V at *
  by_cases h1 : 300 < ln
  · clear h
    go_enter Try.func5, Try.ntmps5
    go_wp2_with (go_at_call 8; (with_reducible refine (first_any _).mono ?_); rintro e w1 ⟨rfl, hbel⟩; have P1 := Lib.hid (P0.out.below hbel (by simp)); obtain ⟨a0, a1, a2, a3⟩ := two_cells P1.out; have B1 := Lib.hid (B0.out.trans (hbel.mono B0.out.size)); clear hbel)
    go_ret
    exact ⟨rfl, B1.out⟩
  by_cases h2 : 400 < lv
  · clear h
    go_enter Try.func5, Try.ntmps5
    go_wp2_with (go_at_call 8; (with_reducible refine (first_any _).mono ?_); rintro e w1 ⟨rfl, hbel⟩; have P1 := Lib.hid (P0.out.below hbel (by simp)); obtain ⟨a0, a1, a2, a3⟩ := two_cells P1.out; have B1 := Lib.hid (B0.out.trans (hbel.mono B0.out.size)); clear hbel)
    go_ret
    exact ⟨rfl, B1.out⟩
  · have h3 : 700 < len := by omega
    clear h
    go_enter Try.func5, Try.ntmps5
    go_wp2_with (go_at_call 8; (with_reducible refine (first_any _).mono ?_); rintro e w1 ⟨rfl, hbel⟩; have P1 := Lib.hid (P0.out.below hbel (by simp)); obtain ⟨a0, a1, a2, a3⟩ := two_cells P1.out; have B1 := Lib.hid (B0.out.trans (hbel.mono B0.out.size)); clear hbel)
    go_ret
    exact ⟨rfl, B1.out⟩

set_option maxRecDepth 100000 in
theorem walk_js (n v l : List Int) (a : Option Addr) (len cap : Nat) (w : World) (hn : AllB n) (hv : AllB v) (hb : Bytes w a l) (hL : l.length = len) (h1 : n.length ≤ 300) (h2 : v.length ≤ 400) (h3 : len ≤ 700) (hj : flawI n v = 0) (hs : splitE l = 0) :
    Calls Try.prog 5 #[pv n v, .slice a len cap] w fun e w' => e = .returned (.bool true) ∧ Below w.heap.size w w' := by
  have hsn := T_size n
  have hsv := T_size v
  have P0 := Lib.hid (Blk.new w [.string (T n), .string (T v)] 24)
  have B0 := Lib.hid ((Below.refl w.heap.size w).alloc (Nat.le_refl _) (.cells #[.string (T n), .string (T v)] 24))
  have L0 := Lib.hid (hb.below B0.out (Nat.le_refl _))
  have HJ := Lib.hid fun w => joins_any n v hn hv w
  have HR := Lib.hid fun w => right_any n v hn hv w
  have HS := Lib.hid fun w (hb : Bytes w a l) => split_any a l len cap w hb hL (by omega)
  unfold Splitted at HS
  have hjl : joinL n v = pay n v := if_pos hj
  have hpl := pay_len n v
  obtain ⟨q1, q2, q3⟩ := split_pay hj
  rw [hjl, hj] at HJ
  rw [hj] at HR
  have HX := Lib.hid fun w A c (hb : Bytes w A (pay n v)) => split_any A (pay n v) (pay n v).length c w hb rfl (by omega)
  unfold Splitted at HX
  rw [q1, q2, q3] at HX
  have heq := neq_pair hn hv hn hv
  rw [decide_eq_true (by exact ⟨rfl, rfl⟩ : n = n ∧ v = v)] at heq
  unfold Joins at HJ
  generalize pay n v = PP at *
  generalize hPl : PP.length = pl at *
  have hpl2 : pl ≤ 701 := by omega
  clear hjl q1 q2 q3 hpl hPl
  obtain ⟨r1, r2⟩ := pay_split hs
  have hjl2 : joinL (splitN l) (splitV l) = l := (if_pos r1).trans r2
  have HJ2 := Lib.hid fun w => joins_any (splitN l) (splitV l) (splitN_all hb.1) (splitV_all hb.1) w
  unfold Joins at HJ2
  rw [hjl2, r1, hL] at HJ2
  rw [hs] at HS
  have HSame := Lib.hid fun w A c (hx : Bytes w A l) (hy : Bytes w a l) => same_any A a l l len c len cap w hx hy hL hL
  rw [decide_eq_true rfl] at HSame
  dsimp only [pv] at *
  generalize T (splitN l) = SN at *
  generalize T (splitV l) = SV at *
  clear r1 r2 hjl2
  generalize n.length = ln at *
  generalize v.length = lv at *
  generalize T n = S at *
  generalize T v = V at *
  clear hn hv hb hL hj hs
  go_enter Try.func5, Try.ntmps5
  go_wp2_with (first
    | (go_at_call 8; (with_reducible refine (first_any _).mono ?_); rintro e w1 ⟨rfl, hbel⟩; have P1 := Lib.hid (P0.out.below hbel P0.out.lt); obtain ⟨a0, a1, a2, a3⟩ := two_cells P1.out; have B1 := Lib.hid (B0.out.trans (Below.mono hbel B0.out.size)); have L1 := Lib.hid (L0.out.below hbel (Nat.le_refl _)); clear hbel)
    | (go_at_call 11; (with_reducible refine (HJ.out _).mono ?_); rintro e w2 ⟨A2, c2, rfl, hJ, hbel⟩; have P2 := Lib.hid (P1.out.below hbel P1.out.lt); obtain ⟨a0, a1, a2, a3⟩ := two_cells P2.out; have B2 := Lib.hid (B1.out.trans (Below.mono hbel B1.out.size)); have L2 := Lib.hid (L1.out.below hbel (Nat.le_refl _)); have J2 := Lib.hid hJ; clear hbel hJ)
    | (go_at_call 14; (with_reducible refine (HR.out _).mono ?_); rintro e w3 ⟨rfl, hG⟩; have hbel := hG.below; have P3 := Lib.hid (P2.out.below hbel P2.out.lt); obtain ⟨a0, a1, a2, a3⟩ := two_cells P3.out; have B3 := Lib.hid (B2.out.trans (Below.mono hbel B2.out.size)); have L3 := Lib.hid (L2.out.below hbel (Nat.le_refl _)); have J3 := Lib.hid (J2.out.below hbel (Nat.le_refl _)); clear hbel hG)
    | (go_at_call 9; (with_reducible refine (HX.out _ _ _ J3.out).mono ?_); rintro e w4 ⟨rfl, hbel⟩; have P4 := Lib.hid (P3.out.below hbel P3.out.lt); obtain ⟨a0, a1, a2, a3⟩ := two_cells P4.out; have B4 := Lib.hid (B3.out.trans (Below.mono hbel B3.out.size)); have L4 := Lib.hid (L3.out.below hbel (Nat.le_refl _)); have P5 := Lib.hid (P4.out.alloc (.cells #[.string S, .string V] 24)); have B5 := Lib.hid (B4.out.alloc B4.out.size (.cells #[.string S, .string V] 24)); have L5 := Lib.hid (L4.out.below ((Below.refl _ _).alloc (Nat.le_refl _) (.cells #[.string S, .string V] 24)) (Nat.le_refl _)); clear hbel)
    | (go_at_call 9; (with_reducible refine (HS.out _ L5.out).mono ?_); rintro e w6 ⟨rfl, hbel⟩; have P6 := Lib.hid (P5.out.below hbel P5.out.lt); obtain ⟨a0, a1, a2, a3⟩ := two_cells P6.out; have B6 := Lib.hid (B5.out.trans (Below.mono hbel B5.out.size)); have L6 := Lib.hid (L5.out.below hbel (Nat.le_refl _)); have B7 := Lib.hid (B6.out.alloc B6.out.size (.cells #[.string SN, .string SV] 24)); have L7 := Lib.hid (L6.out.below ((Below.refl _ _).alloc (Nat.le_refl _) (.cells #[.string SN, .string SV] 24)) (Nat.le_refl _)); clear hbel)
    | (go_at_call 11; (with_reducible refine (HJ2.out _).mono ?_); rintro e w8 ⟨A8, c8, rfl, hJ, hbel⟩; have B8 := Lib.hid (B7.out.trans (Below.mono hbel B7.out.size)); have L8 := Lib.hid (L7.out.below hbel (Nat.le_refl _)); have J8 := Lib.hid hJ; clear hbel hJ)
    | (go_at_call 13; (with_reducible refine (HSame.out _ _ _ J8.out L8.out).mono ?_); rintro e w' ⟨rfl, rfl⟩))
  go_ret
  exact ⟨rfl, B8.out⟩

set_option maxRecDepth 100000 in
theorem walk_jn (n v l : List Int) (a : Option Addr) (len cap : Nat) (w : World) (hn : AllB n) (hv : AllB v) (hb : Bytes w a l) (hL : l.length = len) (h1 : n.length ≤ 300) (h2 : v.length ≤ 400) (h3 : len ≤ 700) (hj : flawI n v = 0) (hs : splitE l ≠ 0) :
    Calls Try.prog 5 #[pv n v, .slice a len cap] w fun e w' => e = .returned (.bool true) ∧ Below w.heap.size w w' := by
  have hsn := T_size n
  have hsv := T_size v
  have P0 := Lib.hid (Blk.new w [.string (T n), .string (T v)] 24)
  have B0 := Lib.hid ((Below.refl w.heap.size w).alloc (Nat.le_refl _) (.cells #[.string (T n), .string (T v)] 24))
  have L0 := Lib.hid (hb.below B0.out (Nat.le_refl _))
  have HJ := Lib.hid fun w => joins_any n v hn hv w
  have HR := Lib.hid fun w => right_any n v hn hv w
  have HS := Lib.hid fun w (hb : Bytes w a l) => split_any a l len cap w hb hL (by omega)
  unfold Splitted at HS
  have hjl : joinL n v = pay n v := if_pos hj
  have hpl := pay_len n v
  obtain ⟨q1, q2, q3⟩ := split_pay hj
  rw [hjl, hj] at HJ
  rw [hj] at HR
  have HX := Lib.hid fun w A c (hb : Bytes w A (pay n v)) => split_any A (pay n v) (pay n v).length c w hb rfl (by omega)
  unfold Splitted at HX
  rw [q1, q2, q3] at HX
  have heq := neq_pair hn hv hn hv
  rw [decide_eq_true (by exact ⟨rfl, rfl⟩ : n = n ∧ v = v)] at heq
  unfold Joins at HJ
  generalize pay n v = PP at *
  generalize hPl : PP.length = pl at *
  have hpl2 : pl ≤ 701 := by omega
  clear hjl q1 q2 q3 hpl hPl
  obtain ⟨r1, r2⟩ := split_not hs
  rw [r1, r2] at HS
  have hE2 : (splitE l != 0) = true := by simpa using hs
  have heq2 := eql_pair (n := []) (v := []) (m := []) (u := []) (fun x hx => by cases hx) (fun x hx => by cases hx) (fun x hx => by cases hx) (fun x hx => by cases hx)
  rw [decide_eq_true (by exact ⟨rfl, rfl⟩ : ([] : List Int) = [] ∧ ([] : List Int) = [])] at heq2
  dsimp only [pv] at *
  rw [← T_nil] at HS heq2
  generalize splitE l = E at *
  clear r1 r2
  generalize n.length = ln at *
  generalize v.length = lv at *
  generalize T n = S at *
  generalize T v = V at *
  clear hn hv hb hL hj hs
  go_enter Try.func5, Try.ntmps5
  go_wp2_with (first
    | (go_at_call 8; (with_reducible refine (first_any _).mono ?_); rintro e w1 ⟨rfl, hbel⟩; have P1 := Lib.hid (P0.out.below hbel P0.out.lt); obtain ⟨a0, a1, a2, a3⟩ := two_cells P1.out; have B1 := Lib.hid (B0.out.trans (Below.mono hbel B0.out.size)); have L1 := Lib.hid (L0.out.below hbel (Nat.le_refl _)); clear hbel)
    | (go_at_call 11; (with_reducible refine (HJ.out _).mono ?_); rintro e w2 ⟨A2, c2, rfl, hJ, hbel⟩; have P2 := Lib.hid (P1.out.below hbel P1.out.lt); obtain ⟨a0, a1, a2, a3⟩ := two_cells P2.out; have B2 := Lib.hid (B1.out.trans (Below.mono hbel B1.out.size)); have L2 := Lib.hid (L1.out.below hbel (Nat.le_refl _)); have J2 := Lib.hid hJ; clear hbel hJ)
    | (go_at_call 14; (with_reducible refine (HR.out _).mono ?_); rintro e w3 ⟨rfl, hG⟩; have hbel := hG.below; have P3 := Lib.hid (P2.out.below hbel P2.out.lt); obtain ⟨a0, a1, a2, a3⟩ := two_cells P3.out; have B3 := Lib.hid (B2.out.trans (Below.mono hbel B2.out.size)); have L3 := Lib.hid (L2.out.below hbel (Nat.le_refl _)); have J3 := Lib.hid (J2.out.below hbel (Nat.le_refl _)); clear hbel hG)
    | (go_at_call 9; (with_reducible refine (HX.out _ _ _ J3.out).mono ?_); rintro e w4 ⟨rfl, hbel⟩; have P4 := Lib.hid (P3.out.below hbel P3.out.lt); obtain ⟨a0, a1, a2, a3⟩ := two_cells P4.out; have B4 := Lib.hid (B3.out.trans (Below.mono hbel B3.out.size)); have L4 := Lib.hid (L3.out.below hbel (Nat.le_refl _)); have P5 := Lib.hid (P4.out.alloc (.cells #[.string S, .string V] 24)); have B5 := Lib.hid (B4.out.alloc B4.out.size (.cells #[.string S, .string V] 24)); have L5 := Lib.hid (L4.out.below ((Below.refl _ _).alloc (Nat.le_refl _) (.cells #[.string S, .string V] 24)) (Nat.le_refl _)); clear hbel)
    | (go_at_call 9; (with_reducible refine (HS.out _ L5.out).mono ?_); rintro e w6 ⟨rfl, hbel⟩; have P6 := Lib.hid (P5.out.below hbel P5.out.lt); obtain ⟨a0, a1, a2, a3⟩ := two_cells P6.out; have B6 := Lib.hid (B5.out.trans (Below.mono hbel B5.out.size)); have L6 := Lib.hid (L5.out.below hbel (Nat.le_refl _)); have B7 := Lib.hid (B6.out.alloc B6.out.size (.cells #[.string { data := #[] }, .string { data := #[] }] 24)); have L7 := Lib.hid (L6.out.below ((Below.refl _ _).alloc (Nat.le_refl _) (.cells #[.string { data := #[] }, .string { data := #[] }] 24)) (Nat.le_refl _)); clear hbel))
  go_ret
  exact ⟨rfl, B7.out⟩

set_option maxRecDepth 100000 in
theorem walk_ns (n v l : List Int) (a : Option Addr) (len cap : Nat) (w : World) (hn : AllB n) (hv : AllB v) (hb : Bytes w a l) (hL : l.length = len) (h1 : n.length ≤ 300) (h2 : v.length ≤ 400) (h3 : len ≤ 700) (hj : flawI n v ≠ 0) (hs : splitE l = 0) :
    Calls Try.prog 5 #[pv n v, .slice a len cap] w fun e w' => e = .returned (.bool true) ∧ Below w.heap.size w w' := by
  have hsn := T_size n
  have hsv := T_size v
  have P0 := Lib.hid (Blk.new w [.string (T n), .string (T v)] 24)
  have B0 := Lib.hid ((Below.refl w.heap.size w).alloc (Nat.le_refl _) (.cells #[.string (T n), .string (T v)] 24))
  have L0 := Lib.hid (hb.below B0.out (Nat.le_refl _))
  have HJ := Lib.hid fun w => joins_any n v hn hv w
  have HR := Lib.hid fun w => right_any n v hn hv w
  have HS := Lib.hid fun w (hb : Bytes w a l) => split_any a l len cap w hb hL (by omega)
  unfold Splitted at HS
  have hF : decide (flawI n v = 0) = false := decide_eq_false hj
  have hF2 : (flawI n v == 0) = false := by simpa using hj
  unfold Joins at HJ
  rw [hF] at HR
  generalize joinL n v = PP at *
  generalize PP.length = pl at *
  generalize flawI n v = F at *
  clear hF
  obtain ⟨r1, r2⟩ := pay_split hs
  have hjl2 : joinL (splitN l) (splitV l) = l := (if_pos r1).trans r2
  have HJ2 := Lib.hid fun w => joins_any (splitN l) (splitV l) (splitN_all hb.1) (splitV_all hb.1) w
  unfold Joins at HJ2
  rw [hjl2, r1, hL] at HJ2
  rw [hs] at HS
  have HSame := Lib.hid fun w A c (hx : Bytes w A l) (hy : Bytes w a l) => same_any A a l l len c len cap w hx hy hL hL
  rw [decide_eq_true rfl] at HSame
  dsimp only [pv] at *
  generalize T (splitN l) = SN at *
  generalize T (splitV l) = SV at *
  clear r1 r2 hjl2
  generalize n.length = ln at *
  generalize v.length = lv at *
  generalize T n = S at *
  generalize T v = V at *
  clear hn hv hb hL hj hs
  go_enter Try.func5, Try.ntmps5
  go_wp2_with (first
    | (go_at_call 8; (with_reducible refine (first_any _).mono ?_); rintro e w1 ⟨rfl, hbel⟩; have P1 := Lib.hid (P0.out.below hbel P0.out.lt); obtain ⟨a0, a1, a2, a3⟩ := two_cells P1.out; have B1 := Lib.hid (B0.out.trans (Below.mono hbel B0.out.size)); have L1 := Lib.hid (L0.out.below hbel (Nat.le_refl _)); clear hbel)
    | (go_at_call 11; (with_reducible refine (HJ.out _).mono ?_); rintro e w2 ⟨A2, c2, rfl, hJ, hbel⟩; have P2 := Lib.hid (P1.out.below hbel P1.out.lt); obtain ⟨a0, a1, a2, a3⟩ := two_cells P2.out; have B2 := Lib.hid (B1.out.trans (Below.mono hbel B1.out.size)); have L2 := Lib.hid (L1.out.below hbel (Nat.le_refl _)); have J2 := Lib.hid hJ; clear hbel hJ)
    | (go_at_call 14; (with_reducible refine (HR.out _).mono ?_); rintro e w3 ⟨rfl, hG⟩; have hbel := hG.below; have P3 := Lib.hid (P2.out.below hbel P2.out.lt); obtain ⟨a0, a1, a2, a3⟩ := two_cells P3.out; have B3 := Lib.hid (B2.out.trans (Below.mono hbel B2.out.size)); have L3 := Lib.hid (L2.out.below hbel (Nat.le_refl _)); have J3 := Lib.hid (J2.out.below hbel (Nat.le_refl _)); clear hbel hG)
    | (go_at_call 9; (with_reducible refine (HS.out _ L3.out).mono ?_); rintro e w6 ⟨rfl, hbel⟩; have P6 := Lib.hid (P3.out.below hbel P3.out.lt); obtain ⟨a0, a1, a2, a3⟩ := two_cells P6.out; have B6 := Lib.hid (B3.out.trans (Below.mono hbel B3.out.size)); have L6 := Lib.hid (L3.out.below hbel (Nat.le_refl _)); have B7 := Lib.hid (B6.out.alloc B6.out.size (.cells #[.string SN, .string SV] 24)); have L7 := Lib.hid (L6.out.below ((Below.refl _ _).alloc (Nat.le_refl _) (.cells #[.string SN, .string SV] 24)) (Nat.le_refl _)); clear hbel)
    | (go_at_call 11; (with_reducible refine (HJ2.out _).mono ?_); rintro e w8 ⟨A8, c8, rfl, hJ, hbel⟩; have B8 := Lib.hid (B7.out.trans (Below.mono hbel B7.out.size)); have L8 := Lib.hid (L7.out.below hbel (Nat.le_refl _)); have J8 := Lib.hid hJ; clear hbel hJ)
    | (go_at_call 13; (with_reducible refine (HSame.out _ _ _ J8.out L8.out).mono ?_); rintro e w' ⟨rfl, rfl⟩))
  go_ret
  exact ⟨rfl, B8.out⟩

set_option maxRecDepth 100000 in
theorem walk_nn (n v l : List Int) (a : Option Addr) (len cap : Nat) (w : World) (hn : AllB n) (hv : AllB v) (hb : Bytes w a l) (hL : l.length = len) (h1 : n.length ≤ 300) (h2 : v.length ≤ 400) (h3 : len ≤ 700) (hj : flawI n v ≠ 0) (hs : splitE l ≠ 0) :
    Calls Try.prog 5 #[pv n v, .slice a len cap] w fun e w' => e = .returned (.bool true) ∧ Below w.heap.size w w' := by
  have hsn := T_size n
  have hsv := T_size v
  have P0 := Lib.hid (Blk.new w [.string (T n), .string (T v)] 24)
  have B0 := Lib.hid ((Below.refl w.heap.size w).alloc (Nat.le_refl _) (.cells #[.string (T n), .string (T v)] 24))
  have L0 := Lib.hid (hb.below B0.out (Nat.le_refl _))
  have HJ := Lib.hid fun w => joins_any n v hn hv w
  have HR := Lib.hid fun w => right_any n v hn hv w
  have HS := Lib.hid fun w (hb : Bytes w a l) => split_any a l len cap w hb hL (by omega)
  unfold Splitted at HS
  have hF : decide (flawI n v = 0) = false := decide_eq_false hj
  have hF2 : (flawI n v == 0) = false := by simpa using hj
  unfold Joins at HJ
  rw [hF] at HR
  generalize joinL n v = PP at *
  generalize PP.length = pl at *
  generalize flawI n v = F at *
  clear hF
  obtain ⟨r1, r2⟩ := split_not hs
  rw [r1, r2] at HS
  have hE2 : (splitE l != 0) = true := by simpa using hs
  have heq2 := eql_pair (n := []) (v := []) (m := []) (u := []) (fun x hx => by cases hx) (fun x hx => by cases hx) (fun x hx => by cases hx) (fun x hx => by cases hx)
  rw [decide_eq_true (by exact ⟨rfl, rfl⟩ : ([] : List Int) = [] ∧ ([] : List Int) = [])] at heq2
  dsimp only [pv] at *
  rw [← T_nil] at HS heq2
  generalize splitE l = E at *
  clear r1 r2
  generalize n.length = ln at *
  generalize v.length = lv at *
  generalize T n = S at *
  generalize T v = V at *
  clear hn hv hb hL hj hs
  go_enter Try.func5, Try.ntmps5
  go_wp2_with (first
    | (go_at_call 8; (with_reducible refine (first_any _).mono ?_); rintro e w1 ⟨rfl, hbel⟩; have P1 := Lib.hid (P0.out.below hbel P0.out.lt); obtain ⟨a0, a1, a2, a3⟩ := two_cells P1.out; have B1 := Lib.hid (B0.out.trans (Below.mono hbel B0.out.size)); have L1 := Lib.hid (L0.out.below hbel (Nat.le_refl _)); clear hbel)
    | (go_at_call 11; (with_reducible refine (HJ.out _).mono ?_); rintro e w2 ⟨A2, c2, rfl, hJ, hbel⟩; have P2 := Lib.hid (P1.out.below hbel P1.out.lt); obtain ⟨a0, a1, a2, a3⟩ := two_cells P2.out; have B2 := Lib.hid (B1.out.trans (Below.mono hbel B1.out.size)); have L2 := Lib.hid (L1.out.below hbel (Nat.le_refl _)); have J2 := Lib.hid hJ; clear hbel hJ)
    | (go_at_call 14; (with_reducible refine (HR.out _).mono ?_); rintro e w3 ⟨rfl, hG⟩; have hbel := hG.below; have P3 := Lib.hid (P2.out.below hbel P2.out.lt); obtain ⟨a0, a1, a2, a3⟩ := two_cells P3.out; have B3 := Lib.hid (B2.out.trans (Below.mono hbel B2.out.size)); have L3 := Lib.hid (L2.out.below hbel (Nat.le_refl _)); have J3 := Lib.hid (J2.out.below hbel (Nat.le_refl _)); clear hbel hG)
    | (go_at_call 9; (with_reducible refine (HS.out _ L3.out).mono ?_); rintro e w6 ⟨rfl, hbel⟩; have P6 := Lib.hid (P3.out.below hbel P3.out.lt); obtain ⟨a0, a1, a2, a3⟩ := two_cells P6.out; have B6 := Lib.hid (B3.out.trans (Below.mono hbel B3.out.size)); have L6 := Lib.hid (L3.out.below hbel (Nat.le_refl _)); have B7 := Lib.hid (B6.out.alloc B6.out.size (.cells #[.string { data := #[] }, .string { data := #[] }] 24)); have L7 := Lib.hid (L6.out.below ((Below.refl _ _).alloc (Nat.le_refl _) (.cells #[.string { data := #[] }, .string { data := #[] }] 24)) (Nat.le_refl _)); clear hbel))
  go_ret
  exact ⟨rfl, B7.out⟩


theorem walk (n0 m0 : List Int) (a1 : Option Addr) (len1 cap1 : Nat) (z1 : List Int) (w : World) (w0 : AllB n0 ∧ AllB m0) (w1 : IsRow .u8 w a1 len1 cap1 z1) :
    Calls Try.prog 5 #[pv n0 m0, .slice a1 len1 cap1] w fun e w' => e = .returned (.bool true) ∧ Below w.heap.size w w' := by
  obtain ⟨hb, hL, hcap, hmax, _⟩ := w1.bytes
  by_cases h : 300 < n0.length ∨ 400 < m0.length ∨ 700 < len1
  · exact walk_long n0 m0 [] a1 len1 cap1 w h
  · by_cases hj : flawI n0 m0 = 0 <;> by_cases hs : splitE (z1.take len1) = 0
    · exact walk_js n0 m0 _ a1 len1 cap1 w w0.1 w0.2 hb hL (by omega) (by omega) (by omega) hj hs
    · exact walk_jn n0 m0 _ a1 len1 cap1 w w0.1 w0.2 hb hL (by omega) (by omega) (by omega) hj hs
    · exact walk_ns n0 m0 _ a1 len1 cap1 w w0.1 w0.2 hb hL (by omega) (by omega) (by omega) hj hs
    · exact walk_nn n0 m0 _ a1 len1 cap1 w w0.1 w0.2 hb hL (by omega) (by omega) (by omega) hj hs
end Go.Proofs.Ytmimfojlcihhaaa.FieldBackW
