/-
  The walk of ObjBack.
-/
import Derived.Test.YtbfeomoafpgejaaOm
import Derived.Test.YtbfeomoafpgejaaSt
import Derived.Test.YtbfeomoafpgejaaNumb
import Derived.Deep.CutBlock
namespace Go.Proofs.Ytbfeomoafpgejaa.ObjBackW
open Go.ChangeShapes Go.WideShapes Go.ChangeAt Go.RowKit
open Bytes8 Blk8 Own8 OwnM OwnE LeA LeAl LeNum LeB LeP RefA RefB Ob Oc Od Oe Og Oh Oi Oj Ok7 Ff Fb Om Numb
set_option linter.unusedVariables false
set_option maxRecDepth 100000
set_option linter.unusedSimpArgs false

theorem make_zeros (p : Nat) (z : Int) (hz : z = (p : Int)) (hp : p ≤ 1000000) (w : World) : (Instr.makeSlice 22 (.int .i64 z) (.int .i64 z)).run Try.prog w = .ok (.slice (some ⟨w.heap.size, 0, none⟩) p p) (w.alloc (.cells (Array.replicate p (Value.int .u8 0)) 5)) := by
  subst hz
  obtain ⟨i, hi, hzz⟩ := Option.map_eq_some_iff.1 info8
  simp only [Prod.mk.injEq] at hzz
  obtain ⟨hz, hs, hb⟩ := hzz
  have h := run_make_row (P := Try.prog) 22 5 i (.int .u8 0) Try.underlying22 hi hz hs rfl .i64 .i64 p (by rw [hb]; omega) (by omega) w
  have e : madeCells #[Value.int .u8 0] p = Array.replicate p (Value.int .u8 0) := by
    apply Array.ext'
    rw [toList_madeCells_one]
    simp
  rw [e] at h
  exact h
theorem grown_one (w : World) (o : Obj) : w.heap.size ≤ (w.alloc o).drew.heap.size := by simp
theorem grown_one' (w : World) (o : Obj) : w.heap.size ≤ (w.alloc o).heap.size := by simp
theorem row_zeros (p : Nat) (w : World) : Row (w.alloc (.cells (Array.replicate p (Value.int .u8 0)) 5)) w.heap.size (List.replicate p 0) := by
  have h := Row.new w (List.replicate p 0)
  have e : ((List.replicate p (0 : Int)).map (Value.int .u8)).toArray = Array.replicate p (Value.int .u8 0) := by
    apply Array.ext'
    simp
  rw [e] at h
  exact h
theorem same_yes2 (a b : Option Addr) (l : List Int) (n c k d : Nat) (w : World) (ha : Bytes w a l) (hb : Bytes w b l) (hn : l.length = n) (hk : l.length = k) :
    Calls Try.prog 18 #[.slice a n c, .slice b k d] w fun e w' => e = .returned (.bool true) ∧ w = w' := by
  have h := same_any a b l l n c k d w ha hb hn hk
  rw [decide_eq_true (rfl : l = l)] at h
  exact h

set_option maxHeartbeats 1000000 in
theorem walk_long (x0 x1 x2 x3 x4 x5 : Int) (A : Option Addr) (n c : Nat) (p : Int) (w : World) (h : 300 < n ∨ n = 0) :
    Calls Try.prog 5 #[dataV x0 x1 x2 x3 x4 x5 A n c, .int .i64 p] w fun e w' => e = .returned (.bool true) ∧ Below w.heap.size w w' := by
  have P0 := Lib.hid (Blk.new w [.int .u64 x0, .int .u64 x1, .int .u64 x2, .int .u64 x3, .int .u64 x4, .int .u64 x5, .slice A n c] 33)
  have B0 := Lib.hid ((Below.refl w.heap.size w).alloc (Nat.le_refl _) (.cells #[.int .u64 x0, .int .u64 x1, .int .u64 x2, .int .u64 x3, .int .u64 x4, .int .u64 x5, .slice A n c] 33))
  rcases h with h | rfl
  all_goals
    go_enter Try.func5, Try.ntmps5
    go_wp2_with (go_at_call 8; (with_reducible refine (first_any _).mono ?_); rintro e w1 ⟨rfl, hbel⟩; have P1 := Lib.hid (P0.out.below hbel P0.out.lt); have a6 := P1.out.cell (i := 6) rfl; have B1 := Lib.hid (B0.out.trans (hbel.mono B0.out.size)); clear hbel)
    go_ret
    exact ⟨rfl, B1.out⟩

/-- What is read where it was put. -/
theorem back_data {p n a : Nat} {l : List Int} (x0 x1 x2 x3 x4 x5 : Int) (hv : I64 [x0, x1, x2, x3, x4, x5]) (hp : p = a) (h8 : a % 8 = 0) (hL : l.length = n) (h0 : 0 < n) (hn : n ≤ 300) :
    let b := List.replicate p (0 : Int) ++ objB 1 (nums [x0, x1, x2, x3, x4, x5] ++ l)
    bcode b a 1 6 = 0 ∧ (bnum b a 1 6 0 = x0 ∧ bnum b a 1 6 1 = x1 ∧ bnum b a 1 6 2 = x2 ∧ bnum b a 1 6 3 = x3 ∧ bnum b a 1 6 4 = x4 ∧ bnum b a 1 6 5 = x5) ∧ bpay b a 1 6 = l ∧ bcode b a 2 3 = 4 ∧ code b a = 0 ∧ kindL b a = 1 ∧ sizeL b a = 64 + (n : Int) := by
  intro b
  subst hp
  have h := put_nums (List.replicate p 0) [] l [x0, x1, x2, x3, x4, x5] 1 p 6 (by simp) h8 (by decide) (by decide) (by omega) hv rfl (by decide) (by omega)
  have h2 := put_other (List.replicate p 0) [] (nums [x0, x1, x2, x3, x4, x5] ++ l) 1 2 p 3 (by simp) h8 (by decide) (by decide) (by rw [List.length_append, nums_len, hL]; simp; omega) (by decide)
  have h3 := put_read (List.replicate p 0) [] (nums [x0, x1, x2, x3, x4, x5] ++ l) 1 p (by simp) h8 (by decide) (by decide) (by rw [List.length_append, nums_len, hL]; simp; omega)
  rw [List.append_nil] at h h2 h3
  obtain ⟨q1, q2, q3⟩ := h
  obtain ⟨r1, r2, r3, _⟩ := h3
  refine ⟨q1, ⟨(q2 0 (by decide)).trans rfl, (q2 1 (by decide)).trans rfl, (q2 2 (by decide)).trans rfl, (q2 3 (by decide)).trans rfl, (q2 4 (by decide)).trans rfl, (q2 5 (by decide)).trans rfl⟩, q3, h2, r1, r2, ?_⟩
  show sizeL (List.replicate p 0 ++ objB 1 (nums [x0, x1, x2, x3, x4, x5] ++ l)) p = _
  rw [r3, List.length_append, nums_len, hL]
  simp
  omega
theorem back_field {p n a : Nat} {l : List Int} (x0 x1 x3 : Int) (hv : I64 [x0, x1, x3]) (hp : p = a) (h8 : a % 8 = 0) (hL : l.length = n) (h0 : 0 < n) (hn : n ≤ 300) :
    let b := List.replicate p (0 : Int) ++ objB 2 (nums [x0, x1, x3] ++ l)
    bcode b a 2 3 = 0 ∧ (bnum b a 2 3 0 = x0 ∧ bnum b a 2 3 1 = x1 ∧ bnum b a 2 3 2 = x3) ∧ bpay b a 2 3 = l ∧ bcode b a 1 6 = 4 := by
  intro b
  subst hp
  have h := put_nums (List.replicate p 0) [] l [x0, x1, x3] 2 p 3 (by simp) h8 (by decide) (by decide) (by omega) hv rfl (by decide) (by omega)
  have h2 := put_other (List.replicate p 0) [] (nums [x0, x1, x3] ++ l) 2 1 p 6 (by simp) h8 (by decide) (by decide) (by rw [List.length_append, nums_len, hL]; simp; omega) (by decide)
  rw [List.append_nil] at h h2
  obtain ⟨q1, q2, q3⟩ := h
  exact ⟨q1, ⟨(q2 0 (by decide)).trans rfl, (q2 1 (by decide)).trans rfl, (q2 2 (by decide)).trans rfl⟩, q3, h2⟩

set_option maxHeartbeats 16000000 in
theorem walk_main (x0 x1 x2 x3 x4 x5 : Int) (A : Option Addr) (n c : Nat) (l : List Int) (ah : Int) (w : World) (hl : Bytes w A l) (hn : l.length = n) (h1 : n ≤ 300) (h0 : 0 < n) (hv : I64 [x0, x1, x2, x3, x4, x5]) :
    Calls Try.prog 5 #[dataV x0 x1 x2 x3 x4 x5 A n c, .int .i64 ah] w fun e w' => e = .returned (.bool true) ∧ Below w.heap.size w w' := by
  have hfv : I64 [x0, x1, x3] := three_I (hv _ (by simp)) (hv _ (by simp)) (hv _ (by simp))
  have P0 := Lib.hid (Blk.new w [.int .u64 x0, .int .u64 x1, .int .u64 x2, .int .u64 x3, .int .u64 x4, .int .u64 x5, .slice A n c] 33)
  have B0 := Lib.hid ((Below.refl w.heap.size w).alloc (Nat.le_refl _) (.cells #[.int .u64 x0, .int .u64 x1, .int .u64 x2, .int .u64 x3, .int .u64 x4, .int .u64 x5, .slice A n c] 33))
  obtain ⟨j, hj, hj20⟩ := below_nat ah 20 (by decide)
  have HNum := Lib.hid fun (W : World) => number_nat ah 20 j W (by decide) (by decide) hj.out
  have hmk := make_zeros (8 * j) (8 * (j : Int)) (by omega) (by omega)
  have HPd := Lib.hid fun (W : World) (h : Below w.heap.size w W) => putData_any x0 x1 x2 x3 x4 x5 A l n c W (hl.below h (Nat.le_refl _)) hn (by omega) hv
  have HPf := Lib.hid fun (W : World) (h : Below w.heap.size w W) => putField_any x0 x1 x3 A l n c W (hl.below h (Nat.le_refl _)) hn (by omega) hfv
  unfold Owned at HPd HPf
  have HD := back_data x0 x1 x2 x3 x4 x5 hv (rfl : 8 * j = 8 * j) (by omega) hn h0 h1
  have HF := back_field x0 x1 x3 hfv (rfl : 8 * j = 8 * j) (by omega) hn h0 h1
  have hp48 := padN_le (48 + n)
  have hp24 := padN_le (24 + n)
  have HlB := Lib.hid (show (objB 1 (nums [x0, x1, x2, x3, x4, x5] ++ l)).length = 16 + (48 + n) + padN (48 + n) by rw [objB_len, List.length_append, nums_len, hn]; rfl)
  have HlC := Lib.hid (show (objB 2 (nums [x0, x1, x3] ++ l)).length = 16 + (24 + n) + padN (24 + n) by rw [objB_len, List.length_append, nums_len, hn]; rfl)
  generalize hOB : objB 1 (nums [x0, x1, x2, x3, x4, x5] ++ l) = OB at *
  generalize hOC : objB 2 (nums [x0, x1, x3] ++ l) = OC at *
  clear hOB hOC
  obtain ⟨lb, hlb⟩ : ∃ x, x = 16 + (48 + n) + padN (48 + n) := ⟨_, rfl⟩
  obtain ⟨lc, hlc⟩ : ∃ x, x = 16 + (24 + n) + padN (24 + n) := ⟨_, rfl⟩
  rw [← hlb] at HPd HlB
  rw [← hlc] at HPf HlC
  have hb8 : (8 * j + lb) % 8 = 0 := by omega
  have hb9 : lb ≤ 400 := by omega
  have hc9 : lc ≤ 400 := by omega
  clear hlb hlc hp48 hp24
  obtain ⟨b, hb⟩ : ∃ x, x = List.replicate (8 * j) (0 : Int) ++ OB := ⟨_, rfl⟩
  obtain ⟨cc, hcc⟩ : ∃ x, x = List.replicate (8 * j) (0 : Int) ++ OC := ⟨_, rfl⟩
  rw [← hb] at HD
  rw [← hcc] at HF
  dsimp only at HD HF
  obtain ⟨d1, ⟨d2, d3, d4, d5, d6, d7⟩, d8, d9, d10, d11, d12⟩ := HD
  obtain ⟨f1, ⟨f2, f3, f4⟩, f5, f6⟩ := HF
  have hbl : b.length = 8 * j + lb := by rw [hb, List.length_append, List.length_replicate, HlB.out]
  have hcl : cc.length = 8 * j + lc := by rw [hcc, List.length_append, List.length_replicate, HlC.out]
  have HRd := Lib.hid fun (z : Int) (B : Option Addr) (cap : Nat) (W : World) (hz : z = ((8 * j : Nat) : Int)) (h : Bytes W B b) (h2 : 8 * j + lb ≤ cap) (h3 : cap ≤ maxLen) => hz ▸ readData_any B b (8 * j + lb) cap (8 * j) W h hbl (by omega) h2 h3 (by omega)
  have HRf := Lib.hid fun (z : Int) (B : Option Addr) (cap : Nat) (W : World) (hz : z = ((8 * j : Nat) : Int)) (h : Bytes W B cc) (h2 : 8 * j + lc ≤ cap) (h3 : cap ≤ maxLen) => hz ▸ readField_any B cc (8 * j + lc) cap (8 * j) W h hcl (by omega) h2 h3 (by omega)
  have HRdf := Lib.hid fun (z : Int) (B : Option Addr) (cap : Nat) (W : World) (hz : z = ((8 * j : Nat) : Int)) (h : Bytes W B b) (h2 : 8 * j + lb ≤ cap) (h3 : cap ≤ maxLen) => hz ▸ readField_any B b (8 * j + lb) cap (8 * j) W h hbl (by omega) h2 h3 (by omega)
  have HRfd := Lib.hid fun (z : Int) (B : Option Addr) (cap : Nat) (W : World) (hz : z = ((8 * j : Nat) : Int)) (h : Bytes W B cc) (h2 : 8 * j + lc ≤ cap) (h3 : cap ≤ maxLen) => hz ▸ readData_any B cc (8 * j + lc) cap (8 * j) W h hcl (by omega) h2 h3 (by omega)
  have HR := Lib.hid fun (z : Int) (B : Option Addr) (cap : Nat) (W : World) (hz : z = ((8 * j : Nat) : Int)) (h : Bytes W B b) (h2 : 8 * j + lb ≤ cap) (h3 : cap ≤ maxLen) => hz ▸ read_any B b (8 * j + lb) cap (8 * j) W h hbl (by omega) h2 h3 (by omega)
  unfold DataTold at HRd HRfd
  unfold FieldTold at HRf HRdf
  unfold FrTold at HR
  rw [d1, d2, d3, d4, d5, d6, d7, d8] at HRd
  rw [f1, f2, f3, f4, f5] at HRf
  rw [d9] at HRdf
  rw [f6] at HRfd
  rw [d10, d11, d12] at HR
  have Hb := Lib.hid hb
  have H8 := Lib.hid (show 8 * j ≤ maxLen by unfold maxLen; omega)
  have Hcc := Lib.hid hcc
  have HL := Lib.hid hn
  have Hl := Lib.hid hl
  have h1' : ¬ (300 : Int) < (n : Int) := by omega
  have h0' : ((n : Int) == 0) = false := by simp; omega
  generalize bnum b (8 * j) 2 3 0 = y0 at *
  generalize bnum b (8 * j) 2 3 1 = y1 at *
  generalize bnum b (8 * j) 2 3 2 = y2 at *
  generalize bpay b (8 * j) 2 3 = yp at *
  generalize bnum cc (8 * j) 1 6 0 = z0 at *
  generalize bnum cc (8 * j) 1 6 1 = z1 at *
  generalize bnum cc (8 * j) 1 6 2 = z2 at *
  generalize bnum cc (8 * j) 1 6 3 = z3 at *
  generalize bnum cc (8 * j) 1 6 4 = z4 at *
  generalize bnum cc (8 * j) 1 6 5 = z5 at *
  generalize bpay cc (8 * j) 1 6 = zp at *
  clear d1 d2 d3 d4 d5 d6 d7 d8 d9 d10 d11 d12 f1 f2 f3 f4 f5 f6 hl hv hfv hj hn hbl hcl hb hcc
  go_enter Try.func5, Try.ntmps5
  go_upto_region 7 with (first
    | (go_at_call 8; (with_reducible refine (first_any _).mono ?_); rintro e w1 ⟨rfl, hbel⟩; have P1 := Lib.hid (P0.out.below hbel P0.out.lt); have p1_0 := P1.out.cell (i := 0) rfl; have p1_1 := P1.out.cell (i := 1) rfl; have p1_2 := P1.out.cell (i := 2) rfl; have p1_3 := P1.out.cell (i := 3) rfl; have p1_4 := P1.out.cell (i := 4) rfl; have p1_5 := P1.out.cell (i := 5) rfl; have p1_6 := P1.out.cell (i := 6) rfl; have B1 := Lib.hid (B0.out.trans (hbel.mono B0.out.size)); have HLT := Lib.hid (Nat.lt_of_lt_of_le P0.out.lt hbel.size); clear hbel)
    | (go_at_call 25; (with_reducible refine (HNum.out _).mono ?_); rintro e w' ⟨rfl, rfl⟩))
  go_cut [6] from 37 to 41 (fun s wx => ∃ A3 c3, s = .slice A3 (8 * j + lb) c3 ∧ Hid (Own wx w1.heap.size A3 (8 * j + lb) c3 b) ∧ Hid (Blk wx w.heap.size [.int .u64 x0, .int .u64 x1, .int .u64 x2, .int .u64 x3, .int .u64 x4, .int .u64 x5, .slice A n c] 33) ∧ Hid (Below w.heap.size w wx) ∧ Hid (w1.heap.size ≤ wx.heap.size))
  case first =>
    have P1d := Lib.hid P1.out.drew
    have pd0 := P1d.out.cell (i := 0) rfl
    have pd1 := P1d.out.cell (i := 1) rfl
    have pd2 := P1d.out.cell (i := 2) rfl
    have pd3 := P1d.out.cell (i := 3) rfl
    have pd4 := P1d.out.cell (i := 4) rfl
    have pd5 := P1d.out.cell (i := 5) rfl
    have pd6 := P1d.out.cell (i := 6) rfl
    have P1a := Lib.hid (P1.out.alloc (.cells (Array.replicate (8 * j) (Value.int .u8 0)) 5)).drew
    have pa0 := P1a.out.cell (i := 0) rfl
    have pa1 := P1a.out.cell (i := 1) rfl
    have pa2 := P1a.out.cell (i := 2) rfl
    have pa3 := P1a.out.cell (i := 3) rfl
    have pa4 := P1a.out.cell (i := 4) rfl
    have pa5 := P1a.out.cell (i := 5) rfl
    have pa6 := P1a.out.cell (i := 6) rfl
    have B1a := Lib.hid (B1.out.alloc B1.out.size (.cells (Array.replicate (8 * j) (Value.int .u8 0)) 5)).drew
    have O1a := Lib.hid (own_row (row_zeros (8 * j) w1).drew (AllB.zeros _) (Nat.le_refl w1.heap.size) (n := 8 * j) (by simp) H8.out)
    have B1d := Lib.hid B1.out.drew
    go_region_held3 (fun w' => w'.cell? ⟨w.heap.size, 0, none⟩ = some (.int .u64 x0) ∧ w'.cell? ⟨w.heap.size, 1, none⟩ = some (.int .u64 x1) ∧ w'.cell? ⟨w.heap.size, 2, none⟩ = some (.int .u64 x2) ∧ w'.cell? ⟨w.heap.size, 3, none⟩ = some (.int .u64 x3) ∧ w'.cell? ⟨w.heap.size, 4, none⟩ = some (.int .u64 x4) ∧ w'.cell? ⟨w.heap.size, 5, none⟩ = some (.int .u64 x5) ∧ w'.cell? ⟨w.heap.size, 6, none⟩ = some (.slice A n c)) (first | (with_reducible exact ⟨pd0, pd1, pd2, pd3, pd4, pd5, pd6⟩) | (with_reducible exact ⟨pa0, pa1, pa2, pa3, pa4, pa5, pa6⟩) | (with_reducible exact ⟨p2_0, p2_1, p2_2, p2_3, p2_4, p2_5, p2_6⟩) | (with_reducible exact ⟨p3_0, p3_1, p3_2, p3_3, p3_4, p3_5, p3_6⟩) | (with_reducible exact ⟨p4_0, p4_1, p4_2, p4_3, p4_4, p4_5, p4_6⟩) | (with_reducible exact ⟨pb0, pb1, pb2, pb3, pb4, pb5, pb6⟩) | go_keep) (first
      | (refine step_append_bytes (o := ⟨some 41, _, _, _, _, _⟩) rfl (.tmp 38) (.tmp 40) rfl w1.heap.size _ (8 * j) _ _ rfl O2.out A2 _ c2 OB rfl Y2.out.bytes HlB.out (by omega) ?_; intro A3 c3 w3 ho3 hbel3; have O3 := Lib.hid ho3; have P3 := Lib.hid (P2.out.below hbel3 HLT.out); have p3_0 := P3.out.cell (i := 0) rfl; have p3_1 := P3.out.cell (i := 1) rfl; have p3_2 := P3.out.cell (i := 2) rfl; have p3_3 := P3.out.cell (i := 3) rfl; have p3_4 := P3.out.cell (i := 4) rfl; have p3_5 := P3.out.cell (i := 5) rfl; have p3_6 := P3.out.cell (i := 6) rfl; have B3 := Lib.hid (B2.out.trans (hbel3.mono B1.out.size)); have S3 := Lib.hid (Nat.le_trans HS2.out hbel3.size); clear ho3 hbel3)
      | (refine step_append_bytes (o := ⟨some 41, _, _, _, _, _⟩) rfl (.tmp 38) (.tmp 40) rfl w1.heap.size _ (8 * j) _ _ rfl O4.out A2 _ c2 OB rfl Y4.out.bytes HlB.out (by omega) ?_; intro A3 c3 w3 ho3 hbel3; have O3 := Lib.hid ho3; have P3 := Lib.hid (P5.out.below hbel3 HLT.out); have p3_0 := P3.out.cell (i := 0) rfl; have p3_1 := P3.out.cell (i := 1) rfl; have p3_2 := P3.out.cell (i := 2) rfl; have p3_3 := P3.out.cell (i := 3) rfl; have p3_4 := P3.out.cell (i := 4) rfl; have p3_5 := P3.out.cell (i := 5) rfl; have p3_6 := P3.out.cell (i := 6) rfl; have B3 := Lib.hid (B5.out.trans (hbel3.mono B1.out.size)); have S3 := Lib.hid (Nat.le_trans HS5.out hbel3.size); clear ho3 hbel3)
      | (go_at_call 21; (with_reducible refine (HPd.out _ B1a.out).mono ?_); rintro e w2 ⟨A2, c2, rfl, ho2, hbel2⟩; have P2 := Lib.hid (P1a.out.below hbel2 P1a.out.lt); have p2_0 := P2.out.cell (i := 0) rfl; have p2_1 := P2.out.cell (i := 1) rfl; have p2_2 := P2.out.cell (i := 2) rfl; have p2_3 := P2.out.cell (i := 3) rfl; have p2_4 := P2.out.cell (i := 4) rfl; have p2_5 := P2.out.cell (i := 5) rfl; have p2_6 := P2.out.cell (i := 6) rfl; have O2 := Lib.hid (O1a.out.kept hbel2 (Nat.le_refl _)); have Y2 := Lib.hid ho2; have B2 := Lib.hid (B1a.out.trans (hbel2.mono B1a.out.size)); have HS2 := Lib.hid (Nat.le_trans (grown_one w1 (.cells (Array.replicate (8 * j) (Value.int .u8 0)) 5)) hbel2.size); clear ho2 hbel2)
      | (go_at_call 21; (with_reducible refine (HPd.out _ B1d.out).mono ?_); rintro e w4 ⟨A2, c2, rfl, ho2, hbel2⟩; have P4 := Lib.hid (P1d.out.below hbel2 P1d.out.lt); have p4_0 := P4.out.cell (i := 0) rfl; have p4_1 := P4.out.cell (i := 1) rfl; have p4_2 := P4.out.cell (i := 2) rfl; have p4_3 := P4.out.cell (i := 3) rfl; have p4_4 := P4.out.cell (i := 4) rfl; have p4_5 := P4.out.cell (i := 5) rfl; have p4_6 := P4.out.cell (i := 6) rfl; have P5 := Lib.hid (P4.out.alloc (.cells (Array.replicate (8 * j) (Value.int .u8 0)) 5)); have pb0 := P5.out.cell (i := 0) rfl; have pb1 := P5.out.cell (i := 1) rfl; have pb2 := P5.out.cell (i := 2) rfl; have pb3 := P5.out.cell (i := 3) rfl; have pb4 := P5.out.cell (i := 4) rfl; have pb5 := P5.out.cell (i := 5) rfl; have pb6 := P5.out.cell (i := 6) rfl; have O4 := Lib.hid (own_row (row_zeros (8 * j) w4) (AllB.zeros _) (Nat.le_trans (Nat.le_refl w1.heap.size) hbel2.size) (n := 8 * j) (List.length_replicate ..) H8.out); have Y4 := Lib.hid (ho2.alloc (.cells (Array.replicate (8 * j) (Value.int .u8 0)) 5)); have B4 := Lib.hid (B1d.out.trans (hbel2.mono B1d.out.size)); have B5 := Lib.hid (B4.out.alloc B4.out.size (.cells (Array.replicate (8 * j) (Value.int .u8 0)) 5)); have HS5 := Lib.hid (Nat.le_trans (show w1.heap.size ≤ w4.heap.size from hbel2.size) (grown_one' w4 (.cells (Array.replicate (8 * j) (Value.int .u8 0)) 5))); clear ho2 hbel2))
    all_goals
      go_wp2_with fail
      go_meet
      case rel => exact ⟨A3, c3, rfl, Hb.out ▸ O3, P3, B3, S3⟩
  case rest =>
    obtain ⟨A3, c3, rfl, O3, P3, B3, S3⟩ := hcut
    clear P1 B1 p1_0 p1_1 p1_2 p1_3 p1_4 p1_5 p1_6
    have p3_0 := P3.out.cell (i := 0) rfl
    have p3_1 := P3.out.cell (i := 1) rfl
    have p3_2 := P3.out.cell (i := 2) rfl
    have p3_3 := P3.out.cell (i := 3) rfl
    have p3_4 := P3.out.cell (i := 4) rfl
    have p3_5 := P3.out.cell (i := 5) rfl
    have p3_6 := P3.out.cell (i := 6) rfl
    have hg7 : w1.heap.size ≤ wc.heap.size := S3.out
    go_upto_region 9 with fail
    have P6 := Lib.hid (P3.out.alloc (.cells #[.int .u64 x0, .int .u64 x1, .int .u64 x3, .slice A n c] 40))
    have F6 := Lib.hid (Blk.new wc [.int .u64 x0, .int .u64 x1, .int .u64 x3, .slice A n c] 40)
    have B6 := Lib.hid (B3.out.alloc B3.out.size (.cells #[.int .u64 x0, .int .u64 x1, .int .u64 x3, .slice A n c] 40))
    have O6 := Lib.hid (O3.out.alloc (.cells #[.int .u64 x0, .int .u64 x1, .int .u64 x3, .slice A n c] 40))
    have L6 := Lib.hid (show wc.heap.size < (wc.alloc (.cells #[.int .u64 x0, .int .u64 x1, .int .u64 x3, .slice A n c] 40)).heap.size by simp)
    generalize wc.alloc (.cells #[.int .u64 x0, .int .u64 x1, .int .u64 x3, .slice A n c] 40) = w6 at *
    generalize wc.heap.size = g7 at *
    have f6_0 := F6.out.cell (i := 0) rfl
    have f6_1 := F6.out.cell (i := 1) rfl
    have f6_2 := F6.out.cell (i := 2) rfl
    have f6_3 := F6.out.cell (i := 3) rfl
    clear p3_0 p3_1 p3_2 p3_3 p3_4 p3_5 p3_6 P3 B3
    have Y6 := Lib.hid O6.out.bytes
    have hcap := own_cap O6.out
    have HCap := Lib.hid hcap
    clear hcap O3 S3
    go_cut [8] from 51 to 55 (fun s wx => ∃ A8 c8, s = .slice A8 (8 * j + lc) c8 ∧ Hid (Own wx w6.heap.size A8 (8 * j + lc) c8 cc) ∧ Hid (Below w6.heap.size w6 wx))
    case first =>
      have F6d := Lib.hid F6.out.drew
      have fd0 := F6d.out.cell (i := 0) rfl
      have fd1 := F6d.out.cell (i := 1) rfl
      have fd2 := F6d.out.cell (i := 2) rfl
      have fd3 := F6d.out.cell (i := 3) rfl
      have F6a := Lib.hid (F6.out.alloc (.cells (Array.replicate (8 * j) (Value.int .u8 0)) 5)).drew
      have fa0 := F6a.out.cell (i := 0) rfl
      have fa1 := F6a.out.cell (i := 1) rfl
      have fa2 := F6a.out.cell (i := 2) rfl
      have fa3 := F6a.out.cell (i := 3) rfl
      have B6a := Lib.hid ((Below.refl w6.heap.size w6).alloc (Nat.le_refl _) (.cells (Array.replicate (8 * j) (Value.int .u8 0)) 5)).drew
      have B6d := Lib.hid (Below.refl w6.heap.size w6).drew
      have O6a := Lib.hid (own_row (row_zeros (8 * j) w6).drew (AllB.zeros _) (Nat.le_refl w6.heap.size) (n := 8 * j) (by simp) H8.out)
      go_region_held3 (fun w' => w'.cell? ⟨g7, 0, none⟩ = some (.int .u64 x0) ∧ w'.cell? ⟨g7, 1, none⟩ = some (.int .u64 x1) ∧ w'.cell? ⟨g7, 2, none⟩ = some (.int .u64 x3) ∧ w'.cell? ⟨g7, 3, none⟩ = some (.slice A n c)) (first | (with_reducible exact ⟨fd0, fd1, fd2, fd3⟩) | (with_reducible exact ⟨fa0, fa1, fa2, fa3⟩) | (with_reducible exact ⟨f7_0, f7_1, f7_2, f7_3⟩) | (with_reducible exact ⟨f8_0, f8_1, f8_2, f8_3⟩) | (with_reducible exact ⟨f9_0, f9_1, f9_2, f9_3⟩) | (with_reducible exact ⟨fb0, fb1, fb2, fb3⟩) | go_keep) (first
        | (refine step_append_bytes (o := ⟨some 55, _, _, _, _, _⟩) rfl (.tmp 52) (.tmp 54) rfl w6.heap.size _ (8 * j) _ _ rfl O7.out A7 _ c7 OC rfl Y7.out.bytes HlC.out (by omega) ?_; intro A8 c8 w8 ho3 hbel3; have O8 := Lib.hid ho3; have F8 := Lib.hid (F7.out.below hbel3 L6.out); have f8_0 := F8.out.cell (i := 0) rfl; have f8_1 := F8.out.cell (i := 1) rfl; have f8_2 := F8.out.cell (i := 2) rfl; have f8_3 := F8.out.cell (i := 3) rfl; have B8 := Lib.hid (B7.out.trans hbel3); clear ho3 hbel3)
        | (refine step_append_bytes (o := ⟨some 55, _, _, _, _, _⟩) rfl (.tmp 52) (.tmp 54) rfl w6.heap.size _ (8 * j) _ _ rfl O9.out A7 _ c7 OC rfl Y9.out.bytes HlC.out (by omega) ?_; intro A8 c8 w8 ho3 hbel3; have O8 := Lib.hid ho3; have F8 := Lib.hid (F10.out.below hbel3 L6.out); have f8_0 := F8.out.cell (i := 0) rfl; have f8_1 := F8.out.cell (i := 1) rfl; have f8_2 := F8.out.cell (i := 2) rfl; have f8_3 := F8.out.cell (i := 3) rfl; have B8 := Lib.hid (B10.out.trans hbel3); clear ho3 hbel3)
        | (go_at_call 23; (with_reducible refine (HPf.out _ (B6.out.trans (B6a.out.mono B6.out.size))).mono ?_); rintro e w7 ⟨A7, c7, rfl, ho2, hbel2⟩; have F7 := Lib.hid (F6a.out.below hbel2 F6a.out.lt); have f7_0 := F7.out.cell (i := 0) rfl; have f7_1 := F7.out.cell (i := 1) rfl; have f7_2 := F7.out.cell (i := 2) rfl; have f7_3 := F7.out.cell (i := 3) rfl; have O7 := Lib.hid (O6a.out.kept hbel2 (Nat.le_refl _)); have Y7 := Lib.hid ho2; have B7 := Lib.hid (B6a.out.trans (hbel2.mono B6a.out.size)); clear ho2 hbel2)
        | (go_at_call 23; (with_reducible refine (HPf.out _ (B6.out.trans (B6d.out.mono B6.out.size))).mono ?_); rintro e w9 ⟨A7, c7, rfl, ho2, hbel2⟩; have F9 := Lib.hid (F6d.out.below hbel2 F6d.out.lt); have f9_0 := F9.out.cell (i := 0) rfl; have f9_1 := F9.out.cell (i := 1) rfl; have f9_2 := F9.out.cell (i := 2) rfl; have f9_3 := F9.out.cell (i := 3) rfl; have F10 := Lib.hid (F9.out.alloc (.cells (Array.replicate (8 * j) (Value.int .u8 0)) 5)); have fb0 := F10.out.cell (i := 0) rfl; have fb1 := F10.out.cell (i := 1) rfl; have fb2 := F10.out.cell (i := 2) rfl; have fb3 := F10.out.cell (i := 3) rfl; have O9 := Lib.hid (own_row (row_zeros (8 * j) w9) (AllB.zeros _) (show w6.heap.size ≤ w9.heap.size from hbel2.size) (n := 8 * j) (List.length_replicate ..) H8.out); have Y9 := Lib.hid (ho2.alloc (.cells (Array.replicate (8 * j) (Value.int .u8 0)) 5)); have B9 := Lib.hid (B6d.out.trans (hbel2.mono B6d.out.size)); have B10 := Lib.hid (B9.out.alloc B9.out.size (.cells (Array.replicate (8 * j) (Value.int .u8 0)) 5)); clear ho2 hbel2))
      all_goals
        go_wp2_with fail
        go_meet
        case rel => exact ⟨A8, c8, rfl, Hcc.out ▸ O8, B8⟩
    case rest =>
      obtain ⟨A8, c8, rfl, O8, B8⟩ := hcut
      clear f6_0 f6_1 f6_2 f6_3
      have P8 := Lib.hid (P6.out.below B8.out P6.out.lt)
      have F8 := Lib.hid (F6.out.below B8.out F6.out.lt)
      have YB := Lib.hid (Y6.out.below B8.out (Nat.le_refl _))
      have YC := Lib.hid O8.out.bytes
      have BB := Lib.hid (B6.out.trans (B8.out.mono B6.out.size))
      have hcap8 := own_cap O8.out
      have HCap8 := Lib.hid hcap8
      clear hcap8 P6 F6 Y6 B6 O6 O8 B8
      have H8j := Lib.hid (show 8 * (j : Int) = ((8 * j : Nat) : Int) by omega)
      go_upto_region 15 with (first
        | (go_at_call 11; (with_reducible refine (HRd.out _ _ _ _ H8j.out YB.out HCap.out.1 HCap.out.2).mono ?_); rintro e w10 ⟨A10, n10, c10, rfl, hbel, hby, hpn, hpm⟩; have P10 := Lib.hid ((P8.out.below hbel P8.out.lt).alloc (.cells #[.int .u64 x0, .int .u64 x1, .int .u64 x2, .int .u64 x3, .int .u64 x4, .int .u64 x5, .slice A10 n10 c10] 33)); have F10 := Lib.hid ((F8.out.below hbel F8.out.lt).alloc (.cells #[.int .u64 x0, .int .u64 x1, .int .u64 x2, .int .u64 x3, .int .u64 x4, .int .u64 x5, .slice A10 n10 c10] 33)); have YB10 := Lib.hid ((YB.out.below hbel (Nat.le_refl _)).below ((Below.refl _ _).alloc (Nat.le_refl _) (.cells #[.int .u64 x0, .int .u64 x1, .int .u64 x2, .int .u64 x3, .int .u64 x4, .int .u64 x5, .slice A10 n10 c10] 33)) (Nat.le_refl _)); have YC10 := Lib.hid ((YC.out.below hbel (Nat.le_refl _)).below ((Below.refl _ _).alloc (Nat.le_refl _) (.cells #[.int .u64 x0, .int .u64 x1, .int .u64 x2, .int .u64 x3, .int .u64 x4, .int .u64 x5, .slice A10 n10 c10] 33)) (Nat.le_refl _)); have BB10 := Lib.hid ((BB.out.trans (hbel.mono BB.out.size)).alloc (BB.out.trans (hbel.mono BB.out.size)).size (.cells #[.int .u64 x0, .int .u64 x1, .int .u64 x2, .int .u64 x3, .int .u64 x4, .int .u64 x5, .slice A10 n10 c10] 33)); have X10 := Lib.hid (Blk.new w10 [.int .u64 x0, .int .u64 x1, .int .u64 x2, .int .u64 x3, .int .u64 x4, .int .u64 x5, .slice A10 n10 c10] 33); have VX10 := Lib.hid (hby.below ((Below.refl _ _).alloc (Nat.le_refl _) (.cells #[.int .u64 x0, .int .u64 x1, .int .u64 x2, .int .u64 x3, .int .u64 x4, .int .u64 x5, .slice A10 n10 c10] 33)) (Nat.le_refl _)); have NX := Lib.hid hpn; clear hbel hby hpn hpm)
        | (go_at_call 13; (with_reducible refine (HRf.out _ _ _ _ H8j.out YC10.out HCap8.out.1 HCap8.out.2).mono ?_); rintro e w11 ⟨A11, n11, c11, rfl, hbel, hby, hpn, hpm⟩; have P11 := Lib.hid ((P10.out.below hbel P10.out.lt).alloc (.cells #[.int .u64 x0, .int .u64 x1, .int .u64 x3, .slice A11 n11 c11] 40)); have F11 := Lib.hid ((F10.out.below hbel F10.out.lt).alloc (.cells #[.int .u64 x0, .int .u64 x1, .int .u64 x3, .slice A11 n11 c11] 40)); have X11 := Lib.hid ((X10.out.below hbel X10.out.lt).alloc (.cells #[.int .u64 x0, .int .u64 x1, .int .u64 x3, .slice A11 n11 c11] 40)); have YB11 := Lib.hid ((YB10.out.below hbel (Nat.le_refl _)).below ((Below.refl _ _).alloc (Nat.le_refl _) (.cells #[.int .u64 x0, .int .u64 x1, .int .u64 x3, .slice A11 n11 c11] 40)) (Nat.le_refl _)); have YC11 := Lib.hid ((YC10.out.below hbel (Nat.le_refl _)).below ((Below.refl _ _).alloc (Nat.le_refl _) (.cells #[.int .u64 x0, .int .u64 x1, .int .u64 x3, .slice A11 n11 c11] 40)) (Nat.le_refl _)); have VX11 := Lib.hid ((VX10.out.below hbel (Nat.le_refl _)).below ((Below.refl _ _).alloc (Nat.le_refl _) (.cells #[.int .u64 x0, .int .u64 x1, .int .u64 x3, .slice A11 n11 c11] 40)) (Nat.le_refl _)); have BB11 := Lib.hid ((BB10.out.trans (hbel.mono BB10.out.size)).alloc (BB10.out.trans (hbel.mono BB10.out.size)).size (.cells #[.int .u64 x0, .int .u64 x1, .int .u64 x3, .slice A11 n11 c11] 40)); have Y11 := Lib.hid (Blk.new w11 [.int .u64 x0, .int .u64 x1, .int .u64 x3, .slice A11 n11 c11] 40); have VY11 := Lib.hid (hby.below ((Below.refl _ _).alloc (Nat.le_refl _) (.cells #[.int .u64 x0, .int .u64 x1, .int .u64 x3, .slice A11 n11 c11] 40)) (Nat.le_refl _)); have NY := Lib.hid hpn; clear hbel hby hpn hpm)
        | (go_at_call 13; (with_reducible refine (HRdf.out _ _ _ _ H8j.out YB11.out HCap.out.1 HCap.out.2).mono ?_); rintro e w12 ⟨A12, n12, c12, rfl, hbel, hby, hpn, hpm⟩; have P12 := Lib.hid ((P11.out.below hbel P11.out.lt).alloc (.cells #[.int .u64 y0, .int .u64 y1, .int .u64 y2, .slice A12 n12 c12] 40)); have F12 := Lib.hid ((F11.out.below hbel F11.out.lt).alloc (.cells #[.int .u64 y0, .int .u64 y1, .int .u64 y2, .slice A12 n12 c12] 40)); have X12 := Lib.hid ((X11.out.below hbel X11.out.lt).alloc (.cells #[.int .u64 y0, .int .u64 y1, .int .u64 y2, .slice A12 n12 c12] 40)); have Y12 := Lib.hid ((Y11.out.below hbel Y11.out.lt).alloc (.cells #[.int .u64 y0, .int .u64 y1, .int .u64 y2, .slice A12 n12 c12] 40)); have YB12 := Lib.hid ((YB11.out.below hbel (Nat.le_refl _)).below ((Below.refl _ _).alloc (Nat.le_refl _) (.cells #[.int .u64 y0, .int .u64 y1, .int .u64 y2, .slice A12 n12 c12] 40)) (Nat.le_refl _)); have YC12 := Lib.hid ((YC11.out.below hbel (Nat.le_refl _)).below ((Below.refl _ _).alloc (Nat.le_refl _) (.cells #[.int .u64 y0, .int .u64 y1, .int .u64 y2, .slice A12 n12 c12] 40)) (Nat.le_refl _)); have VX12 := Lib.hid ((VX11.out.below hbel (Nat.le_refl _)).below ((Below.refl _ _).alloc (Nat.le_refl _) (.cells #[.int .u64 y0, .int .u64 y1, .int .u64 y2, .slice A12 n12 c12] 40)) (Nat.le_refl _)); have VY12 := Lib.hid ((VY11.out.below hbel (Nat.le_refl _)).below ((Below.refl _ _).alloc (Nat.le_refl _) (.cells #[.int .u64 y0, .int .u64 y1, .int .u64 y2, .slice A12 n12 c12] 40)) (Nat.le_refl _)); have BB12 := Lib.hid ((BB11.out.trans (hbel.mono BB11.out.size)).alloc (BB11.out.trans (hbel.mono BB11.out.size)).size (.cells #[.int .u64 y0, .int .u64 y1, .int .u64 y2, .slice A12 n12 c12] 40)); clear hbel hby hpn hpm)
        | (go_at_call 11; (with_reducible refine (HRfd.out _ _ _ _ H8j.out YC12.out HCap8.out.1 HCap8.out.2).mono ?_); rintro e w13 ⟨A13, n13, c13, rfl, hbel, hby, hpn, hpm⟩; have P13 := Lib.hid ((P12.out.below hbel P12.out.lt).alloc (.cells #[.int .u64 z0, .int .u64 z1, .int .u64 z2, .int .u64 z3, .int .u64 z4, .int .u64 z5, .slice A13 n13 c13] 33)); have F13 := Lib.hid ((F12.out.below hbel F12.out.lt).alloc (.cells #[.int .u64 z0, .int .u64 z1, .int .u64 z2, .int .u64 z3, .int .u64 z4, .int .u64 z5, .slice A13 n13 c13] 33)); have X13 := Lib.hid ((X12.out.below hbel X12.out.lt).alloc (.cells #[.int .u64 z0, .int .u64 z1, .int .u64 z2, .int .u64 z3, .int .u64 z4, .int .u64 z5, .slice A13 n13 c13] 33)); have Y13 := Lib.hid ((Y12.out.below hbel Y12.out.lt).alloc (.cells #[.int .u64 z0, .int .u64 z1, .int .u64 z2, .int .u64 z3, .int .u64 z4, .int .u64 z5, .slice A13 n13 c13] 33)); have YB13 := Lib.hid ((YB12.out.below hbel (Nat.le_refl _)).below ((Below.refl _ _).alloc (Nat.le_refl _) (.cells #[.int .u64 z0, .int .u64 z1, .int .u64 z2, .int .u64 z3, .int .u64 z4, .int .u64 z5, .slice A13 n13 c13] 33)) (Nat.le_refl _)); have YC13 := Lib.hid ((YC12.out.below hbel (Nat.le_refl _)).below ((Below.refl _ _).alloc (Nat.le_refl _) (.cells #[.int .u64 z0, .int .u64 z1, .int .u64 z2, .int .u64 z3, .int .u64 z4, .int .u64 z5, .slice A13 n13 c13] 33)) (Nat.le_refl _)); have VX13 := Lib.hid ((VX12.out.below hbel (Nat.le_refl _)).below ((Below.refl _ _).alloc (Nat.le_refl _) (.cells #[.int .u64 z0, .int .u64 z1, .int .u64 z2, .int .u64 z3, .int .u64 z4, .int .u64 z5, .slice A13 n13 c13] 33)) (Nat.le_refl _)); have VY13 := Lib.hid ((VY12.out.below hbel (Nat.le_refl _)).below ((Below.refl _ _).alloc (Nat.le_refl _) (.cells #[.int .u64 z0, .int .u64 z1, .int .u64 z2, .int .u64 z3, .int .u64 z4, .int .u64 z5, .slice A13 n13 c13] 33)) (Nat.le_refl _)); have BB13 := Lib.hid ((BB12.out.trans (hbel.mono BB12.out.size)).alloc (BB12.out.trans (hbel.mono BB12.out.size)).size (.cells #[.int .u64 z0, .int .u64 z1, .int .u64 z2, .int .u64 z3, .int .u64 z4, .int .u64 z5, .slice A13 n13 c13] 33)); clear hbel hby hpn hpm)
        | (go_at_call 9; (with_reducible refine (HR.out _ _ _ _ H8j.out YB13.out HCap.out.1 HCap.out.2).mono ?_); rintro e w14 ⟨rfl, hbel⟩; have P14 := Lib.hid ((P13.out.below hbel P13.out.lt).alloc (.cells #[.int .i64 1, .int .i64 0, .int .u64 (64 + (n : Int))] 26)); have F14 := Lib.hid ((F13.out.below hbel F13.out.lt).alloc (.cells #[.int .i64 1, .int .i64 0, .int .u64 (64 + (n : Int))] 26)); have X14 := Lib.hid ((X13.out.below hbel X13.out.lt).alloc (.cells #[.int .i64 1, .int .i64 0, .int .u64 (64 + (n : Int))] 26)); have Y14 := Lib.hid ((Y13.out.below hbel Y13.out.lt).alloc (.cells #[.int .i64 1, .int .i64 0, .int .u64 (64 + (n : Int))] 26)); have YB14 := Lib.hid ((YB13.out.below hbel (Nat.le_refl _)).below ((Below.refl _ _).alloc (Nat.le_refl _) (.cells #[.int .i64 1, .int .i64 0, .int .u64 (64 + (n : Int))] 26)) (Nat.le_refl _)); have YC14 := Lib.hid ((YC13.out.below hbel (Nat.le_refl _)).below ((Below.refl _ _).alloc (Nat.le_refl _) (.cells #[.int .i64 1, .int .i64 0, .int .u64 (64 + (n : Int))] 26)) (Nat.le_refl _)); have VX14 := Lib.hid ((VX13.out.below hbel (Nat.le_refl _)).below ((Below.refl _ _).alloc (Nat.le_refl _) (.cells #[.int .i64 1, .int .i64 0, .int .u64 (64 + (n : Int))] 26)) (Nat.le_refl _)); have VY14 := Lib.hid ((VY13.out.below hbel (Nat.le_refl _)).below ((Below.refl _ _).alloc (Nat.le_refl _) (.cells #[.int .i64 1, .int .i64 0, .int .u64 (64 + (n : Int))] 26)) (Nat.le_refl _)); have BB14 := Lib.hid ((BB13.out.trans (hbel.mono BB13.out.size)).alloc (BB13.out.trans (hbel.mono BB13.out.size)).size (.cells #[.int .i64 1, .int .i64 0, .int .u64 (64 + (n : Int))] 26)); have Z14 := Lib.hid (Blk.new w14 [.int .i64 1, .int .i64 0, .int .u64 (64 + (n : Int))] 26); clear hbel))
      generalize w14.alloc (.cells #[.int .i64 1, .int .i64 0, .int .u64 (64 + (n : Int))] 26) = W at *
      generalize w10.heap.size = g10 at *
      generalize w11.heap.size = g11 at *
      generalize w14.heap.size = g14 at *
      have p0' := P14.out.cell (i := 0) rfl
      have p1' := P14.out.cell (i := 1) rfl
      have p2' := P14.out.cell (i := 2) rfl
      have p3' := P14.out.cell (i := 3) rfl
      have p4' := P14.out.cell (i := 4) rfl
      have p5' := P14.out.cell (i := 5) rfl
      have p6' := P14.out.cell (i := 6) rfl
      have f0' := F14.out.cell (i := 0) rfl
      have f1' := F14.out.cell (i := 1) rfl
      have f2' := F14.out.cell (i := 2) rfl
      have f3' := F14.out.cell (i := 3) rfl
      have x0' := X14.out.cell (i := 0) rfl
      have x1' := X14.out.cell (i := 1) rfl
      have x2' := X14.out.cell (i := 2) rfl
      have x3' := X14.out.cell (i := 3) rfl
      have x4' := X14.out.cell (i := 4) rfl
      have x5' := X14.out.cell (i := 5) rfl
      have x6' := X14.out.cell (i := 6) rfl
      have y0' := Y14.out.cell (i := 0) rfl
      have y1' := Y14.out.cell (i := 1) rfl
      have y2' := Y14.out.cell (i := 2) rfl
      have y3' := Y14.out.cell (i := 3) rfl
      have z0' := Z14.out.cell (i := 0) rfl
      have z1' := Z14.out.cell (i := 1) rfl
      have z2' := Z14.out.cell (i := 2) rfl
      have HV := Lib.hid (Hl.out.below BB14.out (Nat.le_refl _))
      have hm8 : ((8 * j + lb : Nat) : Int) % 8 = 0 := by omega
      have hq1 := same_yes2 A10 A l n10 c10 n c W VX14.out HV.out NX.out HL.out
      have hq2 := same_yes2 A11 A l n11 c11 n c W VY14.out HV.out NY.out HL.out
      have HQ1 := Lib.hid hq1
      have HQ2 := Lib.hid hq2
      clear hq1 hq2 HRd HRf HRdf HRfd HR HPd HPf HNum hmk hb9 hc9
      go_wp2_with (first | (go_at_call 18; (with_reducible refine HQ1.out.mono ?_); rintro e w' ⟨rfl, rfl⟩) | (go_at_call 18; (with_reducible refine HQ2.out.mono ?_); rintro e w' ⟨rfl, rfl⟩))
      go_ret
      exact ⟨ret_bool (by simp; omega), BB14.out⟩

theorem walk (x0 x1 x2 x3 x4 x5 : Int) (A : Option Addr) (n c : Nat) (z : List Int) (ah : Int) (w : World) (hd : (Lit.int .u64 x0).wf = true ∧ (Lit.int .u64 x1).wf = true ∧ (Lit.int .u64 x2).wf = true ∧ (Lit.int .u64 x3).wf = true ∧ (Lit.int .u64 x4).wf = true ∧ (Lit.int .u64 x5).wf = true ∧ IsRow .u8 w A n c z) (hk : (Lit.int .i64 ah).wf = true) :
    Calls Try.prog 5 #[dataV x0 x1 x2 x3 x4 x5 A n c, .int .i64 ah] w fun e w' => e = .returned (.bool true) ∧ Below w.heap.size w w' := by
  obtain ⟨a0, a1, a2, a3, a4, a5, hz⟩ := hd
  obtain ⟨hb, hL, hcap, hmax, _⟩ := hz.bytes
  by_cases h1 : 300 < n ∨ n = 0
  · exact walk_long x0 x1 x2 x3 x4 x5 A n c ah w h1
  · exact walk_main x0 x1 x2 x3 x4 x5 A n c _ ah w hb hL (by omega) (by omega) (six_I (by have := bounds_u64 a0; omega) (by have := bounds_u64 a1; omega) (by have := bounds_u64 a2; omega) (by have := bounds_u64 a3; omega) (by have := bounds_u64 a4; omega) (by have := bounds_u64 a5; omega))
end Go.Proofs.Ytbfeomoafpgejaa.ObjBackW
