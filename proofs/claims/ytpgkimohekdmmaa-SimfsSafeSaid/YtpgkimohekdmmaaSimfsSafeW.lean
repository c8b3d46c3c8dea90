/-
  The walk of SimfsSafe: at any bytes, any things that are done and any crash the law returns true, and nothing that was there is written.
-/
import Derived.Test.YtpgkimohekdmmaaDz
import Derived.Test.YtpgkimohekdmmaaDq
import Derived.Test.YtpgkimohekdmmaaDt
import Derived.Test.YtpgkimohekdmmaaDo6
import Derived.Test.YtpgkimohekdmmaaSB
import Derived.Test.YtpgkimohekdmmaaNumb
import Derived.BigQuiet
import Derived.Shelf.SlSortCmp.QuietGrown
namespace Go.Proofs.Ytpgkimohekdmmaa.SimfsSafeW
open Go.ChangeShapes Go.WideShapes Go.ChangeAt Go.RowKit
open Bytes8 Blk8 Own8 OwnA OwnM OwnE Fa Fb Fo Ta Ua Kf Dm Dp Dh Di Dj Dz Dq Dl Dx Pv8 Numb Keep8 Do6 Go.Maps
set_option linter.unusedVariables false
set_option linter.unusedSimpArgs false
set_option maxRecDepth 100000

theorem T_S : ({ data := #[115, 97, 102, 101] } : ByteArray) = T nS := by decide
theorem T_nil : ({ data := #[] } : ByteArray) = T [] := by decide
theorem nS_all : AllB nS := by unfold AllB nS; decide
def nm (j : Nat) : List Int := [97 + (j : Int)]
theorem nm_ok {j : Nat} (h : j < 4) : AllB (nm j) ∧ nm j ≠ nS ∧ (nm j).length ≤ 1000 := by
  refine ⟨fun c hc => ?_, fun e => ?_, by simp [nm]⟩
  · simp only [nm, List.mem_cons, List.not_mem_nil, or_false] at hc
    omega
  · have := congrArg List.length e
    simp [nm, nS] at this
theorem nameOf_small (X : List Int) {j : Nat} (h : j < 4) : nameOf X (j : Int) = nm j := by
  unfold nameOf nm numBelow
  rw [if_neg (by omega)]
  congr 1
  congr 1
  rw [Int.tmod_eq_emod_of_nonneg (by omega)]
  omega

set_option maxHeartbeats 1000000 in
theorem walk_long (a : Option Addr) (len cap : Nat) (a2 : Option Addr) (len2 cap2 : Nat) (a3 a4 : Int) (w : World) (h : 1000 < len ∨ 20 < len2) (hl : len ≤ 9223372036854775807) (hl2 : len2 ≤ 9223372036854775807) :
    Calls Try.prog 4 #[.slice a len cap, .slice a2 len2 cap2, .int .u64 a3, .int .i64 a4] w fun e w' => e = .returned (.bool true) ∧ Below w.heap.size w w' := by
  by_cases h : 1000 < len
  · have hd : (1000 : Int) < (len : Int) := by omega
    have hd1 : decide ((1000 : Int) < (len : Int)) = true := by simp; omega
    go_enter Try.func4, Try.ntmps4
    go_wp2_with (go_at_call 8; (with_reducible refine (first_any _).mono ?_); rintro e w1 ⟨rfl, hbel⟩)
    go_ret
    exact ⟨rfl, hbel⟩
  · have hd1 : decide ((1000 : Int) < (len : Int)) = false := by simp; omega
    have hd2 : decide ((20 : Int) < (len2 : Int)) = true := by simp; omega
    go_enter Try.func4, Try.ntmps4
    go_wp2_with (go_at_call 8; (with_reducible refine (first_any _).mono ?_); rintro e w1 ⟨rfl, hbel⟩)
    go_ret
    exact ⟨rfl, hbel⟩

set_option maxHeartbeats 8000000 in
theorem walk_in (a : Option Addr) (len cap : Nat) (a1 : Option Addr) (len1 cap1 : Nat) (D : Nat → DoV) (n : Nat) (dirs : Int) (l : List Int) (w : World) (hb : Bytes w a l) (hL : l.length = len) (hD : InDos w a1 len1 D) (h1 : len ≤ 1000) (h2 : len1 ≤ 20) (hn : n < 18446744073709551616) (hd1 : -9223372036854775808 ≤ dirs) (hd2 : dirs ≤ 9223372036854775807) :
    Calls Try.prog 4 #[.slice a len cap, .slice a1 len1 cap1, .int .u64 (n : Int), .int .i64 dirs] w fun e w' => e = .returned (.bool true) ∧ Below w.heap.size w w' := by
  have hmx : Try.prog.follows .mixedOrders = true := by kernel_rfl
  have HD := Lib.hid hD
  have HL := Lib.hid hL
  have HBy := Lib.hid hb
  have low : ∀ (A : Option Addr) (m : List Int), Bytes w A m → ∀ (k off : Nat), A = some ⟨k, off, none⟩ → 0 < m.length → k < w.heap.size := fun A m hb k off e hl => by
    obtain ⟨b', off', e', hlt, _⟩ := hb.2 0 hl
    rw [e] at e'; simp at e'; obtain ⟨rfl, rfl⟩ := e'; exact hlt
  have HLow := Lib.hid low
  have hLl : l.length ≤ 1000 := by omega
  have e46 : ((1048576 : Nat) : Int) = 1048576 := rfl
  have HNw := Lib.hid fun w1 (h : w.heap.size ≤ w1.heap.size) => new_b w1 w.heap.size h 1048576 (by omega) (by omega)
  rw [e46] at HNw
  have HM := Lib.hid fun w1 g (h : DirB w.heap.size w1 g (Dir.new 1048576)) => make_b w1 w.heap.size g _ h nS nS_all (by decide) (by show 0 < _; omega) (by show 0 < _; omega)
  rw [dS_make, ← T_S] at HM
  have HW := Lib.hid fun w1 g (h : DirB w.heap.size w1 g (dS [] [] [[]])) (hbl : Below w.heap.size w w1) => write_b w1 w1 w.heap.size g _ h (Below.refl _ _) nS nS_all (by decide) 0 a len cap l (hb.below hbl (Nat.le_refl _)) hL (by unfold maxLen; omega) (fun k off e h0 => .inl (low a l hb k off e h0)) (by omega) (by omega)
  rw [dS_write hLl, ← T_S] at HW
  have HS := Lib.hid fun w1 g (h : DirB w.heap.size w1 g (dS l [] [[]])) => sync_b w1 w.heap.size g _ h nS nS_all (by decide)
  rw [dS_sync, ← T_S] at HS
  have HSd := Lib.hid fun w1 g (h : DirB w.heap.size w1 g (dS l l [[]])) => syncDir_b w1 w.heap.size g _ h
  rw [dS_syncDir] at HSd
  have HSt := Lib.hid (dS_stays hb.1 hLl)
  have hq1 : decide ((1000 : Int) < (len : Int)) = false := by simp; omega
  have hq2 : decide ((20 : Int) < (len1 : Int)) = false := by simp; omega
  clear hb hL hD low e46 hLl
  go_enter Try.func4, Try.ntmps4
  go_wp2_with (first
    | (go_at_call 8; (with_reducible refine (first_any _).mono ?_); rintro e w1 ⟨rfl, hb1⟩; have HB1 := Lib.hid hb1; clear hb1)
    | (go_at_call 9; (with_reducible refine (HNw.out w1 HB1.out.size).mono ?_); rintro e w2 ⟨g, rfl, hD2, hb2⟩; have HD2 := Lib.hid hD2; have HB2 := Lib.hid (HB1.out.trans hb2); clear hD2 hb2)
    | (go_at_call 12; (with_reducible refine (HM.out w2 g HD2.out).mono ?_); rintro e w3 ⟨rfl, hD3, hb3⟩; have HD3 := Lib.hid hD3; have HB3 := Lib.hid (HB2.out.trans hb3); clear hD3 hb3)
    | (go_at_call 15; (with_reducible refine (HW.out w3 g HD3.out HB3.out).mono ?_); rintro e w4 ⟨rfl, hD4, hb4⟩; have HD4 := Lib.hid hD4; have HB4 := Lib.hid (HB3.out.trans hb4); clear hD4 hb4)
    | (go_at_call 16; (with_reducible refine (HS.out w4 g HD4.out).mono ?_); rintro e w5 ⟨rfl, hD5, hb5⟩; have HD5 := Lib.hid hD5; have HB5 := Lib.hid (HB4.out.trans hb5); clear hD5 hb5)
    | (go_at_call 17; (with_reducible refine (HSd.out w5 g HD5.out).mono ?_); rintro e w6 ⟨rfl, hD6, hb6⟩; have HD6 := Lib.hid hD6; have HB6 := Lib.hid (HB5.out.trans hb6); clear hD6 hb6))
  go_loopw [12] (fun i wr => ∃ (k : Nat) (d : Dir), k ≤ len1 ∧ i = .int .i64 (k : Int) ∧ Hid (Stays d nS l) ∧ Hid (d.made ≤ 1 + k ∧ d.past.length ≤ k) ∧ Hid (DirB w.heap.size wr g d) ∧ Hid (Below w.heap.size w wr)) (fun i _ => len1 - (RowKit.intOf i).toNat)
  case atStart => exact ⟨0, _, by omega, rfl, HSt, Lib.hid ⟨Nat.le_refl _, Nat.le_refl _⟩, HD6, HB6⟩
  case round =>
    obtain ⟨k, d, hk, rfl, hSt, hMo, hDi, hB⟩ := hrel
    clear HNw HM HW HS HSd HSt HD2 HB2 HD3 HB3 HD4 HB4 HD5 HB5 HD6 HB6 HB1
    rcases Nat.lt_or_ge k len1 with hlt | hge
    · have hin : (k : Int) < (len1 : Int) := by omega
      have hok : DoOk w (D k) := by
        obtain ⟨_, _, _, _, _, _, _, _, _, _, _, _, h⟩ := HD.out k hlt
        exact h
      obtain ⟨b, off, rfl, hbl, c0, c1, c2, c3, _, _, c6, _, _⟩ := (HD.out.below hB.out) k hlt
      generalize D k = dd at *
      obtain ⟨kd, ka, kb, kp, kn, X, A1, L1, C1, Z1, A2, L2, C2, K⟩ := dd
      obtain ⟨f0, f1, f2, f3, _, _, hrow, _⟩ := hok
      simp only at c0 c1 c2 c3 c6 f0 f1 f2 f3 hrow
      obtain ⟨p0, p1⟩ := bounds_i64 f3
      obtain ⟨hby, hBL, hcap1, hcap2, _⟩ := hrow.bytes
      generalize Z1.take L1 = body at hby hBL
      have HBody := Lib.hid hby
      have HBL := Lib.hid hBL
      have HBLow := Lib.hid (HLow.out A1 body hby)
      clear hby hBL hrow f0 f1 f2 f3
      by_cases hbig : 1500 < L1
      · have q1 : decide ((1500 : Int) < (L1 : Int)) = true := by simp; omega
        have q2 : (1500 : Int) < (L1 : Int) := by omega
        go_wp2
        go_ret
        exact ⟨rfl, hB.out⟩
      have q1 : ¬ (1500 : Int) < (L1 : Int) := by omega
      obtain ⟨ja, hja, hja4⟩ := below_nat ka 4 (by decide)
      obtain ⟨jb, hjb, hjb4⟩ := below_nat kb 4 (by decide)
      obtain ⟨q, hq, hq5⟩ := below_nat kd 5 (by decide)
      obtain ⟨a1, a2, a3⟩ := nm_ok (j := ja) (by omega)
      obtain ⟨b1, b2, b3⟩ := nm_ok (j := jb) (by omega)
      have HNA : Hid (∀ k os, Calls Try.prog 11 #[.int .i64 ka, .int .i64 4] (Sort.grow (wr.drewN k) os) fun e w' => e = .returned (.int .i64 (ja : Int)) ∧ ∃ q os', w' = Sort.grow ((Sort.grow (wr.drewN k) os).drewN q) os') := Lib.hid fun k os => (number_nat ka 4 ja _ (by decide) (by decide) hja.out).mono fun e w' ⟨h1, h2⟩ => ⟨h1, h2 ▸ Grew.refl _⟩
      have HNB : Hid (∀ k os, Calls Try.prog 11 #[.int .i64 kb, .int .i64 4] (Sort.grow (wr.drewN k) os) fun e w' => e = .returned (.int .i64 (jb : Int)) ∧ ∃ q os', w' = Sort.grow ((Sort.grow (wr.drewN k) os).drewN q) os') := Lib.hid fun k os => (number_nat kb 4 jb _ (by decide) (by decide) hjb.out).mono fun e w' ⟨h1, h2⟩ => ⟨h1, h2 ▸ Grew.refl _⟩
      obtain ⟨SA, hSA⟩ : ∃ SA, SA = T (nm ja) := ⟨_, rfl⟩
      obtain ⟨SB, hSB⟩ : ∃ SB, SB = T (nm jb) := ⟨_, rfl⟩
      have HCA : Hid (∀ k os, Calls Try.prog 18 #[.agg #[.int .i64 0, .int .i64 0, .int .i64 0, .int .i64 0, .int .i64 0, .string { data := #[] }, .slice none 0 0, .slice none 0 0], .int .i64 (ja : Int)] (Sort.grow (wr.drewN k) os) fun e w' => e = .returned (.string SA) ∧ ∃ q os', w' = Sort.grow ((Sort.grow (wr.drewN k) os).drewN q) os') := Lib.hid fun k os => by
        rw [hSA, ← nameOf_small [] (j := ja) (by omega), T_nil]
        exact name_any 0 0 0 0 0 [] none 0 0 none 0 0 (ja : Int) _
      have HCB : Hid (∀ k os, Calls Try.prog 18 #[.agg #[.int .i64 0, .int .i64 0, .int .i64 0, .int .i64 0, .int .i64 0, .string { data := #[] }, .slice none 0 0, .slice none 0 0], .int .i64 (jb : Int)] (Sort.grow (wr.drewN k) os) fun e w' => e = .returned (.string SB) ∧ ∃ q os', w' = Sort.grow ((Sort.grow (wr.drewN k) os).drewN q) os') := Lib.hid fun k os => by
        rw [hSB, ← nameOf_small [] (j := jb) (by omega), T_nil]
        exact name_any 0 0 0 0 0 [] none 0 0 none 0 0 (jb : Int) _
      have HSA := Lib.hid hSA
      have HSB := Lib.hid hSB
      clear hja hjb hSA hSB
      go_upto_region 16 with fail
      have x1 := cell_grown hbl c1
      have x2 := cell_grown hbl c2
      go_quiet_grown (first | (go_at_call 11; with_reducible refine Calls.grown_of (HNA.out _ _)) | (go_at_call 11; with_reducible refine Calls.grown_of (HNB.out _ _)) | (go_at_call 18; with_reducible refine Calls.grown_of (HCA.out _ _)) | (go_at_call 18; with_reducible refine Calls.grown_of (HCB.out _ _)))
      have hg := Grew.below (w := wr) ⟨nq, osq, rfl⟩
      clear x1 x2 HNA HNB HCA HCB
      generalize Sort.grow (wr.drewN nq) osq = W2 at *
      have d0 := (hg.cell (p := ⟨b, _, none⟩) hbl).trans c0
      have d3 := (hg.cell (p := ⟨b, _, none⟩) hbl).trans c3
      have d6 := (hg.cell (p := ⟨b, _, none⟩) hbl).trans c6
      have HD2 := Lib.hid (hDi.out.below hg)
      have HB2 := Lib.hid (hB.out.trans (hg.mono hB.out.size))
      obtain ⟨mo1, mo2⟩ := hMo.out
      have hm6 : d.made < 1000000 := by omega
      have hp6 : d.past.length < 1000000 := by omega
      clear c0 c1 c2 c3 c6 hg
      have hq6 : q = 0 ∨ q = 1 ∨ q = 2 ∨ q = 3 ∨ q = 4 := by omega
      rcases hq6 with rfl | rfl | rfl | rfl | rfl
      · have HQ : Hid (numBelow kd 5 = 0) := hq
        have HNQ := Lib.hid fun w => number_any kd 5 w (by decide) (by decide)
        rw [HQ.out] at HNQ
        have HC := Lib.hid (make_b W2 w.heap.size g d HD2.out (nm ja) a1 a3 hm6 hp6)
        rw [← HSA.out] at HC
        have HSt2 := Lib.hid (stays_make hSt.out a2)
        have hmo := more_make d (nm ja)
        have HMo2 := Lib.hid (show (d.make (nm ja)).2.made ≤ 1 + (k + 1) ∧ (d.make (nm ja)).2.past.length ≤ k + 1 from ⟨by have := hmo.1; omega, by have := hmo.2; omega⟩)
        generalize d.make (nm ja) = r at *
        clear hmo hq
        go_wp2_with (first
          | (go_at_call 11; (with_reducible refine (HNQ.out _).mono ?_); rintro e w' ⟨rfl, rfl⟩)
          | (go_at_call 12; (with_reducible refine HC.out.mono ?_); rintro e w3 ⟨rfl, hD3, hb3⟩; have HD3 := Lib.hid hD3; have HB3 := Lib.hid (HB2.out.trans hb3); clear hD3 hb3))
        go_roundw
        case rel => exact ⟨k + 1, _, by omega, by go_num, HSt2, HMo2, HD3, HB3⟩
        case measure => simp [RowKit.intOf]; omega
      · have HQ : Hid (numBelow kd 5 = 1) := hq
        have HNQ := Lib.hid fun w => number_any kd 5 w (by decide) (by decide)
        rw [HQ.out] at HNQ
        have hbd : Below W2.heap.size W2 W2.drew := below_drewN (Below.refl _ _) 1
        have HBd := Lib.hid (show Below w.heap.size w W2.drew from below_drewN HB2.out 1)
        have HC := Lib.hid (write_b W2.drew W2.drew w.heap.size g d (HD2.out.below hbd) (Below.refl _ _) (nm ja) a1 a3 kp A1 L1 C1 body (HBody.out.below HBd.out (Nat.le_refl _)) HBL.out (by unfold maxLen at *; omega) (fun k off e h0 => .inl (HBLow.out k off e h0)) p0 p1)
        rw [← HSA.out] at HC
        have HSt2 := Lib.hid (stays_write hSt.out a2 kp HBody.out.1)
        have hmo := more_write d (nm ja) kp body
        have HMo2 := Lib.hid (show (d.write (nm ja) kp body).2.made ≤ 1 + (k + 1) ∧ (d.write (nm ja) kp body).2.past.length ≤ k + 1 from ⟨by have := hmo.1; omega, by have := hmo.2; omega⟩)
        generalize d.write (nm ja) kp body = r at *
        clear hmo hq hbd
        go_wp2_with (go_at_call 11; (with_reducible refine (HNQ.out _).mono ?_); rintro e w' ⟨rfl, rfl⟩)
        go_region_law (go_simp; go_at_call 15; (with_reducible refine HC.out.mono ?_); rintro e w3 ⟨rfl, hD3, hb3⟩; have HD3 := Lib.hid hD3; have HB3 := Lib.hid (HBd.out.trans hb3); clear hD3 hb3)
        all_goals
          go_wp2
          go_roundw
          case rel => exact ⟨k + 1, _, by omega, by go_num, HSt2, HMo2, HD3, HB3⟩
          case measure => simp [RowKit.intOf]; omega
      · have HQ : Hid (numBelow kd 5 = 2) := hq
        have HNQ := Lib.hid fun w => number_any kd 5 w (by decide) (by decide)
        rw [HQ.out] at HNQ
        have HC := Lib.hid (rename_b W2 w.heap.size g d HD2.out (nm ja) (nm jb) a1 a3 b1 b3 hp6)
        rw [← HSA.out, ← HSB.out] at HC
        have HSt2 := Lib.hid (stays_rename hSt.out a2 b2)
        have hmo := more_rename d (nm ja) (nm jb)
        have HMo2 := Lib.hid (show (d.rename (nm ja) (nm jb)).2.made ≤ 1 + (k + 1) ∧ (d.rename (nm ja) (nm jb)).2.past.length ≤ k + 1 from ⟨by have := hmo.1; omega, by have := hmo.2; omega⟩)
        generalize d.rename (nm ja) (nm jb) = r at *
        clear hmo hq
        go_wp2_with (first
          | (go_at_call 11; (with_reducible refine (HNQ.out _).mono ?_); rintro e w' ⟨rfl, rfl⟩)
          | (go_at_call 19; (with_reducible refine HC.out.mono ?_); rintro e w3 ⟨rfl, hD3, hb3⟩; have HD3 := Lib.hid hD3; have HB3 := Lib.hid (HB2.out.trans hb3); clear hD3 hb3))
        go_roundw
        case rel => exact ⟨k + 1, _, by omega, by go_num, HSt2, HMo2, HD3, HB3⟩
        case measure => simp [RowKit.intOf]; omega
      · have HQ : Hid (numBelow kd 5 = 3) := hq
        have HNQ := Lib.hid fun w => number_any kd 5 w (by decide) (by decide)
        rw [HQ.out] at HNQ
        have HC := Lib.hid (drop_b W2 w.heap.size g d HD2.out (nm ja) a1 a3 hp6)
        rw [← HSA.out] at HC
        have HSt2 := Lib.hid (stays_drop hSt.out a2)
        have hmo := more_drop d (nm ja)
        have HMo2 := Lib.hid (show (d.drop (nm ja)).2.made ≤ 1 + (k + 1) ∧ (d.drop (nm ja)).2.past.length ≤ k + 1 from ⟨by have := hmo.1; omega, by have := hmo.2; omega⟩)
        generalize d.drop (nm ja) = r at *
        clear hmo hq
        go_wp2_with (first
          | (go_at_call 11; (with_reducible refine (HNQ.out _).mono ?_); rintro e w' ⟨rfl, rfl⟩)
          | (go_at_call 13; (with_reducible refine HC.out.mono ?_); rintro e w3 ⟨rfl, hD3, hb3⟩; have HD3 := Lib.hid hD3; have HB3 := Lib.hid (HB2.out.trans hb3); clear hD3 hb3))
        go_roundw
        case rel => exact ⟨k + 1, _, by omega, by go_num, HSt2, HMo2, HD3, HB3⟩
        case measure => simp [RowKit.intOf]; omega
      · have HQ : Hid (numBelow kd 5 = 4) := hq
        have HNQ := Lib.hid fun w => number_any kd 5 w (by decide) (by decide)
        rw [HQ.out] at HNQ
        have HC := Lib.hid (sync_b W2 w.heap.size g d HD2.out (nm ja) a1 a3)
        rw [← HSA.out] at HC
        have HSt2 := Lib.hid (stays_sync hSt.out a2)
        have hmo := more_sync d (nm ja)
        have HMo2 := Lib.hid (show (d.sync (nm ja)).2.made ≤ 1 + (k + 1) ∧ (d.sync (nm ja)).2.past.length ≤ k + 1 from ⟨by have := hmo.1; omega, by have := hmo.2; omega⟩)
        generalize d.sync (nm ja) = r at *
        clear hmo hq
        go_wp2_with (first
          | (go_at_call 11; (with_reducible refine (HNQ.out _).mono ?_); rintro e w' ⟨rfl, rfl⟩)
          | (go_at_call 16; (with_reducible refine HC.out.mono ?_); rintro e w3 ⟨rfl, hD3, hb3⟩; have HD3 := Lib.hid hD3; have HB3 := Lib.hid (HB2.out.trans hb3); clear hD3 hb3))
        go_roundw
        case rel => exact ⟨k + 1, _, by omega, by go_num, HSt2, HMo2, HD3, HB3⟩
        case measure => simp [RowKit.intOf]; omega
    · obtain rfl : k = len1 := by omega
      have hin : ¬ ((k : Int) < (k : Int)) := by omega
      have hcr := stays_crash hSt.out 64 (fun i => n.testBit i) dirs
      have HKe := Lib.hid fun w6 => keep_any n hn w6
      have HCr := Lib.hid fun w6 w7 A c (h : DirB w.heap.size w6 g d) (hb : Below w6.heap.size w6 w7) (ho : OwnE 4 1 w7 w6.heap.size A 64 c (bitsV n 64)) => crash_keep w6 w7 w.heap.size g d h hb n A c ho dirs hd1 hd2
      obtain ⟨d9, hd9⟩ : ∃ d9, d9 = d.crash 64 (fun i => n.testBit i) dirs := ⟨_, rfl⟩
      rw [← hd9] at HCr hcr
      have HAl := Lib.hid fun w6 (h : DirB w.heap.size w6 g d9) => all_b w6 w.heap.size g d9 h nS nS_all (by decide)
      rw [hcr, ← T_S] at HAl
      simp only at HAl
      rw [HL.out] at HAl
      have HSm := Lib.hid fun (w6 : World) (A : Option Addr) (c : Nat) (h : Bytes w6 A l) (hbl : Below w.heap.size w w6) => Ff.same_any A a l l len c len cap w6 h (HBy.out.below hbl (Nat.le_refl _)) HL.out HL.out
      rw [show decide (l = l) = true by simp] at HSm
      clear hcr hd9
      go_wp2_with (first
        | (go_at_call 21; (with_reducible refine (HKe.out wr).mono ?_); rintro e w7 ⟨A7, c7, rfl, ho7, hb7⟩; have HO7 := Lib.hid ho7; have HB7 := Lib.hid hb7; clear ho7 hb7)
        | (go_at_call 20; (with_reducible refine (HCr.out wr w7 A7 c7 hDi.out HB7.out HO7.out).mono ?_); rintro e w8 ⟨rfl, hD8, hb8⟩; have HD8 := Lib.hid hD8; have HB8 := Lib.hid ((hB.out.trans (HB7.out.mono hB.out.size)).trans hb8); clear hD8 hb8)
        | (go_at_call 22; (with_reducible refine (HAl.out w8 HD8.out).mono ?_); rintro e w9 ⟨A9, c9, rfl, hby9, _, hb9⟩; have HY9 := Lib.hid hby9; have HB9 := Lib.hid (HB8.out.trans hb9); clear hby9 hb9)
        | (go_at_call 23; (with_reducible refine (HSm.out w9 A9 c9 HY9.out HB9.out).mono ?_); rintro e w' ⟨rfl, rfl⟩))
      go_ret
      exact ⟨rfl, HB9.out⟩

theorem walk (a0 : Option Addr) (len0 cap0 : Nat) (z0 : List Int) (a1 : Option Addr) (len1 cap1 : Nat) (D1 : Nat → DoV) (a2 a3 : Int) (w : World) (w0 : IsRow .u8 w a0 len0 cap0 z0) (w1 : InDos w a1 len1 D1 ∧ len1 ≤ cap1 ∧ cap1 ≤ maxLen) (w2 : (Lit.int .u64 a2).wf = true) (w3 : (Lit.int .i64 a3).wf = true) :
    Calls Try.prog 4 #[.slice a0 len0 cap0, .slice a1 len1 cap1, .int .u64 a2, .int .i64 a3] w fun e w' => e = .returned (.bool true) ∧ Below w.heap.size w w' := by
  obtain ⟨hb, hL, hc1, hc2, _⟩ := w0.bytes
  obtain ⟨hD, hc3, hc4⟩ := w1
  unfold maxLen at hc2 hc4
  by_cases h : 1000 < len0 ∨ 20 < len1
  · exact walk_long a0 len0 cap0 a1 len1 cap1 a2 a3 w h (by omega) (by omega)
  · obtain ⟨n, rfl⟩ : ∃ n : Nat, a2 = (n : Int) := ⟨a2.toNat, by have := bounds_u64 w2; omega⟩
    have b2 := bounds_u64 w2
    obtain ⟨p0, p1⟩ := bounds_i64 w3
    exact walk_in a0 len0 cap0 a1 len1 cap1 D1 n a3 _ w hb hL hD (by omega) (by omega) (by omega) p0 p1
end Go.Proofs.Ytpgkimohekdmmaa.SimfsSafeW
