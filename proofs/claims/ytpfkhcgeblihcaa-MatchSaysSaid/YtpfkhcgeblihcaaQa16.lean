/-
  Texts beneath the proof, one behind the other.
-/
import Derived.Deep.RegionHeld3
import Derived.Deep.CutRange
import Derived.Test.YtpfkhcgeblihcaaQa15
import Derived.Test.YtpfkhcgeblihcaaQa11
import Derived.Test.YtpfkhcgeblihcaaQa14
import Derived.Test.YtpfkhcgeblihcaaQa6
import Derived.Test.YtpfkhcgeblihcaaQa5
import Derived.Test.YtpfkhcgeblihcaaQa3

/-
  The walk of MatchSays.
-/
namespace Go.Proofs.Ytpfkhcgeblihcaa.MatchSaysW
open Go.ChangeShapes Go.WideShapes Go.ChangeAt Go.RowKit
open Bytes8 Blk8 Own8 OwnE Fa Fb Fc Fo Pr8 Pv8 Qa Qb In8
open Qc (stexts_any)
open Qd (mtV same_any)
open Qe (rsame_any)
open Qm (compile_any Compd)
open Qo (holds_any)
open Qr (first_any)
open Qs (compM_ok)
open Qv (RightP cnt words_all words_len rM wordsM)
open Qw (right_any)
open Qbs (Fits)
open Udd (rcompile_any RCompd)
open Udf (rholds_any)
open Udg (rright_any)
open Udi (wordsV words_either rwords_either rM_back)
open Udj (small_any SmallB tot cnt_le_of)
set_option linter.unusedVariables false
set_option maxRecDepth 100000
set_option linter.unusedSimpArgs false

theorem wordsV_ok {M : List RW} (hM : OkM M) : (∀ v ∈ wordsV M, AllB v) ∧ (wordsV M).length ≤ maxLen := by
  have hmx : 40 ≤ maxLen := by decide
  unfold wordsV
  by_cases h : rM M = true
  · rw [if_pos h]
    obtain ⟨h1, h2⟩ := rM_back h
    refine ⟨fun v hv => (words_all h1 hM v hv).1, ?_⟩
    by_cases h0 : M = []
    · subst h0; simp [wordsM]
    · have := words_len M h0
      omega
  · rw [if_neg h]
    exact ⟨(fun v hv => by cases hv), Nat.zero_le _⟩
theorem codes_eq (r : Int) : (r == r) = true := by simp

set_option maxHeartbeats 16000000 in
theorem walk_main (vs : List TX) (a0 : Option Addr) (n0 cap0 : Nat) (M1 : List RW) (A1 : Option Addr) (c1 : Nat) (M2 : List RW) (A2 : Option Addr) (c2 : Nat) (a3 : Option Addr) (n3 cap3 : Nat) (l : List PR) (w : World)
    (hvs : vs.length = n0) (hT0 : Txts w a0 vs) (hok : ∀ u ∈ vs, OkT u) (hn0 : n0 ≤ 40) (hT1 : Mts w A1 M1) (hM1 : OkM M1) (hF1 : Fits M1) (hT2 : Mts w A2 M2) (hM2 : OkM M2) (hF2 : Fits M2) (hP : Prs w a3 l) (hl : l.length = n3) (hn3 : n3 ≤ 9223372036854775807) :
    Calls Try.prog 3 #[.slice a0 n0 cap0, .agg #[.slice A1 M1.length c1], .agg #[.slice A2 M2.length c2], .slice a3 n3 cap3] w fun e w' => e = .returned (.bool true) ∧ Below w.heap.size w w' := by
  have hOM1 := Lib.hid hM1
  have hOM2 := Lib.hid hM2
  have hFM1 := Lib.hid hF1
  have HT0 := Lib.hid hT0
  have HT1 := Lib.hid hT1
  have HT2 := Lib.hid hT2
  have HP := Lib.hid hP
  have HL3 := Lib.hid hl
  have HV := Lib.hid hvs
  have HOK := Lib.hid hok
  have HSm1 := Lib.hid fun (W : World) (h : Below w.heap.size w W) => small_any M1 A1 c1 W (hT1.below h) hM1 hF1
  have HSm2 := Lib.hid fun (W : World) (h : Below w.heap.size w W) => small_any M2 A2 c2 W (hT2.below h) hM2 hF2
  unfold SmallB at HSm1 HSm2
  dsimp only [mtV] at HSm1 HSm2
  obtain ⟨m1, hm1⟩ : ∃ m1, M1.length = m1 := ⟨_, rfl⟩
  obtain ⟨m2, hm2⟩ : ∃ m2, M2.length = m2 := ⟨_, rfl⟩
  have HL1 := Lib.hid hm1
  have HL2 := Lib.hid hm2
  rw [hm1] at HSm1 ⊢
  rw [hm2] at HSm2 ⊢
  have b0 := ((Below.refl w.heap.size w).alloc (Nat.le_refl _) (.cells #[.slice A1 m1 c1] 25)).alloc (by simp) (.cells #[.slice A2 m2 c2] 25)
  have R5 := Lib.hid ((Blk.new w [.slice A1 m1 c1] 25).alloc (.cells #[.slice A2 m2 c2] 25))
  have R6 := Lib.hid (Blk.new_at (w.alloc (.cells #[.slice A1 m1 c1] 25)) [.slice A2 m2 c2] 25 (w.heap.size + 1) (by simp))
  have B0 := Lib.hid b0
  clear hm1 hm2 hT0 hT1 hT2 hM1 hM2 hF1 hF2 hP hl hvs hok b0
  go_enter Try.func3, Try.ntmps3
  go_upto_region 1 with fail
  change Hid (Blk ((w.alloc (.cells #[.slice A1 m1 c1] 25)).alloc (.cells #[.slice A2 m2 c2] 25)) _ _ _) at R5
  change Hid (Blk ((w.alloc (.cells #[.slice A1 m1 c1] 25)).alloc (.cells #[.slice A2 m2 c2] 25)) _ _ _) at R6
  change Hid (Below _ _ ((w.alloc (.cells #[.slice A1 m1 c1] 25)).alloc (.cells #[.slice A2 m2 c2] 25))) at B0
  generalize (w.alloc (.cells #[.slice A1 m1 c1] 25)).alloc (.cells #[.slice A2 m2 c2] 25) = w1 at *
  have h40 : ¬ (40 : Int) < (n0 : Int) := by omega
  have HBB := Lib.hid fun (W : World) (h : Below w1.heap.size w1 W) => show Below w.heap.size w W from B0.out.trans (h.mono B0.out.size)
  have HC5 := Lib.hid fun (W : World) (h : Below w1.heap.size w1 W) => (R5.out.below h R5.out.lt).cell (i := 0) rfl
  have HC6 := Lib.hid fun (W : World) (h : Below w1.heap.size w1 W) => (R6.out.below h R6.out.lt).cell (i := 0) rfl
  go_upto_region 4 with (go_at_call 4; (with_reducible refine (first_any _).mono ?_); rintro e w2 ⟨rfl, hb⟩; have B2 := Lib.hid hb; clear hb)
  have e5 := HC5.out _ B2.out
  go_wp2_with (go_at_call 5; (with_reducible refine (HSm1.out _ (HBB.out _ B2.out)).mono ?_); rintro e w3 ⟨z1, rfl, hs1, hb⟩; have HS1 := Lib.hid hs1; have B3 := Lib.hid (B2.out.trans (hb.mono B2.out.size)); clear hs1 hb; refine Hid.out ?_)
  refine Lib.hid ?_
  cases z1
  · go_wp2
    go_ret
    exact ⟨rfl, HBB.out _ B3.out⟩
  have e6 := HC6.out _ B3.out
  clear e5
  go_wp2_with (go_at_call 5; (with_reducible refine (HSm2.out _ (HBB.out _ B3.out)).mono ?_); rintro e w4 ⟨z2, rfl, hs2, hb⟩; have B4 := Lib.hid (B3.out.trans (hb.mono B3.out.size)); clear hs2 hb; refine Hid.out ?_)
  refine Lib.hid ?_
  cases z2
  · go_wp2
    go_ret
    exact ⟨rfl, HBB.out _ B4.out⟩
  by_cases h20 : 20 < n3
  · have h20i : (20 : Int) < (n3 : Int) := by omega
    go_wp2
    go_ret
    exact ⟨rfl, HBB.out _ B4.out⟩
  have h20i : ¬ (20 : Int) < (n3 : Int) := by omega
  have HCn := Lib.hid (cnt_le_of (HS1.out (by first | rfl | trivial)) hFM1.out)
  clear e6 HSm1 HSm2 B2 B3 HS1
  go_wp2_with fail
  go_loop [10] (fun vi => ∃ k : Nat, vi = .int .i64 (k : Int) ∧ k ≤ n0 ∧ Hid (∀ i, i < k → (vs.getD i []).length ≤ 400)) (fun vi => n0 - (intOf vi).toNat)
  case atStart => exact ⟨0, rfl, Nat.zero_le _, Lib.hid fun i hi => absurd hi (by omega)⟩
  case round =>
    obtain ⟨k, rfl, hk, hall⟩ := hrel
    by_cases hlt : k < n0
    · have hki : (k : Int) < (n0 : Int) := by omega
      have hkl : k < vs.length := by have := HV.out; omega
      obtain ⟨b, off, rfl, hbl, hc⟩ := (HT0.out.below (HBB.out _ B4.out)) k hkl
      have hsz := T_size (vs.getD k [])
      by_cases h4 : 400 < (vs.getD k []).length
      · generalize T (vs.getD k []) = Sk at *
        obtain ⟨q, hq⟩ : ∃ q, Sk.size = q := ⟨_, rfl⟩
        have h4i : (400 : Int) < (q : Int) := by omega
        clear hsz
        go_wp2
        go_ret
        exact ⟨rfl, HBB.out _ B4.out⟩
      · have HK := Lib.hid h4
        generalize T (vs.getD k []) = Sk at *
        obtain ⟨q, hq⟩ : ∃ q, Sk.size = q := ⟨_, rfl⟩
        have h4i : ¬ (400 : Int) < (q : Int) := by omega
        clear hsz h4
        go_wp2
        go_round
        case rel => exact ⟨k + 1, by go_num, by omega, Lib.hid fun i hi => by
          rcases Nat.lt_or_ge i k with h | h
          · exact hall.out i h
          · obtain rfl : i = k := by omega
            have := HK.out
            omega⟩
        case measure => simp [intOf]; omega
    · have hki : ¬ (k : Int) < (n0 : Int) := by omega
      have hA : ∀ v ∈ vs, AllB v ∧ v.length ≤ 900000 := fun v hv => by
        obtain ⟨i, hi, rfl⟩ := List.mem_iff_getElem.1 hv
        have h1 := hall.out i (by have := HV.out; omega)
        rw [Qv.getD_at hi] at h1
        exact ⟨(HOK.out _ (List.getElem_mem hi)).1, by omega⟩
      have HX := Lib.hid fun (W : World) (h : Below w1.heap.size w1 W) => compile_any a0 vs n0 cap0 W (HT0.out.below (HBB.out _ h)) HV.out hA (by omega)
      have HY := Lib.hid fun (W : World) (h : Below w1.heap.size w1 W) => rcompile_any a0 vs n0 cap0 W (HT0.out.below (HBB.out _ h)) HV.out hA (by omega)
      have HON := Lib.hid (compM_ok hA)
      unfold Compd at HX
      unfold RCompd at HY
      generalize compM vs = rN at *
      obtain ⟨r, N⟩ := rN
      dsimp only at HX HY HON
      obtain ⟨nx, hnx⟩ : ∃ nx, N.length = nx := ⟨_, rfl⟩
      have HLN := Lib.hid hnx
      rw [hnx] at HX HY
      clear hA hnx hall HOK HV HT0
      go_upto_region 12 with (go_at_call 6; (with_reducible refine (HX.out _ B4.out).mono ?_); rintro e w5 ⟨Ax, cx, rfl, hmt, hb, -, -⟩; have MX5 := Lib.hid hmt; have B5 := Lib.hid (B4.out.trans (hb.mono B4.out.size)); clear hmt hb)
      have b6 := (Below.refl w5.heap.size w5).alloc (Nat.le_refl _) (.cells #[.slice Ax nx cx] 25)
      have RX := Lib.hid (Blk.new w5 [.slice Ax nx cx] 25)
      change Hid (Blk (w5.alloc (.cells #[.slice Ax nx cx] 25)) _ _ _) at RX
      have MX6 := Lib.hid (MX5.out.below b6)
      have B6 := Lib.hid (B5.out.trans (b6.mono B5.out.size))
      clear b6 MX5 B5 HX
      generalize w5.alloc (.cells #[.slice Ax nx cx] 25) = w6 at *
      generalize w5.heap.size = gx at *
      go_upto_region 13 with (go_at_call 7; (with_reducible refine (HY.out _ B6.out).mono ?_); rintro e w7 ⟨Ay, cy, rfl, hmt, hb⟩; have MY7 := Lib.hid hmt; have MX7 := Lib.hid (MX6.out.below hb); have RX7 := Lib.hid (RX.out.below hb RX.out.lt); have B7 := Lib.hid (B6.out.trans (hb.mono B6.out.size)); clear hmt hb)
      have b8 := (Below.refl w7.heap.size w7).alloc (Nat.le_refl _) (.cells #[.slice Ay nx cy] 25)
      have RY := Lib.hid (Blk.new w7 [.slice Ay nx cy] 25)
      change Hid (Blk (w7.alloc (.cells #[.slice Ay nx cy] 25)) _ _ _) at RY
      have MY := Lib.hid (MY7.out.below b8)
      have MX := Lib.hid (MX7.out.below b8)
      have RX8 := Lib.hid (RX7.out.below b8 RX7.out.lt)
      have B8 := Lib.hid (B7.out.trans (b8.mono B7.out.size))
      clear b8 MY7 MX7 RX7 RX MX6 B6 B7 HY B4
      generalize w7.alloc (.cells #[.slice Ay nx cy] 25) = w8 at *
      generalize w7.heap.size = gy at *
      have HE8 := Lib.hid fun (W : World) (h : Below w8.heap.size w8 W) => show Below w1.heap.size w1 W from B8.out.trans (h.mono B8.out.size)
      have HT1a := Lib.hid fun (W : World) (h : Below w8.heap.size w8 W) => HT1.out.below (HBB.out _ (HE8.out _ h))
      have HT2a := Lib.hid fun (W : World) (h : Below w8.heap.size w8 W) => HT2.out.below (HBB.out _ (HE8.out _ h))
      have HPa := Lib.hid fun (W : World) (h : Below w8.heap.size w8 W) => HP.out.below (HBB.out _ (HE8.out _ h))
      have X1 := Lib.hid fun (W : World) (h : Below w8.heap.size w8 W) => rsame_any Ax Ay N N cx cy W (MX.out.below h) (MY.out.below h) HON.out HON.out
      rw [decide_eq_true (rfl : N = N)] at X1
      have X2 := Lib.hid fun (W : World) (h : Below w8.heap.size w8 W) => right_any M1 A1 c1 W (HT1a.out _ h) hOM1.out HCn.out
      have X3 := Lib.hid fun (W : World) (h : Below w8.heap.size w8 W) => rright_any M1 A1 c1 W (HT1a.out _ h) hOM1.out HCn.out
      have X4 := Lib.hid fun (W : World) (h : Below w8.heap.size w8 W) => words_either M1 A1 c1 W (HT1a.out _ h) hOM1.out HCn.out
      have X5 := Lib.hid fun (W : World) (h : Below w8.heap.size w8 W) => rwords_either M1 A1 c1 W (HT1a.out _ h) hOM1.out HCn.out
      have hwo := wordsV_ok hOM1.out
      have X6 := Lib.hid fun (a b : Option Addr) (c d : Nat) (W : World) (h1 : Txts W a (wordsV M1)) (h2 : Txts W b (wordsV M1)) => stexts_any a b (wordsV M1) (wordsV M1) c d W h1 h2 hwo.1 hwo.1 hwo.2 hwo.2
      rw [decide_eq_true (rfl : wordsV M1 = wordsV M1)] at X6
      have X7 := Lib.hid fun (W : World) (h : Below w8.heap.size w8 W) => holds_any l a3 n3 cap3 M1 A1 c1 W (HPa.out _ h) HL3.out (by omega) (HT1a.out _ h) hOM1.out
      have X8 := Lib.hid fun (W : World) (h : Below w8.heap.size w8 W) => rholds_any l a3 n3 cap3 M1 A1 c1 W (HPa.out _ h) HL3.out (by omega) (HT1a.out _ h) hOM1.out
      have X9 := Lib.hid fun (W : World) (h : Below w8.heap.size w8 W) => same_any A1 A2 M1 M2 c1 c2 W (HT1a.out _ h) (HT2a.out _ h) hOM1.out hOM2.out
      have Y1 := Lib.hid fun (W : World) (h : Below w8.heap.size w8 W) => rsame_any A1 A2 M1 M2 c1 c2 W (HT1a.out _ h) (HT2a.out _ h) hOM1.out hOM2.out
      have Y2 := Lib.hid fun (W : World) (h : Below w8.heap.size w8 W) => same_any A1 A1 M1 M1 c1 c1 W (HT1a.out _ h) (HT1a.out _ h) hOM1.out hOM1.out
      rw [decide_eq_true (rfl : M1 = M1)] at Y2
      dsimp only [mtV] at X1 X2 X3 X4 X5 X7 X8 X9 Y1 Y2
      rw [HLN.out] at X1
      rw [HL1.out] at X2 X3 X4 X5 X7 X8 X9 Y1 Y2
      rw [HL2.out] at X9 Y1
      clear hwo
      generalize wordsV M1 = wv at *
      obtain ⟨nw, hnw⟩ : ∃ nw, wv.length = nw := ⟨_, rfl⟩
      rw [hnw] at X4 X5 X6
      generalize rM M1 = z3 at *
      generalize Qn.holdB l M1 = z4 at *
      generalize decide (M1 = M2) = z5 at *
      clear hnw HT1a HT2a HPa HT1 HT2 HP HCn HON hOM1 hOM2 hFM1 HLN HL1 HL2 HL3 MX MY
      have D0 := Lib.hid ((Below.refl w8.heap.size w8).drew)
      have HC := Lib.hid fun (W : World) (h : Below w8.heap.size w8 W) => (⟨HC5.out _ (HE8.out _ h), HC6.out _ (HE8.out _ h), (RX8.out.below h RX8.out.lt).cell (i := 0) rfl, (RY.out.below h RY.out.lt).cell (i := 0) rfl⟩ : W.cell? ⟨w.heap.size, 0, none⟩ = some (.slice A1 m1 c1) ∧ W.cell? ⟨w.heap.size + 1, 0, none⟩ = some (.slice A2 m2 c2) ∧ W.cell? ⟨gx, 0, none⟩ = some (.slice Ax nx cx) ∧ W.cell? ⟨gy, 0, none⟩ = some (.slice Ay nx cy))
      have HZ := Lib.hid fun (W : World) (h : Below w8.heap.size w8 W) => HBB.out _ (HE8.out _ h)
      clear HC5 HC6 R5 R6 RX8 RY HBB HE8 B8 B0
      have c5_0 := (HC.out _ D0.out).1
      have c6_0 := (HC.out _ D0.out).2.1
      have cx_0 := (HC.out _ D0.out).2.2.1
      have cy_0 := (HC.out _ D0.out).2.2.2
      go_region_held3 (fun W : World => W.cell? ⟨w.heap.size, 0, none⟩ = some (.slice A1 m1 c1) ∧ W.cell? ⟨w.heap.size + 1, 0, none⟩ = some (.slice A2 m2 c2) ∧ W.cell? ⟨gx, 0, none⟩ = some (.slice Ax nx cx) ∧ W.cell? ⟨gy, 0, none⟩ = some (.slice Ay nx cy)) (first | (with_reducible exact ⟨c5_0, c6_0, cx_0, cy_0⟩) | (with_reducible exact ⟨c5_1, c6_1, cx_1, cy_1⟩) | (with_reducible exact ⟨c5_2, c6_2, cx_2, cy_2⟩) | (with_reducible exact ⟨c5_3, c6_3, cx_3, cy_3⟩) | (with_reducible exact ⟨c5_4, c6_4, cx_4, cy_4⟩) | (with_reducible exact ⟨c5_5, c6_5, cx_5, cy_5⟩) | (with_reducible exact ⟨c5_6, c6_6, cx_6, cy_6⟩) | (with_reducible exact ⟨c5_7, c6_7, cx_7, cy_7⟩) | (with_reducible exact ⟨c5_8, c6_8, cx_8, cy_8⟩) | (with_reducible exact ⟨c5_9, c6_9, cx_9, cy_9⟩) | (with_reducible exact ⟨c5_10, c6_10, cx_10, cy_10⟩) | (with_reducible exact ⟨c5_11, c6_11, cx_11, cy_11⟩) | go_keep)
        (first
          | (go_at_call 8; (with_reducible refine (X1.out _ D0.out).mono ?_); rintro e w1 ⟨rfl, hb1⟩; have D1 := Lib.hid (D0.out.trans (hb1.mono D0.out.size)); have c5_1 := (HC.out _ D1.out).1; have c6_1 := (HC.out _ D1.out).2.1; have cx_1 := (HC.out _ D1.out).2.2.1; have cy_1 := (HC.out _ D1.out).2.2.2; clear hb1)
          | (go_at_call 9; (with_reducible refine (X2.out _ D1.out).mono ?_); rintro e w2 ⟨rfl, hb2⟩; have D2 := Lib.hid (D1.out.trans (hb2.mono D1.out.size)); have c5_2 := (HC.out _ D2.out).1; have c6_2 := (HC.out _ D2.out).2.1; have cx_2 := (HC.out _ D2.out).2.2.1; have cy_2 := (HC.out _ D2.out).2.2.2; clear hb2)
          | (go_at_call 10; (with_reducible refine (X3.out _ D2.out).mono ?_); rintro e w3 ⟨rfl, hb3⟩; have D3 := Lib.hid (D2.out.trans (hb3.mono D2.out.size)); have c5_3 := (HC.out _ D3.out).1; have c6_3 := (HC.out _ D3.out).2.1; have cx_3 := (HC.out _ D3.out).2.2.1; have cy_3 := (HC.out _ D3.out).2.2.2; clear hb3)
          | (go_at_call 12; (with_reducible refine (X4.out _ D3.out).mono ?_); rintro e w4 ⟨A4, q4, rfl, ht4, hb4⟩; have TX4 := Lib.hid ht4; have D4 := Lib.hid (D3.out.trans (hb4.mono D3.out.size)); have c5_4 := (HC.out _ D4.out).1; have c6_4 := (HC.out _ D4.out).2.1; have cx_4 := (HC.out _ D4.out).2.2.1; have cy_4 := (HC.out _ D4.out).2.2.2; clear ht4 hb4)
          | (go_at_call 13; (with_reducible refine (X5.out _ D4.out).mono ?_); rintro e w5 ⟨A5, q5, rfl, ht5, hb5⟩; have TX5 := Lib.hid ht5; have TX4b := Lib.hid (TX4.out.below hb5); have D5 := Lib.hid (D4.out.trans (hb5.mono D4.out.size)); have c5_5 := (HC.out _ D5.out).1; have c6_5 := (HC.out _ D5.out).2.1; have cx_5 := (HC.out _ D5.out).2.2.1; have cy_5 := (HC.out _ D5.out).2.2.2; clear ht5 hb5)
          | (go_at_call 11; (with_reducible refine (X6.out _ _ _ _ _ TX4b.out TX5.out).mono ?_); rintro e w6 ⟨rfl, hb6⟩; have D6 := Lib.hid (D5.out.trans (hb6.mono D5.out.size)); have c5_6 := (HC.out _ D6.out).1; have c6_6 := (HC.out _ D6.out).2.1; have cx_6 := (HC.out _ D6.out).2.2.1; have cy_6 := (HC.out _ D6.out).2.2.2; clear hb6)
          | (go_at_call 14; (with_reducible refine (X7.out _ D6.out).mono ?_); rintro e w7 ⟨rfl, hb7⟩; have D7 := Lib.hid (D6.out.trans (hb7.mono D6.out.size)); have c5_7 := (HC.out _ D7.out).1; have c6_7 := (HC.out _ D7.out).2.1; have cx_7 := (HC.out _ D7.out).2.2.1; have cy_7 := (HC.out _ D7.out).2.2.2; clear hb7)
          | (go_at_call 15; (with_reducible refine (X8.out _ D7.out).mono ?_); rintro e w8 ⟨rfl, hb8⟩; have D8 := Lib.hid (D7.out.trans (hb8.mono D7.out.size)); have c5_8 := (HC.out _ D8.out).1; have c6_8 := (HC.out _ D8.out).2.1; have cx_8 := (HC.out _ D8.out).2.2.1; have cy_8 := (HC.out _ D8.out).2.2.2; clear hb8)
          | (go_at_call 16; (with_reducible refine (X9.out _ D8.out).mono ?_); rintro e w9 ⟨rfl, hb9⟩; have D9 := Lib.hid (D8.out.trans (hb9.mono D8.out.size)); have c5_9 := (HC.out _ D9.out).1; have c6_9 := (HC.out _ D9.out).2.1; have cx_9 := (HC.out _ D9.out).2.2.1; have cy_9 := (HC.out _ D9.out).2.2.2; clear hb9)
          | (go_at_call 8; (with_reducible refine (Y1.out _ D9.out).mono ?_); rintro e w10 ⟨rfl, hb10⟩; have D10 := Lib.hid (D9.out.trans (hb10.mono D9.out.size)); have c5_10 := (HC.out _ D10.out).1; have c6_10 := (HC.out _ D10.out).2.1; have cx_10 := (HC.out _ D10.out).2.2.1; have cy_10 := (HC.out _ D10.out).2.2.2; clear hb10)
          | (go_at_call 16; (with_reducible refine (Y2.out _ D10.out).mono ?_); rintro e w11 ⟨rfl, hb11⟩; have D11 := Lib.hid (D10.out.trans (hb11.mono D10.out.size)); have c5_11 := (HC.out _ D11.out).1; have c6_11 := (HC.out _ D11.out).2.1; have cx_11 := (HC.out _ D11.out).2.2.1; have cy_11 := (HC.out _ D11.out).2.2.2; clear hb11))
      all_goals
        go_wp2
        go_ret
        exact ⟨rfl, HZ.out _ D11.out⟩
theorem walk_long (a0 : Option Addr) (n0 cap0 m1 m2 : Nat) (A1 : Option Addr) (c1 : Nat) (A2 : Option Addr) (c2 : Nat) (a3 : Option Addr) (n3 cap3 : Nat) (w : World) (hn0 : 40 < n0) :
    Calls Try.prog 3 #[.slice a0 n0 cap0, .agg #[.slice A1 m1 c1], .agg #[.slice A2 m2 c2], .slice a3 n3 cap3] w fun e w' => e = .returned (.bool true) ∧ Below w.heap.size w w' := by
  have b0 := ((Below.refl w.heap.size w).alloc (Nat.le_refl _) (.cells #[.slice A1 m1 c1] 25)).alloc (by simp) (.cells #[.slice A2 m2 c2] 25)
  have B0 := Lib.hid b0
  have h40 : (40 : Int) < (n0 : Int) := by omega
  clear b0
  go_enter Try.func3, Try.ntmps3
  go_upto_region 1 with fail
  change Hid (Below _ _ ((w.alloc (.cells #[.slice A1 m1 c1] 25)).alloc (.cells #[.slice A2 m2 c2] 25))) at B0
  generalize (w.alloc (.cells #[.slice A1 m1 c1] 25)).alloc (.cells #[.slice A2 m2 c2] 25) = w1 at *
  go_wp2_with (go_at_call 4; (with_reducible refine (first_any _).mono ?_); rintro e w2 ⟨rfl, hb⟩; have B2 := Lib.hid (B0.out.trans (hb.mono B0.out.size)); clear hb)
  go_ret
  exact ⟨rfl, B2.out⟩
theorem walk (vs : List TX) (a0 : Option Addr) (n0 cap0 : Nat) (A1 : Option Addr) (c1 : Nat) (M1 : List RW) (A2 : Option Addr) (c2 : Nat) (M2 : List RW) (a3 : Option Addr) (n3 cap3 : Nat) (N3 V3 : Nat → List Int) (w : World)
    (w0 : vs.length = n0 ∧ Txts w a0 vs ∧ (∀ u ∈ vs, OkT u) ∧ n0 ≤ cap0 ∧ cap0 ≤ maxLen) (w1 : Mts w A1 M1 ∧ OkM M1 ∧ M1.length ≤ c1 ∧ c1 ≤ maxLen ∧ Fits M1) (w2 : Mts w A2 M2 ∧ OkM M2 ∧ M2.length ≤ c2 ∧ c2 ≤ maxLen ∧ Fits M2) (w3 : InPairs w a3 n3 N3 V3 ∧ n3 ≤ cap3 ∧ cap3 ≤ maxLen) :
    Calls Try.prog 3 #[.slice a0 n0 cap0, .agg #[.slice A1 M1.length c1], .agg #[.slice A2 M2.length c2], .slice a3 n3 cap3] w fun e w' => e = .returned (.bool true) ∧ Below w.heap.size w w' := by
  by_cases h : n0 ≤ 40
  · exact walk_main vs a0 n0 cap0 M1 A1 c1 M2 A2 c2 a3 n3 cap3 _ w w0.1 w0.2.1 w0.2.2.1 h w1.1 w1.2.1 w1.2.2.2.2 w2.1 w2.2.1 w2.2.2.2.2 (Prs.of_in w3.1) (by simp) (by have h1 := w3.2.1; have h2 := w3.2.2; unfold maxLen at h2; omega)
  · exact walk_long a0 n0 cap0 _ _ A1 c1 A2 c2 a3 n3 cap3 w (by omega)
end Go.Proofs.Ytpfkhcgeblihcaa.MatchSaysW
