/-
  The walk of CrcBursts: at any bytes, place and bits the law returns true, and nothing that was there is written.
-/
import Derived.Test.YtmkpeidgimgdlaaCd
namespace Go.Proofs.Ytmkpeidgimgdlaa.CrcBurstsW
open Go.ChangeShapes Go.WideShapes Go.ChangeAt Go.RowKit
open Bytes8 Blk8 Own8 LeNum LeA LeB LeP RefA RefB Numb Cm Ca Cb Cc Cd
set_option linter.unusedVariables false

theorem own_some {w : World} {base n c : Nat} {A : Option Addr} {l : List Int} (h : Own w base A n c l) (hn : 0 < n) : ∃ g, A = some ⟨g, 0, none⟩ ∧ base ≤ g := by
  rcases h.2.2.2.2 with ⟨_, h0⟩ | ⟨g, cap, cur, he, hb, _⟩
  · omega
  · injection he with e1 e2 e3; exact ⟨g, e1, hb⟩
theorem own_cap {w : World} {base n c : Nat} {A : Option Addr} {l : List Int} (h : Own w base A n c l) : n ≤ c ∧ c ≤ maxLen := by
  rcases h.2.2.2.2 with ⟨he, h0⟩ | ⟨g, cap, cur, he, _, _, h1, h2, _⟩
  · injection he with e1 e2 e3; subst e3; exact ⟨by omega, by decide⟩
  · injection he with e1 e2 e3; subst e3; exact ⟨h1, h2⟩
theorem own_cell {w : World} {base n c g : Nat} {l : List Int} (h : Own w base (some ⟨g, 0, none⟩) n c l) (i : Nat) (hi : i < n) : w.cell? ⟨g, i, none⟩ = some (.int .u8 (l.getD i 0)) ∧ w.frozen? ⟨g, i, none⟩ = false ∧ g < w.heap.size := by
  obtain ⟨b, off, e, hb, hc⟩ := h.bytes.2 i (by rw [h.2.1]; exact hi)
  injection e with e
  injection e with e1 e2
  subst e1; subst e2
  rw [Nat.zero_add] at hc
  refine ⟨hc, ?_, hb⟩
  rcases h.2.2.2.2 with ⟨he, _⟩ | ⟨g', cap, cur, he, _, hg, _⟩
  · injection he with e1; cases e1
  · injection he with e1 e2 e3
    injection e1 with e1
    injection e1 with e1
    subst e1
    simp [World.frozen?, hg]
theorem own_set {w : World} {base n c g : Nat} {l : List Int} (h : Own w base (some ⟨g, 0, none⟩) n c l) (i : Nat) (hi : i < n) (v : Int) (h0 : 0 ≤ v) (h1 : v < 256) : Own (w.setCell ⟨g, i, none⟩ (.int .u8 v)) base (some ⟨g, 0, none⟩) n c (l.set i v) := by
  obtain ⟨hA, hl, hb, hlen, ho⟩ := h
  refine ⟨hA.set i h0 h1, by rw [List.length_set]; exact hl, by simpa using hb, by simpa using hlen, ?_⟩
  rcases ho with ⟨he, _⟩ | ⟨g', cap, cur, he, hb', hg, hn, hc, hsz, htk⟩
  · injection he with e1; cases e1
  · injection he with e1 e2 e3
    injection e1 with e1
    injection e1 with e1
    subst e1
    refine .inr ⟨g, cap, cur.setIfInBounds i (.int .u8 v), by rw [e3], hb', ?_, hn, hc, by simpa using hsz, ?_⟩
    · simp [World.setCell, Array.getElem?_modify, hg]
    · rw [Array.toList_setIfInBounds, List.take_set, htk, List.map_set]

theorem turned_yes {s : List Int} {at1 b i : Nat} (h : b / 2 ^ i % 2 = 1) : turned s at1 b (i + 1) = turnB (turned s at1 b i) (at1 + i) := by
  rw [turned, if_pos h]
theorem turned_no {s : List Int} {at1 b i : Nat} (h : ¬ b / 2 ^ i % 2 = 1) : turned s at1 b (i + 1) = turned s at1 b i := by
  rw [turned, if_neg h]
theorem bit_cast (b k : Nat) (hb : b < 4294967296) : bits .and .u32 ((b : Int) / 2 ^ k) 1 = ((b / 2 ^ k % 2 : Nat) : Int) := by
  have e : ((b : Int) / 2 ^ k) = ((b / 2 ^ k : Nat) : Int) := by simp
  have h1 : b / 2 ^ k < 4294967296 := Nat.lt_of_le_of_lt (Nat.div_le_self _ _) hb
  rw [e, show (1 : Int) = ((1 : Nat) : Int) from rfl, u32_and_nat _ 1 h1 (by decide), Nat.and_one_is_mod]
theorem turn_cast (c : Int) (r : Nat) (h0 : 0 ≤ c) (h1 : c < 256) (hr : r < 8) : bits .xor .u8 c (2 ^ r % 256) = ((c.toNat ^^^ 2 ^ r : Nat) : Int) := by
  obtain ⟨c', rfl⟩ := Int.eq_ofNat_of_zero_le h0
  have h2 : 2 ^ r < 256 := Nat.pow_lt_pow_right (n := 8) (by decide) hr
  have e : ((2 : Int) ^ r) = ((2 ^ r : Nat) : Int) := by simp
  have e2 : (2 : Int) ^ r % 256 = ((2 ^ r : Nat) : Int) := by
    rw [e]
    generalize 2 ^ r = t at h2 ⊢
    omega
  rw [e2, u8_xor_nat c' (2 ^ r) (by omega) h2]; rfl

set_option maxRecDepth 100000 in
set_option maxHeartbeats 1000000 in
theorem walk_long (a0 : Option Addr) (len0 cap0 : Nat) (a1 a2 : Int) (w : World) (hlen : 300 < len0) :
    Calls Try.prog 9 #[.slice a0 len0 cap0, .int .i64 a1, .int .u32 a2] w fun e w' => e = .returned (.bool true) ∧ Below w.heap.size w w' := by
  have hd : decide ((300 : Int) < (len0 : Int)) = true := by simp; omega
  go_enter Try.func9, Try.ntmps9
  go_wp2_with (go_at_call 22; (with_reducible refine (first_any _).mono ?_); rintro e w1 ⟨rfl, hbel⟩)
  go_ret
  exact ⟨rfl, hbel⟩

set_option maxRecDepth 100000 in
set_option maxHeartbeats 16000000 in
theorem walk_main (a0 : Option Addr) (l : List Int) (len0 cap0 j : Nat) (a1 : Int) (b : Nat) (w : World) (hb : Bytes w a0 l) (hL : l.length = len0) (h0 : len0 ≤ 300) (hj : Hid (numBelow a1 (8 * ((len0 : Int) + 4) - 31) = j)) (hj2 : j + 32 ≤ 8 * (len0 + 4)) (hb32 : b < 4294967296) :
    Calls Try.prog 9 #[.slice a0 len0 cap0, .int .i64 a1, .int .u32 (b : Int)] w fun e w' => e = .returned (.bool true) ∧ Below w.heap.size w w' := by
  have hd : decide ((300 : Int) < (len0 : Int)) = false := by simp; omega
  have HB := Lib.hid hb
  have HL := Lib.hid hL
  have HSA := Lib.hid (sealL_all hb.1)
  have HSL := Lib.hid (show (sealL l).length = len0 + 4 by rw [sealL_len, hL])
  have HSeal := Lib.hid fun W (h : Below w.heap.size w W) => seal_any a0 l len0 cap0 W (hb.below h (Nat.le_refl _)) hL (by omega)
  have HNum := Lib.hid fun W => number_nat a1 (8 * ((len0 : Int) + 4) - 31) j W (by omega) (by omega) hj.out
  have HFit := Lib.hid (fit_seal l hb.1)
  have HTk := Lib.hid (show (sealL l).take (len0 + 4 - 4) = l by rw [Nat.add_sub_cancel, ← hL]; unfold sealL; exact List.take_left)
  have HOpS := Lib.hid fun W A c (h : Bytes W A (sealL l)) (h1 : len0 + 4 ≤ c) (h2 : c ≤ maxLen) => (show Calls Try.prog 23 #[.slice A (len0 + 4) c] W (Opened l len0 0 W) by
    have := open_any A (sealL l) (len0 + 4) c W h HSL.out (by omega) h1 h2
    rw [openL_fine (by rw [HSL.out]; omega) HFit.out, openE_fine (by rw [HSL.out]; omega) HFit.out, HSL.out, HTk.out, hL] at this
    exact this)
  have HBurst := Lib.hid (fit_burst l (turned (sealL l) j b 32) hb.1 (turned_all HSA.out j b 32) (by rw [turned_len, HSL.out, hL]) j b hb32 (by omega) (by rw [turned_num _ HSA.out j b 32 (by rw [HSL.out]; omega), Nat.mod_eq_of_lt hb32]))
  have HTA := Lib.hid fun i => turned_all HSA.out j b i
  have HTL := Lib.hid fun i => (turned_len (sealL l) j b i).trans HSL.out
  have HOp := Lib.hid fun W A c (h : Bytes W A (turned (sealL l) j b 32)) (h1 : len0 + 4 ≤ c) (h2 : c ≤ maxLen) => open_any A _ (len0 + 4) c W h (HTL.out 32) (by omega) h1 h2
  have hmx : len0 + 4 ≤ maxLen := by unfold maxLen; omega
  have HMx := Lib.hid hmx
  clear hmx hb hL
  generalize sealL l = S at *
  go_enter Try.func9, Try.ntmps9
  go_wp2_with (first
    | (go_at_call 22; (with_reducible refine (first_any _).mono ?_); rintro e w1 ⟨rfl, hbel⟩; have HN1 := Lib.hid hbel; clear hbel)
    | (go_at_call 29; (with_reducible refine (HSeal.out _ HN1.out).mono ?_); rintro e w2 ⟨rfl, hr2, hbel2⟩; have HN2 := Lib.hid (HN1.out.trans (hbel2.mono HN1.out.size)); have HS2 := Lib.hid (hr2.bytes HSA.out); clear hr2 hbel2)
    | (go_at_call 31; (with_reducible refine (bytes_any _ S (len0 + 4) (len0 + 4) _ HS2.out HSL.out (by omega)).mono ?_); rintro e w4 ⟨A4, c4, rfl, ho4, hbel4⟩; have HV4 := Lib.hid hbel4; have HO4 := Lib.hid ho4; have hc4 := own_cap ho4; have HC4 := Lib.hid hc4; obtain ⟨g4, rfl, hg4⟩ := own_some ho4 (by omega); clear ho4 hbel4 hc4)
    | (go_at_call 21; (with_reducible refine (HNum.out _).mono ?_); rintro e w' ⟨rfl, rfl⟩))
  go_loopw [11] (fun i wr => ∃ k : Nat, k ≤ 32 ∧ i = .int .i64 k ∧ Hid (Own wr w2.heap.size (some ⟨g4, 0, none⟩) (len0 + 4) c4 (turned S j b k)) ∧ Hid (Below w2.heap.size w2 wr)) (fun i _ => 32 - (intOf i).toNat)
  case atStart => exact ⟨0, Nat.zero_le _, rfl, HO4, HV4⟩
  case round =>
    obtain ⟨k, hk, rfl, ho, hbel⟩ := hrel
    by_cases hlt : k < 32
    · have hd2 : decide (k < 32) = true := by simpa using hlt
      have HBit := Lib.hid (bit_cast b k hb32)
      by_cases hbit : b / 2 ^ k % 2 = 1
      · have HT := Lib.hid (turned_yes (s := S) (at1 := j) hbit)
        have hbq : (bits .and .u32 ((b : Int) / 2 ^ k) 1 == 1) = true := by rw [HBit.out, hbit]; rfl
        obtain ⟨q, hq⟩ : ∃ q : Nat, ((j : Int) + k) / 8 = q := ⟨(j + k) / 8, by omega⟩
        obtain ⟨r, hr⟩ : ∃ r : Nat, ((j : Int) + k) % 8 = r := ⟨(j + k) % 8, by omega⟩
        have hq4 : q < len0 + 4 := by omega
        have hr8 : r < 8 := by omega
        have HQ := Lib.hid (show (j + k) / 8 = q by omega)
        have HR := Lib.hid (show (j + k) % 8 = r by omega)
        obtain ⟨g0, f0, hz⟩ := own_cell ho.out q hq4
        obtain ⟨c0, c1⟩ := (HTA.out k).at_ q
        have HX := Lib.hid (turn_cast _ r c0 c1 hr8)
        have HV := Lib.hid (show turnB (turned S j b k) (j + k) = (turned S j b k).set q (((turned S j b k).getD q 0).toNat ^^^ 2 ^ r : Nat) by unfold turnB; rw [HQ.out, HR.out])
        have hlt8 : ((turned S j b k).getD q 0).toNat ^^^ 2 ^ r < 256 := Nat.xor_lt_two_pow (n := 8) (by omega) (Nat.pow_lt_pow_right (by decide) hr8)
        clear hbit
        generalize turned S j b k = m at *
        generalize m.getD q 0 = cq at *
        go_wp2
        go_roundw
        case rel => exact ⟨k + 1, by omega, by go_num, by rw [HT.out, HV.out, HX.out]; exact Lib.hid (own_set ho.out q hq4 _ (by omega) (by omega)), Lib.hid (hbel.out.setCell hg4 _)⟩
        case measure => simp [intOf]; omega
      · have HT := Lib.hid (turned_no (s := S) (at1 := j) hbit)
        have hbz : b / 2 ^ k % 2 = 0 := (Nat.mod_two_eq_zero_or_one _).resolve_right hbit
        have hbq : (bits .and .u32 ((b : Int) / 2 ^ k) 1 == 1) = false := by rw [HBit.out, hbz]; rfl
        clear hbz
        clear hbit
        go_wp2
        go_roundw
        case rel => exact ⟨k + 1, by omega, by go_num, by rw [HT.out]; exact ho, hbel⟩
        case measure => simp [intOf]; omega
    · obtain rfl : k = 32 := by omega
      have hd2 : decide (32 < 32) = false := rfl
      have HS5 := Lib.hid (HS2.out.below hbel.out (Nat.le_refl _))
      have HN5 := Lib.hid (HN2.out.trans (hbel.out.mono HN2.out.size))
      have HC5 := Lib.hid ho.out.bytes
      by_cases hb0 : b = 0
      · have hbn : ((b : Int) != 0) = false := by simp; exact hb0
        have HOp2 := Lib.hid fun W A c (h : Bytes W A (turned S j b 32)) (h1 : len0 + 4 ≤ c) (h2 : c ≤ maxLen) => (show Calls Try.prog 23 #[.slice A (len0 + 4) c] W (Opened ((turned S j b 32).take (len0 + 4 - 4)) len0 0 W) by
          have := HOp.out W A c h h1 h2
          rw [openL_fine (by rw [HTL.out]; omega) (HBurst.out.2 hb0), openE_fine (by rw [HTL.out]; omega) (HBurst.out.2 hb0), List.length_take, HTL.out, Nat.add_sub_cancel, Nat.min_eq_left (by omega)] at this
          exact this)
        clear hb0 HOp HBurst
        generalize turned S j b 32 = m at *
        go_wp2_with (first
          | (go_at_call 23; (with_reducible refine (HOpS.out _ _ _ HS5.out (Nat.le_refl _) HMx.out).mono ?_); rintro e w6 ⟨A6, c6, rfl, hb6, hbel6⟩; have HN6 := Lib.hid (HN5.out.trans (hbel6.mono HN5.out.size)); have HX6 := Lib.hid hb6; have HC6 := Lib.hid (HC5.out.below hbel6 (Nat.le_refl _)); clear hb6 hbel6)
          | (go_at_call 23; (with_reducible refine (HOp2.out _ _ _ HC6.out HC4.out.1 HC4.out.2).mono ?_); rintro e w7 ⟨A7, c7, rfl, hb7, hbel7⟩; have HN7 := Lib.hid (HN6.out.trans (hbel7.mono HN6.out.size)); have HX7 := Lib.hid (HX6.out.below hbel7 (Nat.le_refl _)); clear hb7 hbel7)
          | (go_at_call 28; (with_reducible refine (same_yes _ _ _ _ _ _ _ HX7.out (HB.out.below HN7.out (Nat.le_refl _)) HL.out).mono ?_); rintro e w' ⟨rfl, rfl⟩))
        go_ret
        exact ⟨rfl, HN7.out⟩
      · have hbn : ((b : Int) != 0) = true := by simp; exact hb0
        have hnf : fitB (turned S j b 32) = false := by
          cases h : fitB (turned S j b 32) with
          | true => exact absurd (HBurst.out.1 h) hb0
          | false => rfl
        have HOp2 := Lib.hid fun W A c (h : Bytes W A (turned S j b 32)) (h1 : len0 + 4 ≤ c) (h2 : c ≤ maxLen) => (show Calls Try.prog 23 #[.slice A (len0 + 4) c] W (Opened [] 0 19 W) by
          have := HOp.out W A c h h1 h2
          rw [openL_sum (by rw [HTL.out]; omega) hnf, openE_sum (by rw [HTL.out]; omega) hnf] at this
          exact this)
        clear hb0 HOp HBurst hnf
        generalize turned S j b 32 = m at *
        go_wp2_with (first
          | (go_at_call 23; (with_reducible refine (HOpS.out _ _ _ HS5.out (Nat.le_refl _) HMx.out).mono ?_); rintro e w6 ⟨A6, c6, rfl, hb6, hbel6⟩; have HN6 := Lib.hid (HN5.out.trans (hbel6.mono HN5.out.size)); have HX6 := Lib.hid hb6; have HC6 := Lib.hid (HC5.out.below hbel6 (Nat.le_refl _)); clear hb6 hbel6)
          | (go_at_call 23; (with_reducible refine (HOp2.out _ _ _ HC6.out HC4.out.1 HC4.out.2).mono ?_); rintro e w7 ⟨A7, c7, rfl, hb7, hbel7⟩; have HN7 := Lib.hid (HN6.out.trans (hbel7.mono HN6.out.size)); have HX7 := Lib.hid (HX6.out.below hbel7 (Nat.le_refl _)); clear hb7 hbel7)
          | (go_at_call 28; (with_reducible refine (same_yes _ _ _ _ _ _ _ HX7.out (HB.out.below HN7.out (Nat.le_refl _)) HL.out).mono ?_); rintro e w' ⟨rfl, rfl⟩))
        go_ret
        exact ⟨rfl, HN7.out⟩

theorem walk (a0 : Option Addr) (len0 cap0 : Nat) (z0 : List Int) (a1 a2 : Int) (w : World) (w0 : IsRow .u8 w a0 len0 cap0 z0) (w1 : (Lit.int .i64 a1).wf = true) (w2 : (Lit.int .u32 a2).wf = true) :
    Calls Try.prog 9 #[.slice a0 len0 cap0, .int .i64 a1, .int .u32 a2] w fun e w' => e = .returned (.bool true) ∧ Below w.heap.size w w' := by
  obtain ⟨hb, hL, hcap, hmax, _⟩ := w0.bytes
  obtain ⟨v0, v1⟩ := bounds_u32 w2
  obtain ⟨b, rfl⟩ := Int.eq_ofNat_of_zero_le v0
  by_cases h1 : 300 < len0
  · exact walk_long a0 len0 cap0 a1 b w h1
  · obtain ⟨j, HJ, hj⟩ := below_nat a1 (8 * ((len0 : Int) + 4) - 31) (by omega)
    exact walk_main a0 _ len0 cap0 j a1 b w hb hL (by omega) HJ (by omega) (by omega)
end Go.Proofs.Ytmkpeidgimgdlaa.CrcBurstsW
