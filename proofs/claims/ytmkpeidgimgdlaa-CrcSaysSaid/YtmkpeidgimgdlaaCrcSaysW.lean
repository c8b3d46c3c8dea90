/-
  The walk of CrcSays: at any parts, sum and bytes the law returns true, and nothing that was there is written.
-/
import Derived.Test.YtmkpeidgimgdlaaCc
import Derived.Test.YtmkpeidgimgdlaaRows2
namespace Go.Proofs.Ytmkpeidgimgdlaa.CrcSaysW
open Go.ChangeShapes Go.WideShapes Go.ChangeAt Go.RowKit
open Bytes8 Blk8 Own8 Rows2 LeNum LeA LeB LeP RefA RefB Numb Cm Ca Cb Cc
set_option linter.unusedVariables false

theorem parts_of {w : World} {a : Option Addr} {len : Nat} {A : Nat → Option Addr} {L C : Nat → Nat} {P : Nat → List Int} (h : InRows w a len A L C P) (hs : ∀ r, r < len → L r ≤ 60) : Parts w a ((List.range len).map P) := fun i hi => by
  have hi' : i < len := by simpa using hi
  obtain ⟨b, off, e, h1, h2, h3, h4, _⟩ := h i hi'
  have e2 : ((List.range len).map P).getD i [] = P i := by simp [hi']
  rw [e2]
  exact ⟨b, off, A i, L i, C i, e, h1, h2, h3, h4, Nat.le_trans (hs i hi') (by decide)⟩

theorem sum_rows {w : World} {a : Option Addr} {len : Nat} (cap : Nat) {A : Nat → Option Addr} {L C : Nat → Nat} {P : Nat → List Int} (h : InRows w a len A L C P) (hs : ∀ r, r < len → L r ≤ 60) (hl : len ≤ 20) :
    Calls Try.prog 25 #[.slice a len cap] w fun e w' => e = .returned (.int .u32 (crc 0 (flat P len) : Nat)) ∧ w = w' :=
  sum_any a _ len cap w (parts_of h hs) (by simp) (by omega)

set_option maxRecDepth 100000 in
set_option maxHeartbeats 1000000 in
theorem walk_long (a0 : Option Addr) (len0 cap0 : Nat) (s : Int) (a2 : Option Addr) (len2 cap2 : Nat) (w : World) (hlen : 20 < len0 ∨ 300 < len2) :
    Calls Try.prog 7 #[.slice a0 len0 cap0, .int .u32 s, .slice a2 len2 cap2] w fun e w' => e = .returned (.bool true) ∧ Below w.heap.size w w' := by
  by_cases h1 : 20 < len0
  · have hd : decide ((20 : Int) < (len0 : Int)) = true := by simp; omega
    go_enter Try.func7, Try.ntmps7
    go_wp2_with (go_at_call 22; (with_reducible refine (first_any _).mono ?_); rintro e w1 ⟨rfl, hbel⟩)
    go_ret
    exact ⟨rfl, hbel⟩
  · have hd : decide ((20 : Int) < (len0 : Int)) = false := by simp; omega
    have hd2 : decide ((300 : Int) < (len2 : Int)) = true := by simp; omega
    go_enter Try.func7, Try.ntmps7
    go_wp2_with (go_at_call 22; (with_reducible refine (first_any _).mono ?_); rintro e w1 ⟨rfl, hbel⟩)
    go_ret
    exact ⟨rfl, hbel⟩

set_option maxRecDepth 100000 in
set_option maxHeartbeats 4000000 in
theorem walk_main (a0 : Option Addr) (len0 cap0 : Nat) (A L C P) (s : Nat) (a2 : Option Addr) (l : List Int) (len2 cap2 : Nat) (w : World) (hr : InRows w a0 len0 A L C P) (hs : s < 4294967296) (hb : Bytes w a2 l) (hL : l.length = len2) (h0 : len0 ≤ 20) (h2 : len2 ≤ 300) (hcap : len2 ≤ cap2) (hcap2 : cap2 ≤ maxLen) :
    Calls Try.prog 7 #[.slice a0 len0 cap0, .int .u32 (s : Int), .slice a2 len2 cap2] w fun e w' => e = .returned (.bool true) ∧ Below w.heap.size w w' := by
  have hd : decide ((20 : Int) < (len0 : Int)) = false := by simp; omega
  have hd2 : decide ((300 : Int) < (len2 : Int)) = false := by simp; omega
  have HR := Lib.hid hr
  have HB := Lib.hid hb
  have HL := Lib.hid hL
  have HMore := Lib.hid fun W (h : Bytes W a2 l) => more_any s a2 l len2 cap2 W hs h hL (by omega)
  have HRMore := Lib.hid fun W (h : Bytes W a2 l) => rmore_any s a2 l len2 cap2 W hs h hL (by omega)
  have HSeal := Lib.hid fun W (h : Bytes W a2 l) => seal_any a2 l len2 cap2 W h hL (by omega)
  have HRSeal := Lib.hid fun W (h : Bytes W a2 l) => rseal_any a2 l len2 cap2 W h hL (by omega)
  have HOpen := Lib.hid fun W (h : Bytes W a2 l) => open_any a2 l len2 cap2 W h hL (by omega) hcap hcap2
  have HROpen := Lib.hid fun W (h : Bytes W a2 l) => ropen_any a2 l len2 cap2 W h hL (by omega) hcap hcap2
  have HLen := Lib.hid (show (sealL l).length = len2 + 4 by unfold sealL; rw [List.length_append, lowB_len, hL])
  have HSA := Lib.hid (show AllB (sealL l) from hb.1.app (lowB_all _ _))
  clear hr hb hL hcap hcap2
  generalize crc s l = S1 at *
  generalize sealL l = S2 at *
  generalize openL l = O1 at *
  generalize openE l = O2 at *
  generalize hON : O1.length = on at *
  have HON := Lib.hid hON
  clear hON
  go_enter Try.func7, Try.ntmps7
  go_wp2_with (go_at_call 22; (with_reducible refine (first_any _).mono ?_); rintro e w1 ⟨rfl, hbel⟩; have HN1 := Lib.hid hbel; clear hbel)
  go_loopw [8, 9] (fun v i wr => ∃ (k n : Nat) (A1 : Option Addr) (c : Nat), k ≤ len0 ∧ i = .int .i64 k ∧ v = .slice A1 n c ∧ n ≤ 60 * k ∧ Hid (∀ r, r < k → L r ≤ 60) ∧ Hid (Own wr w.heap.size A1 n c (flat P k)) ∧ Hid (Below w.heap.size w wr)) (fun _ i _ => len0 - (intOf i).toNat)
  case atStart => exact ⟨0, 0, none, 0, Nat.zero_le _, rfl, rfl, by omega, Lib.hid (fun r hr => absurd hr (by omega)), Lib.hid (Own.nil _ _ HN1.out.size), HN1⟩
  case round =>
    obtain ⟨k, n, A1, c, hk, rfl, rfl, hn, hle, ho, hbel⟩ := hrel
    by_cases hlt : k < len0
    · have hd : decide (k < len0) = true := by simpa using hlt
      obtain ⟨b, off, rfl, hbl, hc, hbk, hlk, hlc, hcm⟩ := (HR.out.below hbel.out) k hlt
      have HS := Lib.hid (flat_succ P k)
      have HST := Lib.hid fun (h : L k ≤ 60) => le_step hle.out h
      by_cases h60 : L k ≤ 60
      · have hd60 : decide ((60 : Int) < (L k : Int)) = false := by simp; omega
        have HBK := Lib.hid hbk
        have HLK := Lib.hid hlk
        have HT := HST.out h60
        clear hbk hlk
        have HT := Lib.hid HT
        generalize L k = lk at *
        generalize A k = ak at *
        generalize C k = ck at *
        go_wp2_with (at_builtin; refine wpList_append_bytes rfl (.tmp 38) (.tmp 42) rfl w.heap.size A1 n c (flat P k) rfl ho.out ak lk ck (P k) rfl HBK.out HLK.out (by omega) ?_; intro A2 c2 w2 ho2 hbel2; have HO2 := Lib.hid ho2; have HB2 := Lib.hid hbel2; clear ho2 hbel2)
        go_roundw
        case rel => exact ⟨k + 1, n + lk, A2, c2, by omega, by go_num, rfl, by omega, HT, by rw [HS.out]; exact HO2, Lib.hid (hbel.out.trans HB2.out)⟩
        case measure => simp [intOf]; omega
      · have hd60 : decide ((60 : Int) < (L k : Int)) = true := by simp; omega
        clear hbk hlk HST
        generalize L k = lk at *
        generalize A k = ak at *
        generalize C k = ck at *
        go_wp2
        go_ret
        exact ⟨rfl, hbel.out⟩
    · obtain rfl : k = len0 := by omega
      have hd : decide (k < k) = false := by simp
      have HB1 := Lib.hid (HB.out.below hbel.out (Nat.le_refl _))
      have HSum := Lib.hid fun W (h : Below w.heap.size w W) => sum_rows cap0 (HR.out.below h) hle.out h0
      have HAll := Lib.hid fun W (h : Bytes W A1 (flat P k)) => rmore0 A1 (flat P k) n c W h ho.out.2.1 (by omega)
      have HO1 := Lib.hid ho.out.bytes
      generalize crc 0 (flat P k) = q at *
      generalize flat P k = fl at *
      go_wp2_with (first
        | (go_at_call 23; (with_reducible refine (HOpen.out _ HB1.out).mono ?_); rintro e w2 ⟨A2, c2, rfl, hb2, hbel2⟩; have HN2 := Lib.hid (hbel.out.trans (hbel2.mono hbel.out.size)); have HX := Lib.hid hb2; have HP2 := Lib.hid (HO1.out.below hbel2 (Nat.le_refl _)); clear hb2 hbel2)
        | (go_at_call 24; (with_reducible refine (HROpen.out _ (HB.out.below HN2.out (Nat.le_refl _))).mono ?_); rintro e w3 ⟨A3, c3, rfl, hb3, hbel3⟩; have HN3 := Lib.hid (HN2.out.trans (hbel3.mono HN2.out.size)); have HY := Lib.hid hb3; have HX3 := Lib.hid (HX.out.below hbel3 (Nat.le_refl _)); have HP3 := Lib.hid (HP2.out.below hbel3 (Nat.le_refl _)); have HB3 := Lib.hid (HB.out.below HN3.out (Nat.le_refl _)); clear hb3 hbel3)
        | (go_at_call 25; (with_reducible refine (HSum.out _ HN3.out).mono ?_); rintro e w' ⟨rfl, rfl⟩)
        | (go_at_call 26; (with_reducible refine (HAll.out _ HP3.out).mono ?_); rintro e w' ⟨rfl, rfl⟩)
        | (go_at_call 27; (with_reducible refine (HMore.out _ HB3.out).mono ?_); rintro e w' ⟨rfl, rfl⟩)
        | (go_at_call 26; (with_reducible refine (HRMore.out _ HB3.out).mono ?_); rintro e w' ⟨rfl, rfl⟩)
        | (go_at_call 29; (with_reducible refine (HSeal.out _ HB3.out).mono ?_); rintro e w4 ⟨rfl, hr4, hbel4⟩; have HN4 := Lib.hid (HN3.out.trans (hbel4.mono HN3.out.size)); have HS4 := Lib.hid (hr4.bytes HSA.out); have HX4 := Lib.hid (HX3.out.below hbel4 (Nat.le_refl _)); have HY4 := Lib.hid (HY.out.below hbel4 (Nat.le_refl _)); have HB4 := Lib.hid (HB3.out.below hbel4 (Nat.le_refl _)); clear hr4 hbel4)
        | (go_at_call 30; (with_reducible refine (HRSeal.out _ HB4.out).mono ?_); rintro e w5 ⟨A5, c5, rfl, hr5, hbel5⟩; have HN5 := Lib.hid (HN4.out.trans (hbel5.mono HN4.out.size)); have HS5 := Lib.hid (HS4.out.below hbel5 (Nat.le_refl _)); have HT5 := Lib.hid hr5; have HX5 := Lib.hid (HX4.out.below hbel5 (Nat.le_refl _)); have HY5 := Lib.hid (HY4.out.below hbel5 (Nat.le_refl _)); clear hr5 hbel5)
        | (go_at_call 28; (with_reducible refine (same_yes _ _ _ _ _ _ _ HS5.out HT5.out HLen.out).mono ?_); rintro e w' ⟨rfl, rfl⟩)
        | (go_at_call 28; (with_reducible refine (same_yes _ _ _ _ _ _ _ HX5.out HY5.out HON.out).mono ?_); rintro e w' ⟨rfl, rfl⟩))
      go_ret
      exact ⟨rfl, HN5.out⟩

theorem walk (a0 : Option Addr) (len0 cap0 : Nat) (A0 : Nat → Option Addr) (L0 C0 : Nat → Nat) (Z0 : Nat → List Int) (a1 : Int) (a2 : Option Addr) (len2 cap2 : Nat) (z2 : List Int) (w : World) (w0 : IsRows .u8 w a0 len0 cap0 A0 L0 C0 Z0) (w1 : (Lit.int .u32 a1).wf = true) (w2 : IsRow .u8 w a2 len2 cap2 z2) :
    Calls Try.prog 7 #[.slice a0 len0 cap0, .int .u32 a1, .slice a2 len2 cap2] w fun e w' => e = .returned (.bool true) ∧ Below w.heap.size w w' := by
  obtain ⟨hr, _, _⟩ := rows_in w0
  obtain ⟨hb, hL, hcap, hmax, _⟩ := w2.bytes
  obtain ⟨v0, v1⟩ := bounds_u32 w1
  obtain ⟨s, rfl⟩ := Int.eq_ofNat_of_zero_le v0
  by_cases h1 : 20 < len0 ∨ 300 < len2
  · exact walk_long a0 len0 cap0 s a2 len2 cap2 w h1
  · exact walk_main a0 len0 cap0 A0 L0 C0 _ s a2 _ len2 cap2 w hr (by omega) hb hL (by omega) (by omega) hcap hmax
end Go.Proofs.Ytmkpeidgimgdlaa.CrcSaysW
